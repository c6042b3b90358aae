/-
  Walks over package builder: isNone, Over, Step, New.
-/
import Derived.Test.YtcfpjlojknahlaaB
namespace Go.Proofs.Ytcfpjlojknahlaa
open Go.RowKit

def T.made (t : T) : Prop := t.st = 1 ∨ t.st = 2 ∨ t.st = 3 ∨ t.st = 4

set_option maxHeartbeats 400000 in
theorem isNone_made (b : Nat) (t : T) (w : World) (ht : TurnAt w b t) (hm : t.made) :
    Calls Try.prog 13 #[.pointer (some ⟨b, 0, none⟩)] w fun e w' => e = .returned (.bool false) ∧ w = w' := by
  obtain ⟨-, -, c2, -⟩ := ht.open
  have hz : (t.st == 0) = false := by rcases hm with h | h | h | h <;> rw [h] <;> rfl
  go_enter Try.func13, Try.ntmps13
  go_wp2
  go_ret
  exact ⟨rfl, rfl⟩

set_option maxHeartbeats 400000 in
theorem isNone_nil (w : World) :
    Calls Try.prog 13 #[.pointer none] w fun e w' => e = .returned (.bool true) ∧ w = w' := by
  go_enter Try.func13, Try.ntmps13
  go_wp2
  go_ret
  exact ⟨rfl, rfl⟩

set_option maxHeartbeats 400000 in
theorem isNone_zero (b : Nat) (t : T) (w : World) (ht : TurnAt w b t) (hm : t.st = 0) :
    Calls Try.prog 13 #[.pointer (some ⟨b, 0, none⟩)] w fun e w' => e = .returned (.bool true) ∧ w = w' := by
  obtain ⟨-, -, c2, -⟩ := ht.open
  rw [hm] at c2
  clear hm
  go_enter Try.func13, Try.ntmps13
  go_wp2
  go_ret
  exact ⟨rfl, rfl⟩

set_option maxHeartbeats 400000 in
theorem over_any (b : Nat) (t : T) (w : World) (ht : TurnAt w b t) (hm : t.made) :
    Calls Try.prog 11 #[.pointer (some ⟨b, 0, none⟩)] w fun e w' => e = .returned (.bool (t.st == 4)) ∧ w = w' := by
  obtain ⟨-, -, c2, -⟩ := ht.open
  go_enter Try.func11, Try.ntmps11
  go_wp2_with (go_at_call 13; refine (isNone_made b t _ ht hm).mono ?_; rintro e w' ⟨rfl, rfl⟩)
  go_ret
  exact ⟨rfl, rfl⟩

set_option maxHeartbeats 400000 in
theorem over_nil (w : World) :
    Calls Try.prog 11 #[.pointer none] w fun e w' => e = .returned (.bool false) ∧ w = w' := by
  go_enter Try.func11, Try.ntmps11
  go_wp2_with (go_at_call 13; refine (isNone_nil _).mono ?_; rintro e w' ⟨rfl, rfl⟩)
  go_ret
  exact ⟨rfl, rfl⟩

set_option maxHeartbeats 400000 in
theorem over_zero (b : Nat) (t : T) (w : World) (ht : TurnAt w b t) (hm : t.st = 0) :
    Calls Try.prog 11 #[.pointer (some ⟨b, 0, none⟩)] w fun e w' => e = .returned (.bool false) ∧ w = w' := by
  obtain ⟨-, -, c2, -⟩ := ht.open
  go_enter Try.func11, Try.ntmps11
  go_wp2_with (go_at_call 13; refine (isNone_zero b t _ ht hm).mono ?_; rintro e w' ⟨rfl, rfl⟩)
  go_ret
  exact ⟨rfl, rfl⟩

theorem over_false (b : Nat) (t : T) (w : World) (ht : TurnAt w b t) (hm : t.made) (h : t.st ≠ 4) :
    Calls Try.prog 11 #[.pointer (some ⟨b, 0, none⟩)] w fun e w' => e = .returned (.bool false) ∧ w = w' :=
  (over_any b t w ht hm).mono fun _ _ ⟨h1, h2⟩ => ⟨by rw [h1, beq_false_of_ne h], h2⟩
theorem over_true (b : Nat) (t : T) (w : World) (ht : TurnAt w b t) (h : t.st = 4) :
    Calls Try.prog 11 #[.pointer (some ⟨b, 0, none⟩)] w fun e w' => e = .returned (.bool true) ∧ w = w' :=
  (over_any b t w ht (Or.inr (Or.inr (Or.inr h)))).mono fun _ _ ⟨h1, h2⟩ => ⟨by rw [h1, h]; rfl, h2⟩

def T.begin (t : T) (now : Int) : T := if t.begun then t else { t with begun := true, first := now }

def stepB (t : T) (now : Int) (f : F) : T × Int :=
  if t.st = 4 then (t, t.ans)
  else if f.stored then ({ t with st := 4, ans := 4 }, 4)
  else if t.st = 3 then runM t f
  else if t.st = 2 then
    if f.failed || pastB now t.fb t.bud then look { t with fetched := true, st := 1 } now f else (t, 2)
  else look t now f

def stepM (t : T) (now : Int) (f : F) : T × Int := stepB (t.begin now) now f

theorem begin_at (b : Nat) (t : T) (w : World) (now : Int) (ht : TurnAt w b t) (hb : t.begun = false) :
    TurnAt ((w.setCell ⟨b, 3, none⟩ (.bool true)).setCell ⟨b, 4, none⟩ (.int .i64 now)) b (t.begin now) := by
  have := Blk.set (Blk.set ht 3 (.bool true)) 4 (.int .i64 now)
  unfold T.begin TurnAt
  rw [if_neg (by simp [hb])]
  exact this

set_option maxHeartbeats 400000 in
theorem step_st4 (b : Nat) (t : T) (now : Int) (f : F) (w : World) (ht : TurnAt w b t) (hs : t.st = 4) :
    Calls Try.prog 10 #[.pointer (some ⟨b, 0, none⟩), .int .i64 now, f.val] w (StepPost b w (stepM t now f)) := by
  obtain ⟨-, -, c2, c3, c4, -, -, c7, fz⟩ := ht.open
  have hb := Blk.lt ht
  have hn := isNone_made b t (w.alloc (.cells f.parts 28)) (ht.alloc _) (by unfold T.made; simp [hs])
  have hfin : stepM t now f = (t.begin now, t.ans) := by
    unfold stepM stepB T.begin; cases t.begun <;> simp [hs]
  rw [hfin]
  rw [hs] at c2
  clear hfin hs
  obtain ⟨f0, f1, f2, f3, f4, f5, f6, f7⟩ := f
  unfold F.val F.parts at *
  by_cases hg : t.begun = true
  · rw [hg] at c3
    have hbg : t.begin now = t := by unfold T.begin; rw [if_pos hg]
    rw [hbg]
    clear hbg hg
    go_enter Try.func10, Try.ntmps10
    go_wp2_with fail
    refine hn.mono ?_
    rintro e w' ⟨rfl, rfl⟩
    go_wp2
    go_ret
    exact ⟨rfl, ht.alloc _, (Chg.refl _ _).alloc _⟩
  · have hg : t.begun = false := by simpa using hg
    have H := begin_at b t w now ht hg
    generalize t.begin now = t' at *
    rw [hg] at c3
    clear hg
    go_enter Try.func10, Try.ntmps10
    go_wp2_with fail
    refine hn.mono ?_
    rintro e w' ⟨rfl, rfl⟩
    go_wp2
    go_ret
    exact ⟨rfl, Blk.alloc H _, (((Chg.refl _ _).setCell _ _).setCell _ _).alloc _⟩

end Go.Proofs.Ytcfpjlojknahlaa
