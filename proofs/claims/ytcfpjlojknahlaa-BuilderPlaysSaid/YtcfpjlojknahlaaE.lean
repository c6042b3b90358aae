/-
  Walks over package builder: Step of a turn that is fetching; Step of any turn.
-/
import Derived.Test.YtcfpjlojknahlaaD
namespace Go.Proofs.Ytcfpjlojknahlaa
open Go.RowKit

theorem T.begin_fb (t : T) (now : Int) : (t.begin now).fb = t.fb := by unfold T.begin; cases t.begun <;> rfl
theorem T.begin_bud (t : T) (now : Int) : (t.begin now).bud = t.bud := by unfold T.begin; cases t.begun <;> rfl

theorem fetched_at (b : Nat) (t : T) (w : World) (ht : TurnAt w b t) :
    TurnAt ((w.setCell ⟨b, 5, none⟩ (.bool true)).setCell ⟨b, 2, none⟩ (.int .i64 1)) b { t with fetched := true, st := 1 } :=
  Blk.set (Blk.set ht 5 (.bool true)) 2 (.int .i64 1)

set_option maxHeartbeats 1000000 in
theorem step_goes (b : Nat) (t : T) (now : Int) (f : F) (w : World) (ht : TurnAt w b t) (hm : t.st = 2)
    (hf : f.stored = false) (hok : t.ok) (hnow : I64 now) (hl : f.failed = false) (hp : pastB now t.fb t.bud = false) :
    Calls Try.prog 10 #[.pointer (some ⟨b, 0, none⟩), .int .i64 now, f.val] w (StepPost b w (stepM t now f)) := by
  obtain ⟨-, c1, c2, c3, c4, -, c6, -, fz⟩ := ht.open
  have hb := Blk.lt ht
  have hn := isNone_made b t (w.alloc (.cells f.parts 28)) (ht.alloc _) (by unfold T.made; omega)
  rw [stepM_goes t now f hm hf (by rw [T.begin_fb, T.begin_bud, hl, hp]; rfl)]
  have HP : Hid (∀ W, Calls Try.prog 16 #[.int .i64 now, .int .i64 t.fb, .int .i64 t.bud] W fun e w' => e = .returned (.bool false) ∧ w' = W) :=
    fun W => (past_any now t.fb t.bud W hnow.1 hnow.2 hok.2.2.2.1 hok.2.2.2.2 hok.2.1.1 hok.2.1.2).mono fun _ _ ⟨h1, h2⟩ => ⟨by rw [h1, hp], h2.symm⟩
  clear hok hnow hp
  obtain ⟨f0, f1, f2, f3, f4, f5, f6, f7⟩ := f
  obtain rfl : f0 = false := hf
  obtain rfl : f5 = false := hl
  rw [hm] at c2
  clear hm
  unfold F.val F.parts at *
  by_cases hg : t.begun = true
  · rw [hg] at c3
    have hbg : t.begin now = t := by unfold T.begin; rw [if_pos hg]
    rw [hbg]
    clear hbg hg
    go_enter Try.func10, Try.ntmps10
    go_wp2_with fail
    refine hn.mono ?_
    rintro e w' ⟨rfl, rfl⟩
    go_wp2_with fail
    go_quiet ((go_at_call 16; exact Calls.quiet_of_same (HP.out _)))
    go_wp2_with fail
    go_ret
    exact ⟨rfl, (ht.alloc _).drewN _, ((Chg.refl _ _).alloc _).drewN _⟩
  · have hg : t.begun = false := by simpa using hg
    have H := begin_at b t w now ht hg
    generalize t.begin now = t' at *
    rw [hg] at c3
    clear hg
    go_enter Try.func10, Try.ntmps10
    go_wp2_with fail
    refine hn.mono ?_
    rintro e w' ⟨rfl, rfl⟩
    go_wp2_with fail
    go_quiet ((go_at_call 16; exact Calls.quiet_of_same (HP.out _)))
    go_wp2_with fail
    go_ret
    exact ⟨rfl, (Blk.alloc H _).drewN _, ((((Chg.refl _ _).setCell _ _).setCell _ _).alloc _).drewN _⟩

set_option maxHeartbeats 1000000 in
theorem step_fails (b : Nat) (t : T) (now : Int) (f : F) (w : World) (ht : TurnAt w b t) (hm : t.st = 2)
    (hf : f.stored = false) (hok : t.ok) (hnow : I64 now) (hl : (f.failed || pastB now t.fb t.bud) = true) :
    Calls Try.prog 10 #[.pointer (some ⟨b, 0, none⟩), .int .i64 now, f.val] w (StepPost b w (stepM t now f)) := by
  obtain ⟨-, c1, c2, c3, c4, c5, c6, -, fz⟩ := ht.open
  have hb := Blk.lt ht
  have hn := isNone_made b t (w.alloc (.cells f.parts 28)) (ht.alloc _) (by unfold T.made; omega)
  rw [stepM_fails t now f hm hf (by rw [T.begin_fb, T.begin_bud, hl])]
  have HP : Hid (∀ W, f.failed = false → Calls Try.prog 16 #[.int .i64 now, .int .i64 t.fb, .int .i64 t.bud] W fun e w' => e = .returned (.bool true) ∧ w' = W) :=
    fun W h5 => (past_any now t.fb t.bud W hnow.1 hnow.2 hok.2.2.2.1 hok.2.2.2.2 hok.2.1.1 hok.2.1.2).mono fun _ _ ⟨h1, h2⟩ => ⟨by rw [h1]; rw [h5, Bool.false_or] at hl; rw [hl], h2.symm⟩
  have he := fun W (h : TurnAt W b { t.begin now with fetched := true, st := 1 }) => look_any b { t.begin now with fetched := true, st := 1 } now f W h (T.begin_ok t now hok hnow) hnow
  generalize hpp : look { t.begin now with fetched := true, st := 1 } now f = p at *
  clear hpp hl hok hnow
  obtain ⟨f0, f1, f2, f3, f4, f5, f6, f7⟩ := f
  obtain rfl : f0 = false := hf
  have HE := Lib.hid he
  clear he
  rw [hm] at c2
  clear hm
  unfold F.val F.parts at *
  by_cases hg : t.begun = true
  · rw [hg] at c3
    have hbg : t.begin now = t := by unfold T.begin; rw [if_pos hg]
    rw [hbg] at HE
    clear hbg hg
    cases f5
    · have HQ : Hid (∀ W, Calls Try.prog 16 #[.int .i64 now, .int .i64 t.fb, .int .i64 t.bud] W fun e w' => e = .returned (.bool true) ∧ w' = W) := fun W => HP.out W rfl
      clear HP
      go_enter Try.func10, Try.ntmps10
      go_wp2_with fail
      refine hn.mono ?_
      rintro e w' ⟨rfl, rfl⟩
      go_wp2_with fail
      go_quiet ((go_at_call 16; exact Calls.quiet_of_same (HQ.out _)))
      go_wp2_with fail
      refine (HE.out _ (fetched_at b t _ (Blk.drewN (Blk.alloc ht _) _))).mono ?_
      rintro e w' ⟨rfl, h1, h2⟩
      go_wp2
      go_ret
      exact ⟨rfl, h1, Chg.trans (((((Chg.refl _ _).alloc _).drewN _).setCell _ _).setCell _ _) h2⟩
    · clear HP
      go_enter Try.func10, Try.ntmps10
      go_wp2_with fail
      refine hn.mono ?_
      rintro e w' ⟨rfl, rfl⟩
      go_wp2_with fail
      go_quiet (fail)
      go_wp2_with fail
      refine (HE.out _ (fetched_at b t _ (Blk.drewN (Blk.alloc ht _) _))).mono ?_
      rintro e w' ⟨rfl, h1, h2⟩
      go_wp2
      go_ret
      exact ⟨rfl, h1, Chg.trans (((((Chg.refl _ _).alloc _).drewN _).setCell _ _).setCell _ _) h2⟩
  · have hg : t.begun = false := by simpa using hg
    have H := begin_at b t w now ht hg
    generalize t.begin now = t' at *
    rw [hg] at c3
    clear hg
    cases f5
    · have HQ : Hid (∀ W, Calls Try.prog 16 #[.int .i64 now, .int .i64 t.fb, .int .i64 t.bud] W fun e w' => e = .returned (.bool true) ∧ w' = W) := fun W => HP.out W rfl
      clear HP
      go_enter Try.func10, Try.ntmps10
      go_wp2_with fail
      refine hn.mono ?_
      rintro e w' ⟨rfl, rfl⟩
      go_wp2_with fail
      go_quiet ((go_at_call 16; exact Calls.quiet_of_same (HQ.out _)))
      go_wp2_with fail
      refine (HE.out _ (fetched_at b t' _ (Blk.drewN (Blk.alloc H _) _))).mono ?_
      rintro e w' ⟨rfl, h1, h2⟩
      go_wp2
      go_ret
      exact ⟨rfl, h1, Chg.trans (((((((Chg.refl _ _).setCell _ _).setCell _ _).alloc _).drewN _).setCell _ _).setCell _ _) h2⟩
    · clear HP
      go_enter Try.func10, Try.ntmps10
      go_wp2_with fail
      refine hn.mono ?_
      rintro e w' ⟨rfl, rfl⟩
      go_wp2_with fail
      go_quiet (fail)
      go_wp2_with fail
      refine (HE.out _ (fetched_at b t' _ (Blk.drewN (Blk.alloc H _) _))).mono ?_
      rintro e w' ⟨rfl, h1, h2⟩
      go_wp2
      go_ret
      exact ⟨rfl, h1, Chg.trans (((((((Chg.refl _ _).setCell _ _).setCell _ _).alloc _).drewN _).setCell _ _).setCell _ _) h2⟩

theorem step_any (b : Nat) (t : T) (now : Int) (f : F) (w : World) (ht : TurnAt w b t) (hm : t.made) (hok : t.ok) (hnow : I64 now) :
    Calls Try.prog 10 #[.pointer (some ⟨b, 0, none⟩), .int .i64 now, f.val] w (StepPost b w (stepM t now f)) := by
  by_cases h4 : t.st = 4
  · exact step_st4 b t now f w ht h4
  have hm : t.st = 1 ∨ t.st = 2 ∨ t.st = 3 := by unfold T.made at hm; omega
  cases hf : f.stored
  · rcases hm with h | h | h
    · exact step_look b t now f w ht h hf hok hnow
    · cases hl : (f.failed || pastB now t.fb t.bud)
      · rw [Bool.or_eq_false_iff] at hl
        exact step_goes b t now f w ht h hf hok hnow hl.1 hl.2
      · exact step_fails b t now f w ht h hf hok hnow hl
    · exact step_run b t now f w ht h hf
  · exact step_stored b t now f w ht hm hf

end Go.Proofs.Ytcfpjlojknahlaa
