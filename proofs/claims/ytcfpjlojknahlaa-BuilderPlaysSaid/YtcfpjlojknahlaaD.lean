/-
  Walks over package builder: Step.
-/
import Derived.Test.YtcfpjlojknahlaaC
namespace Go.Proofs.Ytcfpjlojknahlaa
open Go.RowKit

theorem T.begin_st (t : T) (now : Int) : (t.begin now).st = t.st := by unfold T.begin; cases t.begun <;> rfl
theorem T.begin_ok (t : T) (now : Int) (h : t.ok) (hn : I64 now) : (t.begin now).ok := by
  unfold T.begin; cases t.begun
  · exact ⟨h.1, h.2.1, hn, h.2.2.2⟩
  · exact h
theorem T.begin_begun (t : T) (now : Int) : (t.begin now).begun = true := by unfold T.begin; cases hb : t.begun <;> simp [hb]

/-- What is stored ends the turn. -/
theorem stepM_stored (t : T) (now : Int) (f : F) (hs : t.st ≠ 4) (hf : f.stored = true) :
    stepM t now f = ({ t.begin now with st := 4, ans := 4 }, 4) := by
  unfold stepM stepB; rw [T.begin_st, if_neg hs, if_pos hf]
theorem stepM_run (t : T) (now : Int) (f : F) (hs : t.st = 3) (hf : f.stored = false) :
    stepM t now f = runM (t.begin now) f := by
  unfold stepM stepB; rw [T.begin_st, if_neg (by omega), if_neg (by simp [hf]), if_pos hs]
theorem stepM_look (t : T) (now : Int) (f : F) (hs : t.st = 1) (hf : f.stored = false) :
    stepM t now f = look (t.begin now) now f := by
  unfold stepM stepB; rw [T.begin_st, if_neg (by omega), if_neg (by simp [hf]), if_neg (by omega), if_neg (by omega)]
theorem stepM_goes (t : T) (now : Int) (f : F) (hs : t.st = 2) (hf : f.stored = false)
    (hg : (f.failed || pastB now (t.begin now).fb (t.begin now).bud) = false) :
    stepM t now f = (t.begin now, 2) := by
  unfold stepM stepB; rw [T.begin_st, if_neg (by omega), if_neg (by simp [hf]), if_neg (by omega), if_pos hs, if_neg (by simp [hg])]
theorem stepM_fails (t : T) (now : Int) (f : F) (hs : t.st = 2) (hf : f.stored = false)
    (hg : (f.failed || pastB now (t.begin now).fb (t.begin now).bud) = true) :
    stepM t now f = look { t.begin now with fetched := true, st := 1 } now f := by
  unfold stepM stepB; rw [T.begin_st, if_neg (by omega), if_neg (by simp [hf]), if_neg (by omega), if_pos hs, if_pos hg]

set_option maxHeartbeats 1000000 in
theorem step_stored (b : Nat) (t : T) (now : Int) (f : F) (w : World) (ht : TurnAt w b t) (hm : t.st = 1 ∨ t.st = 2 ∨ t.st = 3)
    (hf : f.stored = true) :
    Calls Try.prog 10 #[.pointer (some ⟨b, 0, none⟩), .int .i64 now, f.val] w (StepPost b w (stepM t now f)) := by
  obtain ⟨-, -, c2, c3, c4, -, -, c7, fz⟩ := ht.open
  have hb := Blk.lt ht
  have hn := isNone_made b t (w.alloc (.cells f.parts 28)) (ht.alloc _) (by unfold T.made; omega)
  rw [stepM_stored t now f (by omega) hf]
  have he := fun W (h : TurnAt W b (t.begin now)) => end_any b (t.begin now) 4 W h
  obtain ⟨f0, f1, f2, f3, f4, f5, f6, f7⟩ := f
  obtain rfl : f0 = true := hf
  have h4 : (t.st == 4) = false := by rcases hm with h | h | h <;> rw [h] <;> rfl
  have HE := Lib.hid he
  clear he hm
  unfold F.val F.parts at *
  by_cases hg : t.begun = true
  · rw [hg] at c3
    have hbg : t.begin now = t := by unfold T.begin; rw [if_pos hg]
    rw [hbg] at HE ⊢
    clear hbg hg
    go_enter Try.func10, Try.ntmps10
    go_wp2_with fail
    refine hn.mono ?_
    rintro e w' ⟨rfl, rfl⟩
    go_wp2_with fail
    refine (HE.out _ (ht.alloc _)).mono ?_
    rintro e w' ⟨rfl, h1, h2⟩
    go_wp2
    go_ret
    exact ⟨rfl, h1, ((Chg.refl _ _).alloc _).trans h2⟩
  · have hg : t.begun = false := by simpa using hg
    have H := begin_at b t w now ht hg
    generalize t.begin now = t' at *
    rw [hg] at c3
    clear hg
    go_enter Try.func10, Try.ntmps10
    go_wp2_with fail
    refine hn.mono ?_
    rintro e w' ⟨rfl, rfl⟩
    go_wp2_with fail
    refine (HE.out _ (Blk.alloc H _)).mono ?_
    rintro e w' ⟨rfl, h1, h2⟩
    go_wp2
    go_ret
    exact ⟨rfl, h1, ((((Chg.refl _ _).setCell _ _).setCell _ _).alloc _).trans h2⟩

set_option maxHeartbeats 1000000 in
theorem step_run (b : Nat) (t : T) (now : Int) (f : F) (w : World) (ht : TurnAt w b t) (hm : t.st = 3)
    (hf : f.stored = false) :
    Calls Try.prog 10 #[.pointer (some ⟨b, 0, none⟩), .int .i64 now, f.val] w (StepPost b w (stepM t now f)) := by
  obtain ⟨-, -, c2, c3, c4, -, -, c7, fz⟩ := ht.open
  have hb := Blk.lt ht
  have hn := isNone_made b t (w.alloc (.cells f.parts 28)) (ht.alloc _) (by unfold T.made; omega)
  rw [stepM_run t now f hm hf]
  have he := fun W (h : TurnAt W b (t.begin now)) => run_any b (t.begin now) f W h
  generalize hp : runM (t.begin now) f = p at *
  clear hp
  obtain ⟨f0, f1, f2, f3, f4, f5, f6, f7⟩ := f
  obtain rfl : f0 = false := hf
  have HE := Lib.hid he
  clear he
  rw [hm] at c2
  clear hm
  unfold F.val F.parts at *
  by_cases hg : t.begun = true
  · rw [hg] at c3
    have hbg : t.begin now = t := by unfold T.begin; rw [if_pos hg]
    rw [hbg] at HE
    clear hbg hg
    go_enter Try.func10, Try.ntmps10
    go_wp2_with fail
    refine hn.mono ?_
    rintro e w' ⟨rfl, rfl⟩
    go_wp2_with fail
    refine (HE.out _ (ht.alloc _)).mono ?_
    rintro e w' ⟨rfl, h1, h2⟩
    go_wp2
    go_ret
    exact ⟨rfl, h1, ((Chg.refl _ _).alloc _).trans h2⟩
  · have hg : t.begun = false := by simpa using hg
    have H := begin_at b t w now ht hg
    generalize t.begin now = t' at *
    rw [hg] at c3
    clear hg
    go_enter Try.func10, Try.ntmps10
    go_wp2_with fail
    refine hn.mono ?_
    rintro e w' ⟨rfl, rfl⟩
    go_wp2_with fail
    refine (HE.out _ (Blk.alloc H _)).mono ?_
    rintro e w' ⟨rfl, h1, h2⟩
    go_wp2
    go_ret
    exact ⟨rfl, h1, ((((Chg.refl _ _).setCell _ _).setCell _ _).alloc _).trans h2⟩

set_option maxHeartbeats 1000000 in
theorem step_look (b : Nat) (t : T) (now : Int) (f : F) (w : World) (ht : TurnAt w b t) (hm : t.st = 1)
    (hf : f.stored = false) (hok : t.ok) (hnow : I64 now) :
    Calls Try.prog 10 #[.pointer (some ⟨b, 0, none⟩), .int .i64 now, f.val] w (StepPost b w (stepM t now f)) := by
  obtain ⟨-, -, c2, c3, c4, -, -, c7, fz⟩ := ht.open
  have hb := Blk.lt ht
  have hn := isNone_made b t (w.alloc (.cells f.parts 28)) (ht.alloc _) (by unfold T.made; omega)
  rw [stepM_look t now f hm hf]
  have he := fun W (h : TurnAt W b (t.begin now)) => look_any b (t.begin now) now f W h (T.begin_ok t now hok hnow) hnow
  generalize hp : look (t.begin now) now f = p at *
  clear hp hok hnow
  obtain ⟨f0, f1, f2, f3, f4, f5, f6, f7⟩ := f
  obtain rfl : f0 = false := hf
  have HE := Lib.hid he
  clear he
  rw [hm] at c2
  clear hm
  unfold F.val F.parts at *
  by_cases hg : t.begun = true
  · rw [hg] at c3
    have hbg : t.begin now = t := by unfold T.begin; rw [if_pos hg]
    rw [hbg] at HE
    clear hbg hg
    go_enter Try.func10, Try.ntmps10
    go_wp2_with fail
    refine hn.mono ?_
    rintro e w' ⟨rfl, rfl⟩
    go_wp2_with fail
    refine (HE.out _ (ht.alloc _)).mono ?_
    rintro e w' ⟨rfl, h1, h2⟩
    go_wp2
    go_ret
    exact ⟨rfl, h1, ((Chg.refl _ _).alloc _).trans h2⟩
  · have hg : t.begun = false := by simpa using hg
    have H := begin_at b t w now ht hg
    generalize t.begin now = t' at *
    rw [hg] at c3
    clear hg
    go_enter Try.func10, Try.ntmps10
    go_wp2_with fail
    refine hn.mono ?_
    rintro e w' ⟨rfl, rfl⟩
    go_wp2_with fail
    refine (HE.out _ (Blk.alloc H _)).mono ?_
    rintro e w' ⟨rfl, h1, h2⟩
    go_wp2
    go_ret
    exact ⟨rfl, h1, ((((Chg.refl _ _).setCell _ _).setCell _ _).alloc _).trans h2⟩

end Go.Proofs.Ytcfpjlojknahlaa
