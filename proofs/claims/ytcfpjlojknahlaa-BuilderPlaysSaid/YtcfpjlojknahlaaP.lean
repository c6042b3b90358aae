/-
  The document's answers for a turn, step by step: plain facts.
-/
import Derived.Test.YtcfpjlojknahlaaS
namespace Go.Proofs.Ytcfpjlojknahlaa
open Go.RowKit

/-- What a step comes to: the answer, and the turn then, as the document counts it. -/
structure Next (t : T) (now : Int) (f : F) (a rst : Int) (fe : Bool) (fb : Int) : Prop where
  ans : (stepM t now f).2 = a
  st : (stepM t now f).1.st = rst + 1
  fe : (stepM t now f).1.fetched = fe
  fb : (stepM t now f).1.fb = fb
  done : rst = 3 → (stepM t now f).1.ans = a

theorem begin_fb (t : T) (now : Int) : (t.begin now).fb = t.fb := by unfold T.begin; split <;> rfl

section
variable {t : T} {now : Int} {f : F}
theorem Next.over (h : t.st = 4) : Next t now f t.ans 3 t.fetched t.fb := by
  have e : stepM t now f = (t.begin now, t.ans) := by unfold stepM stepB; rw [T.begin_st, begin_ans, if_pos h]
  constructor <;> rw [e]
  · show (t.begin now).st = _; rw [T.begin_st, h]; rfl
  · show (t.begin now).fetched = _; rw [begin_fetched]
  · show (t.begin now).fb = _; rw [begin_fb]
  · intro _; show (t.begin now).ans = _; rw [begin_ans]
theorem Next.stored (h : t.st ≠ 4) (hs : f.stored = true) : Next t now f 4 3 t.fetched t.fb := by
  have e : stepM t now f = ({ t.begin now with st := 4, ans := 4 }, 4) := by unfold stepM stepB; rw [T.begin_st, if_neg h, if_pos hs]
  constructor <;> rw [e]
  · rfl
  · show (t.begin now).fetched = _; rw [begin_fetched]
  · show (t.begin now).fb = _; rw [begin_fb]
  · intro _; rfl
theorem Next.ran (h : t.st = 3) (hs : f.stored = false) (hr : f.ran = true) : Next t now f 4 3 t.fetched t.fb := by
  have e : stepM t now f = ({ t.begin now with st := 4, ans := 4 }, 4) := by unfold stepM stepB runM; rw [T.begin_st, if_neg (by omega), if_neg (by simp [hs]), if_pos h, if_pos hr]
  constructor <;> rw [e]
  · rfl
  · show (t.begin now).fetched = _; rw [begin_fetched]
  · show (t.begin now).fb = _; rw [begin_fb]
  · intro _; rfl
theorem Next.wrong (h : t.st = 3) (hs : f.stored = false) (hr : f.ran = false) (hw : f.wrong = true) : Next t now f 5 3 t.fetched t.fb := by
  have e : stepM t now f = ({ t.begin now with st := 4, ans := 5 }, 5) := by unfold stepM stepB runM; rw [T.begin_st, if_neg (by omega), if_neg (by simp [hs]), if_pos h, if_neg (by simp [hr]), if_pos hw]
  constructor <;> rw [e]
  · rfl
  · show (t.begin now).fetched = _; rw [begin_fetched]
  · show (t.begin now).fb = _; rw [begin_fb]
  · intro _; rfl
theorem Next.runs (h : t.st = 3) (hs : f.stored = false) (hr : f.ran = false) (hw : f.wrong = false) : Next t now f 3 2 t.fetched t.fb := by
  have e : stepM t now f = (t.begin now, 3) := by unfold stepM stepB runM; rw [T.begin_st, if_neg (by omega), if_neg (by simp [hs]), if_pos h, if_neg (by simp [hr]), if_neg (by simp [hw])]
  constructor <;> rw [e]
  · show (t.begin now).st = _; rw [T.begin_st, h]; rfl
  · show (t.begin now).fetched = _; rw [begin_fetched]
  · show (t.begin now).fb = _; rw [begin_fb]
  · intro h0; omega
theorem Next.goes (h : t.st = 2) (hs : f.stored = false) (hf : f.failed = false) (hp : pastB now t.fb t.bud = false) : Next t now f 2 1 t.fetched t.fb := by
  have e : stepM t now f = (t.begin now, 2) := by unfold stepM stepB; rw [T.begin_st, if_neg (by omega), if_neg (by simp [hs]), if_neg (by omega), if_pos h, begin_fb, begin_bud, if_neg (by simp [hf, hp])]
  constructor <;> rw [e]
  · show (t.begin now).st = _; rw [T.begin_st, h]; rfl
  · show (t.begin now).fetched = _; rw [begin_fetched]
  · show (t.begin now).fb = _; rw [begin_fb]
  · intro h0; omega
theorem step_failed (h : t.st = 2) (hs : f.stored = false) (hf : f.failed = true ∨ pastB now t.fb t.bud = true) : stepM t now f = look { t.begin now with fetched := true, st := 1 } now f := by
  unfold stepM stepB; rw [T.begin_st, if_neg (by omega), if_neg (by simp [hs]), if_neg (by omega), if_pos h, if_pos (by show (f.failed || pastB now (t.begin now).fb (t.begin now).bud) = true; rw [begin_fb, begin_bud]; rcases hf with h | h <;> simp [h])]
theorem step_looks (h : t.st = 1) (hs : f.stored = false) : stepM t now f = look (t.begin now) now f := by
  unfold stepM stepB; rw [T.begin_st, if_neg (by omega), if_neg (by simp [hs]), if_neg (by omega), if_neg (by omega)]
theorem Next.fetch (h : t.st = 1) (hs : f.stored = false) (hh : f.heard = true) (hf : t.fetched = false) : Next t now f 2 1 false now := by
  have e : stepM t now f = ({ t.begin now with st := 2, fb := now }, 2) := by rw [step_looks h hs]; unfold look; rw [if_pos (by rw [begin_fetched]; simp [hh, hf])]
  constructor <;> rw [e]
  · rfl
  · show (t.begin now).fetched = _; rw [begin_fetched, hf]
  · intro h0; omega
theorem Next.run (h : t.st = 1) (hs : f.stored = false) (hh : (f.heard && !t.fetched) = false) (hr : f.ready = true ∨ pastB now (t.begin now).first t.cap = true) : Next t now f 3 2 t.fetched t.fb := by
  have e : stepM t now f = ({ t.begin now with st := 3 }, 3) := by rw [step_looks h hs]; unfold look; rw [if_neg (by rw [begin_fetched]; simp [hh]), if_pos (by rw [begin_cap]; rcases hr with h | h <;> simp [h])]
  constructor <;> rw [e]
  · rfl
  · show (t.begin now).fetched = _; rw [begin_fetched]
  · show (t.begin now).fb = _; rw [begin_fb]
  · intro h0; omega
theorem Next.rest (h : t.st = 1) (hs : f.stored = false) (hh : (f.heard && !t.fetched) = false) (hr : f.ready = false) (hp : pastB now (t.begin now).first t.cap = false) : Next t now f (if f.lease then 0 else 1) 0 t.fetched t.fb := by
  have e : stepM t now f = (t.begin now, if f.lease then 0 else 1) := by rw [step_looks h hs]; unfold look; rw [if_neg (by rw [begin_fetched]; simp [hh]), if_neg (by rw [begin_cap]; simp [hr, hp])]; split <;> rfl
  constructor <;> rw [e]
  · show (t.begin now).st = _; rw [T.begin_st, h]; rfl
  · show (t.begin now).fetched = _; rw [begin_fetched]
  · show (t.begin now).fb = _; rw [begin_fb]
  · intro h0; omega
theorem Next.failRun (h : t.st = 2) (hs : f.stored = false) (hf : f.failed = true ∨ pastB now t.fb t.bud = true) (hr : f.ready = true ∨ pastB now (t.begin now).first t.cap = true) : Next t now f 3 2 true t.fb := by
  have e : stepM t now f = ({ t.begin now with fetched := true, st := 3 }, 3) := by
    rw [step_failed h hs hf]; unfold look
    rw [if_neg (by simp), if_pos (by show (f.ready || pastB now (t.begin now).first (t.begin now).cap) = true; rw [begin_cap]; rcases hr with h | h <;> simp [h])]
  constructor <;> rw [e]
  · rfl
  · show (t.begin now).fb = _; rw [begin_fb]
  · intro h0; omega
theorem Next.failRest (h : t.st = 2) (hs : f.stored = false) (hf : f.failed = true ∨ pastB now t.fb t.bud = true) (hr : f.ready = false) (hp : pastB now (t.begin now).first t.cap = false) : Next t now f (if f.lease then 0 else 1) 0 true t.fb := by
  have e : stepM t now f = ({ t.begin now with fetched := true, st := 1 }, if f.lease then 0 else 1) := by
    rw [step_failed h hs hf]; unfold look
    rw [if_neg (by simp), if_neg (by show ¬ (f.ready || pastB now (t.begin now).first (t.begin now).cap) = true; rw [begin_cap]; simp [hr, hp])]
    split <;> rfl
  constructor <;> rw [e]
  · rfl
  · show (t.begin now).fb = _; rw [begin_fb]
  · intro h0; omega
end

/-- All steps that were told, one by one. -/
def runAll (t0 : T) (L : List (Int × F)) : T × List Int := L.foldl (fun s x => ((stepM s.1 x.1 x.2).1, s.2 ++ [(stepM s.1 x.1 x.2).2])) (t0, [])

theorem runAll_snoc (t0 : T) (L : List (Int × F)) (x : Int × F) : runAll t0 (L ++ [x]) = ((stepM (runAll t0 L).1 x.1 x.2).1, (runAll t0 L).2 ++ [(stepM (runAll t0 L).1 x.1 x.2).2]) := by
  unfold runAll; rw [List.foldl_append]; rfl

theorem runFrom_len : ∀ (L : List (Int × F)) (t : T) (acc : List Int), (L.foldl (fun s x => ((stepM s.1 x.1 x.2).1, s.2 ++ [(stepM s.1 x.1 x.2).2])) (t, acc)).2.length = acc.length + L.length
  | [], _, _ => rfl
  | x :: L, t, acc => by
    rw [List.foldl_cons, runFrom_len L, List.length_append, List.length_cons]
    simp; omega

theorem runAll_len (t0 : T) (L : List (Int × F)) : (runAll t0 L).2.length = L.length := by
  unfold runAll; rw [runFrom_len]; simp

end Go.Proofs.Ytcfpjlojknahlaa
