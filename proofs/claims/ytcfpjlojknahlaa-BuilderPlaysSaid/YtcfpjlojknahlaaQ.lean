/-
  The document's answers for a turn: what stands between two rounds.
-/
import Derived.Test.YtcfpjlojknahlaaP
import Derived.Test.YtcfpjlojknahlaaR
namespace Go.Proofs.Ytcfpjlojknahlaa
open Go.RowKit

def toldCells (x : Int × F) : List Value := .int .i64 x.1 :: x.2.parts.toList
theorem toldCells_len (x : Int × F) : (toldCells x).length = 9 := rfl
def ansCells (a : Int) : Value := .int .u8 a

structure ASt (c u : Int) (L : List (Int × F)) (k : Nat) (rst : Int) (fe : Bool) (fb : Int) (t : T) (outs : List Int) : Prop where
  run : runAll (T.fresh c u) (L.take k) = (t, outs)
  hst : t.st = rst + 1
  hfe : t.fetched = fe
  hfb : t.fb = fb
  cap : t.cap = c
  bud : t.bud = u
  rstB : 0 ≤ rst ∧ rst ≤ 3
  fbB : 0 ≤ fb ∧ fb ≤ 300000
  first : ∀ now, L[k]? = some now → (t.begin now.1).begun = true ∧ ∀ x, L[0]? = some x → (t.begin now.1).first = x.1
  first' : 0 < k → t.begun = true ∧ ∀ x, L[0]? = some x → t.first = x.1
  done : rst = 3 → 0 < k ∧ outs[k - 1]? = some t.ans

theorem stepM_keeps (t : T) (now : Int) (f : F) : (stepM t now f).1.cap = t.cap ∧ (stepM t now f).1.bud = t.bud ∧ (stepM t now f).1.first = (t.begin now).first ∧ (stepM t now f).1.begun = true := by
  have h := stepB_cap (t.begin now) now f
  refine ⟨h.1.trans (begin_cap t now), h.2.1.trans (begin_bud t now), h.2.2.1, h.2.2.2.trans ?_⟩
  unfold T.begin; split
  · assumption
  · rfl

theorem begin_begun (t : T) (now : Int) : (t.begin now).begun = true := by
  unfold T.begin; split
  · assumption
  · rfl

theorem begin_of (t : T) (now : Int) (h : t.begun = true) : t.begin now = t := by unfold T.begin; rw [if_pos h]

theorem ASt.start (c u : Int) (L : List (Int × F)) : ASt c u L 0 0 false 0 (T.fresh c u) [] where
  run := rfl
  hst := rfl
  hfe := rfl
  hfb := rfl
  cap := rfl
  bud := rfl
  rstB := by omega
  fbB := by omega
  first := fun now h => ⟨begin_begun _ _, fun x hx => by rw [h] at hx; obtain rfl := Option.some.inj hx; rfl⟩
  first' := fun h => absurd h (by omega)
  done := fun h => by omega

theorem ASt.next {c u : Int} {L : List (Int × F)} {k : Nat} {rst rst' fb fb' a now : Int} {fe fe' : Bool} {f : F} {t : T} {outs : List Int} (h : ASt c u L k rst fe fb t outs) (hx : L[k]? = some (now, f))
    (n : Next t now f a rst' fe' fb') (hr : 0 ≤ rst' ∧ rst' ≤ 3) (hb : 0 ≤ fb' ∧ fb' ≤ 300000) : ASt c u L (k + 1) rst' fe' fb' (stepM t now f).1 (outs ++ [a]) := by
  have hk := stepM_keeps t now f
  have hkl : k < L.length := (List.getElem?_eq_some_iff.1 hx).1
  have hxx : L[k] = (now, f) := (List.getElem?_eq_some_iff.1 hx).2
  have htk : L.take (k + 1) = L.take k ++ [(now, f)] := by rw [List.take_succ_eq_append_getElem hkl, hxx]
  have hlen : outs.length = k := by
    have := runAll_len (T.fresh c u) (L.take k)
    rw [h.run, List.length_take] at this
    show (t, outs).2.length = k
    omega
  have hf1 := (h.first _ hx).2
  refine ⟨?_, n.st, n.fe, n.fb, hk.1.trans h.cap, hk.2.1.trans h.bud, hr, hb, fun nw _ => ⟨begin_begun _ _, fun x hx0 => ?_⟩, fun _ => ⟨hk.2.2.2, fun x hx0 => ?_⟩, fun h3 => ⟨by omega, ?_⟩⟩
  · rw [htk, runAll_snoc, h.run]
    show ((stepM t now f).1, outs ++ [(stepM t now f).2]) = _
    rw [n.ans]
  · rw [begin_of _ _ hk.2.2.2, hk.2.2.1]; exact hf1 x hx0
  · rw [hk.2.2.1]; exact hf1 x hx0
  · rw [n.done h3, Nat.add_sub_cancel, ← hlen, List.getElem?_append_right (Nat.le_refl _), Nat.sub_self]; rfl

theorem pastB_is {now b c : Int} (hc : 0 ≤ c) : pastB now b c = decide (b + c ≤ now) := by
  unfold pastB
  by_cases h : b + c ≤ now
  · rw [decide_eq_true h, decide_eq_true]; omega
  · rw [decide_eq_false h, decide_eq_false]; omega

/-- The frame between two rounds. -/
def ARel (w : World) (c u : Int) (L : List (Int × F)) (s7 s8 s9 s10 s11 : Value) (wr : World) : Prop :=
  ∃ (k : Nat) (rst fb : Int) (fe : Bool) (t : T) (outs : List Int), k ≤ L.length ∧ s11 = .int .i64 k ∧ s8 = .int .i64 rst ∧ s9 = .bool fe ∧ s10 = .int .i64 fb ∧ ASt c u L k rst fe fb t outs ∧
    wr.ownsRow w.heap.size 35 1 s7 k (outs.map ansCells) ∧ Chg none w wr

theorem ARel.next {w wr w2 : World} {c u : Int} {L : List (Int × F)} {k : Nat} {rst rst' fb fb' a now : Int} {fe fe' : Bool} {f : F} {t : T} {outs : List Int} {v v' : Value} (h : ASt c u L k rst fe fb t outs) (hx : L[k]? = some (now, f))
    (n : Next t now f a rst' fe' fb') (hr : 0 ≤ rst' ∧ rst' ≤ 3) (hb : 0 ≤ fb' ∧ fb' ≤ 300000) (hown : wr.ownsRow w.heap.size 35 1 v k (outs.map ansCells)) (g : Chg none w wr)
    (hown' : w2.ownsRow w.heap.size 35 1 v' (k + 1) (outs.map ansCells ++ [.int .u8 a])) (hg : wr.grownBy w2 v.ownBlock) (s11 : Value) (h11 : s11 = .int .i64 ((k + 1 : Nat) : Int)) :
    ARel w c u L v' (.int .i64 rst') (.bool fe') (.int .i64 fb') s11 w2 := by
  have hkl : k < L.length := (List.getElem?_eq_some_iff.1 hx).1
  refine ⟨k + 1, rst', fb', fe', _, _, hkl, h11, rfl, rfl, rfl, h.next hx n hr hb, ?_, ?_⟩
  · rw [List.map_append]; exact hown'
  · exact ⟨hg.os.trans g.os, hg.tape.trans g.tape, hg.output.trans g.output, Nat.le_trans g.size hg.size,
      fun i hi hn => (hg.block i (Nat.lt_of_lt_of_le hi g.size) (fun e => by have := (hown.lt i e.symm).1; omega)).trans (g.block i hi hn)⟩

end Go.Proofs.Ytcfpjlojknahlaa
