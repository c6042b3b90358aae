/-
  Package adverts: what Below and Sum tell of a set.
-/
import Derived.Test.YtkcammaccgkflaaDoorSZ
namespace Go.Proofs.YtkcammaccgkflaaDoor
open Go.RowKit

theorem belW_facts (w : World) (q A : Option Addr) (l c : Nat) : Chg none w (belW w q A l c) ∧ Blk (belW w q A l c) (w.heap.size + 1) #[.pointer q] 67 ∧ Blk (belW w q A l c) (w.heap.size + 1 + 1) #[.slice A l c] 22 := by
  refine ⟨(((Chg.refl _ _).alloc _).alloc _).alloc _, ?_, ?_⟩
  · refine Blk.alloc ?_ _
    have := Blk.new (w.alloc (.cells #[.slice none 0 0] 64)) #[.pointer q] 67
    rwa [World.size_alloc] at this
  · have := Blk.new ((w.alloc (.cells #[.slice none 0 0] 64)).alloc (.cells #[.pointer q] 67)) #[.slice A l c] 22
    rwa [World.size_alloc, World.size_alloc] at this
theorem sumW_facts (w : World) (q A : Option Addr) (l c : Nat) : Chg none w (sumW w q A l c) ∧ Blk (sumW w q A l c) (w.heap.size + 1 + 1) #[.pointer q] 67 ∧ Blk (sumW w q A l c) (w.heap.size + 1 + 1 + 1) #[.slice A l c] 22 := by
  refine ⟨((((Chg.refl _ _).alloc _).alloc _).alloc _).alloc _, ?_, ?_⟩
  · refine Blk.alloc ?_ _
    have := Blk.new ((w.alloc (.cells zero32 30)).alloc (.cells #[.slice none 0 0] 34)) #[.pointer q] 67
    rwa [World.size_alloc, World.size_alloc] at this
  · have := Blk.new (((w.alloc (.cells zero32 30)).alloc (.cells #[.slice none 0 0] 34)).alloc (.cells #[.pointer q] 67)) #[.slice A l c] 22
    rwa [World.size_alloc, World.size_alloc, World.size_alloc] at this
theorem belowA_none {L : List Att} {pr : List UInt8} (h : prefB pr = false) : belowA L pr = [] := by unfold belowA; rw [if_neg (by rw [h]; decide)]
theorem below_any (w : World) (B p : Nat) (A : Option Addr) (c : Nat) (L : List Att) (h : SetAt w B p A c L) (ok : OkA L) (pr : List UInt8) (Ap : Option Addr) (cp : Nat) (hT : Txt w Ap pr) (hpl : pr.length < 9223372036854775808) :
    Calls Tryd.prog 48 #[.pointer (some ⟨p, 0, none⟩), .slice Ap pr.length cp] w (BelowTold w (belowA L pr)) := by
  obtain ⟨f1, f2, f3⟩ := belW_facts w (some ⟨p, 0, none⟩) Ap pr.length cp
  cases hp : prefB pr with
  | true =>
    exact below_core _ _ _ _ w _ (L.length + 1) (by have := ok.len; omega) (range92_hands w _ B p _ _ _ A c L pr Ap cp h (by have := ok.len; omega) hT hpl f1 (Nat.le_refl _) f2 f3 (by omega) (by omega) hp ok.may)
  | false =>
    rw [belowA_none hp]
    exact below_core _ _ _ _ w _ 1 (by omega) (HandsA.empty (fun l W g => range92_none _ _ l p W pr Ap cp (f2.chg g (by simp)) (f3.chg g (by simp)) (hT.chg (f1.trans g)) hpl hp) (fun _ => rfl))
theorem below_nil (w : World) (Ap : Option Addr) (l cp : Nat) : Calls Tryd.prog 48 #[.pointer none, .slice Ap l cp] w (BelowTold w []) := by
  obtain ⟨f1, f2, f3⟩ := belW_facts w none Ap l cp
  exact below_core _ _ _ _ w _ 1 (by omega) (HandsA.empty (fun l W g => range92_nil _ _ l W (f2.chg g (by simp))) (fun _ => rfl))
def sumD (L : List Att) (pr : List UInt8) : List UInt8 := if prefB pr then dig (rowB (belowA L pr)) else zeroD
def SumTold (w : World) (L : List Att) (pr : List UInt8) (e : Ending) (w' : World) : Prop := e = .returned (.tuple #[.agg (byteVals (sumD L pr)).toArray, .int .i64 (belowA L pr).length]) ∧ Chg none w w'
theorem sum_set (w : World) (B p : Nat) (A : Option Addr) (c : Nat) (L : List Att) (h : SetAt w B p A c L) (ok : OkA L) (pr : List UInt8) (Ap : Option Addr) (cp : Nat) (hT : Txt w Ap pr) (hpl : pr.length < 9223372036854775808) (hTb : Tabs w) :
    Calls Tryd.prog 49 #[.pointer (some ⟨p, 0, none⟩), .slice Ap pr.length cp] w (SumTold w L pr) := by
  obtain ⟨f1, f2, f3⟩ := sumW_facts w (some ⟨p, 0, none⟩) Ap pr.length cp
  unfold SumTold sumD
  cases hp : prefB pr with
  | true =>
    exact sum_core _ pr Ap cp w (belowA L pr) (L.length + 1) (by have := ok.len; omega) (by have := ok.len; have := belowA_len L pr; omega) hTb hT hpl hp (range92_hands w _ B p _ _ _ A c L pr Ap cp h (by have := ok.len; omega) hT hpl f1 (Nat.le_succ _) f2 f3 (by omega) (by omega) hp ok.may)
  | false =>
    rw [belowA_none hp]
    exact sum_no _ pr Ap cp w hT hpl (.inr hp)
theorem sum_none (w : World) (pr : List UInt8) (Ap : Option Addr) (cp : Nat) (hT : Txt w Ap pr) (hpl : pr.length < 9223372036854775808) :
    Calls Tryd.prog 49 #[.pointer none, .slice Ap pr.length cp] w fun e w' => e = .returned (.tuple #[.agg (byteVals zeroD).toArray, .int .i64 0]) ∧ Chg none w w' := sum_no none pr Ap cp w hT hpl (.inl rfl)
theorem add_new {w0 u : World} {p : Nat} {L : List Att} (h : SetNew w0 u p L) (ok : OkA L) (a : Att) : Calls Tryd.prog 45 #[.pointer (some ⟨p, 0, none⟩), .agg (attCells a).toArray] u fun e w' => e = .returned (.int .i64 (addM L a).2) ∧ SetNew w0 w' p (addM L a).1 := by
  obtain ⟨A, c, h1, h2⟩ := h
  exact (add_any u _ p A c L a h1 ok).mono fun e w' k => AddP.new h1 h2 k
theorem below_new {w0 u : World} {p : Nat} {L : List Att} (h : SetNew w0 u p L) (ok : OkA L) (pr : List UInt8) (Ap : Option Addr) (cp : Nat) (hT : Txt u Ap pr) (hpl : pr.length < 9223372036854775808) :
    Calls Tryd.prog 48 #[.pointer (some ⟨p, 0, none⟩), .slice Ap pr.length cp] u (BelowTold u (belowA L pr)) := by
  obtain ⟨A, c, h1, h2⟩ := h
  exact below_any u _ p A c L h1 ok pr Ap cp hT hpl
theorem sum_new {w0 u : World} {p : Nat} {L : List Att} (h : SetNew w0 u p L) (ok : OkA L) (pr : List UInt8) (Ap : Option Addr) (cp : Nat) (hT : Txt u Ap pr) (hpl : pr.length < 9223372036854775808) (hTb : Tabs u) :
    Calls Tryd.prog 49 #[.pointer (some ⟨p, 0, none⟩), .slice Ap pr.length cp] u (SumTold u L pr) := by
  obtain ⟨A, c, h1, h2⟩ := h
  exact sum_set u _ p A c L h1 ok pr Ap cp hT hpl hTb
theorem len_new {w0 u : World} {p : Nat} {L : List Att} (h : SetNew w0 u p L) : Calls Tryd.prog 51 #[.pointer (some ⟨p, 0, none⟩)] u fun e w' => e = .returned (.int .i64 L.length) ∧ u = w' := by
  obtain ⟨A, c, h1, h2⟩ := h
  exact len_any u _ p A c L h1
theorem has_new {w0 u : World} {p : Nat} {L : List Att} (h : SetNew w0 u p L) (ok : OkA L) (a : Att) (ha : Big a.n) : Calls Tryd.prog 46 #[.pointer (some ⟨p, 0, none⟩), .agg (attCells a).toArray] u fun e w' => e = .returned (.bool (decide (a ∈ L))) ∧ Chg none u w' := by
  obtain ⟨A, c, h1, h2⟩ := h
  exact has_any u _ p A c L a h1 ok ha
/-- A set that is new since w0, and a result in a block of its own. -/
def SetBy (w0 u : World) (p : Nat) (L : List Att) (pa : Nat) (CL : List Value) : Prop := ∃ A c, SetAt u w0.heap.size p A c L ∧ Chg none w0 u ∧ ¬ setS p A pa ∧ pa < u.heap.size ∧ u.rangeAt pa 0 CL
theorem SetBy.new {w0 u : World} {p : Nat} {L : List Att} {pa : Nat} {CL : List Value} (h : SetBy w0 u p L pa CL) : SetNew w0 u p L := by
  obtain ⟨A, c, h1, h2, -⟩ := h
  exact ⟨A, c, h1, h2⟩
theorem SetBy.range {w0 u : World} {p : Nat} {L : List Att} {pa : Nat} {CL : List Value} (h : SetBy w0 u p L pa CL) : u.rangeAt pa 0 CL := by
  obtain ⟨A, c, h1, h2, h3, h4, h5⟩ := h
  exact h5
theorem SetBy.chg {w0 u v : World} {p : Nat} {L : List Att} {pa : Nat} {CL : List Value} (h : SetBy w0 u p L pa CL) (g : Chg none u v) : SetBy w0 v p L pa CL := by
  obtain ⟨A, c, h1, h2, h3, h4, h5⟩ := h
  exact ⟨A, c, h1.chg g, h2.trans g, h3, Nat.lt_of_lt_of_le h4 g.size, rangeAt_chg h5 g (by simp)⟩
theorem add_by {w0 u : World} {p : Nat} {L : List Att} {pa : Nat} {CL : List Value} (h : SetBy w0 u p L pa CL) (ok : OkA L) (a : Att) : Calls Tryd.prog 45 #[.pointer (some ⟨p, 0, none⟩), .agg (attCells a).toArray] u fun e w' => e = .returned (.int .i64 (addM L a).2) ∧ SetBy w0 w' p (addM L a).1 pa CL := by
  obtain ⟨A, c, h1, h2, h3, h4, h5⟩ := h
  refine (add_any u _ p A c L a h1 ok).mono fun e w' k => ?_
  obtain ⟨k1, A', c', k2, k3, k4⟩ := k
  refine ⟨k1, A', c', k2, Kept.fresh h2 k3 fun i hi => (h1.fresh i hi).1, fun hs => ?_, Nat.lt_of_lt_of_le h4 k3.size, fun j v hj => ?_⟩
  · rcases hs with rfl | hs
    · exact h3 (.inl rfl)
    · rcases k4 with rfl | ⟨g, e1, hg⟩
      · exact h3 (.inr hs)
      · rw [hs] at e1
        injection e1 with e1
        injection e1 with e1 _ _
        omega
  · rw [← h5 j v hj]
    unfold World.cell?
    rw [k3.block pa h4 h3]
theorem txt_none (w : World) : Txt w none [] := fun h => absurd h (by decide)

end Go.Proofs.YtkcammaccgkflaaDoor
