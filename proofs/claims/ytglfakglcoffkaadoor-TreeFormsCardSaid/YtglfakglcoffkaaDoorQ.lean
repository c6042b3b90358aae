/-
  Two digests, held against one another.
-/
import Derived.Test.YtglfakglcoffkaaDoorE3
import Derived.Laws.StructEq
namespace Go.Proofs.YtglfakglcoffkaaDoor
open Go.RowKit

def sameAt (a b : List UInt8) (i : Nat) : Bool := a.getD i 0 == b.getD i 0

theorem run_same_loop (f : Nat → Option Bool × Unit → Sem (ForInStep (Option Bool × Unit))) (P : Program) (w : World) (a b : List UInt8)
    (hf : ∀ i s, i < 32 → (f i s).run P w = .ok (if sameAt a b i then ForInStep.yield (none, ()) else ForInStep.done (some false, ())) w) :
    ∀ l : List Nat, (∀ i ∈ l, i < 32) → (forIn l (none, ()) f).run P w = .ok (if l.all (sameAt a b) then (none, ()) else (some false, ())) w
  | [], _ => by simp [List.forIn_nil, Sem.run_pure]
  | i :: l, h => by
    simp only [List.forIn_cons, Sem.run_bind, hf i (none, ()) (h i (by simp)), Result.andThen_ok]
    by_cases hs : sameAt a b i = true
    · simp only [hs, if_true, List.all_cons, Bool.true_and]
      exact run_same_loop f P w a b hf l (fun j hj => h j (by simp [hj]))
    · simp [hs, Sem.run_pure]

theorem all_same (a b : List UInt8) (ha : a.length = 32) (hb : b.length = 32) : (List.range' 0 32 1).all (sameAt a b) = (a == b) := by
  rw [Bool.eq_iff_iff, List.all_eq_true, beq_iff_eq]
  constructor
  · intro h
    apply List.ext_getElem (by omega)
    intro i h1 h2
    have := h i (by simp; omega)
    unfold sameAt at this
    rw [beq_iff_eq, List.getD_eq_getElem?_getD, List.getD_eq_getElem?_getD, List.getElem?_eq_getElem h1, List.getElem?_eq_getElem h2] at this
    simpa using this
  · rintro rfl i _
    simp [sameAt]

theorem part5 (a : List UInt8) (ha : a.length = 32) (i : Nat) (hi : i < 32) (w : World) : (part 5 (byteVals a).toArray (i * 1)).run Tryd.prog w = .ok (.int .u8 (a.getD i 0).toNat) w := by
  have hg : (byteVals a)[i]? = some (.int .u8 (a.getD i 0).toNat) := byteVals_get (by rw [List.getElem?_eq_getElem (by omega), List.getD_eq_getElem?_getD, List.getElem?_eq_getElem (by omega)]; rfl)
  have g5 := Tryd.isAgg5
  unfold part
  simp [Sem.run_bind, g5, hg, Sem.run_pure]

theorem equalIn30 (d : Nat) (a b : List UInt8) (ha : a.length = 32) (hb : b.length = 32) (w : World) :
    (Op.equalIn (d + 1 + 1) 30 (.agg (byteVals a).toArray) (.agg (byteVals b).toArray)).run Tryd.prog w = .ok (a == b) w := by
  have z5 := Tryd.sizeOf5
  have hin : ∀ x y : UInt8, (Op.equalIn (d + 1) 5 (.int .u8 x.toNat) (.int .u8 y.toNat)).run Tryd.prog w = .ok (x == y) w := fun x y => by
    rw [run_equalIn_int w d 5 .u8 .u8 _ _ Tryd.underlying5]
    congr 1
    rw [Bool.eq_iff_iff, beq_iff_eq, beq_iff_eq]
    constructor
    · intro h; exact UInt8.toNat_inj.1 (by omega)
    · rintro rfl; rfl
  generalize d + 1 = dd at *
  unfold Op.equalIn
  simp only [Sem.run_bind, run_underlying Tryd.underlying30, Result.andThen_ok, z5]
  rw [Std.Legacy.Range.forIn_eq_forIn_range', show List.range' [:32].start [:32].size [:32].step = List.range' 0 32 1 from rfl]
  rw [run_same_loop _ Tryd.prog w a b (fun i s hi => by
    simp only [Sem.run_bind, part5 a ha i hi, part5 b hb i hi, Result.andThen_ok, hin]
    unfold sameAt
    cases (a.getD i 0 == b.getD i 0) <;> rfl) _ (by intro i hi; simp at hi; omega)]
  rw [Result.andThen_ok, all_same a b ha hb]
  cases (a == b) <;> rfl

theorem eql30 (a b : List UInt8) (ha : a.length = 32) (hb : b.length = 32) (w : World) :
    (binOp .eql 30 (.agg (byteVals a).toArray) (.agg (byteVals b).toArray)).run Tryd.prog w = .ok (.bool (a == b)) w := by
  rw [run_eql_struct, show (10000 : Nat) = 9998 + 1 + 1 from rfl, equalIn30 9998 a b ha hb w]
  rfl
theorem neq30 (a b : List UInt8) (ha : a.length = 32) (hb : b.length = 32) (w : World) :
    (binOp .neq 30 (.agg (byteVals a).toArray) (.agg (byteVals b).toArray)).run Tryd.prog w = .ok (.bool (!(a == b))) w := by
  rw [run_neq_struct, show (10000 : Nat) = 9998 + 1 + 1 from rfl, equalIn30 9998 a b ha hb w]
  rfl
theorem guard30 : Tryd.prog.eqGuardType Tryd.prog.depth 30 = false := by kernel_rfl

end Go.Proofs.YtglfakglcoffkaaDoor
