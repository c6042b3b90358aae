/-
  Updates as they come in: opened.
-/
import Derived.Test.YtiehbbbncmdchaaH
import Derived.Test.YtiehbbbncmdchaaW
namespace Go.Proofs.Ytiehbbbncmdchaa
open Go.ChangeShapes Go.WideShapes Go.ChangeAt Go.RowKit
open Go.WideMaps Go.WideElems

theorem Try.own : ownKnob Try.prog.godebug = none := by kernel_rfl
theorem Try.laidOut : laidOutB Try.prog = true := by kernel_rfl

def I64 (n : Int) : Prop := -9223372036854775808 ≤ n ∧ n ≤ 9223372036854775807
/-- The ranges of an update's numbers. -/
def U.wide (u : U) : Prop := I64 u.node ∧ (0 ≤ u.st ∧ u.st ≤ 255) ∧ (0 ≤ u.inc ∧ u.inc ≤ 18446744073709551615)

section
variable {H : Type} {enc : TypeId × Value → H} {w : World} {base : Nat} {spare : Nat → Bool} {held : Bool}

theorem field_int {k : IntKind} {t : TypeId} (ht : Try.prog.underlying t = some (.int k)) {cs : List Value} {xs : List (DataW H × List MemPlace)} {n i off : Nat} (hi : i < xs.length) (hc : Try.prog.cellsOf t = 1)
    (h : DataW.trod enc Try.prog w base spare held n t ((cs.drop off).take (Try.prog.cellsOf t)) = xs[i]?) : ∃ b : Int, (cs.drop off).take 1 = [.int k b] ∧ (Lit.int k b).wf = true := by
  rw [List.getElem?_eq_getElem hi, hc] at h
  obtain ⟨b, hb, _, hw⟩ := DataW.trod_int ht h
  exact ⟨b, hb, hw⟩

theorem wf_i64 {b : Int} (h : (Lit.int .i64 b).wf = true) : I64 b := by
  simpa [Lit.wf, IntKind.min, IntKind.max, IntKind.signed, IntKind.bits, I64] using h
theorem wf_u8 {b : Int} (h : (Lit.int .u8 b).wf = true) : 0 ≤ b ∧ b ≤ 255 := by
  simpa [Lit.wf, IntKind.min, IntKind.max, IntKind.signed, IntKind.bits] using h
theorem wf_u64 {b : Int} (h : (Lit.int .u64 b).wf = true) : 0 ≤ b ∧ b ≤ 18446744073709551615 := by
  simpa [Lit.wf, IntKind.min, IntKind.max, IntKind.signed, IntKind.bits] using h

set_option maxRecDepth 100000 in
theorem open_upd (n : Nat) (cs : List Value) (x) (h : DataW.trod enc Try.prog w base spare held n 31 cs = some x) :
    ∃ u : U, u.wide ∧ cs = u.cells := by
  obtain ⟨xs, m, _, _, hlen, hxl, hf⟩ := DataW.trod_struct Try.underlying31 h
  have h31 : Try.prog.cellsOf 31 = 3 := by kernel_rfl
  rw [h31] at hlen
  have hxl : xs.length = 3 := hxl
  obtain ⟨b0, e0, w0⟩ := field_int Try.underlying3 (by omega) (by kernel_rfl) (hf 0 _ rfl)
  obtain ⟨b1, e1, w1⟩ := field_int Try.underlying5 (by omega) (by kernel_rfl) (hf 1 _ rfl)
  obtain ⟨b2, e2, w2⟩ := field_int Try.underlying22 (by omega) (by kernel_rfl) (hf 2 _ rfl)
  refine ⟨⟨b0, b1, b2⟩, ⟨wf_i64 w0, wf_u8 w1, wf_u64 w2⟩, ?_⟩
  match cs, hlen with
  | [c0, c1, c2], _ =>
    simp at e0 e1 e2
    subst e0 e1 e2
    rfl

set_option maxRecDepth 100000 in
/-- An update, handed over by value. -/
theorem open_upd_val {r : Reach} {b0 : Nat} {v : Value} {d : DataW H} {p : List MemPlace} (hv : Value.okWide Try.prog w r b0 31 v) (h : DataW.Trod enc Try.prog w base spare held 31 v d p) :
    ∃ u : U, u.wide ∧ v = u.val := by
  obtain ⟨cs, rfl, hsz⟩ := okWide_struct Try.underlying31 hv
  obtain ⟨fuel, hf⟩ := h
  obtain ⟨u, hu, hc⟩ := open_upd fuel _ _ hf
  refine ⟨u, hu, ?_⟩
  have : cs.toList = u.cells := hc
  unfold U.val
  congr 1
  apply Array.toList_inj.1
  rw [this]
  rfl
end

end Go.Proofs.Ytiehbbbncmdchaa
