/-
  Bytes that came in, opened with what is known of nil.
-/
import Derived.Test.YtglfakglcoffkaaTV
namespace Go.Proofs.Ytglfakglcoffkaa
open Go.ChangeShapes Go.WideShapes Go.ChangeAt Go.RowKit
open Go.WideMaps Go.WideElems

section
variable {H : Type} {enc : TypeId × Value → H} {w : World} {base : Nat} {spare : Nat → Bool} {held : Bool}
set_option maxRecDepth 100000 in
theorem open_bytes3 {r : Reach} {b0 : Nat} {v : Value} {d : DataW H} {p : List MemPlace} (hv : Value.okWide Try.prog w r b0 22 v) (h : DataW.Trod enc Try.prog w base spare held 22 v d p) :
    ∃ (A : Option Addr) (x : List UInt8) (c : Nat), v = .slice A x.length c ∧ Txt w A x ∧ x.length ≤ c ∧ c ≤ 9223372036854775807 ∧ NilOk A x.length c := by
  obtain ⟨a0, len, cap, rfl⟩ := okWide_slice Try.underlying22 hv
  obtain ⟨fuel, hf⟩ := h
  obtain ⟨q, ⟨h1, h2, h5⟩, _, h3⟩ := open_prt fuel _ _ hf
  simp only [Value.cells, List.cons.injEq, and_true] at h3
  exact ⟨q.A, q.x, q.c, h3, h1.1, h1.2, Nat.le_trans h2 (by unfold maxLen; decide), h5⟩
end

end Go.Proofs.Ytglfakglcoffkaa
