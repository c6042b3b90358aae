/-
  Calls as they come in: opened.
-/
import Derived.Test.YtippkdjggipnmaaA
import Derived.Test.YtippkdjggipnmaaW
namespace Go.Proofs.Ytippkdjggipnmaa
open Go.ChangeShapes Go.WideShapes Go.ChangeAt Go.RowKit
open Go.WideMaps Go.WideElems

theorem Try.own : ownKnob Try.prog.godebug = none := by kernel_rfl

structure Opn where
  kind : Int
  i : Int
  k : Int
  n : Int
instance : Inhabited Opn := ⟨⟨0, 0, 0, 0⟩⟩
def Opn.cells (o : Opn) : List Value := [.int .i64 o.kind, .int .i64 o.i, .int .i64 o.k, .int .i64 o.n]
def Opn.wide (o : Opn) : Prop := I64 o.kind ∧ I64 o.i ∧ I64 o.k ∧ I64 o.n

section
variable {H : Type} {enc : TypeId × Value → H} {w : World} {base : Nat} {spare : Nat → Bool} {held : Bool}

theorem field_int {k : IntKind} {t : TypeId} (ht : Try.prog.underlying t = some (.int k)) {cs : List Value} {xs : List (DataW H × List MemPlace)} {n i off : Nat} (hi : i < xs.length) (hc : Try.prog.cellsOf t = 1)
    (h : DataW.trod enc Try.prog w base spare held n t ((cs.drop off).take (Try.prog.cellsOf t)) = xs[i]?) : ∃ b : Int, (cs.drop off).take 1 = [.int k b] ∧ (Lit.int k b).wf = true := by
  rw [List.getElem?_eq_getElem hi, hc] at h
  obtain ⟨b, hb, _, hw⟩ := DataW.trod_int ht h
  exact ⟨b, hb, hw⟩

theorem wf_i64 {b : Int} (h : (Lit.int .i64 b).wf = true) : I64 b := by
  simpa [Lit.wf, IntKind.min, IntKind.max, IntKind.signed, IntKind.bits, I64] using h

set_option maxRecDepth 100000 in
theorem open_opn (n : Nat) (cs : List Value) (x) (h : DataW.trod enc Try.prog w base spare held n 32 cs = some x) :
    ∃ u : Opn, u.wide ∧ cs = u.cells := by
  obtain ⟨xs, m, _, _, hlen, hxl, hf⟩ := DataW.trod_struct Try.underlying32 h
  have h32 : Try.prog.cellsOf 32 = 4 := by kernel_rfl
  rw [h32] at hlen
  have hxl : xs.length = 4 := hxl
  obtain ⟨b0, e0, w0⟩ := field_int Try.underlying3 (by omega) (by kernel_rfl) (hf 0 _ rfl)
  obtain ⟨b1, e1, w1⟩ := field_int Try.underlying3 (by omega) (by kernel_rfl) (hf 1 _ rfl)
  obtain ⟨b2, e2, w2⟩ := field_int Try.underlying3 (by omega) (by kernel_rfl) (hf 2 _ rfl)
  obtain ⟨b3, e3, w3⟩ := field_int Try.underlying3 (by omega) (by kernel_rfl) (hf 3 _ rfl)
  refine ⟨⟨b0, b1, b2, b3⟩, ⟨wf_i64 w0, wf_i64 w1, wf_i64 w2, wf_i64 w3⟩, ?_⟩
  match cs, hlen with
  | [c0, c1, c2, c3], _ =>
    simp at e0 e1 e2 e3
    subst e0 e1 e2 e3
    rfl

set_option maxRecDepth 100000 in
/-- A call, handed over by value. -/
theorem open_opn_val {r : Reach} {b0 : Nat} {v : Value} {d : DataW H} {p : List MemPlace} (hv : Value.okWide Try.prog w r b0 32 v) (h : DataW.Trod enc Try.prog w base spare held 32 v d p) :
    ∃ u : Opn, u.wide ∧ v = .agg #[.int .i64 u.kind, .int .i64 u.i, .int .i64 u.k, .int .i64 u.n] := by
  obtain ⟨cs, rfl, hsz⟩ := okWide_struct Try.underlying32 hv
  obtain ⟨fuel, hf⟩ := h
  obtain ⟨u, hu, hc⟩ := open_opn fuel _ _ hf
  refine ⟨u, hu, ?_⟩
  have : cs.toList = u.cells := hc
  congr 1
  apply Array.toList_inj.1
  rw [this]
  rfl
end

theorem RowsAt.four {w : World} {A : Option Addr} {L : List Opn} (h : RowsAt w 4 A Opn.cells L) (hne : L ≠ []) :
    ∃ b off, A = some ⟨b, off, none⟩ ∧ b < w.heap.size ∧ ∀ i o, L[i]? = some o →
      w.cell? ⟨b, off + i * 4, none⟩ = some (.int .i64 o.kind) ∧ w.cell? ⟨b, off + i * 4 + 1, none⟩ = some (.int .i64 o.i) ∧
      w.cell? ⟨b, off + i * 4 + 2, none⟩ = some (.int .i64 o.k) ∧ w.cell? ⟨b, off + i * 4 + 3, none⟩ = some (.int .i64 o.n) := by
  obtain ⟨b, off, hA, hb, hc⟩ := h hne
  refine ⟨b, off, hA, hb, fun i o hi => ?_⟩
  have hh := hc i o hi
  exact ⟨hh 0 (by omega), hh 1 (by omega), hh 2 (by omega), hh 3 (by omega)⟩

end Go.Proofs.Ytippkdjggipnmaa
