/-
  Facts, and steps, as they come in: opened.
-/
import Derived.Test.YtcfpjlojknahlaaS
import Derived.Test.YtcfpjlojknahlaaW
namespace Go.Proofs.Ytcfpjlojknahlaa
open Go.ChangeShapes Go.WideShapes Go.ChangeAt Go.RowKit
open Go.WideMaps Go.WideElems

theorem Try.own : ownKnob Try.prog.godebug = none := by kernel_rfl
theorem Try.laidOut : laidOutB Try.prog = true := by kernel_rfl

section
variable {H : Type} {enc : TypeId × Value → H} {w : World} {base : Nat} {spare : Nat → Bool} {held : Bool}

theorem open_int64 (n : Nat) (cs : List Value) (x) (h : DataW.trod enc Try.prog w base spare held n 3 cs = some x) :
    ∃ a : Int, I64 a ∧ cs = [.int .i64 a] := by
  obtain ⟨a, h1, _, hw⟩ := DataW.trod_int Try.underlying3 h
  refine ⟨a, ?_, h1⟩
  simpa [Lit.wf, IntKind.min, IntKind.max, IntKind.signed, IntKind.bits, I64] using hw

theorem open_bool1 (n : Nat) (cs : List Value) (x) (h : DataW.trod enc Try.prog w base spare held n 4 cs = some x) :
    ∃ a : Bool, True ∧ cs = [.bool a] := by
  obtain ⟨a, h1, _⟩ := DataW.trod_bool Try.underlying4 h
  exact ⟨a, trivial, h1⟩

/-- A field that is a bool: its one cell. -/
theorem field_bool {cs : List Value} {xs : List (DataW H × List MemPlace)} {n i off : Nat} (hi : i < xs.length) (hc : Try.prog.cellsOf 4 = 1)
    (h : DataW.trod enc Try.prog w base spare held n 4 ((cs.drop off).take (Try.prog.cellsOf 4)) = xs[i]?) : ∃ b : Bool, (cs.drop off).take 1 = [.bool b] := by
  rw [List.getElem?_eq_getElem hi, hc] at h
  obtain ⟨b, hb, _⟩ := DataW.trod_bool Try.underlying4 h
  exact ⟨b, hb⟩

theorem open_facts (n : Nat) (cs : List Value) (x) (h : DataW.trod enc Try.prog w base spare held n 28 cs = some x) :
    ∃ f : F, True ∧ cs = f.parts.toList := by
  obtain ⟨xs, m, _, _, hlen, hxl, hf⟩ := DataW.trod_struct Try.underlying28 h
  have hc : Try.prog.cellsOf 4 = 1 := by kernel_rfl
  have h28 : Try.prog.cellsOf 28 = 8 := by kernel_rfl
  rw [h28] at hlen
  have hxl : xs.length = 8 := hxl
  obtain ⟨b0, e0⟩ := field_bool (by omega) hc (hf 0 _ rfl)
  obtain ⟨b1, e1⟩ := field_bool (by omega) hc (hf 1 _ rfl)
  obtain ⟨b2, e2⟩ := field_bool (by omega) hc (hf 2 _ rfl)
  obtain ⟨b3, e3⟩ := field_bool (by omega) hc (hf 3 _ rfl)
  obtain ⟨b4, e4⟩ := field_bool (by omega) hc (hf 4 _ rfl)
  obtain ⟨b5, e5⟩ := field_bool (by omega) hc (hf 5 _ rfl)
  obtain ⟨b6, e6⟩ := field_bool (by omega) hc (hf 6 _ rfl)
  obtain ⟨b7, e7⟩ := field_bool (by omega) hc (hf 7 _ rfl)
  refine ⟨⟨b0, b1, b2, b3, b4, b5, b6, b7⟩, trivial, ?_⟩
  match cs, hlen with
  | [c0, c1, c2, c3, c4, c5, c6, c7], _ =>
    simp at e0 e1 e2 e3 e4 e5 e6 e7
    subst e0 e1 e2 e3 e4 e5 e6 e7
    rfl

theorem open_opn (n : Nat) (cs : List Value) (x) (h : DataW.trod enc Try.prog w base spare held n 30 cs = some x) :
    ∃ o : Int × F, I64 o.1 ∧ cs = .int .i64 o.1 :: o.2.parts.toList := by
  obtain ⟨xs, m, _, _, hlen, hxl, hf⟩ := DataW.trod_struct Try.underlying30 h
  have h30 : Try.prog.cellsOf 30 = 9 := by kernel_rfl
  have h28 : Try.prog.cellsOf 28 = 8 := by kernel_rfl
  have h3 : Try.prog.cellsOf 3 = 1 := by kernel_rfl
  rw [h30] at hlen
  have hxl : xs.length = 2 := hxl
  have e0 := hf 0 _ rfl
  have e1 := hf 1 _ rfl
  rw [List.getElem?_eq_getElem (by omega)] at e0 e1
  change DataW.trod enc Try.prog w base spare held m 3 ((cs.drop 0).take (Try.prog.cellsOf 3)) = _ at e0
  change DataW.trod enc Try.prog w base spare held m 28 ((cs.drop 1).take (Try.prog.cellsOf 28)) = _ at e1
  rw [h3] at e0
  rw [h28] at e1
  obtain ⟨a, ha, hc0⟩ := open_int64 _ _ _ e0
  obtain ⟨f, _, hc1⟩ := open_facts _ _ _ e1
  refine ⟨(a, f), ha, ?_⟩
  match cs, hlen with
  | c0 :: cs', hl =>
    simp at hc0 hc1 hl
    rw [List.take_of_length_le (by omega)] at hc1
    subst hc0
    rw [hc1]

end
end Go.Proofs.Ytcfpjlojknahlaa
