/-
  Actions that came in, opened; the three tables, out of the condition.
-/
import Derived.Test.YtglfakglcoffkaaDoorVT
import Derived.Test.YtglfakglcoffkaaDoorAC
namespace Go.Proofs.YtglfakglcoffkaaDoor
open Go.ChangeShapes Go.WideShapes Go.ChangeAt Go.RowKit
open Go.WideMaps Go.WideElems

section
variable {H : Type} {enc : TypeId × Value → H} {w : World} {base : Nat} {spare : Nat → Bool} {held : Bool}
theorem field_prog {cs : List Value} {xs : List (DataW H × List MemPlace)} {n i off : Nat} (hi : i < xs.length)
    (h : DataW.trod enc Tryd.prog w base spare held n 52 ((cs.drop off).take (Tryd.prog.cellsOf 52)) = xs[i]?) :
    ∃ (A : Option Addr) (L : List Ins) (c : Nat), (cs.drop off).take 1 = [.slice A L.length c] ∧ RowsAt w 6 A insCells L ∧ (∀ x ∈ L, x.fits) ∧ L.length ≤ 9223372036854775807 := by
  rw [List.getElem?_eq_getElem hi, show Tryd.prog.cellsOf 52 = 1 by kernel_rfl] at h
  obtain ⟨A, L, c, hvs, hc, hcm, hok, hrow, _, _⟩ := trod_rows insCells Ins.fits (fun _ _ => True) Tryd.underlying52 (k := 6) (by kernel_rfl) (by omega)
    (fun n cs x h => by obtain ⟨y, h1, h2⟩ := open_ins n cs x h; exact ⟨y, h1, trivial, h2⟩) h
  exact ⟨A, L, c, hvs, hrow, hok, by have h : maxLen ≤ 9223372036854775807 := by unfold maxLen; decide
                                     omega⟩
theorem field_tree {cs : List Value} {xs : List (DataW H × List MemPlace)} {n i off : Nat} (hi : i < xs.length)
    (h : DataW.trod enc Tryd.prog w base spare held n 40 ((cs.drop off).take (Tryd.prog.cellsOf 40)) = xs[i]?) :
    ∃ (A : Option Addr) (L : List Fil) (c : Nat), (cs.drop off).take 1 = [.slice A L.length c] ∧ TreeAt w A L ∧ L.length ≤ 9223372036854775807 := by
  rw [List.getElem?_eq_getElem hi, show Tryd.prog.cellsOf 40 = 1 by kernel_rfl] at h
  obtain ⟨A, L, c, hvs, hc, hcm, hok, hrow, hnil, _⟩ := trod_rows filCells (fun f => f.ok w) (fun _ _ => True) Tryd.underlying40 (k := 2) (by kernel_rfl) (by omega)
    (fun n cs x h => by obtain ⟨y, h1, h2⟩ := open_fil n cs x h; exact ⟨y, h1, trivial, h2⟩) h
  exact ⟨A, L, c, hvs, ⟨hrow, hok⟩, by have h : maxLen ≤ 9223372036854775807 := by unfold maxLen; decide
                                       omega⟩
set_option maxRecDepth 100000 in
/-- An action that came in. -/
theorem open_act {r : Reach} {b0 : Nat} {v : Value} {d : DataW H} {p : List MemPlace} (hv : Value.okWide Tryd.prog w r b0 64 v) (h : DataW.Trod enc Tryd.prog w base spare held 64 v d p) :
    ∃ a : Actn, ActAt w a ∧ v = .agg (actCells a).toArray := by
  obtain ⟨cs, rfl, hsz⟩ := okWide_struct Tryd.underlying64 hv
  obtain ⟨fuel, hf⟩ := h
  have hf : DataW.trod enc Tryd.prog w base spare held fuel 64 cs.toList = some (d, p) := hf
  obtain ⟨xs, m, _, _, hlen, hxl, hff⟩ := DataW.trod_struct Tryd.underlying64 hf
  have h64 : Tryd.prog.cellsOf 64 = 3 := by kernel_rfl
  rw [h64] at hlen
  have hxl : xs.length = 3 := hxl
  obtain ⟨A, L, c, e0, w0, w1, w2⟩ := field_prog (by omega) (hff 0 _ rfl)
  obtain ⟨B, N, d', e1, w3, w4⟩ := field_tree (by omega) (hff 1 _ rfl)
  obtain ⟨F, e2, w5⟩ := field_int Tryd.underlying3 (by omega) (by kernel_rfl) (hff 2 _ rfl)
  refine ⟨⟨A, L, c, B, N, d', F⟩, ⟨w0, w1, w2, w3, w4, wf_i64 w5⟩, ?_⟩
  obtain ⟨l⟩ := cs
  have hlen : l.length = 3 := hlen
  match l, hlen with
  | [c0, c1, c2], _ =>
    simp at e0 e1 e2
    subst e0 e1 e2
    rfl
end

abbrev laid3 : List (String × DataW Unit) := [("murmuration/sha.roundWords", Rows.laid_murmuration_sha_roundWords), ("murmuration/sha.firstWords", Rows.laid_murmuration_sha_firstWords), ("murmuration/program.fields", Rows.laid_murmuration_program_fields)]
/-- The door's own heap meets the condition. -/
theorem door_met3 (os : Os) (args : Array Value) : laidMetH Tryd.prog laid3 ((World.doorLaid Tryd.prog 19 os).forCall (fun _ _ => 0) ⟨#[], args, []⟩).memory :=
  laidMetH_of_parts3 (fuel := 8) (laidMet_of_run' 8 (by kernel_rfl) (by kernel_rfl)) (by kernel_rfl) (by kernel_rfl)
theorem tabs_of_laid3 {W : World} (h : laidMetH Tryd.prog laid3 W) : Tabs W := by
  rw [MakeChecks.laidMetH_plain _ _ _ (by kernel_rfl)] at h
  have hK : Lib.TabIs Tryd.prog W "murmuration/sha.roundWords" .u32 K0 := Lib.tabIs_of_head gK tK Tryd.underlying26 Tryd.underlying24 (by kernel_rfl) (by kernel_rfl) h
  have hH : Lib.TabIs Tryd.prog W "murmuration/sha.firstWords" .u32 H0 := Lib.tabIs_of_head gH tH Tryd.underlying25 Tryd.underlying24 (by kernel_rfl) (by kernel_rfl) (laidMet.tail h)
  refine ⟨fun i hi => hH.cell gH i hi, fun i hi => hK.cell gK i hi, ?_⟩
  have := World.block_lt_of_cell? W _ (hK.cell gK 0 (by decide))
  exact this
theorem flds_of_laid3 {W : World} (h : laidMetH Tryd.prog laid3 W) : Flds W := by
  refine flds_of_laid ?_
  rw [MakeChecks.laidMetH_plain _ _ _ (by kernel_rfl)] at h ⊢
  exact laidMet.tail (laidMet.tail h)

end Go.Proofs.YtglfakglcoffkaaDoor
