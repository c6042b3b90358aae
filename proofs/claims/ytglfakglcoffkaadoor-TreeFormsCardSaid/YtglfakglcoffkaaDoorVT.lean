/-
  Trees that came in, opened; the two tables of package sha, out of the condition.
-/
import Derived.Test.YtglfakglcoffkaaDoorV
import Derived.Test.YtglfakglcoffkaaDoorTT
namespace Go.Proofs.YtglfakglcoffkaaDoor
open Go.ChangeShapes Go.WideShapes Go.ChangeAt Go.RowKit
open Go.WideMaps Go.WideElems

section
variable {H : Type} {enc : TypeId × Value → H} {w : World} {base : Nat} {spare : Nat → Bool} {held : Bool}
/-- A row of bytes that came in. -/
theorem open_prt3 (fuel : Nat) (vs : List Value) (x) (hf : DataW.trod enc Tryd.prog w base spare held fuel 22 vs = some x) : ∃ p : Prt, (p.ok w ∧ p.c ≤ maxLen ∧ (p.A = none → p.x.length = 0 ∧ p.c = 0)) ∧ True ∧ vs = [p.val] := by
  obtain ⟨A, L, c, rfl, hc, hcm, _, hrow, hnil, _⟩ := trod_rows u8Cells (fun _ => True) (fun _ _ => True) Tryd.underlying22 (k := 1) (by kernel_rfl) (by omega)
    (fun n cs x h => by obtain ⟨a, h1, h2⟩ := open_u8 n cs x h; exact ⟨a, h1, trivial, h2⟩) hf
  exact ⟨⟨A, L, c⟩, ⟨⟨txt_of_rows hrow, hc⟩, hcm, hnil⟩, trivial, rfl⟩
theorem field_prt {cs : List Value} {xs : List (DataW H × List MemPlace)} {n i off : Nat} (hi : i < xs.length)
    (h : DataW.trod enc Tryd.prog w base spare held n 22 ((cs.drop off).take (Tryd.prog.cellsOf 22)) = xs[i]?) : ∃ p : Prt, (p.ok w ∧ p.c ≤ maxLen ∧ (p.A = none → p.x.length = 0 ∧ p.c = 0)) ∧ (cs.drop off).take 1 = [p.val] := by
  rw [List.getElem?_eq_getElem hi, show Tryd.prog.cellsOf 22 = 1 by kernel_rfl] at h
  obtain ⟨p, h1, _, h2⟩ := open_prt3 n _ _ h
  exact ⟨p, h1, h2⟩
set_option maxRecDepth 100000 in
theorem open_fil (n : Nat) (cs : List Value) (x) (h : DataW.trod enc Tryd.prog w base spare held n 86 cs = some x) : ∃ f : Fil, f.ok w ∧ cs = filCells f := by
  obtain ⟨xs, m, _, _, hlen, hxl, hf⟩ := DataW.trod_struct Tryd.underlying86 h
  have h38 : Tryd.prog.cellsOf 86 = 2 := by kernel_rfl
  rw [h38] at hlen
  have hxl : xs.length = 2 := hxl
  obtain ⟨s, e0, w0⟩ := field_str Tryd.underlying9 (by omega) (by kernel_rfl) (hf 0 _ rfl)
  obtain ⟨p, ⟨hok, hcm, hnil⟩, e1⟩ := field_prt (by omega) (hf 1 _ rfl)
  refine ⟨⟨s, p.A, p.x, p.c⟩, ⟨hok.1, hok.2, w0, Nat.le_trans hcm (by unfold maxLen; decide), hnil⟩, ?_⟩
  match cs, hlen with
  | [c0, c1], _ =>
    simp at e0 e1
    subst e0 e1
    rfl
set_option maxRecDepth 100000 in
/-- A tree that came in. -/
theorem open_tree {r : Reach} {b0 : Nat} {v : Value} {d : DataW H} {p : List MemPlace} (hv : Value.okWide Tryd.prog w r b0 40 v) (h : DataW.Trod enc Tryd.prog w base spare held 40 v d p) :
    ∃ (A : Option Addr) (L : List Fil) (c : Nat), v = .slice A L.length c ∧ TreeAt w A L ∧ L.length ≤ c ∧ c ≤ 9223372036854775807 ∧ (A = none → L.length = 0 ∧ c = 0) := by
  obtain ⟨a0, len, cap, rfl⟩ := okWide_slice Tryd.underlying40 hv
  obtain ⟨fuel, hf⟩ := h
  obtain ⟨A, L, c, hvs, hc, hcm, hok, hrow, hnil, _⟩ := trod_rows filCells (fun f => f.ok w) (fun _ _ => True) Tryd.underlying40 (k := 2) (by kernel_rfl) (by omega)
    (fun n cs x h => by obtain ⟨y, h1, h2⟩ := open_fil n cs x h; exact ⟨y, h1, trivial, h2⟩) hf
  simp only [Value.cells, List.cons.injEq, and_true] at hvs
  exact ⟨A, L, c, hvs, ⟨hrow, hok⟩, hc, Nat.le_trans hcm (by unfold maxLen; decide), hnil⟩
end

abbrev laidT : List (String × DataW Unit) := [("murmuration/sha.roundWords", Rows.laid_murmuration_sha_roundWords), ("murmuration/sha.firstWords", Rows.laid_murmuration_sha_firstWords)]
/-- The door's own heap meets the condition. -/
theorem door_met (os : Os) (args : Array Value) : laidMetH Tryd.prog laidT ((World.doorLaid Tryd.prog 19 os).forCall (fun _ _ => 0) ⟨#[], args, []⟩).memory :=
  laidMetH_of_parts3 (fuel := 8) (laidMet_of_run' 8 (by kernel_rfl) (by kernel_rfl)) (by kernel_rfl) (by kernel_rfl)
theorem tabs_of_laid {W : World} (h : laidMetH Tryd.prog laidT W) : Tabs W := by
  rw [MakeChecks.laidMetH_plain _ _ _ (by kernel_rfl)] at h
  have hK : Lib.TabIs Tryd.prog W "murmuration/sha.roundWords" .u32 K0 := Lib.tabIs_of_head gK tK Tryd.underlying26 Tryd.underlying24 (by kernel_rfl) (by kernel_rfl) h
  have hH : Lib.TabIs Tryd.prog W "murmuration/sha.firstWords" .u32 H0 := Lib.tabIs_of_head gH tH Tryd.underlying25 Tryd.underlying24 (by kernel_rfl) (by kernel_rfl) (laidMet.tail h)
  refine ⟨fun i hi => hH.cell gH i hi, fun i hi => hK.cell gK i hi, ?_⟩
  have := World.block_lt_of_cell? W _ (hK.cell gK 0 (by decide))
  exact this

end Go.Proofs.YtglfakglcoffkaaDoor
