/-
  A digest among a law's arguments, opened.
-/
import Derived.Test.YtehpigmcmgfkoaaDoorV
import Derived.WideKeyArr2
namespace Go.Proofs.YtehpigmcmgfkoaaDoor
open Go.ChangeShapes Go.WideShapes Go.ChangeAt Go.RowKit
open Go.WideMaps Go.WideElems

theorem key30 : ArrKey Tryd.prog 30 5 32 := ⟨Tryd.underlying30, by kernel_rfl, by kernel_rfl, by kernel_rfl⟩

section
variable {H : Type} {enc : TypeId × Value → H} {w : World} {base : Nat} {spare : Nat → Bool} {held : Bool}

/-- The cells of a digest. -/
theorem digest_cells (fuel : Nat) (cs : List Value) (x) (h : DataW.trod enc Tryd.prog w base spare held fuel 30 cs = some x) : ∃ a : List UInt8, a.length = 32 ∧ cs = byteVals a := by
  obtain ⟨xs, m, rfl, rfl, hl, hn, hel⟩ := DataW.trod_array Tryd.underlying30 h
  have c30 : Tryd.prog.cellsOf 30 = 32 := by kernel_rfl
  have c5 : Tryd.prog.cellsOf 5 = 1 := by kernel_rfl
  rw [c30] at hl
  rw [c5] at hel
  obtain ⟨F, hF⟩ := Go.Deep.choose_lt (α := UInt8) (n := 32) (p := fun i y => cs[i]? = some (.int .u8 y.toNat)) (fun i hi => by
    have h1 := hel i hi
    rw [List.getElem?_eq_getElem (by omega)] at h1
    obtain ⟨y, _, hy⟩ := open_u8 _ _ _ h1
    refine ⟨y, ?_⟩
    have h2 := congrArg (fun l => l[0]?) hy
    simp only [u8Cells, Nat.mul_one, List.getElem?_take, List.getElem?_drop, List.getElem?_cons_zero] at h2
    simpa using h2)
  refine ⟨(List.range 32).map F, by simp, ?_⟩
  apply List.ext_getElem?
  intro i
  by_cases hi : i < 32
  · rw [hF i hi]
    refine (byteVals_get ?_).symm
    rw [List.getElem?_map, List.getElem?_range hi]; rfl
  · rw [List.getElem?_eq_none (by omega), List.getElem?_eq_none (by rw [byteVals_len]; simp; omega)]

set_option maxRecDepth 100000 in
theorem open_digest {r : Reach} {b0 : Nat} {v : Value} {d : DataW H} {p : List MemPlace} (hv : Value.okWide Tryd.prog w r b0 30 v) (h : DataW.Trod enc Tryd.prog w base spare held 30 v d p) :
    ∃ a : List UInt8, a.length = 32 ∧ v = .agg (byteVals a).toArray := by
  obtain ⟨xs, rfl, hn⟩ := okWide_arr key30 hv
  obtain ⟨fuel, hf⟩ := h
  obtain ⟨a, ha, hc⟩ := digest_cells fuel _ _ hf
  refine ⟨a, ha, ?_⟩
  have hc : xs.toList = byteVals a := hc
  rw [← hc]
end

end Go.Proofs.YtehpigmcmgfkoaaDoor
