/-
  The row's own facts, by the kernel: parts A C D (PlanGrows).
-/
import Derived.Test.YtbadkkilblgpmaaDoorVN
import Derived.Test.YtbadkkilblgpmaaDoorCards
namespace Go.Proofs.YtbadkkilblgpmaaDoor
open Go.ChangeShapes Go.WideShapes Go.ChangeAt Go.RowKit
open Go.WideMaps Go.WideElems
open Go

theorem planGrows_j1 : (laidOutB Tryd.pinned.checked.prog) = true := by kernel_rfl
theorem planGrows_j2 : (mapsRowed Tryd.pinned.checked.prog) = true := by kernel_rfl


open Go.ChangeShapes Go.WideShapes Go.ChangeAt Go.RowKit
open Go.WideMaps Go.WideElems
open Go

theorem planGrows_j22 : ((Rows.planGrowsRow.plainKeys == Tryd.pinned.checked.prog.plainKeys)) = true := by kernel_rfl
theorem planGrows_j24 : (Tryd.pinned.checked.prog.stopsHeard) = true := by kernel_rfl
theorem planGrows_j25 : (Tryd.pinned.checked.prog.mayEnter) = true := io_enter
theorem planGrows_j26 : ((Rows.planGrowsRow.lifted == Tryd.pinned.checked.prog.liftsFinal)) = true := by rw [io_final]; rfl
theorem planGrows_j27 : ((Tryd.pinned.checked.prog.make == some Rows.planGrowsRow.make)) = true := by rw [io_make]; rfl


open Go.ChangeShapes Go.WideShapes Go.ChangeAt Go.RowKit
open Go.WideMaps Go.WideElems
open Go

theorem planGrows_j0 : (Rows.planGrowsRow.wf (OpenSpec.ofChange Rows.planGrowsSpec)) = true := by kernel_rfl
theorem planGrows_j3 : (Tryd.f20.params.all (Tryd.pinned.checked.prog.readableRec ·)) = true := by kernel_rfl
theorem planGrows_j4 : (namedTie Tryd.pinned.checked.prog Rows.planGrowsRow.named Rows.planGrowsSpec.vars) = true := by kernel_rfl
theorem planGrows_j5 : ((Rows.planGrowsRow.stops == [])) = true := by kernel_rfl
theorem planGrows_j6 : ((Tryd.pinned.checked.prog.stops == [])) = true := by kernel_rfl
theorem planGrows_j7 : ((Rows.planGrowsRow.knobs == [])) = true := by kernel_rfl
theorem planGrows_j8 : ((Tryd.pinned.checked.prog.stopKnobs == [])) = true := by kernel_rfl
theorem planGrows_j13 : ((Rows.planGrowsRow.maps == (Tryd.f20.params.toList ++ Rows.planGrowsSpec.plain.varTypes Tryd.pinned.checked.prog).any (Tryd.pinned.checked.prog.mapsRec ·))) = true := by kernel_rfl
theorem planGrows_j14 : ((Rows.planGrowsRow.ifaces == (Tryd.f20.params.toList ++ Rows.planGrowsSpec.plain.varTypes Tryd.pinned.checked.prog).any (Tryd.pinned.checked.prog.ifacesRec ·))) = true := by kernel_rfl
theorem planGrows_j15 : ((Rows.planGrowsRow.mapsOut == Tryd.pinned.checked.prog.mapsAmong Tryd.f20.resultTypes.toList)) = true := by kernel_rfl
theorem planGrows_j16 : ((Rows.planGrowsRow.loops == (Tryd.f20.params.toList ++ Rows.planGrowsSpec.plain.varTypes Tryd.pinned.checked.prog).any (Tryd.pinned.checked.prog.loopsFrom ·))) = true := by kernel_rfl
theorem planGrows_j17 : ((Rows.planGrowsRow.wideKeys == (Tryd.f20.params.toList ++ Rows.planGrowsSpec.plain.varTypes Tryd.pinned.checked.prog ++ Tryd.f20.resultTypes.toList).any (Tryd.pinned.checked.prog.wideKeysFrom ·))) = true := by kernel_rfl
theorem planGrows_j18 : (Rows.planGrowsSpec.vars.all (Tryd.pinned.checked.prog.varReadable ·)) = true := by kernel_rfl
theorem planGrows_j19 : (Tryd.f20.resultTypes.all (fun t => Tryd.pinned.checked.prog.readableRec t && decide (t < Tryd.pinned.checked.prog.types.size))) = true := by kernel_rfl
theorem planGrows_j20 : ((Rows.planGrowsRow.ifacesOut == Tryd.f20.resultTypes.toList.any (Tryd.pinned.checked.prog.ifacesRec ·))) = true := by kernel_rfl
theorem planGrows_j21 : ((Rows.planGrowsRow.loopsOut == Tryd.f20.resultTypes.toList.any (Tryd.pinned.checked.prog.loopsFrom ·))) = true := by kernel_rfl
theorem planGrows_j23 : (Rows.planGrowsRow.shortTexts.isNone) = true := by kernel_rfl
theorem planGrows_j28 : ((Rows.planGrowsRow.kinds == (if Rows.planGrowsRow.domain.isEmpty then [] else Tryd.f20.params.toList.map fun t => match Tryd.pinned.checked.prog.underlying t with | some (.int k) => some k | _ => none))) = true := by kernel_rfl
theorem planGrows_j29 : ((Rows.planGrowsRow.pinned == Rows.planGrowsRow.pinnedBy)) = true := by kernel_rfl
theorem planGrows_j30 : ((Rows.planGrowsRow.veiled == (Tryd.f20.params.toList ++ Rows.planGrowsSpec.plain.varTypes Tryd.pinned.checked.prog ++ Tryd.f20.resultTypes.toList).any (Tryd.pinned.checked.prog.veiledRec ·))) = true := by kernel_rfl
theorem planGrows_j31 : (Rows.planGrowsRow.veiledFits Tryd.pinned.checked.prog Tryd.f20.params.toList (Tryd.f20.params.toList ++ Rows.planGrowsSpec.plain.varTypes Tryd.pinned.checked.prog ++ Tryd.f20.resultTypes.toList)) = true := by kernel_rfl


end Go.Proofs.YtbadkkilblgpmaaDoor
