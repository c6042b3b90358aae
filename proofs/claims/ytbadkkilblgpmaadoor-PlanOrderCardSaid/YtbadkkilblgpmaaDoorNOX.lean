/-
  The row's own facts, by the kernel: parts A C D (PlanOrder).
-/
import Derived.Test.YtbadkkilblgpmaaDoorVN
import Derived.Test.YtbadkkilblgpmaaDoorCards
namespace Go.Proofs.YtbadkkilblgpmaaDoor
open Go.ChangeShapes Go.WideShapes Go.ChangeAt Go.RowKit
open Go.WideMaps Go.WideElems
open Go

theorem planOrder_j1 : (laidOutB Tryd.pinned.checked.prog) = true := by kernel_rfl
theorem planOrder_j2 : (mapsRowed Tryd.pinned.checked.prog) = true := by kernel_rfl


open Go.ChangeShapes Go.WideShapes Go.ChangeAt Go.RowKit
open Go.WideMaps Go.WideElems
open Go

theorem planOrder_j22 : ((Rows.planOrderRow.plainKeys == Tryd.pinned.checked.prog.plainKeys)) = true := by kernel_rfl
theorem planOrder_j24 : (Tryd.pinned.checked.prog.stopsHeard) = true := by kernel_rfl
theorem planOrder_j25 : (Tryd.pinned.checked.prog.mayEnter) = true := io_enter
theorem planOrder_j26 : ((Rows.planOrderRow.lifted == Tryd.pinned.checked.prog.liftsFinal)) = true := by rw [io_final]; rfl
theorem planOrder_j27 : ((Tryd.pinned.checked.prog.make == some Rows.planOrderRow.make)) = true := by rw [io_make]; rfl


open Go.ChangeShapes Go.WideShapes Go.ChangeAt Go.RowKit
open Go.WideMaps Go.WideElems
open Go

theorem planOrder_j0 : (Rows.planOrderRow.wf (OpenSpec.ofChange Rows.planOrderSpec)) = true := by kernel_rfl
theorem planOrder_j3 : (Tryd.f19.params.all (Tryd.pinned.checked.prog.readableRec ·)) = true := by kernel_rfl
theorem planOrder_j4 : (namedTie Tryd.pinned.checked.prog Rows.planOrderRow.named Rows.planOrderSpec.vars) = true := by kernel_rfl
theorem planOrder_j5 : ((Rows.planOrderRow.stops == [])) = true := by kernel_rfl
theorem planOrder_j6 : ((Tryd.pinned.checked.prog.stops == [])) = true := by kernel_rfl
theorem planOrder_j7 : ((Rows.planOrderRow.knobs == [])) = true := by kernel_rfl
theorem planOrder_j8 : ((Tryd.pinned.checked.prog.stopKnobs == [])) = true := by kernel_rfl
theorem planOrder_j13 : ((Rows.planOrderRow.maps == (Tryd.f19.params.toList ++ Rows.planOrderSpec.plain.varTypes Tryd.pinned.checked.prog).any (Tryd.pinned.checked.prog.mapsRec ·))) = true := by kernel_rfl
theorem planOrder_j14 : ((Rows.planOrderRow.ifaces == (Tryd.f19.params.toList ++ Rows.planOrderSpec.plain.varTypes Tryd.pinned.checked.prog).any (Tryd.pinned.checked.prog.ifacesRec ·))) = true := by kernel_rfl
theorem planOrder_j15 : ((Rows.planOrderRow.mapsOut == Tryd.pinned.checked.prog.mapsAmong Tryd.f19.resultTypes.toList)) = true := by kernel_rfl
theorem planOrder_j16 : ((Rows.planOrderRow.loops == (Tryd.f19.params.toList ++ Rows.planOrderSpec.plain.varTypes Tryd.pinned.checked.prog).any (Tryd.pinned.checked.prog.loopsFrom ·))) = true := by kernel_rfl
theorem planOrder_j17 : ((Rows.planOrderRow.wideKeys == (Tryd.f19.params.toList ++ Rows.planOrderSpec.plain.varTypes Tryd.pinned.checked.prog ++ Tryd.f19.resultTypes.toList).any (Tryd.pinned.checked.prog.wideKeysFrom ·))) = true := by kernel_rfl
theorem planOrder_j18 : (Rows.planOrderSpec.vars.all (Tryd.pinned.checked.prog.varReadable ·)) = true := by kernel_rfl
theorem planOrder_j19 : (Tryd.f19.resultTypes.all (fun t => Tryd.pinned.checked.prog.readableRec t && decide (t < Tryd.pinned.checked.prog.types.size))) = true := by kernel_rfl
theorem planOrder_j20 : ((Rows.planOrderRow.ifacesOut == Tryd.f19.resultTypes.toList.any (Tryd.pinned.checked.prog.ifacesRec ·))) = true := by kernel_rfl
theorem planOrder_j21 : ((Rows.planOrderRow.loopsOut == Tryd.f19.resultTypes.toList.any (Tryd.pinned.checked.prog.loopsFrom ·))) = true := by kernel_rfl
theorem planOrder_j23 : (Rows.planOrderRow.shortTexts.isNone) = true := by kernel_rfl
theorem planOrder_j28 : ((Rows.planOrderRow.kinds == (if Rows.planOrderRow.domain.isEmpty then [] else Tryd.f19.params.toList.map fun t => match Tryd.pinned.checked.prog.underlying t with | some (.int k) => some k | _ => none))) = true := by kernel_rfl
theorem planOrder_j29 : ((Rows.planOrderRow.pinned == Rows.planOrderRow.pinnedBy)) = true := by kernel_rfl
theorem planOrder_j30 : ((Rows.planOrderRow.veiled == (Tryd.f19.params.toList ++ Rows.planOrderSpec.plain.varTypes Tryd.pinned.checked.prog ++ Tryd.f19.resultTypes.toList).any (Tryd.pinned.checked.prog.veiledRec ·))) = true := by kernel_rfl
theorem planOrder_j31 : (Rows.planOrderRow.veiledFits Tryd.pinned.checked.prog Tryd.f19.params.toList (Tryd.f19.params.toList ++ Rows.planOrderSpec.plain.varTypes Tryd.pinned.checked.prog ++ Tryd.f19.resultTypes.toList)) = true := by kernel_rfl


end Go.Proofs.YtbadkkilblgpmaaDoor
