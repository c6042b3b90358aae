/-
  The row's own facts, by the kernel: parts A C D (GraphNames).
-/
import Derived.Test.YtbadkkilblgpmaaDoorVG
import Derived.Test.YtbadkkilblgpmaaDoorCards
namespace Go.Proofs.YtbadkkilblgpmaaDoor
open Go.ChangeShapes Go.WideShapes Go.ChangeAt Go.RowKit
open Go.WideMaps Go.WideElems
open Go

theorem graphNames_j1 : (laidOutB Tryd.pinned.checked.prog) = true := by kernel_rfl
theorem graphNames_j2 : (mapsRowed Tryd.pinned.checked.prog) = true := by kernel_rfl


open Go.ChangeShapes Go.WideShapes Go.ChangeAt Go.RowKit
open Go.WideMaps Go.WideElems
open Go

theorem graphNames_j22 : ((Rows.graphNamesRow.plainKeys == Tryd.pinned.checked.prog.plainKeys)) = true := by kernel_rfl
theorem graphNames_j24 : (Tryd.pinned.checked.prog.stopsHeard) = true := by kernel_rfl
theorem graphNames_j25 : (Tryd.pinned.checked.prog.mayEnter) = true := io_enter
theorem graphNames_j26 : ((Rows.graphNamesRow.lifted == Tryd.pinned.checked.prog.liftsFinal)) = true := by rw [io_final]; rfl
theorem graphNames_j27 : ((Tryd.pinned.checked.prog.make == some Rows.graphNamesRow.make)) = true := by rw [io_make]; rfl


open Go.ChangeShapes Go.WideShapes Go.ChangeAt Go.RowKit
open Go.WideMaps Go.WideElems
open Go

theorem graphNames_j0 : (Rows.graphNamesRow.wf (OpenSpec.ofChange Rows.graphNamesSpec)) = true := by kernel_rfl
theorem graphNames_j3 : (Tryd.f15.params.all (Tryd.pinned.checked.prog.readableRec ·)) = true := by kernel_rfl
theorem graphNames_j4 : (namedTie Tryd.pinned.checked.prog Rows.graphNamesRow.named Rows.graphNamesSpec.vars) = true := by kernel_rfl
theorem graphNames_j5 : ((Rows.graphNamesRow.stops == [])) = true := by kernel_rfl
theorem graphNames_j6 : ((Tryd.pinned.checked.prog.stops == [])) = true := by kernel_rfl
theorem graphNames_j7 : ((Rows.graphNamesRow.knobs == [])) = true := by kernel_rfl
theorem graphNames_j8 : ((Tryd.pinned.checked.prog.stopKnobs == [])) = true := by kernel_rfl
theorem graphNames_j13 : ((Rows.graphNamesRow.maps == (Tryd.f15.params.toList ++ Rows.graphNamesSpec.plain.varTypes Tryd.pinned.checked.prog).any (Tryd.pinned.checked.prog.mapsRec ·))) = true := by kernel_rfl
theorem graphNames_j14 : ((Rows.graphNamesRow.ifaces == (Tryd.f15.params.toList ++ Rows.graphNamesSpec.plain.varTypes Tryd.pinned.checked.prog).any (Tryd.pinned.checked.prog.ifacesRec ·))) = true := by kernel_rfl
theorem graphNames_j15 : ((Rows.graphNamesRow.mapsOut == Tryd.pinned.checked.prog.mapsAmong Tryd.f15.resultTypes.toList)) = true := by kernel_rfl
theorem graphNames_j16 : ((Rows.graphNamesRow.loops == (Tryd.f15.params.toList ++ Rows.graphNamesSpec.plain.varTypes Tryd.pinned.checked.prog).any (Tryd.pinned.checked.prog.loopsFrom ·))) = true := by kernel_rfl
theorem graphNames_j17 : ((Rows.graphNamesRow.wideKeys == (Tryd.f15.params.toList ++ Rows.graphNamesSpec.plain.varTypes Tryd.pinned.checked.prog ++ Tryd.f15.resultTypes.toList).any (Tryd.pinned.checked.prog.wideKeysFrom ·))) = true := by kernel_rfl
theorem graphNames_j18 : (Rows.graphNamesSpec.vars.all (Tryd.pinned.checked.prog.varReadable ·)) = true := by kernel_rfl
theorem graphNames_j19 : (Tryd.f15.resultTypes.all (fun t => Tryd.pinned.checked.prog.readableRec t && decide (t < Tryd.pinned.checked.prog.types.size))) = true := by kernel_rfl
theorem graphNames_j20 : ((Rows.graphNamesRow.ifacesOut == Tryd.f15.resultTypes.toList.any (Tryd.pinned.checked.prog.ifacesRec ·))) = true := by kernel_rfl
theorem graphNames_j21 : ((Rows.graphNamesRow.loopsOut == Tryd.f15.resultTypes.toList.any (Tryd.pinned.checked.prog.loopsFrom ·))) = true := by kernel_rfl
theorem graphNames_j23 : (Rows.graphNamesRow.shortTexts.isNone) = true := by kernel_rfl
theorem graphNames_j28 : ((Rows.graphNamesRow.kinds == (if Rows.graphNamesRow.domain.isEmpty then [] else Tryd.f15.params.toList.map fun t => match Tryd.pinned.checked.prog.underlying t with | some (.int k) => some k | _ => none))) = true := by kernel_rfl
theorem graphNames_j29 : ((Rows.graphNamesRow.pinned == Rows.graphNamesRow.pinnedBy)) = true := by kernel_rfl
theorem graphNames_j30 : ((Rows.graphNamesRow.veiled == (Tryd.f15.params.toList ++ Rows.graphNamesSpec.plain.varTypes Tryd.pinned.checked.prog ++ Tryd.f15.resultTypes.toList).any (Tryd.pinned.checked.prog.veiledRec ·))) = true := by kernel_rfl
theorem graphNames_j31 : (Rows.graphNamesRow.veiledFits Tryd.pinned.checked.prog Tryd.f15.params.toList (Tryd.f15.params.toList ++ Rows.graphNamesSpec.plain.varTypes Tryd.pinned.checked.prog ++ Tryd.f15.resultTypes.toList)) = true := by kernel_rfl


end Go.Proofs.YtbadkkilblgpmaaDoor
