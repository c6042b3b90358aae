/-
  The row's own facts, by the kernel: parts A C D (GraphRight).
-/
import Derived.Test.YtbadkkilblgpmaaDoorVG
import Derived.Test.YtbadkkilblgpmaaDoorCards
namespace Go.Proofs.YtbadkkilblgpmaaDoor
open Go.ChangeShapes Go.WideShapes Go.ChangeAt Go.RowKit
open Go.WideMaps Go.WideElems
open Go

theorem graphRight_j1 : (laidOutB Tryd.pinned.checked.prog) = true := by kernel_rfl
theorem graphRight_j2 : (mapsRowed Tryd.pinned.checked.prog) = true := by kernel_rfl


open Go.ChangeShapes Go.WideShapes Go.ChangeAt Go.RowKit
open Go.WideMaps Go.WideElems
open Go

theorem graphRight_j22 : ((Rows.graphRightRow.plainKeys == Tryd.pinned.checked.prog.plainKeys)) = true := by kernel_rfl
theorem graphRight_j24 : (Tryd.pinned.checked.prog.stopsHeard) = true := by kernel_rfl
theorem graphRight_j25 : (Tryd.pinned.checked.prog.mayEnter) = true := io_enter
theorem graphRight_j26 : ((Rows.graphRightRow.lifted == Tryd.pinned.checked.prog.liftsFinal)) = true := by rw [io_final]; rfl
theorem graphRight_j27 : ((Tryd.pinned.checked.prog.make == some Rows.graphRightRow.make)) = true := by rw [io_make]; rfl


open Go.ChangeShapes Go.WideShapes Go.ChangeAt Go.RowKit
open Go.WideMaps Go.WideElems
open Go

theorem graphRight_j0 : (Rows.graphRightRow.wf (OpenSpec.ofChange Rows.graphRightSpec)) = true := by kernel_rfl
theorem graphRight_j3 : (Tryd.f13.params.all (Tryd.pinned.checked.prog.readableRec ·)) = true := by kernel_rfl
theorem graphRight_j4 : (namedTie Tryd.pinned.checked.prog Rows.graphRightRow.named Rows.graphRightSpec.vars) = true := by kernel_rfl
theorem graphRight_j5 : ((Rows.graphRightRow.stops == [])) = true := by kernel_rfl
theorem graphRight_j6 : ((Tryd.pinned.checked.prog.stops == [])) = true := by kernel_rfl
theorem graphRight_j7 : ((Rows.graphRightRow.knobs == [])) = true := by kernel_rfl
theorem graphRight_j8 : ((Tryd.pinned.checked.prog.stopKnobs == [])) = true := by kernel_rfl
theorem graphRight_j13 : ((Rows.graphRightRow.maps == (Tryd.f13.params.toList ++ Rows.graphRightSpec.plain.varTypes Tryd.pinned.checked.prog).any (Tryd.pinned.checked.prog.mapsRec ·))) = true := by kernel_rfl
theorem graphRight_j14 : ((Rows.graphRightRow.ifaces == (Tryd.f13.params.toList ++ Rows.graphRightSpec.plain.varTypes Tryd.pinned.checked.prog).any (Tryd.pinned.checked.prog.ifacesRec ·))) = true := by kernel_rfl
theorem graphRight_j15 : ((Rows.graphRightRow.mapsOut == Tryd.pinned.checked.prog.mapsAmong Tryd.f13.resultTypes.toList)) = true := by kernel_rfl
theorem graphRight_j16 : ((Rows.graphRightRow.loops == (Tryd.f13.params.toList ++ Rows.graphRightSpec.plain.varTypes Tryd.pinned.checked.prog).any (Tryd.pinned.checked.prog.loopsFrom ·))) = true := by kernel_rfl
theorem graphRight_j17 : ((Rows.graphRightRow.wideKeys == (Tryd.f13.params.toList ++ Rows.graphRightSpec.plain.varTypes Tryd.pinned.checked.prog ++ Tryd.f13.resultTypes.toList).any (Tryd.pinned.checked.prog.wideKeysFrom ·))) = true := by kernel_rfl
theorem graphRight_j18 : (Rows.graphRightSpec.vars.all (Tryd.pinned.checked.prog.varReadable ·)) = true := by kernel_rfl
theorem graphRight_j19 : (Tryd.f13.resultTypes.all (fun t => Tryd.pinned.checked.prog.readableRec t && decide (t < Tryd.pinned.checked.prog.types.size))) = true := by kernel_rfl
theorem graphRight_j20 : ((Rows.graphRightRow.ifacesOut == Tryd.f13.resultTypes.toList.any (Tryd.pinned.checked.prog.ifacesRec ·))) = true := by kernel_rfl
theorem graphRight_j21 : ((Rows.graphRightRow.loopsOut == Tryd.f13.resultTypes.toList.any (Tryd.pinned.checked.prog.loopsFrom ·))) = true := by kernel_rfl
theorem graphRight_j23 : (Rows.graphRightRow.shortTexts.isNone) = true := by kernel_rfl
theorem graphRight_j28 : ((Rows.graphRightRow.kinds == (if Rows.graphRightRow.domain.isEmpty then [] else Tryd.f13.params.toList.map fun t => match Tryd.pinned.checked.prog.underlying t with | some (.int k) => some k | _ => none))) = true := by kernel_rfl
theorem graphRight_j29 : ((Rows.graphRightRow.pinned == Rows.graphRightRow.pinnedBy)) = true := by kernel_rfl
theorem graphRight_j30 : ((Rows.graphRightRow.veiled == (Tryd.f13.params.toList ++ Rows.graphRightSpec.plain.varTypes Tryd.pinned.checked.prog ++ Tryd.f13.resultTypes.toList).any (Tryd.pinned.checked.prog.veiledRec ·))) = true := by kernel_rfl
theorem graphRight_j31 : (Rows.graphRightRow.veiledFits Tryd.pinned.checked.prog Tryd.f13.params.toList (Tryd.f13.params.toList ++ Rows.graphRightSpec.plain.varTypes Tryd.pinned.checked.prog ++ Tryd.f13.resultTypes.toList)) = true := by kernel_rfl


end Go.Proofs.YtbadkkilblgpmaaDoor
