/-
  The row's own facts, by the kernel: parts A C D (GraphEnds).
-/
import Derived.Test.YtbadkkilblgpmaaDoorVG
import Derived.Test.YtbadkkilblgpmaaDoorCards
namespace Go.Proofs.YtbadkkilblgpmaaDoor
open Go.ChangeShapes Go.WideShapes Go.ChangeAt Go.RowKit
open Go.WideMaps Go.WideElems
open Go

theorem graphEnds_j1 : (laidOutB Tryd.pinned.checked.prog) = true := by kernel_rfl
theorem graphEnds_j2 : (mapsRowed Tryd.pinned.checked.prog) = true := by kernel_rfl


open Go.ChangeShapes Go.WideShapes Go.ChangeAt Go.RowKit
open Go.WideMaps Go.WideElems
open Go

theorem graphEnds_j22 : ((Rows.graphEndsRow.plainKeys == Tryd.pinned.checked.prog.plainKeys)) = true := by kernel_rfl
theorem graphEnds_j24 : (Tryd.pinned.checked.prog.stopsHeard) = true := by kernel_rfl
theorem graphEnds_j25 : (Tryd.pinned.checked.prog.mayEnter) = true := io_enter
theorem graphEnds_j26 : ((Rows.graphEndsRow.lifted == Tryd.pinned.checked.prog.liftsFinal)) = true := by rw [io_final]; rfl
theorem graphEnds_j27 : ((Tryd.pinned.checked.prog.make == some Rows.graphEndsRow.make)) = true := by rw [io_make]; rfl


open Go.ChangeShapes Go.WideShapes Go.ChangeAt Go.RowKit
open Go.WideMaps Go.WideElems
open Go

theorem graphEnds_j0 : (Rows.graphEndsRow.wf (OpenSpec.ofChange Rows.graphEndsSpec)) = true := by kernel_rfl
theorem graphEnds_j3 : (Tryd.f16.params.all (Tryd.pinned.checked.prog.readableRec ·)) = true := by kernel_rfl
theorem graphEnds_j4 : (namedTie Tryd.pinned.checked.prog Rows.graphEndsRow.named Rows.graphEndsSpec.vars) = true := by kernel_rfl
theorem graphEnds_j5 : ((Rows.graphEndsRow.stops == [])) = true := by kernel_rfl
theorem graphEnds_j6 : ((Tryd.pinned.checked.prog.stops == [])) = true := by kernel_rfl
theorem graphEnds_j7 : ((Rows.graphEndsRow.knobs == [])) = true := by kernel_rfl
theorem graphEnds_j8 : ((Tryd.pinned.checked.prog.stopKnobs == [])) = true := by kernel_rfl
theorem graphEnds_j13 : ((Rows.graphEndsRow.maps == (Tryd.f16.params.toList ++ Rows.graphEndsSpec.plain.varTypes Tryd.pinned.checked.prog).any (Tryd.pinned.checked.prog.mapsRec ·))) = true := by kernel_rfl
theorem graphEnds_j14 : ((Rows.graphEndsRow.ifaces == (Tryd.f16.params.toList ++ Rows.graphEndsSpec.plain.varTypes Tryd.pinned.checked.prog).any (Tryd.pinned.checked.prog.ifacesRec ·))) = true := by kernel_rfl
theorem graphEnds_j15 : ((Rows.graphEndsRow.mapsOut == Tryd.pinned.checked.prog.mapsAmong Tryd.f16.resultTypes.toList)) = true := by kernel_rfl
theorem graphEnds_j16 : ((Rows.graphEndsRow.loops == (Tryd.f16.params.toList ++ Rows.graphEndsSpec.plain.varTypes Tryd.pinned.checked.prog).any (Tryd.pinned.checked.prog.loopsFrom ·))) = true := by kernel_rfl
theorem graphEnds_j17 : ((Rows.graphEndsRow.wideKeys == (Tryd.f16.params.toList ++ Rows.graphEndsSpec.plain.varTypes Tryd.pinned.checked.prog ++ Tryd.f16.resultTypes.toList).any (Tryd.pinned.checked.prog.wideKeysFrom ·))) = true := by kernel_rfl
theorem graphEnds_j18 : (Rows.graphEndsSpec.vars.all (Tryd.pinned.checked.prog.varReadable ·)) = true := by kernel_rfl
theorem graphEnds_j19 : (Tryd.f16.resultTypes.all (fun t => Tryd.pinned.checked.prog.readableRec t && decide (t < Tryd.pinned.checked.prog.types.size))) = true := by kernel_rfl
theorem graphEnds_j20 : ((Rows.graphEndsRow.ifacesOut == Tryd.f16.resultTypes.toList.any (Tryd.pinned.checked.prog.ifacesRec ·))) = true := by kernel_rfl
theorem graphEnds_j21 : ((Rows.graphEndsRow.loopsOut == Tryd.f16.resultTypes.toList.any (Tryd.pinned.checked.prog.loopsFrom ·))) = true := by kernel_rfl
theorem graphEnds_j23 : (Rows.graphEndsRow.shortTexts.isNone) = true := by kernel_rfl
theorem graphEnds_j28 : ((Rows.graphEndsRow.kinds == (if Rows.graphEndsRow.domain.isEmpty then [] else Tryd.f16.params.toList.map fun t => match Tryd.pinned.checked.prog.underlying t with | some (.int k) => some k | _ => none))) = true := by kernel_rfl
theorem graphEnds_j29 : ((Rows.graphEndsRow.pinned == Rows.graphEndsRow.pinnedBy)) = true := by kernel_rfl
theorem graphEnds_j30 : ((Rows.graphEndsRow.veiled == (Tryd.f16.params.toList ++ Rows.graphEndsSpec.plain.varTypes Tryd.pinned.checked.prog ++ Tryd.f16.resultTypes.toList).any (Tryd.pinned.checked.prog.veiledRec ·))) = true := by kernel_rfl
theorem graphEnds_j31 : (Rows.graphEndsRow.veiledFits Tryd.pinned.checked.prog Tryd.f16.params.toList (Tryd.f16.params.toList ++ Rows.graphEndsSpec.plain.varTypes Tryd.pinned.checked.prog ++ Tryd.f16.resultTypes.toList)) = true := by kernel_rfl


end Go.Proofs.YtbadkkilblgpmaaDoor
