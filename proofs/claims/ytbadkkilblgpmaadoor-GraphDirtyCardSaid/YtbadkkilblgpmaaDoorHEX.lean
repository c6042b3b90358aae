/-
  The row's own facts, by the kernel: parts A C D (GraphDirty).
-/
import Derived.Test.YtbadkkilblgpmaaDoorVG
import Derived.Test.YtbadkkilblgpmaaDoorCards
namespace Go.Proofs.YtbadkkilblgpmaaDoor
open Go.ChangeShapes Go.WideShapes Go.ChangeAt Go.RowKit
open Go.WideMaps Go.WideElems
open Go

theorem graphDirty_j1 : (laidOutB Tryd.pinned.checked.prog) = true := by kernel_rfl
theorem graphDirty_j2 : (mapsRowed Tryd.pinned.checked.prog) = true := by kernel_rfl


open Go.ChangeShapes Go.WideShapes Go.ChangeAt Go.RowKit
open Go.WideMaps Go.WideElems
open Go

theorem graphDirty_j22 : ((Rows.graphDirtyRow.plainKeys == Tryd.pinned.checked.prog.plainKeys)) = true := by kernel_rfl
theorem graphDirty_j24 : (Tryd.pinned.checked.prog.stopsHeard) = true := by kernel_rfl
theorem graphDirty_j25 : (Tryd.pinned.checked.prog.mayEnter) = true := io_enter
theorem graphDirty_j26 : ((Rows.graphDirtyRow.lifted == Tryd.pinned.checked.prog.liftsFinal)) = true := by rw [io_final]; rfl
theorem graphDirty_j27 : ((Tryd.pinned.checked.prog.make == some Rows.graphDirtyRow.make)) = true := by rw [io_make]; rfl


open Go.ChangeShapes Go.WideShapes Go.ChangeAt Go.RowKit
open Go.WideMaps Go.WideElems
open Go

theorem graphDirty_j0 : (Rows.graphDirtyRow.wf (OpenSpec.ofChange Rows.graphDirtySpec)) = true := by kernel_rfl
theorem graphDirty_j3 : (Tryd.f14.params.all (Tryd.pinned.checked.prog.readableRec ·)) = true := by kernel_rfl
theorem graphDirty_j4 : (namedTie Tryd.pinned.checked.prog Rows.graphDirtyRow.named Rows.graphDirtySpec.vars) = true := by kernel_rfl
theorem graphDirty_j5 : ((Rows.graphDirtyRow.stops == [])) = true := by kernel_rfl
theorem graphDirty_j6 : ((Tryd.pinned.checked.prog.stops == [])) = true := by kernel_rfl
theorem graphDirty_j7 : ((Rows.graphDirtyRow.knobs == [])) = true := by kernel_rfl
theorem graphDirty_j8 : ((Tryd.pinned.checked.prog.stopKnobs == [])) = true := by kernel_rfl
theorem graphDirty_j13 : ((Rows.graphDirtyRow.maps == (Tryd.f14.params.toList ++ Rows.graphDirtySpec.plain.varTypes Tryd.pinned.checked.prog).any (Tryd.pinned.checked.prog.mapsRec ·))) = true := by kernel_rfl
theorem graphDirty_j14 : ((Rows.graphDirtyRow.ifaces == (Tryd.f14.params.toList ++ Rows.graphDirtySpec.plain.varTypes Tryd.pinned.checked.prog).any (Tryd.pinned.checked.prog.ifacesRec ·))) = true := by kernel_rfl
theorem graphDirty_j15 : ((Rows.graphDirtyRow.mapsOut == Tryd.pinned.checked.prog.mapsAmong Tryd.f14.resultTypes.toList)) = true := by kernel_rfl
theorem graphDirty_j16 : ((Rows.graphDirtyRow.loops == (Tryd.f14.params.toList ++ Rows.graphDirtySpec.plain.varTypes Tryd.pinned.checked.prog).any (Tryd.pinned.checked.prog.loopsFrom ·))) = true := by kernel_rfl
theorem graphDirty_j17 : ((Rows.graphDirtyRow.wideKeys == (Tryd.f14.params.toList ++ Rows.graphDirtySpec.plain.varTypes Tryd.pinned.checked.prog ++ Tryd.f14.resultTypes.toList).any (Tryd.pinned.checked.prog.wideKeysFrom ·))) = true := by kernel_rfl
theorem graphDirty_j18 : (Rows.graphDirtySpec.vars.all (Tryd.pinned.checked.prog.varReadable ·)) = true := by kernel_rfl
theorem graphDirty_j19 : (Tryd.f14.resultTypes.all (fun t => Tryd.pinned.checked.prog.readableRec t && decide (t < Tryd.pinned.checked.prog.types.size))) = true := by kernel_rfl
theorem graphDirty_j20 : ((Rows.graphDirtyRow.ifacesOut == Tryd.f14.resultTypes.toList.any (Tryd.pinned.checked.prog.ifacesRec ·))) = true := by kernel_rfl
theorem graphDirty_j21 : ((Rows.graphDirtyRow.loopsOut == Tryd.f14.resultTypes.toList.any (Tryd.pinned.checked.prog.loopsFrom ·))) = true := by kernel_rfl
theorem graphDirty_j23 : (Rows.graphDirtyRow.shortTexts.isNone) = true := by kernel_rfl
theorem graphDirty_j28 : ((Rows.graphDirtyRow.kinds == (if Rows.graphDirtyRow.domain.isEmpty then [] else Tryd.f14.params.toList.map fun t => match Tryd.pinned.checked.prog.underlying t with | some (.int k) => some k | _ => none))) = true := by kernel_rfl
theorem graphDirty_j29 : ((Rows.graphDirtyRow.pinned == Rows.graphDirtyRow.pinnedBy)) = true := by kernel_rfl
theorem graphDirty_j30 : ((Rows.graphDirtyRow.veiled == (Tryd.f14.params.toList ++ Rows.graphDirtySpec.plain.varTypes Tryd.pinned.checked.prog ++ Tryd.f14.resultTypes.toList).any (Tryd.pinned.checked.prog.veiledRec ·))) = true := by kernel_rfl
theorem graphDirty_j31 : (Rows.graphDirtyRow.veiledFits Tryd.pinned.checked.prog Tryd.f14.params.toList (Tryd.f14.params.toList ++ Rows.graphDirtySpec.plain.varTypes Tryd.pinned.checked.prog ++ Tryd.f14.resultTypes.toList)) = true := by kernel_rfl


end Go.Proofs.YtbadkkilblgpmaaDoor
