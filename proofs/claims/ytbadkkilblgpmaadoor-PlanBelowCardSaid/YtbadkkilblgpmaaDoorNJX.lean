/-
  NJFA NJFC NJFD in one text.
-/
import Derived.Test.YtbadkkilblgpmaaDoorVM
import Derived.Test.YtbadkkilblgpmaaDoorCards
namespace Go.Proofs.YtbadkkilblgpmaaDoor
open Go.ChangeShapes Go.WideShapes Go.ChangeAt Go.RowKit
open Go.WideMaps Go.WideElems
open Go

theorem planBelow_j1 : (laidOutB Tryd.pinned.checked.prog) = true := by kernel_rfl
theorem planBelow_j2 : (mapsRowed Tryd.pinned.checked.prog) = true := by kernel_rfl


open Go.ChangeShapes Go.WideShapes Go.ChangeAt Go.RowKit
open Go.WideMaps Go.WideElems
open Go

theorem planBelow_j22 : ((Rows.planBelowRow.plainKeys == Tryd.pinned.checked.prog.plainKeys)) = true := by kernel_rfl
theorem planBelow_j24 : (Tryd.pinned.checked.prog.stopsHeard) = true := by kernel_rfl
theorem planBelow_j25 : (Tryd.pinned.checked.prog.mayEnter) = true := io_enter
theorem planBelow_j26 : ((Rows.planBelowRow.lifted == Tryd.pinned.checked.prog.liftsFinal)) = true := by rw [io_final]; rfl
theorem planBelow_j27 : ((Tryd.pinned.checked.prog.make == some Rows.planBelowRow.make)) = true := by rw [io_make]; rfl


open Go.ChangeShapes Go.WideShapes Go.ChangeAt Go.RowKit
open Go.WideMaps Go.WideElems
open Go

theorem planBelow_j0 : (Rows.planBelowRow.wf (OpenSpec.ofChange Rows.planBelowSpec)) = true := by kernel_rfl
theorem planBelow_j3 : (Tryd.f18.params.all (Tryd.pinned.checked.prog.readableRec ·)) = true := by kernel_rfl
theorem planBelow_j4 : (namedTie Tryd.pinned.checked.prog Rows.planBelowRow.named Rows.planBelowSpec.vars) = true := by kernel_rfl
theorem planBelow_j5 : ((Rows.planBelowRow.stops == [])) = true := by kernel_rfl
theorem planBelow_j6 : ((Tryd.pinned.checked.prog.stops == [])) = true := by kernel_rfl
theorem planBelow_j7 : ((Rows.planBelowRow.knobs == [])) = true := by kernel_rfl
theorem planBelow_j8 : ((Tryd.pinned.checked.prog.stopKnobs == [])) = true := by kernel_rfl
theorem planBelow_j13 : ((Rows.planBelowRow.maps == (Tryd.f18.params.toList ++ Rows.planBelowSpec.plain.varTypes Tryd.pinned.checked.prog).any (Tryd.pinned.checked.prog.mapsRec ·))) = true := by kernel_rfl
theorem planBelow_j14 : ((Rows.planBelowRow.ifaces == (Tryd.f18.params.toList ++ Rows.planBelowSpec.plain.varTypes Tryd.pinned.checked.prog).any (Tryd.pinned.checked.prog.ifacesRec ·))) = true := by kernel_rfl
theorem planBelow_j15 : ((Rows.planBelowRow.mapsOut == Tryd.pinned.checked.prog.mapsAmong Tryd.f18.resultTypes.toList)) = true := by kernel_rfl
theorem planBelow_j16 : ((Rows.planBelowRow.loops == (Tryd.f18.params.toList ++ Rows.planBelowSpec.plain.varTypes Tryd.pinned.checked.prog).any (Tryd.pinned.checked.prog.loopsFrom ·))) = true := by kernel_rfl
theorem planBelow_j17 : ((Rows.planBelowRow.wideKeys == (Tryd.f18.params.toList ++ Rows.planBelowSpec.plain.varTypes Tryd.pinned.checked.prog ++ Tryd.f18.resultTypes.toList).any (Tryd.pinned.checked.prog.wideKeysFrom ·))) = true := by kernel_rfl
theorem planBelow_j18 : (Rows.planBelowSpec.vars.all (Tryd.pinned.checked.prog.varReadable ·)) = true := by kernel_rfl
theorem planBelow_j19 : (Tryd.f18.resultTypes.all (fun t => Tryd.pinned.checked.prog.readableRec t && decide (t < Tryd.pinned.checked.prog.types.size))) = true := by kernel_rfl
theorem planBelow_j20 : ((Rows.planBelowRow.ifacesOut == Tryd.f18.resultTypes.toList.any (Tryd.pinned.checked.prog.ifacesRec ·))) = true := by kernel_rfl
theorem planBelow_j21 : ((Rows.planBelowRow.loopsOut == Tryd.f18.resultTypes.toList.any (Tryd.pinned.checked.prog.loopsFrom ·))) = true := by kernel_rfl
theorem planBelow_j23 : (Rows.planBelowRow.shortTexts.isNone) = true := by kernel_rfl
theorem planBelow_j28 : ((Rows.planBelowRow.kinds == (if Rows.planBelowRow.domain.isEmpty then [] else Tryd.f18.params.toList.map fun t => match Tryd.pinned.checked.prog.underlying t with | some (.int k) => some k | _ => none))) = true := by kernel_rfl
theorem planBelow_j29 : ((Rows.planBelowRow.pinned == Rows.planBelowRow.pinnedBy)) = true := by kernel_rfl
theorem planBelow_j30 : ((Rows.planBelowRow.veiled == (Tryd.f18.params.toList ++ Rows.planBelowSpec.plain.varTypes Tryd.pinned.checked.prog ++ Tryd.f18.resultTypes.toList).any (Tryd.pinned.checked.prog.veiledRec ·))) = true := by kernel_rfl
theorem planBelow_j31 : (Rows.planBelowRow.veiledFits Tryd.pinned.checked.prog Tryd.f18.params.toList (Tryd.f18.params.toList ++ Rows.planBelowSpec.plain.varTypes Tryd.pinned.checked.prog ++ Tryd.f18.resultTypes.toList)) = true := by kernel_rfl


end Go.Proofs.YtbadkkilblgpmaaDoor
