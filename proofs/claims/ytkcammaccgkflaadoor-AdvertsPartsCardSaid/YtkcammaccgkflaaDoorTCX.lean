/-
  The row's own facts, by the kernel: parts A C D (AdvertsParts).
-/
import Derived.Test.YtkcammaccgkflaaDoorZB
import Derived.Test.YtkcammaccgkflaaDoorCards
import Derived.Test.YtkcammaccgkflaaDoorIO
namespace Go.Proofs.YtkcammaccgkflaaDoor
open Go.ChangeShapes Go.WideShapes Go.ChangeAt Go.RowKit
open Go.WideMaps Go.WideElems
open Go

theorem advertsParts_j1 : (laidOutB Tryd.pinned.checked.prog) = true := by kernel_rfl
theorem advertsParts_j2 : (mapsRowed Tryd.pinned.checked.prog) = true := by kernel_rfl

theorem advertsParts_j22 : ((Rows.advertsPartsRow.plainKeys == Tryd.pinned.checked.prog.plainKeys)) = true := by kernel_rfl
theorem advertsParts_j24 : (Tryd.pinned.checked.prog.stopsHeard) = true := by kernel_rfl
theorem advertsParts_j25 : (Tryd.pinned.checked.prog.mayEnter) = true := io_enter
theorem advertsParts_j26 : ((Rows.advertsPartsRow.lifted == Tryd.pinned.checked.prog.liftsFinal)) = true := by rw [io_final]; rfl
theorem advertsParts_j27 : ((Tryd.pinned.checked.prog.make == some Rows.advertsPartsRow.make)) = true := by rw [io_make]; rfl

theorem advertsParts_j0 : (Rows.advertsPartsRow.wf (OpenSpec.ofChange Rows.advertsPartsSpec)) = true := by kernel_rfl
theorem advertsParts_j3 : (Tryd.f18.params.all (Tryd.pinned.checked.prog.readableRec ·)) = true := by kernel_rfl
theorem advertsParts_j4 : (namedTie Tryd.pinned.checked.prog Rows.advertsPartsRow.named Rows.advertsPartsSpec.vars) = true := by kernel_rfl
theorem advertsParts_j5 : ((Rows.advertsPartsRow.stops == [])) = true := by kernel_rfl
theorem advertsParts_j6 : ((Tryd.pinned.checked.prog.stops == [])) = true := by kernel_rfl
theorem advertsParts_j7 : ((Rows.advertsPartsRow.knobs == [])) = true := by kernel_rfl
theorem advertsParts_j8 : ((Tryd.pinned.checked.prog.stopKnobs == [])) = true := by kernel_rfl
theorem advertsParts_j13 : ((Rows.advertsPartsRow.maps == (Tryd.f18.params.toList ++ Rows.advertsPartsSpec.plain.varTypes Tryd.pinned.checked.prog).any (Tryd.pinned.checked.prog.mapsRec ·))) = true := by kernel_rfl
theorem advertsParts_j14 : ((Rows.advertsPartsRow.ifaces == (Tryd.f18.params.toList ++ Rows.advertsPartsSpec.plain.varTypes Tryd.pinned.checked.prog).any (Tryd.pinned.checked.prog.ifacesRec ·))) = true := by kernel_rfl
theorem advertsParts_j15 : ((Rows.advertsPartsRow.mapsOut == Tryd.pinned.checked.prog.mapsAmong Tryd.f18.resultTypes.toList)) = true := by kernel_rfl
theorem advertsParts_j16 : ((Rows.advertsPartsRow.loops == (Tryd.f18.params.toList ++ Rows.advertsPartsSpec.plain.varTypes Tryd.pinned.checked.prog).any (Tryd.pinned.checked.prog.loopsFrom ·))) = true := by kernel_rfl
theorem advertsParts_j17 : ((Rows.advertsPartsRow.wideKeys == (Tryd.f18.params.toList ++ Rows.advertsPartsSpec.plain.varTypes Tryd.pinned.checked.prog ++ Tryd.f18.resultTypes.toList).any (Tryd.pinned.checked.prog.wideKeysFrom ·))) = true := by kernel_rfl
theorem advertsParts_j18 : (Rows.advertsPartsSpec.vars.all (Tryd.pinned.checked.prog.varReadable ·)) = true := by kernel_rfl
theorem advertsParts_j19 : (Tryd.f18.resultTypes.all (fun t => Tryd.pinned.checked.prog.readableRec t && decide (t < Tryd.pinned.checked.prog.types.size))) = true := by kernel_rfl
theorem advertsParts_j20 : ((Rows.advertsPartsRow.ifacesOut == Tryd.f18.resultTypes.toList.any (Tryd.pinned.checked.prog.ifacesRec ·))) = true := by kernel_rfl
theorem advertsParts_j21 : ((Rows.advertsPartsRow.loopsOut == Tryd.f18.resultTypes.toList.any (Tryd.pinned.checked.prog.loopsFrom ·))) = true := by kernel_rfl
theorem advertsParts_j23 : (Rows.advertsPartsRow.shortTexts.isNone) = true := by kernel_rfl
theorem advertsParts_j28 : ((Rows.advertsPartsRow.kinds == (if Rows.advertsPartsRow.domain.isEmpty then [] else Tryd.f18.params.toList.map fun t => match Tryd.pinned.checked.prog.underlying t with | some (.int k) => some k | _ => none))) = true := by kernel_rfl
theorem advertsParts_j29 : ((Rows.advertsPartsRow.pinned == Rows.advertsPartsRow.pinnedBy)) = true := by kernel_rfl
theorem advertsParts_j30 : ((Rows.advertsPartsRow.veiled == (Tryd.f18.params.toList ++ Rows.advertsPartsSpec.plain.varTypes Tryd.pinned.checked.prog ++ Tryd.f18.resultTypes.toList).any (Tryd.pinned.checked.prog.veiledRec ·))) = true := by kernel_rfl
theorem advertsParts_j31 : (Rows.advertsPartsRow.veiledFits Tryd.pinned.checked.prog Tryd.f18.params.toList (Tryd.f18.params.toList ++ Rows.advertsPartsSpec.plain.varTypes Tryd.pinned.checked.prog ++ Tryd.f18.resultTypes.toList)) = true := by kernel_rfl

end Go.Proofs.YtkcammaccgkflaaDoor
