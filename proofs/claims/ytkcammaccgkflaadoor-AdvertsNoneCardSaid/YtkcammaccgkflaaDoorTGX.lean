/-
  The row's own facts, by the kernel: parts A C D (AdvertsNone).
-/
import Derived.Test.YtkcammaccgkflaaDoorZB
import Derived.Test.YtkcammaccgkflaaDoorCards
import Derived.Test.YtkcammaccgkflaaDoorIO
namespace Go.Proofs.YtkcammaccgkflaaDoor
open Go.ChangeShapes Go.WideShapes Go.ChangeAt Go.RowKit
open Go.WideMaps Go.WideElems
open Go

theorem advertsNone_j1 : (laidOutB Tryd.pinned.checked.prog) = true := by kernel_rfl
theorem advertsNone_j2 : (mapsRowed Tryd.pinned.checked.prog) = true := by kernel_rfl

theorem advertsNone_j22 : ((Rows.advertsNoneRow.plainKeys == Tryd.pinned.checked.prog.plainKeys)) = true := by kernel_rfl
theorem advertsNone_j24 : (Tryd.pinned.checked.prog.stopsHeard) = true := by kernel_rfl
theorem advertsNone_j25 : (Tryd.pinned.checked.prog.mayEnter) = true := io_enter
theorem advertsNone_j26 : ((Rows.advertsNoneRow.lifted == Tryd.pinned.checked.prog.liftsFinal)) = true := by rw [io_final]; rfl
theorem advertsNone_j27 : ((Tryd.pinned.checked.prog.make == some Rows.advertsNoneRow.make)) = true := by rw [io_make]; rfl

theorem advertsNone_j0 : (Rows.advertsNoneRow.wf (OpenSpec.ofChange Rows.advertsNoneSpec)) = true := by kernel_rfl
theorem advertsNone_j3 : (Tryd.f16.params.all (Tryd.pinned.checked.prog.readableRec ·)) = true := by kernel_rfl
theorem advertsNone_j4 : (namedTie Tryd.pinned.checked.prog Rows.advertsNoneRow.named Rows.advertsNoneSpec.vars) = true := by kernel_rfl
theorem advertsNone_j5 : ((Rows.advertsNoneRow.stops == [])) = true := by kernel_rfl
theorem advertsNone_j6 : ((Tryd.pinned.checked.prog.stops == [])) = true := by kernel_rfl
theorem advertsNone_j7 : ((Rows.advertsNoneRow.knobs == [])) = true := by kernel_rfl
theorem advertsNone_j8 : ((Tryd.pinned.checked.prog.stopKnobs == [])) = true := by kernel_rfl
theorem advertsNone_j13 : ((Rows.advertsNoneRow.maps == (Tryd.f16.params.toList ++ Rows.advertsNoneSpec.plain.varTypes Tryd.pinned.checked.prog).any (Tryd.pinned.checked.prog.mapsRec ·))) = true := by kernel_rfl
theorem advertsNone_j14 : ((Rows.advertsNoneRow.ifaces == (Tryd.f16.params.toList ++ Rows.advertsNoneSpec.plain.varTypes Tryd.pinned.checked.prog).any (Tryd.pinned.checked.prog.ifacesRec ·))) = true := by kernel_rfl
theorem advertsNone_j15 : ((Rows.advertsNoneRow.mapsOut == Tryd.pinned.checked.prog.mapsAmong Tryd.f16.resultTypes.toList)) = true := by kernel_rfl
theorem advertsNone_j16 : ((Rows.advertsNoneRow.loops == (Tryd.f16.params.toList ++ Rows.advertsNoneSpec.plain.varTypes Tryd.pinned.checked.prog).any (Tryd.pinned.checked.prog.loopsFrom ·))) = true := by kernel_rfl
theorem advertsNone_j17 : ((Rows.advertsNoneRow.wideKeys == (Tryd.f16.params.toList ++ Rows.advertsNoneSpec.plain.varTypes Tryd.pinned.checked.prog ++ Tryd.f16.resultTypes.toList).any (Tryd.pinned.checked.prog.wideKeysFrom ·))) = true := by kernel_rfl
theorem advertsNone_j18 : (Rows.advertsNoneSpec.vars.all (Tryd.pinned.checked.prog.varReadable ·)) = true := by kernel_rfl
theorem advertsNone_j19 : (Tryd.f16.resultTypes.all (fun t => Tryd.pinned.checked.prog.readableRec t && decide (t < Tryd.pinned.checked.prog.types.size))) = true := by kernel_rfl
theorem advertsNone_j20 : ((Rows.advertsNoneRow.ifacesOut == Tryd.f16.resultTypes.toList.any (Tryd.pinned.checked.prog.ifacesRec ·))) = true := by kernel_rfl
theorem advertsNone_j21 : ((Rows.advertsNoneRow.loopsOut == Tryd.f16.resultTypes.toList.any (Tryd.pinned.checked.prog.loopsFrom ·))) = true := by kernel_rfl
theorem advertsNone_j23 : (Rows.advertsNoneRow.shortTexts.isNone) = true := by kernel_rfl
theorem advertsNone_j28 : ((Rows.advertsNoneRow.kinds == (if Rows.advertsNoneRow.domain.isEmpty then [] else Tryd.f16.params.toList.map fun t => match Tryd.pinned.checked.prog.underlying t with | some (.int k) => some k | _ => none))) = true := by kernel_rfl
theorem advertsNone_j29 : ((Rows.advertsNoneRow.pinned == Rows.advertsNoneRow.pinnedBy)) = true := by kernel_rfl
theorem advertsNone_j30 : ((Rows.advertsNoneRow.veiled == (Tryd.f16.params.toList ++ Rows.advertsNoneSpec.plain.varTypes Tryd.pinned.checked.prog ++ Tryd.f16.resultTypes.toList).any (Tryd.pinned.checked.prog.veiledRec ·))) = true := by kernel_rfl
theorem advertsNone_j31 : (Rows.advertsNoneRow.veiledFits Tryd.pinned.checked.prog Tryd.f16.params.toList (Tryd.f16.params.toList ++ Rows.advertsNoneSpec.plain.varTypes Tryd.pinned.checked.prog ++ Tryd.f16.resultTypes.toList)) = true := by kernel_rfl

end Go.Proofs.YtkcammaccgkflaaDoor
