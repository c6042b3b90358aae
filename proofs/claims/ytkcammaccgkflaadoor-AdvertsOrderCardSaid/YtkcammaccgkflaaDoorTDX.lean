/-
  The row's own facts, by the kernel: parts A C D (AdvertsOrder).
-/
import Derived.Test.YtkcammaccgkflaaDoorZB
import Derived.Test.YtkcammaccgkflaaDoorCards
import Derived.Test.YtkcammaccgkflaaDoorIO
namespace Go.Proofs.YtkcammaccgkflaaDoor
open Go.ChangeShapes Go.WideShapes Go.ChangeAt Go.RowKit
open Go.WideMaps Go.WideElems
open Go

theorem advertsOrder_j1 : (laidOutB Tryd.pinned.checked.prog) = true := by kernel_rfl
theorem advertsOrder_j2 : (mapsRowed Tryd.pinned.checked.prog) = true := by kernel_rfl

theorem advertsOrder_j22 : ((Rows.advertsOrderRow.plainKeys == Tryd.pinned.checked.prog.plainKeys)) = true := by kernel_rfl
theorem advertsOrder_j24 : (Tryd.pinned.checked.prog.stopsHeard) = true := by kernel_rfl
theorem advertsOrder_j25 : (Tryd.pinned.checked.prog.mayEnter) = true := io_enter
theorem advertsOrder_j26 : ((Rows.advertsOrderRow.lifted == Tryd.pinned.checked.prog.liftsFinal)) = true := by rw [io_final]; rfl
theorem advertsOrder_j27 : ((Tryd.pinned.checked.prog.make == some Rows.advertsOrderRow.make)) = true := by rw [io_make]; rfl

theorem advertsOrder_j0 : (Rows.advertsOrderRow.wf (OpenSpec.ofChange Rows.advertsOrderSpec)) = true := by kernel_rfl
theorem advertsOrder_j3 : (Tryd.f17.params.all (Tryd.pinned.checked.prog.readableRec ·)) = true := by kernel_rfl
theorem advertsOrder_j4 : (namedTie Tryd.pinned.checked.prog Rows.advertsOrderRow.named Rows.advertsOrderSpec.vars) = true := by kernel_rfl
theorem advertsOrder_j5 : ((Rows.advertsOrderRow.stops == [])) = true := by kernel_rfl
theorem advertsOrder_j6 : ((Tryd.pinned.checked.prog.stops == [])) = true := by kernel_rfl
theorem advertsOrder_j7 : ((Rows.advertsOrderRow.knobs == [])) = true := by kernel_rfl
theorem advertsOrder_j8 : ((Tryd.pinned.checked.prog.stopKnobs == [])) = true := by kernel_rfl
theorem advertsOrder_j13 : ((Rows.advertsOrderRow.maps == (Tryd.f17.params.toList ++ Rows.advertsOrderSpec.plain.varTypes Tryd.pinned.checked.prog).any (Tryd.pinned.checked.prog.mapsRec ·))) = true := by kernel_rfl
theorem advertsOrder_j14 : ((Rows.advertsOrderRow.ifaces == (Tryd.f17.params.toList ++ Rows.advertsOrderSpec.plain.varTypes Tryd.pinned.checked.prog).any (Tryd.pinned.checked.prog.ifacesRec ·))) = true := by kernel_rfl
theorem advertsOrder_j15 : ((Rows.advertsOrderRow.mapsOut == Tryd.pinned.checked.prog.mapsAmong Tryd.f17.resultTypes.toList)) = true := by kernel_rfl
theorem advertsOrder_j16 : ((Rows.advertsOrderRow.loops == (Tryd.f17.params.toList ++ Rows.advertsOrderSpec.plain.varTypes Tryd.pinned.checked.prog).any (Tryd.pinned.checked.prog.loopsFrom ·))) = true := by kernel_rfl
theorem advertsOrder_j17 : ((Rows.advertsOrderRow.wideKeys == (Tryd.f17.params.toList ++ Rows.advertsOrderSpec.plain.varTypes Tryd.pinned.checked.prog ++ Tryd.f17.resultTypes.toList).any (Tryd.pinned.checked.prog.wideKeysFrom ·))) = true := by kernel_rfl
theorem advertsOrder_j18 : (Rows.advertsOrderSpec.vars.all (Tryd.pinned.checked.prog.varReadable ·)) = true := by kernel_rfl
theorem advertsOrder_j19 : (Tryd.f17.resultTypes.all (fun t => Tryd.pinned.checked.prog.readableRec t && decide (t < Tryd.pinned.checked.prog.types.size))) = true := by kernel_rfl
theorem advertsOrder_j20 : ((Rows.advertsOrderRow.ifacesOut == Tryd.f17.resultTypes.toList.any (Tryd.pinned.checked.prog.ifacesRec ·))) = true := by kernel_rfl
theorem advertsOrder_j21 : ((Rows.advertsOrderRow.loopsOut == Tryd.f17.resultTypes.toList.any (Tryd.pinned.checked.prog.loopsFrom ·))) = true := by kernel_rfl
theorem advertsOrder_j23 : (Rows.advertsOrderRow.shortTexts.isNone) = true := by kernel_rfl
theorem advertsOrder_j28 : ((Rows.advertsOrderRow.kinds == (if Rows.advertsOrderRow.domain.isEmpty then [] else Tryd.f17.params.toList.map fun t => match Tryd.pinned.checked.prog.underlying t with | some (.int k) => some k | _ => none))) = true := by kernel_rfl
theorem advertsOrder_j29 : ((Rows.advertsOrderRow.pinned == Rows.advertsOrderRow.pinnedBy)) = true := by kernel_rfl
theorem advertsOrder_j30 : ((Rows.advertsOrderRow.veiled == (Tryd.f17.params.toList ++ Rows.advertsOrderSpec.plain.varTypes Tryd.pinned.checked.prog ++ Tryd.f17.resultTypes.toList).any (Tryd.pinned.checked.prog.veiledRec ·))) = true := by kernel_rfl
theorem advertsOrder_j31 : (Rows.advertsOrderRow.veiledFits Tryd.pinned.checked.prog Tryd.f17.params.toList (Tryd.f17.params.toList ++ Rows.advertsOrderSpec.plain.varTypes Tryd.pinned.checked.prog ++ Tryd.f17.resultTypes.toList)) = true := by kernel_rfl

end Go.Proofs.YtkcammaccgkflaaDoor
