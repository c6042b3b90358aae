/-
  The row's own facts, by the kernel: parts A C D (AdvertsMost).
-/
import Derived.Test.YtkcammaccgkflaaDoorZB
import Derived.Test.YtkcammaccgkflaaDoorCards
import Derived.Test.YtkcammaccgkflaaDoorIO
namespace Go.Proofs.YtkcammaccgkflaaDoor
open Go.ChangeShapes Go.WideShapes Go.ChangeAt Go.RowKit
open Go.WideMaps Go.WideElems
open Go

theorem advertsMost_j1 : (laidOutB Tryd.pinned.checked.prog) = true := by kernel_rfl
theorem advertsMost_j2 : (mapsRowed Tryd.pinned.checked.prog) = true := by kernel_rfl

theorem advertsMost_j22 : ((Rows.advertsMostRow.plainKeys == Tryd.pinned.checked.prog.plainKeys)) = true := by kernel_rfl
theorem advertsMost_j24 : (Tryd.pinned.checked.prog.stopsHeard) = true := by kernel_rfl
theorem advertsMost_j25 : (Tryd.pinned.checked.prog.mayEnter) = true := io_enter
theorem advertsMost_j26 : ((Rows.advertsMostRow.lifted == Tryd.pinned.checked.prog.liftsFinal)) = true := by rw [io_final]; rfl
theorem advertsMost_j27 : ((Tryd.pinned.checked.prog.make == some Rows.advertsMostRow.make)) = true := by rw [io_make]; rfl

theorem advertsMost_j0 : (Rows.advertsMostRow.wf (OpenSpec.ofChange Rows.advertsMostSpec)) = true := by kernel_rfl
theorem advertsMost_j3 : (Tryd.f20.params.all (Tryd.pinned.checked.prog.readableRec ·)) = true := by kernel_rfl
theorem advertsMost_j4 : (namedTie Tryd.pinned.checked.prog Rows.advertsMostRow.named Rows.advertsMostSpec.vars) = true := by kernel_rfl
theorem advertsMost_j5 : ((Rows.advertsMostRow.stops == [])) = true := by kernel_rfl
theorem advertsMost_j6 : ((Tryd.pinned.checked.prog.stops == [])) = true := by kernel_rfl
theorem advertsMost_j7 : ((Rows.advertsMostRow.knobs == [])) = true := by kernel_rfl
theorem advertsMost_j8 : ((Tryd.pinned.checked.prog.stopKnobs == [])) = true := by kernel_rfl
theorem advertsMost_j13 : ((Rows.advertsMostRow.maps == (Tryd.f20.params.toList ++ Rows.advertsMostSpec.plain.varTypes Tryd.pinned.checked.prog).any (Tryd.pinned.checked.prog.mapsRec ·))) = true := by kernel_rfl
theorem advertsMost_j14 : ((Rows.advertsMostRow.ifaces == (Tryd.f20.params.toList ++ Rows.advertsMostSpec.plain.varTypes Tryd.pinned.checked.prog).any (Tryd.pinned.checked.prog.ifacesRec ·))) = true := by kernel_rfl
theorem advertsMost_j15 : ((Rows.advertsMostRow.mapsOut == Tryd.pinned.checked.prog.mapsAmong Tryd.f20.resultTypes.toList)) = true := by kernel_rfl
theorem advertsMost_j16 : ((Rows.advertsMostRow.loops == (Tryd.f20.params.toList ++ Rows.advertsMostSpec.plain.varTypes Tryd.pinned.checked.prog).any (Tryd.pinned.checked.prog.loopsFrom ·))) = true := by kernel_rfl
theorem advertsMost_j17 : ((Rows.advertsMostRow.wideKeys == (Tryd.f20.params.toList ++ Rows.advertsMostSpec.plain.varTypes Tryd.pinned.checked.prog ++ Tryd.f20.resultTypes.toList).any (Tryd.pinned.checked.prog.wideKeysFrom ·))) = true := by kernel_rfl
theorem advertsMost_j18 : (Rows.advertsMostSpec.vars.all (Tryd.pinned.checked.prog.varReadable ·)) = true := by kernel_rfl
theorem advertsMost_j19 : (Tryd.f20.resultTypes.all (fun t => Tryd.pinned.checked.prog.readableRec t && decide (t < Tryd.pinned.checked.prog.types.size))) = true := by kernel_rfl
theorem advertsMost_j20 : ((Rows.advertsMostRow.ifacesOut == Tryd.f20.resultTypes.toList.any (Tryd.pinned.checked.prog.ifacesRec ·))) = true := by kernel_rfl
theorem advertsMost_j21 : ((Rows.advertsMostRow.loopsOut == Tryd.f20.resultTypes.toList.any (Tryd.pinned.checked.prog.loopsFrom ·))) = true := by kernel_rfl
theorem advertsMost_j23 : (Rows.advertsMostRow.shortTexts.isNone) = true := by kernel_rfl
theorem advertsMost_j28 : ((Rows.advertsMostRow.kinds == (if Rows.advertsMostRow.domain.isEmpty then [] else Tryd.f20.params.toList.map fun t => match Tryd.pinned.checked.prog.underlying t with | some (.int k) => some k | _ => none))) = true := by kernel_rfl
theorem advertsMost_j29 : ((Rows.advertsMostRow.pinned == Rows.advertsMostRow.pinnedBy)) = true := by kernel_rfl
theorem advertsMost_j30 : ((Rows.advertsMostRow.veiled == (Tryd.f20.params.toList ++ Rows.advertsMostSpec.plain.varTypes Tryd.pinned.checked.prog ++ Tryd.f20.resultTypes.toList).any (Tryd.pinned.checked.prog.veiledRec ·))) = true := by kernel_rfl
theorem advertsMost_j31 : (Rows.advertsMostRow.veiledFits Tryd.pinned.checked.prog Tryd.f20.params.toList (Tryd.f20.params.toList ++ Rows.advertsMostSpec.plain.varTypes Tryd.pinned.checked.prog ++ Tryd.f20.resultTypes.toList)) = true := by kernel_rfl

end Go.Proofs.YtkcammaccgkflaaDoor
