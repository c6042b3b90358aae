/-
  The row's own facts, by the kernel: parts A C D (AdvertsSums).
-/
import Derived.Test.YtkcammaccgkflaaDoorZB
import Derived.Test.YtkcammaccgkflaaDoorCards
import Derived.Test.YtkcammaccgkflaaDoorIO
namespace Go.Proofs.YtkcammaccgkflaaDoor
open Go.ChangeShapes Go.WideShapes Go.ChangeAt Go.RowKit
open Go.WideMaps Go.WideElems
open Go

theorem advertsSums_j1 : (laidOutB Tryd.pinned.checked.prog) = true := by kernel_rfl
theorem advertsSums_j2 : (mapsRowed Tryd.pinned.checked.prog) = true := by kernel_rfl

theorem advertsSums_j22 : ((Rows.advertsSumsRow.plainKeys == Tryd.pinned.checked.prog.plainKeys)) = true := by kernel_rfl
theorem advertsSums_j24 : (Tryd.pinned.checked.prog.stopsHeard) = true := by kernel_rfl
theorem advertsSums_j25 : (Tryd.pinned.checked.prog.mayEnter) = true := io_enter
theorem advertsSums_j26 : ((Rows.advertsSumsRow.lifted == Tryd.pinned.checked.prog.liftsFinal)) = true := by rw [io_final]; rfl
theorem advertsSums_j27 : ((Tryd.pinned.checked.prog.make == some Rows.advertsSumsRow.make)) = true := by rw [io_make]; rfl

theorem advertsSums_j0 : (Rows.advertsSumsRow.wf (OpenSpec.ofChange Rows.advertsSumsSpec)) = true := by kernel_rfl
theorem advertsSums_j3 : (Tryd.f19.params.all (Tryd.pinned.checked.prog.readableRec ·)) = true := by kernel_rfl
theorem advertsSums_j4 : (namedTie Tryd.pinned.checked.prog Rows.advertsSumsRow.named Rows.advertsSumsSpec.vars) = true := by kernel_rfl
theorem advertsSums_j5 : ((Rows.advertsSumsRow.stops == [])) = true := by kernel_rfl
theorem advertsSums_j6 : ((Tryd.pinned.checked.prog.stops == [])) = true := by kernel_rfl
theorem advertsSums_j7 : ((Rows.advertsSumsRow.knobs == [])) = true := by kernel_rfl
theorem advertsSums_j8 : ((Tryd.pinned.checked.prog.stopKnobs == [])) = true := by kernel_rfl
theorem advertsSums_j13 : ((Rows.advertsSumsRow.maps == (Tryd.f19.params.toList ++ Rows.advertsSumsSpec.plain.varTypes Tryd.pinned.checked.prog).any (Tryd.pinned.checked.prog.mapsRec ·))) = true := by kernel_rfl
theorem advertsSums_j14 : ((Rows.advertsSumsRow.ifaces == (Tryd.f19.params.toList ++ Rows.advertsSumsSpec.plain.varTypes Tryd.pinned.checked.prog).any (Tryd.pinned.checked.prog.ifacesRec ·))) = true := by kernel_rfl
theorem advertsSums_j15 : ((Rows.advertsSumsRow.mapsOut == Tryd.pinned.checked.prog.mapsAmong Tryd.f19.resultTypes.toList)) = true := by kernel_rfl
theorem advertsSums_j16 : ((Rows.advertsSumsRow.loops == (Tryd.f19.params.toList ++ Rows.advertsSumsSpec.plain.varTypes Tryd.pinned.checked.prog).any (Tryd.pinned.checked.prog.loopsFrom ·))) = true := by kernel_rfl
theorem advertsSums_j17 : ((Rows.advertsSumsRow.wideKeys == (Tryd.f19.params.toList ++ Rows.advertsSumsSpec.plain.varTypes Tryd.pinned.checked.prog ++ Tryd.f19.resultTypes.toList).any (Tryd.pinned.checked.prog.wideKeysFrom ·))) = true := by kernel_rfl
theorem advertsSums_j18 : (Rows.advertsSumsSpec.vars.all (Tryd.pinned.checked.prog.varReadable ·)) = true := by kernel_rfl
theorem advertsSums_j19 : (Tryd.f19.resultTypes.all (fun t => Tryd.pinned.checked.prog.readableRec t && decide (t < Tryd.pinned.checked.prog.types.size))) = true := by kernel_rfl
theorem advertsSums_j20 : ((Rows.advertsSumsRow.ifacesOut == Tryd.f19.resultTypes.toList.any (Tryd.pinned.checked.prog.ifacesRec ·))) = true := by kernel_rfl
theorem advertsSums_j21 : ((Rows.advertsSumsRow.loopsOut == Tryd.f19.resultTypes.toList.any (Tryd.pinned.checked.prog.loopsFrom ·))) = true := by kernel_rfl
theorem advertsSums_j23 : (Rows.advertsSumsRow.shortTexts.isNone) = true := by kernel_rfl
theorem advertsSums_j28 : ((Rows.advertsSumsRow.kinds == (if Rows.advertsSumsRow.domain.isEmpty then [] else Tryd.f19.params.toList.map fun t => match Tryd.pinned.checked.prog.underlying t with | some (.int k) => some k | _ => none))) = true := by kernel_rfl
theorem advertsSums_j29 : ((Rows.advertsSumsRow.pinned == Rows.advertsSumsRow.pinnedBy)) = true := by kernel_rfl
theorem advertsSums_j30 : ((Rows.advertsSumsRow.veiled == (Tryd.f19.params.toList ++ Rows.advertsSumsSpec.plain.varTypes Tryd.pinned.checked.prog ++ Tryd.f19.resultTypes.toList).any (Tryd.pinned.checked.prog.veiledRec ·))) = true := by kernel_rfl
theorem advertsSums_j31 : (Rows.advertsSumsRow.veiledFits Tryd.pinned.checked.prog Tryd.f19.params.toList (Tryd.f19.params.toList ++ Rows.advertsSumsSpec.plain.varTypes Tryd.pinned.checked.prog ++ Tryd.f19.resultTypes.toList)) = true := by kernel_rfl

end Go.Proofs.YtkcammaccgkflaaDoor
