/-
  The row's own facts, by the kernel: parts A C D (AdvertsPlays).
-/
import Derived.Test.YtkcammaccgkflaaDoorZB
import Derived.Test.YtkcammaccgkflaaDoorCards
import Derived.Test.YtkcammaccgkflaaDoorIO
namespace Go.Proofs.YtkcammaccgkflaaDoor
open Go.ChangeShapes Go.WideShapes Go.ChangeAt Go.RowKit
open Go.WideMaps Go.WideElems
open Go

theorem advertsPlays_j1 : (laidOutB Tryd.pinned.checked.prog) = true := by kernel_rfl
theorem advertsPlays_j2 : (mapsRowed Tryd.pinned.checked.prog) = true := by kernel_rfl

theorem advertsPlays_j22 : ((Rows.advertsPlaysRow.plainKeys == Tryd.pinned.checked.prog.plainKeys)) = true := by kernel_rfl
theorem advertsPlays_j24 : (Tryd.pinned.checked.prog.stopsHeard) = true := by kernel_rfl
theorem advertsPlays_j25 : (Tryd.pinned.checked.prog.mayEnter) = true := io_enter
theorem advertsPlays_j26 : ((Rows.advertsPlaysRow.lifted == Tryd.pinned.checked.prog.liftsFinal)) = true := by rw [io_final]; rfl
theorem advertsPlays_j27 : ((Tryd.pinned.checked.prog.make == some Rows.advertsPlaysRow.make)) = true := by rw [io_make]; rfl

theorem advertsPlays_j0 : (Rows.advertsPlaysRow.wf (OpenSpec.ofChange Rows.advertsPlaysSpec)) = true := by kernel_rfl
theorem advertsPlays_j3 : (Tryd.f15.params.all (Tryd.pinned.checked.prog.readableRec ·)) = true := by kernel_rfl
theorem advertsPlays_j4 : (namedTie Tryd.pinned.checked.prog Rows.advertsPlaysRow.named Rows.advertsPlaysSpec.vars) = true := by kernel_rfl
theorem advertsPlays_j5 : ((Rows.advertsPlaysRow.stops == [])) = true := by kernel_rfl
theorem advertsPlays_j6 : ((Tryd.pinned.checked.prog.stops == [])) = true := by kernel_rfl
theorem advertsPlays_j7 : ((Rows.advertsPlaysRow.knobs == [])) = true := by kernel_rfl
theorem advertsPlays_j8 : ((Tryd.pinned.checked.prog.stopKnobs == [])) = true := by kernel_rfl
theorem advertsPlays_j13 : ((Rows.advertsPlaysRow.maps == (Tryd.f15.params.toList ++ Rows.advertsPlaysSpec.plain.varTypes Tryd.pinned.checked.prog).any (Tryd.pinned.checked.prog.mapsRec ·))) = true := by kernel_rfl
theorem advertsPlays_j14 : ((Rows.advertsPlaysRow.ifaces == (Tryd.f15.params.toList ++ Rows.advertsPlaysSpec.plain.varTypes Tryd.pinned.checked.prog).any (Tryd.pinned.checked.prog.ifacesRec ·))) = true := by kernel_rfl
theorem advertsPlays_j15 : ((Rows.advertsPlaysRow.mapsOut == Tryd.pinned.checked.prog.mapsAmong Tryd.f15.resultTypes.toList)) = true := by kernel_rfl
theorem advertsPlays_j16 : ((Rows.advertsPlaysRow.loops == (Tryd.f15.params.toList ++ Rows.advertsPlaysSpec.plain.varTypes Tryd.pinned.checked.prog).any (Tryd.pinned.checked.prog.loopsFrom ·))) = true := by kernel_rfl
theorem advertsPlays_j17 : ((Rows.advertsPlaysRow.wideKeys == (Tryd.f15.params.toList ++ Rows.advertsPlaysSpec.plain.varTypes Tryd.pinned.checked.prog ++ Tryd.f15.resultTypes.toList).any (Tryd.pinned.checked.prog.wideKeysFrom ·))) = true := by kernel_rfl
theorem advertsPlays_j18 : (Rows.advertsPlaysSpec.vars.all (Tryd.pinned.checked.prog.varReadable ·)) = true := by kernel_rfl
theorem advertsPlays_j19 : (Tryd.f15.resultTypes.all (fun t => Tryd.pinned.checked.prog.readableRec t && decide (t < Tryd.pinned.checked.prog.types.size))) = true := by kernel_rfl
theorem advertsPlays_j20 : ((Rows.advertsPlaysRow.ifacesOut == Tryd.f15.resultTypes.toList.any (Tryd.pinned.checked.prog.ifacesRec ·))) = true := by kernel_rfl
theorem advertsPlays_j21 : ((Rows.advertsPlaysRow.loopsOut == Tryd.f15.resultTypes.toList.any (Tryd.pinned.checked.prog.loopsFrom ·))) = true := by kernel_rfl
theorem advertsPlays_j23 : (Rows.advertsPlaysRow.shortTexts.isNone) = true := by kernel_rfl
theorem advertsPlays_j28 : ((Rows.advertsPlaysRow.kinds == (if Rows.advertsPlaysRow.domain.isEmpty then [] else Tryd.f15.params.toList.map fun t => match Tryd.pinned.checked.prog.underlying t with | some (.int k) => some k | _ => none))) = true := by kernel_rfl
theorem advertsPlays_j29 : ((Rows.advertsPlaysRow.pinned == Rows.advertsPlaysRow.pinnedBy)) = true := by kernel_rfl
theorem advertsPlays_j30 : ((Rows.advertsPlaysRow.veiled == (Tryd.f15.params.toList ++ Rows.advertsPlaysSpec.plain.varTypes Tryd.pinned.checked.prog ++ Tryd.f15.resultTypes.toList).any (Tryd.pinned.checked.prog.veiledRec ·))) = true := by kernel_rfl
theorem advertsPlays_j31 : (Rows.advertsPlaysRow.veiledFits Tryd.pinned.checked.prog Tryd.f15.params.toList (Tryd.f15.params.toList ++ Rows.advertsPlaysSpec.plain.varTypes Tryd.pinned.checked.prog ++ Tryd.f15.resultTypes.toList)) = true := by kernel_rfl

end Go.Proofs.YtkcammaccgkflaaDoor
