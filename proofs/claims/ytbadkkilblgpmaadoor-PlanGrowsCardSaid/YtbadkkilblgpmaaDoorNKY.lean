/-
  The row's own facts, by the kernel: part B (PlanGrows).
-/
import Derived.Test.YtbadkkilblgpmaaDoorVN
import Derived.Test.YtbadkkilblgpmaaDoorCards
namespace Go.Proofs.YtbadkkilblgpmaaDoor
open Go.ChangeShapes Go.WideShapes Go.ChangeAt Go.RowKit
open Go.WideMaps Go.WideElems
open Go

theorem planGrows_j9 : ((Rows.planGrowsRow.inPlace == Tryd.pinned.checked.prog.inPlace 20)) = true := by kernel_rfl
theorem planGrows_j10 : ((Rows.planGrowsRow.unfollowed == Tryd.pinned.checked.prog.unfollowed 20)) = true := by kernel_rfl
theorem planGrows_j11 : ((Rows.planGrowsRow.recurses == Tryd.pinned.checked.prog.recurses 20)) = true := by kernel_rfl
theorem planGrows_j12 : ((Rows.planGrowsRow.named == Tryd.pinned.checked.prog.varsNamed 20)) = true := by kernel_rfl


end Go.Proofs.YtbadkkilblgpmaaDoor
