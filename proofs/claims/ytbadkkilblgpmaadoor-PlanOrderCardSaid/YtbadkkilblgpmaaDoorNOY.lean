/-
  The row's own facts, by the kernel: part B (PlanOrder).
-/
import Derived.Test.YtbadkkilblgpmaaDoorVN
import Derived.Test.YtbadkkilblgpmaaDoorCards
namespace Go.Proofs.YtbadkkilblgpmaaDoor
open Go.ChangeShapes Go.WideShapes Go.ChangeAt Go.RowKit
open Go.WideMaps Go.WideElems
open Go

theorem planOrder_j9 : ((Rows.planOrderRow.inPlace == Tryd.pinned.checked.prog.inPlace 19)) = true := by kernel_rfl
theorem planOrder_j10 : ((Rows.planOrderRow.unfollowed == Tryd.pinned.checked.prog.unfollowed 19)) = true := by kernel_rfl
theorem planOrder_j11 : ((Rows.planOrderRow.recurses == Tryd.pinned.checked.prog.recurses 19)) = true := by kernel_rfl
theorem planOrder_j12 : ((Rows.planOrderRow.named == Tryd.pinned.checked.prog.varsNamed 19)) = true := by kernel_rfl


end Go.Proofs.YtbadkkilblgpmaaDoor
