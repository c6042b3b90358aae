/-
  The row's own facts, by the kernel: part B.
-/
import Derived.Test.YtbadkkilblgpmaaDoorCards
import Derived.Test.YtbadkkilblgpmaaDoorVM
namespace Go.Proofs.YtbadkkilblgpmaaDoor
open Go.ChangeShapes Go.WideShapes Go.ChangeAt Go.RowKit
open Go.WideMaps Go.WideElems
open Go

theorem planBelow_j9 : ((Rows.planBelowRow.inPlace == Tryd.pinned.checked.prog.inPlace 18)) = true := by kernel_rfl
theorem planBelow_j10 : ((Rows.planBelowRow.unfollowed == Tryd.pinned.checked.prog.unfollowed 18)) = true := by kernel_rfl
theorem planBelow_j11 : ((Rows.planBelowRow.recurses == Tryd.pinned.checked.prog.recurses 18)) = true := by kernel_rfl
theorem planBelow_j12 : ((Rows.planBelowRow.named == Tryd.pinned.checked.prog.varsNamed 18)) = true := by kernel_rfl

end Go.Proofs.YtbadkkilblgpmaaDoor
