/-
  The row's own facts, by the kernel: part B (GraphRight).
-/
import Derived.Test.YtbadkkilblgpmaaDoorVG
import Derived.Test.YtbadkkilblgpmaaDoorCards
namespace Go.Proofs.YtbadkkilblgpmaaDoor
open Go.ChangeShapes Go.WideShapes Go.ChangeAt Go.RowKit
open Go.WideMaps Go.WideElems
open Go

theorem graphRight_j9 : ((Rows.graphRightRow.inPlace == Tryd.pinned.checked.prog.inPlace 13)) = true := by kernel_rfl
theorem graphRight_j10 : ((Rows.graphRightRow.unfollowed == Tryd.pinned.checked.prog.unfollowed 13)) = true := by kernel_rfl
theorem graphRight_j11 : ((Rows.graphRightRow.recurses == Tryd.pinned.checked.prog.recurses 13)) = true := by kernel_rfl
theorem graphRight_j12 : ((Rows.graphRightRow.named == Tryd.pinned.checked.prog.varsNamed 13)) = true := by kernel_rfl


end Go.Proofs.YtbadkkilblgpmaaDoor
