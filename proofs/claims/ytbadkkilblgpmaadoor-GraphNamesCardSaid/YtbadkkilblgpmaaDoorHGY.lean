/-
  The row's own facts, by the kernel: part B (GraphNames).
-/
import Derived.Test.YtbadkkilblgpmaaDoorVG
import Derived.Test.YtbadkkilblgpmaaDoorCards
namespace Go.Proofs.YtbadkkilblgpmaaDoor
open Go.ChangeShapes Go.WideShapes Go.ChangeAt Go.RowKit
open Go.WideMaps Go.WideElems
open Go

theorem graphNames_j9 : ((Rows.graphNamesRow.inPlace == Tryd.pinned.checked.prog.inPlace 15)) = true := by kernel_rfl
theorem graphNames_j10 : ((Rows.graphNamesRow.unfollowed == Tryd.pinned.checked.prog.unfollowed 15)) = true := by kernel_rfl
theorem graphNames_j11 : ((Rows.graphNamesRow.recurses == Tryd.pinned.checked.prog.recurses 15)) = true := by kernel_rfl
theorem graphNames_j12 : ((Rows.graphNamesRow.named == Tryd.pinned.checked.prog.varsNamed 15)) = true := by kernel_rfl


end Go.Proofs.YtbadkkilblgpmaaDoor
