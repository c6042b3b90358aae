/-
  The row's own facts, by the kernel: part B (GraphEnds).
-/
import Derived.Test.YtbadkkilblgpmaaDoorVG
import Derived.Test.YtbadkkilblgpmaaDoorCards
namespace Go.Proofs.YtbadkkilblgpmaaDoor
open Go.ChangeShapes Go.WideShapes Go.ChangeAt Go.RowKit
open Go.WideMaps Go.WideElems
open Go

theorem graphEnds_j9 : ((Rows.graphEndsRow.inPlace == Tryd.pinned.checked.prog.inPlace 16)) = true := by kernel_rfl
theorem graphEnds_j10 : ((Rows.graphEndsRow.unfollowed == Tryd.pinned.checked.prog.unfollowed 16)) = true := by kernel_rfl
theorem graphEnds_j11 : ((Rows.graphEndsRow.recurses == Tryd.pinned.checked.prog.recurses 16)) = true := by kernel_rfl
theorem graphEnds_j12 : ((Rows.graphEndsRow.named == Tryd.pinned.checked.prog.varsNamed 16)) = true := by kernel_rfl


end Go.Proofs.YtbadkkilblgpmaaDoor
