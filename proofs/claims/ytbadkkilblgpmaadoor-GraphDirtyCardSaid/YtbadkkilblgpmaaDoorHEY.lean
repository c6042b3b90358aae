/-
  The row's own facts, by the kernel: part B (GraphDirty).
-/
import Derived.Test.YtbadkkilblgpmaaDoorVG
import Derived.Test.YtbadkkilblgpmaaDoorCards
namespace Go.Proofs.YtbadkkilblgpmaaDoor
open Go.ChangeShapes Go.WideShapes Go.ChangeAt Go.RowKit
open Go.WideMaps Go.WideElems
open Go

theorem graphDirty_j9 : ((Rows.graphDirtyRow.inPlace == Tryd.pinned.checked.prog.inPlace 14)) = true := by kernel_rfl
theorem graphDirty_j10 : ((Rows.graphDirtyRow.unfollowed == Tryd.pinned.checked.prog.unfollowed 14)) = true := by kernel_rfl
theorem graphDirty_j11 : ((Rows.graphDirtyRow.recurses == Tryd.pinned.checked.prog.recurses 14)) = true := by kernel_rfl
theorem graphDirty_j12 : ((Rows.graphDirtyRow.named == Tryd.pinned.checked.prog.varsNamed 14)) = true := by kernel_rfl


end Go.Proofs.YtbadkkilblgpmaaDoor
