/-
  The row's own facts, by the kernel: part B (AdvertsPlays).
-/
import Derived.Test.YtkcammaccgkflaaDoorZB
import Derived.Test.YtkcammaccgkflaaDoorCards
import Derived.Test.YtkcammaccgkflaaDoorIO
namespace Go.Proofs.YtkcammaccgkflaaDoor
open Go.ChangeShapes Go.WideShapes Go.ChangeAt Go.RowKit
open Go.WideMaps Go.WideElems
open Go

theorem advertsPlays_j9 : ((Rows.advertsPlaysRow.inPlace == Tryd.pinned.checked.prog.inPlace 15)) = true := by kernel_rfl
theorem advertsPlays_j10 : ((Rows.advertsPlaysRow.unfollowed == Tryd.pinned.checked.prog.unfollowed 15)) = true := by kernel_rfl
theorem advertsPlays_j11 : ((Rows.advertsPlaysRow.recurses == Tryd.pinned.checked.prog.recurses 15)) = true := by kernel_rfl
theorem advertsPlays_j12 : ((Rows.advertsPlaysRow.named == Tryd.pinned.checked.prog.varsNamed 15)) = true := by kernel_rfl

end Go.Proofs.YtkcammaccgkflaaDoor
