/-
  The row's own facts, by the kernel: part B (AdvertsOrder).
-/
import Derived.Test.YtkcammaccgkflaaDoorZB
import Derived.Test.YtkcammaccgkflaaDoorCards
import Derived.Test.YtkcammaccgkflaaDoorIO
namespace Go.Proofs.YtkcammaccgkflaaDoor
open Go.ChangeShapes Go.WideShapes Go.ChangeAt Go.RowKit
open Go.WideMaps Go.WideElems
open Go

theorem advertsOrder_j9 : ((Rows.advertsOrderRow.inPlace == Tryd.pinned.checked.prog.inPlace 17)) = true := by kernel_rfl
theorem advertsOrder_j10 : ((Rows.advertsOrderRow.unfollowed == Tryd.pinned.checked.prog.unfollowed 17)) = true := by kernel_rfl
theorem advertsOrder_j11 : ((Rows.advertsOrderRow.recurses == Tryd.pinned.checked.prog.recurses 17)) = true := by kernel_rfl
theorem advertsOrder_j12 : ((Rows.advertsOrderRow.named == Tryd.pinned.checked.prog.varsNamed 17)) = true := by kernel_rfl

end Go.Proofs.YtkcammaccgkflaaDoor
