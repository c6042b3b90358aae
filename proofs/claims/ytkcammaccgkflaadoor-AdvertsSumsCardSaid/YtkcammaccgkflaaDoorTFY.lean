/-
  The row's own facts, by the kernel: part B (AdvertsSums).
-/
import Derived.Test.YtkcammaccgkflaaDoorZB
import Derived.Test.YtkcammaccgkflaaDoorCards
import Derived.Test.YtkcammaccgkflaaDoorIO
namespace Go.Proofs.YtkcammaccgkflaaDoor
open Go.ChangeShapes Go.WideShapes Go.ChangeAt Go.RowKit
open Go.WideMaps Go.WideElems
open Go

theorem advertsSums_j9 : ((Rows.advertsSumsRow.inPlace == Tryd.pinned.checked.prog.inPlace 19)) = true := by kernel_rfl
theorem advertsSums_j10 : ((Rows.advertsSumsRow.unfollowed == Tryd.pinned.checked.prog.unfollowed 19)) = true := by kernel_rfl
theorem advertsSums_j11 : ((Rows.advertsSumsRow.recurses == Tryd.pinned.checked.prog.recurses 19)) = true := by kernel_rfl
theorem advertsSums_j12 : ((Rows.advertsSumsRow.named == Tryd.pinned.checked.prog.varsNamed 19)) = true := by kernel_rfl

end Go.Proofs.YtkcammaccgkflaaDoor
