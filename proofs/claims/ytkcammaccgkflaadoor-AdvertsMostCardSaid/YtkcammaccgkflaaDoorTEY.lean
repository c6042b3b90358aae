/-
  The row's own facts, by the kernel: part B (AdvertsMost).
-/
import Derived.Test.YtkcammaccgkflaaDoorZB
import Derived.Test.YtkcammaccgkflaaDoorCards
import Derived.Test.YtkcammaccgkflaaDoorIO
namespace Go.Proofs.YtkcammaccgkflaaDoor
open Go.ChangeShapes Go.WideShapes Go.ChangeAt Go.RowKit
open Go.WideMaps Go.WideElems
open Go

theorem advertsMost_j9 : ((Rows.advertsMostRow.inPlace == Tryd.pinned.checked.prog.inPlace 20)) = true := by kernel_rfl
theorem advertsMost_j10 : ((Rows.advertsMostRow.unfollowed == Tryd.pinned.checked.prog.unfollowed 20)) = true := by kernel_rfl
theorem advertsMost_j11 : ((Rows.advertsMostRow.recurses == Tryd.pinned.checked.prog.recurses 20)) = true := by kernel_rfl
theorem advertsMost_j12 : ((Rows.advertsMostRow.named == Tryd.pinned.checked.prog.varsNamed 20)) = true := by kernel_rfl

end Go.Proofs.YtkcammaccgkflaaDoor
