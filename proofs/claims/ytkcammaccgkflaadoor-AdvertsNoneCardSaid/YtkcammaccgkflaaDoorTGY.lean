/-
  The row's own facts, by the kernel: part B (AdvertsNone).
-/
import Derived.Test.YtkcammaccgkflaaDoorZB
import Derived.Test.YtkcammaccgkflaaDoorCards
import Derived.Test.YtkcammaccgkflaaDoorIO
namespace Go.Proofs.YtkcammaccgkflaaDoor
open Go.ChangeShapes Go.WideShapes Go.ChangeAt Go.RowKit
open Go.WideMaps Go.WideElems
open Go

theorem advertsNone_j9 : ((Rows.advertsNoneRow.inPlace == Tryd.pinned.checked.prog.inPlace 16)) = true := by kernel_rfl
theorem advertsNone_j10 : ((Rows.advertsNoneRow.unfollowed == Tryd.pinned.checked.prog.unfollowed 16)) = true := by kernel_rfl
theorem advertsNone_j11 : ((Rows.advertsNoneRow.recurses == Tryd.pinned.checked.prog.recurses 16)) = true := by kernel_rfl
theorem advertsNone_j12 : ((Rows.advertsNoneRow.named == Tryd.pinned.checked.prog.varsNamed 16)) = true := by kernel_rfl

end Go.Proofs.YtkcammaccgkflaaDoor
