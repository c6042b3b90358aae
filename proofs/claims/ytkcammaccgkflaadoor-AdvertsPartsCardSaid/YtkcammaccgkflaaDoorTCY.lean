/-
  The row's own facts, by the kernel: part B (AdvertsParts).
-/
import Derived.Test.YtkcammaccgkflaaDoorZB
import Derived.Test.YtkcammaccgkflaaDoorCards
import Derived.Test.YtkcammaccgkflaaDoorIO
namespace Go.Proofs.YtkcammaccgkflaaDoor
open Go.ChangeShapes Go.WideShapes Go.ChangeAt Go.RowKit
open Go.WideMaps Go.WideElems
open Go

theorem advertsParts_j9 : ((Rows.advertsPartsRow.inPlace == Tryd.pinned.checked.prog.inPlace 18)) = true := by kernel_rfl
theorem advertsParts_j10 : ((Rows.advertsPartsRow.unfollowed == Tryd.pinned.checked.prog.unfollowed 18)) = true := by kernel_rfl
theorem advertsParts_j11 : ((Rows.advertsPartsRow.recurses == Tryd.pinned.checked.prog.recurses 18)) = true := by kernel_rfl
theorem advertsParts_j12 : ((Rows.advertsPartsRow.named == Tryd.pinned.checked.prog.varsNamed 18)) = true := by kernel_rfl

end Go.Proofs.YtkcammaccgkflaaDoor
