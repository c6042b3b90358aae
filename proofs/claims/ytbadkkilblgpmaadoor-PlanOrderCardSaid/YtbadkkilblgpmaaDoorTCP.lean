/-
  TreeBack, walked.
-/
import Derived.Test.YtbadkkilblgpmaaDoorTS
import Derived.Deep.CutBlock
namespace Go.Proofs.YtbadkkilblgpmaaDoor
open Go.RowKit

theorem cmp_pre : ∀ (p a b : List UInt8), cmpB (p ++ a) (p ++ b) = cmpB a b
  | [], _, _ => rfl
  | x :: p, a, b => by
    rw [List.cons_append, List.cons_append, cmp_cons, if_neg (UInt8.lt_irrefl x), if_neg (UInt8.lt_irrefl x)]
    exact cmp_pre p a b

end Go.Proofs.YtbadkkilblgpmaaDoor
