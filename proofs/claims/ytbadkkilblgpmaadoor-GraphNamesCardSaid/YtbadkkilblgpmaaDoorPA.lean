/-
  What a path is (plain).
-/
import Derived.Test.YtbadkkilblgpmaaDoorL
namespace Go.Proofs.YtbadkkilblgpmaaDoor
open Go.RowKit

/-- A byte that may stand in a path. -/
def okC (c : Nat) : Bool := decide (97 ≤ c) && decide (c ≤ 122) || decide (48 ≤ c) && decide (c ≤ 57) || c == 46 || c == 95 || c == 45 || c == 47
/-- The rest of a path, behind a / or not. -/
def pathFrom : Bool → List UInt8 → Bool
  | b, [] => !b
  | b, c :: l => okC c.toNat && !(c.toNat == 47 && b) && pathFrom (c.toNat == 47) l
def pathB (s : List UInt8) : Bool := decide (1 ≤ s.length) && decide (s.length ≤ 40) && pathFrom true s
theorem pathFrom_step {s : List UInt8} {k : Nat} {b : Bool} {c : UInt8} (h : s[k]? = some c) : pathFrom b (s.drop k) = (okC c.toNat && !(c.toNat == 47 && b) && pathFrom (c.toNat == 47) (s.drop (k + 1))) := by
  obtain ⟨hk, rfl⟩ := List.getElem?_eq_some_iff.1 h
  rw [List.drop_eq_getElem_cons hk]
  rfl
theorem pathFrom_end {s : List UInt8} {k : Nat} {b : Bool} (h : s.length ≤ k) : pathFrom b (s.drop k) = !b := by
  rw [List.drop_eq_nil_of_le h]; rfl
theorem okC_high {c : Nat} (h : 123 ≤ c) : okC c = false := by
  unfold okC
  simp only [Bool.or_eq_false_iff, Bool.and_eq_false_iff, decide_eq_false_iff_not, beq_eq_false_iff_ne]
  omega

end Go.Proofs.YtbadkkilblgpmaaDoor
