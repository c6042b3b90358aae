/-
  Two updates, held against each other.
-/
import Derived.Test.YtiehbbbncmdchaaL
namespace Go.Proofs.Ytiehbbbncmdchaa
open Go.RowKit

theorem Try.und31 : Try.prog.underlying 31 = some (.struct (Try.prog.fieldsOf 31)) := by kernel_rfl
theorem Try.held31 : Try.prog.stoodInHeld 31 = false := by kernel_rfl
theorem Try.guard31 : Try.prog.eqGuardType Try.prog.depth 31 = false := by kernel_rfl

theorem neq31 (w : World) (a b c x y z : Int) :
    (binOp .neq 31 (.agg #[.int .i64 a, .int .u8 b, .int .u64 c]) (.agg #[.int .i64 x, .int .u8 y, .int .u64 z])).run Try.prog w = .ok (.bool (!(a == x && (b == y && c == z)))) w := by
  have u3 := Try.underlying3
  have a3 := Try.isAgg3
  have z3 := Try.sizeOf3
  have u5 := Try.underlying5
  have a5 := Try.isAgg5
  have z5 := Try.sizeOf5
  have u22 := Try.underlying22
  have a22 := Try.isAgg22
  have z22 := Try.sizeOf22
  rw [run_neq_struct, show (10000 : Nat) = 9999 + 1 from rfl, run_equalIn_agg w 9999 31 _ _ Try.und31 Try.held31]
  simp only [Program.fieldsOf, Try.underlying31]
  go_simp
  by_cases h1 : a = x <;> by_cases h2 : b = y <;> by_cases h3 : c = z <;> simp [h1, h2, h3]

theorem eql31 (w : World) (a b c x y z : Int) :
    (binOp .eql 31 (.agg #[.int .i64 a, .int .u8 b, .int .u64 c]) (.agg #[.int .i64 x, .int .u8 y, .int .u64 z])).run Try.prog w = .ok (.bool (a == x && (b == y && c == z))) w := by
  have u3 := Try.underlying3
  have a3 := Try.isAgg3
  have z3 := Try.sizeOf3
  have u5 := Try.underlying5
  have a5 := Try.isAgg5
  have z5 := Try.sizeOf5
  have u22 := Try.underlying22
  have a22 := Try.isAgg22
  have z22 := Try.sizeOf22
  rw [run_eql_struct, show (10000 : Nat) = 9999 + 1 from rfl, run_equalIn_agg w 9999 31 _ _ Try.und31 Try.held31]
  simp only [Program.fieldsOf, Try.underlying31]
  go_simp
  by_cases h1 : a = x <;> by_cases h2 : b = y <;> by_cases h3 : c = z <;> simp [h1, h2, h3]

end Go.Proofs.Ytiehbbbncmdchaa
