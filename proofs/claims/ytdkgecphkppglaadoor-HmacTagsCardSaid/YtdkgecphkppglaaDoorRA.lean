/-
  The document's digest: a word turned right.
-/
import Derived.Test.YtdkgecphkppglaaDoorS
namespace Go.Proofs.YtdkgecphkppglaaDoor
open Go.RowKit

theorem bits_or_comm (k : IntKind) (x y : Int) : bits .or k x y = bits .or k y x := by
  unfold bits
  simp only [BitVec.or_comm]

set_option maxHeartbeats 1000000 in
theorem turn2 (x : Int) (w : World) : Calls Tryd.prog 69 #[.int .u32 x, .int .u64 2] w fun e w' => e = .returned (.int .u32 (rotr x 2)) ∧ w = w' := by
  have hr : rotr x 2 = bits .or .u32 (x / 2 ^ 2) (IntKind.u32.wrap (x * 2 ^ (32 - 2))) := bits_or_comm _ _ _
  rw [hr]
  clear hr
  go_enter Tryd.func69, Tryd.ntmps69
  go_wp2
  go_ret
  exact ⟨by first | rfl | simp, rfl⟩

set_option maxHeartbeats 1000000 in
theorem turn6 (x : Int) (w : World) : Calls Tryd.prog 69 #[.int .u32 x, .int .u64 6] w fun e w' => e = .returned (.int .u32 (rotr x 6)) ∧ w = w' := by
  have hr : rotr x 6 = bits .or .u32 (x / 2 ^ 6) (IntKind.u32.wrap (x * 2 ^ (32 - 6))) := bits_or_comm _ _ _
  rw [hr]
  clear hr
  go_enter Tryd.func69, Tryd.ntmps69
  go_wp2
  go_ret
  exact ⟨by first | rfl | simp, rfl⟩

set_option maxHeartbeats 1000000 in
theorem turn7 (x : Int) (w : World) : Calls Tryd.prog 69 #[.int .u32 x, .int .u64 7] w fun e w' => e = .returned (.int .u32 (rotr x 7)) ∧ w = w' := by
  have hr : rotr x 7 = bits .or .u32 (x / 2 ^ 7) (IntKind.u32.wrap (x * 2 ^ (32 - 7))) := bits_or_comm _ _ _
  rw [hr]
  clear hr
  go_enter Tryd.func69, Tryd.ntmps69
  go_wp2
  go_ret
  exact ⟨by first | rfl | simp, rfl⟩

set_option maxHeartbeats 1000000 in
theorem turn11 (x : Int) (w : World) : Calls Tryd.prog 69 #[.int .u32 x, .int .u64 11] w fun e w' => e = .returned (.int .u32 (rotr x 11)) ∧ w = w' := by
  have hr : rotr x 11 = bits .or .u32 (x / 2 ^ 11) (IntKind.u32.wrap (x * 2 ^ (32 - 11))) := bits_or_comm _ _ _
  rw [hr]
  clear hr
  go_enter Tryd.func69, Tryd.ntmps69
  go_wp2
  go_ret
  exact ⟨by first | rfl | simp, rfl⟩

set_option maxHeartbeats 1000000 in
theorem turn13 (x : Int) (w : World) : Calls Tryd.prog 69 #[.int .u32 x, .int .u64 13] w fun e w' => e = .returned (.int .u32 (rotr x 13)) ∧ w = w' := by
  have hr : rotr x 13 = bits .or .u32 (x / 2 ^ 13) (IntKind.u32.wrap (x * 2 ^ (32 - 13))) := bits_or_comm _ _ _
  rw [hr]
  clear hr
  go_enter Tryd.func69, Tryd.ntmps69
  go_wp2
  go_ret
  exact ⟨by first | rfl | simp, rfl⟩

set_option maxHeartbeats 1000000 in
theorem turn17 (x : Int) (w : World) : Calls Tryd.prog 69 #[.int .u32 x, .int .u64 17] w fun e w' => e = .returned (.int .u32 (rotr x 17)) ∧ w = w' := by
  have hr : rotr x 17 = bits .or .u32 (x / 2 ^ 17) (IntKind.u32.wrap (x * 2 ^ (32 - 17))) := bits_or_comm _ _ _
  rw [hr]
  clear hr
  go_enter Tryd.func69, Tryd.ntmps69
  go_wp2
  go_ret
  exact ⟨by first | rfl | simp, rfl⟩

set_option maxHeartbeats 1000000 in
theorem turn18 (x : Int) (w : World) : Calls Tryd.prog 69 #[.int .u32 x, .int .u64 18] w fun e w' => e = .returned (.int .u32 (rotr x 18)) ∧ w = w' := by
  have hr : rotr x 18 = bits .or .u32 (x / 2 ^ 18) (IntKind.u32.wrap (x * 2 ^ (32 - 18))) := bits_or_comm _ _ _
  rw [hr]
  clear hr
  go_enter Tryd.func69, Tryd.ntmps69
  go_wp2
  go_ret
  exact ⟨by first | rfl | simp, rfl⟩

set_option maxHeartbeats 1000000 in
theorem turn19 (x : Int) (w : World) : Calls Tryd.prog 69 #[.int .u32 x, .int .u64 19] w fun e w' => e = .returned (.int .u32 (rotr x 19)) ∧ w = w' := by
  have hr : rotr x 19 = bits .or .u32 (x / 2 ^ 19) (IntKind.u32.wrap (x * 2 ^ (32 - 19))) := bits_or_comm _ _ _
  rw [hr]
  clear hr
  go_enter Tryd.func69, Tryd.ntmps69
  go_wp2
  go_ret
  exact ⟨by first | rfl | simp, rfl⟩

set_option maxHeartbeats 1000000 in
theorem turn22 (x : Int) (w : World) : Calls Tryd.prog 69 #[.int .u32 x, .int .u64 22] w fun e w' => e = .returned (.int .u32 (rotr x 22)) ∧ w = w' := by
  have hr : rotr x 22 = bits .or .u32 (x / 2 ^ 22) (IntKind.u32.wrap (x * 2 ^ (32 - 22))) := bits_or_comm _ _ _
  rw [hr]
  clear hr
  go_enter Tryd.func69, Tryd.ntmps69
  go_wp2
  go_ret
  exact ⟨by first | rfl | simp, rfl⟩

set_option maxHeartbeats 1000000 in
theorem turn25 (x : Int) (w : World) : Calls Tryd.prog 69 #[.int .u32 x, .int .u64 25] w fun e w' => e = .returned (.int .u32 (rotr x 25)) ∧ w = w' := by
  have hr : rotr x 25 = bits .or .u32 (x / 2 ^ 25) (IntKind.u32.wrap (x * 2 ^ (32 - 25))) := bits_or_comm _ _ _
  rw [hr]
  clear hr
  go_enter Tryd.func69, Tryd.ntmps69
  go_wp2
  go_ret
  exact ⟨by first | rfl | simp, rfl⟩

end Go.Proofs.YtdkgecphkppglaaDoor
