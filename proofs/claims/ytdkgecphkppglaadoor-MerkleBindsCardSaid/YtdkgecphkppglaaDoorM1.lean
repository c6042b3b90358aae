/-
  Package merkle: counting.
-/
import Derived.Test.YtdkgecphkppglaaDoorP0
namespace Go.Proofs.YtdkgecphkppglaaDoor
open Go.RowKit

/-- How many chunks a blob of n bytes has. -/
def cntN (n : Nat) : Nat := (n - 1) / 64 + 1

theorem count_nat (n : Nat) (hn : n < 9223372036854775808) (w : World) : Calls Tryd.prog 26 #[.int .i64 n] w fun e w' => e = .returned (.int .i64 (cntN n)) ∧ w = w' := by
  by_cases h0 : n = 0
  · subst h0
    go_enter Tryd.func26, Tryd.ntmps26
    go_wp2
    go_ret
    exact ⟨rfl, rfl⟩
  · have h1 : ¬ ((n : Int) = 0) := by omega
    have h2 : ((n : Int) == 0) = false := by simp; omega
    have hc : ((cntN n : Nat) : Int) = ((n : Int) - 1) / 64 + 1 := by unfold cntN; omega
    have HC := Lib.hid hc
    clear hc
    go_enter Tryd.func26, Tryd.ntmps26
    go_wp2
    go_ret
    exact ⟨by rw [HC.out]; rfl, rfl⟩
theorem count_neg (n : Int) (hn : n < 0) (w : World) : Calls Tryd.prog 26 #[.int .i64 n] w fun e w' => e = .returned (.int .i64 0) ∧ w = w' := by
  go_enter Tryd.func26, Tryd.ntmps26
  go_wp2
  go_ret
  exact ⟨rfl, rfl⟩

theorem ischunk_low (n i : Int) (hi : i < 0) (w : World) : Calls Tryd.prog 54 #[.int .i64 n, .int .i64 i] w fun e w' => e = .returned (.bool false) ∧ w = w' := by
  have h1 : decide ((0 : Int) ≤ i) = false := by simp; omega
  go_enter Tryd.func54, Tryd.ntmps54
  go_wp2
  go_ret
  exact ⟨rfl, rfl⟩
theorem ischunk_nat (n i : Nat) (hn : n < 9223372036854775808) (w : World) : Calls Tryd.prog 54 #[.int .i64 n, .int .i64 i] w fun e w' => e = .returned (.bool (decide (i < cntN n))) ∧ w = w' := by
  have h1 : decide ((0 : Int) ≤ (i : Int)) = true := by simp
  have HC := Lib.hid (count_nat n hn w)
  go_enter Tryd.func54, Tryd.ntmps54
  go_wp2_with fail
  refine HC.out.mono ?_
  rintro e w' ⟨rfl, rfl⟩
  go_wp2_with fail
  go_ret
  exact ⟨ret_bool (by simp), rfl⟩
theorem ischunk_neg (n i : Int) (hn : n < 0) (w : World) : Calls Tryd.prog 54 #[.int .i64 n, .int .i64 i] w fun e w' => e = .returned (.bool false) ∧ w = w' := by
  by_cases hi : i < 0
  · exact ischunk_low n i hi w
  have h1 : decide ((0 : Int) ≤ i) = true := by simp; omega
  have h2 : decide (i < (0 : Int)) = false := by simp; omega
  have HC := Lib.hid (count_neg n hn w)
  go_enter Tryd.func54, Tryd.ntmps54
  go_wp2_with fail
  refine HC.out.mono ?_
  rintro e w' ⟨rfl, rfl⟩
  go_wp2_with fail
  go_ret
  exact ⟨rfl, rfl⟩

/-- Whether the digest i of a row of so many has none beside it. -/
def aloneB (n i : Nat) : Bool := decide (n % 2 = 1) && decide (i + 1 = n)
theorem alone_nat (n i : Nat) (hn : n < 9223372036854775808) (_hi : i < 9223372036854775808) (w : World) : Calls Tryd.prog 57 #[.int .i64 n, .int .i64 i] w fun e w' => e = .returned (.bool (aloneB n i)) ∧ w = w' := by
  by_cases h : n % 2 = 1
  · have h1 : ((n : Int) % 2 == 1) = true := by simp; omega
    have hr : aloneB n i = ((i : Int) == (n : Int) - 1) := by
      unfold aloneB
      rw [Bool.eq_iff_iff, Bool.and_eq_true, decide_eq_true_eq, decide_eq_true_eq, beq_iff_eq]
      omega
    rw [hr]
    clear hr
    go_enter Tryd.func57, Tryd.ntmps57
    go_wp2
    go_ret
    exact ⟨rfl, rfl⟩
  · have h1 : ((n : Int) % 2 == 1) = false := by simp; omega
    have hr : aloneB n i = false := by unfold aloneB; simp [h]
    rw [hr]
    clear hr
    go_enter Tryd.func57, Tryd.ntmps57
    go_wp2
    go_ret
    exact ⟨rfl, rfl⟩

theorem half_nat (n : Nat) (hn : n < 9223372036854775808) (w : World) : Calls Tryd.prog 61 #[.int .i64 n] w fun e w' => e = .returned (.int .i64 ((n + 1) / 2 : Nat)) ∧ w = w' := by
  have hh : (((n + 1) / 2 : Nat) : Int) = (n : Int) / 2 + (n : Int) % 2 := by omega
  rw [hh]
  clear hh
  go_enter Tryd.func61, Tryd.ntmps61
  go_wp2
  go_ret
  exact ⟨rfl, rfl⟩

/-- How long the chunk i of a blob of n bytes is. -/
def chunkN (n i : Nat) : Nat := min 64 (n - 64 * i)
theorem chunk_len (n i : Nat) (hn : n < 9223372036854775808) (hi : 64 * i ≤ n) (w : World) : Calls Tryd.prog 59 #[.int .i64 n, .int .i64 i] w fun e w' => e = .returned (.int .i64 (chunkN n i)) ∧ w = w' := by
  by_cases h : n - 64 * i < 64
  · have hh : ((chunkN n i : Nat) : Int) = (n : Int) - (i : Int) * 64 := by unfold chunkN; omega
    rw [hh]
    clear hh
    go_enter Tryd.func59, Tryd.ntmps59
    go_wp2
    go_ret
    exact ⟨rfl, rfl⟩
  · have hh : ((chunkN n i : Nat) : Int) = 64 := by unfold chunkN; omega
    rw [hh]
    clear hh
    go_enter Tryd.func59, Tryd.ntmps59
    go_wp2
    go_ret
    exact ⟨rfl, rfl⟩

end Go.Proofs.YtdkgecphkppglaaDoor
