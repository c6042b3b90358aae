/-
  Package merkle: the top of a row of at most three, by hand; the eight bytes of a small number.
-/
import Derived.Test.YtdkgecphkppglaaDoorMR
namespace Go.Proofs.YtdkgecphkppglaaDoor
open Go.RowKit

def pairDg (a b : Dg) : Dg := ⟨pairB a.1 b.1, dig_len _⟩
/-- The pairs of a row from its left, k of them. -/
def accB (L : List Dg) (k : Nat) : Dg := ((L.drop 1).take k).foldl pairDg (L.getD 0 zeroDg)
theorem acc_zero (L : List Dg) : accB L 0 = L.getD 0 zeroDg := by simp [accB]
theorem acc_step (L : List Dg) (k : Nat) (h : k + 1 < L.length) : accB L (k + 1) = pairDg (accB L k) L[k + 1] := by
  unfold accB
  rw [List.take_succ_eq_append_getElem (by rw [List.length_drop]; omega), List.foldl_append, List.getElem_drop]
  simp only [List.foldl_cons, List.foldl_nil, Nat.add_comm 1 k]
theorem top_one (a : Dg) : topB [a] = a := by rw [topB_end _ (by simp)]; rfl
theorem next_two (a b : Dg) : nextB [a, b] = [pairDg a b] := by simp [nextB, List.range_succ, nextDg, aloneB, pairDg]
theorem next_three (a b c : Dg) : nextB [a, b, c] = [pairDg a b, c] := by simp [nextB, List.range_succ, nextDg, aloneB, pairDg]
theorem acc_top (L : List Dg) (h1 : 1 ≤ L.length) (h3 : L.length ≤ 3) : topB L = accB L (L.length - 1) := by
  match L, h1, h3 with
  | [a], _, _ => exact top_one a
  | [a, b], _, _ => rw [topB_step _ (by simp), next_two, top_one]; rfl
  | [a, b, c], _, _ => rw [topB_step _ (by simp), next_three, topB_step _ (by simp), next_two, top_one]; rfl

theorem be8_small (k : Nat) (hk : k < 256) : byteVals (be 8 k) = [.int .u8 0, .int .u8 0, .int .u8 0, .int .u8 0, .int .u8 0, .int .u8 0, .int .u8 0, .int .u8 k] := by
  have h : ∀ m : Nat, 256 ≤ m → k / m = 0 := fun m hm => Nat.div_eq_of_lt (by omega)
  simp [be, byteVals, h]
  omega

end Go.Proofs.YtdkgecphkppglaaDoor
