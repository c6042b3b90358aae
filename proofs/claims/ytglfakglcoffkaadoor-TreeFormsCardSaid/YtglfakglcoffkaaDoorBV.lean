/-
  Eight bytes as a number (plain).
-/
import Derived.Test.YtglfakglcoffkaaDoorE
import Derived.Lib.EndianBits
namespace Go.Proofs.YtglfakglcoffkaaDoor
open Go.RowKit

def valL : List UInt8 → Nat
  | [] => 0
  | x :: l => x.toNat * 2 ^ (8 * l.length) + valL l
theorem valL_snoc : ∀ (l : List UInt8) (x : UInt8), valL (l ++ [x]) = valL l * 256 + x.toNat
  | [], x => by simp [valL]
  | y :: l, x => by
    rw [List.cons_append]
    show y.toNat * 2 ^ (8 * (l ++ [x]).length) + valL (l ++ [x]) = (y.toNat * 2 ^ (8 * l.length) + valL l) * 256 + x.toNat
    rw [valL_snoc l x, List.length_append, List.length_singleton, Nat.mul_add, Nat.pow_add, show (2 : Nat) ^ (8 * 1) = 256 from rfl, ← Nat.mul_assoc, Nat.add_mul]
    omega
theorem valL_lt : ∀ (l : List UInt8), valL l < 2 ^ (8 * l.length)
  | [] => by decide
  | x :: l => by
    have ih := valL_lt l
    have hx := x.toNat_lt
    show x.toNat * 2 ^ (8 * l.length) + valL l < 2 ^ (8 * (l.length + 1))
    rw [Nat.mul_succ, Nat.pow_add]
    have := Nat.mul_le_mul_right (2 ^ (8 * l.length)) (show x.toNat + 1 ≤ 256 by omega)
    rw [Nat.add_mul, Nat.one_mul] at this
    rw [Nat.mul_comm (2 ^ (8 * l.length)) (2 ^ 8)]
    omega
theorem be_add : ∀ (k n c : Nat), be k (n + c * 2 ^ (8 * k)) = be k n
  | 0, _, _ => rfl
  | k + 1, n, c => by
    have e : c * 2 ^ (8 * (k + 1)) = (c * 256) * 2 ^ (8 * k) := by rw [Nat.mul_succ, Nat.pow_add, Nat.mul_assoc, Nat.mul_comm (2 ^ (8 * k))]
    rw [e]
    show UInt8.ofNat ((n + c * 256 * 2 ^ (8 * k)) / 2 ^ (8 * k)) :: be k (n + c * 256 * 2 ^ (8 * k)) = UInt8.ofNat (n / 2 ^ (8 * k)) :: be k n
    rw [be_add k n (c * 256), Nat.add_mul_div_right _ _ (Nat.pow_pos (by decide))]
    congr 1
    apply UInt8.toNat_inj.1
    rw [UInt8.toNat_ofNat', UInt8.toNat_ofNat']
    omega
theorem be_val : ∀ (l : List UInt8), be l.length (valL l) = l
  | [] => rfl
  | x :: l => by
    have ih := be_val l
    have h1 := valL_lt l
    show UInt8.ofNat ((x.toNat * 2 ^ (8 * l.length) + valL l) / 2 ^ (8 * l.length)) :: be l.length (x.toNat * 2 ^ (8 * l.length) + valL l) = x :: l
    rw [Nat.add_comm (x.toNat * 2 ^ (8 * l.length)), be_add, ih, Nat.add_mul_div_right _ _ (Nat.pow_pos (by decide)), Nat.div_eq_of_lt h1, Nat.zero_add]
    congr 1
    apply UInt8.toNat_inj.1
    rw [UInt8.toNat_ofNat']
    have := x.toNat_lt
    omega

end Go.Proofs.YtglfakglcoffkaaDoor
