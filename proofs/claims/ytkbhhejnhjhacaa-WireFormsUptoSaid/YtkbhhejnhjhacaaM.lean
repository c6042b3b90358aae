/-
  Forms of numbers rise with their numbers: plain.
-/
import Derived.Test.YtkbhhejnhjhacaaC
import Derived.Lib.ItoaNum
namespace Go.Proofs.Ytkbhhejnhjhacaa
open Go.RowKit

theorem u8_lt (a b : Nat) : (UInt8.ofNat a < UInt8.ofNat b) ↔ a % 256 < b % 256 := by
  rw [UInt8.lt_iff_toNat_lt]; simp
theorem u8_eq (a b : Nat) : (UInt8.ofNat a = UInt8.ofNat b) ↔ a % 256 = b % 256 := by
  rw [← UInt8.toNat_inj]; simp

theorem be_less : ∀ (k n m : Nat), Op.bytesLess (be k n) (be k m) = decide (n % 256 ^ k < m % 256 ^ k)
  | 0, n, m => by simp [be, Op.bytesLess, Nat.mod_one]
  | k + 1, n, m => by
    rw [be, be, Op.bytesLess, be_less k n m, Nat.pow_succ, Nat.mod_mul, Nat.mod_mul]
    have hn := Nat.mod_lt n (Nat.pow_pos (n := k) (show 0 < 256 by omega))
    have hm := Nat.mod_lt m (Nat.pow_pos (n := k) (show 0 < 256 by omega))
    generalize 256 ^ k = P at *
    generalize n % P = r at *
    generalize m % P = s at *
    by_cases h : n / P % 256 < m / P % 256
    · have h1 : UInt8.ofNat (n / P) < UInt8.ofNat (m / P) := (u8_lt _ _).2 h
      have h2 : r + P * (n / P % 256) < s + P * (m / P % 256) := by
        have : P * (n / P % 256) + P ≤ P * (m / P % 256) := by rw [← Nat.mul_succ]; exact Nat.mul_le_mul_left _ h
        omega
      simp [h1, h2]
    · have h1 : ¬ UInt8.ofNat (n / P) < UInt8.ofNat (m / P) := fun e => h ((u8_lt _ _).1 e)
      by_cases he : n / P % 256 = m / P % 256
      · have h3 : UInt8.ofNat (n / P) = UInt8.ofNat (m / P) := (u8_eq _ _).2 he
        rw [h3, he]
        simp
      · have h3 : ¬ UInt8.ofNat (n / P) = UInt8.ofNat (m / P) := fun e => he ((u8_eq _ _).1 e)
        have h2 : ¬ r + P * (n / P % 256) < s + P * (m / P % 256) := by
          have : P * (m / P % 256) + P ≤ P * (n / P % 256) := by rw [← Nat.mul_succ]; exact Nat.mul_le_mul_left _ (by omega)
          omega
        simp [h1, h2, h3]

theorem bytesLess_self : ∀ l : List UInt8, Op.bytesLess l l = false
  | [] => rfl
  | a :: l => by rw [Op.bytesLess, bytesLess_self l]; simp

theorem be_inj {k n m : Nat} (h : be k n = be k m) : n % 256 ^ k = m % 256 ^ k := by
  have h1 := be_less k n m
  have h2 := be_less k m n
  rw [h, bytesLess_self] at h1 h2
  have h1 := of_decide_eq_false h1.symm
  have h2 := of_decide_eq_false h2.symm
  omega

theorem lt_nb (n : Nat) (h : n < 18446744073709551616) : n < 256 ^ nb n := by
  by_cases h0 : n = 0
  · subst h0; exact Nat.pow_pos (by omega)
  · have hb := (Lib.bitLenAux_bounds 64 n h h0).2.2
    refine Nat.lt_of_lt_of_le hb ?_
    rw [show (256 : Nat) = 2 ^ 8 from rfl, ← Nat.pow_mul]
    refine Nat.pow_le_pow_right (by omega) ?_
    show Lib.bitLen n ≤ 8 * nb n
    unfold nb; omega

theorem nb_mono {n m : Nat} (hm : m < 18446744073709551616) (h : n ≤ m) : nb n ≤ nb m := by
  by_cases h0 : n = 0
  · subst h0
    have : nb 0 = 0 := by decide
    omega
  · have hb := (Lib.bitLenAux_bounds 64 n (by omega) h0).2.1
    have hc := (Lib.bitLenAux_bounds 64 m hm (by omega)).2.2
    have : 2 ^ (Lib.bitLenAux 64 n - 1) < 2 ^ Lib.bitLenAux 64 m := by omega
    have := (Nat.pow_lt_pow_iff_right (by omega : 1 < 2)).1 this
    show (Lib.bitLenAux 64 n + 7) / 8 ≤ (Lib.bitLenAux 64 m + 7) / 8
    omega

theorem form_inj {n m : Nat} (hn : n < 18446744073709551616) (hm : m < 18446744073709551616) (h : form n = form m) : n = m := by
  unfold form at h
  have h1 := (List.cons.inj h).1
  have h2 := (List.cons.inj h).2
  have a := nb_le n hn
  have b := nb_le m hm
  have hk : nb n = nb m := by have := (u8_eq _ _).1 h1; omega
  rw [hk] at h2
  have := be_inj h2
  have l1 := lt_nb n hn
  have l2 := lt_nb m hm
  rw [hk] at l1
  rwa [Nat.mod_eq_of_lt l1, Nat.mod_eq_of_lt l2] at this

theorem form_less (n m : Nat) (hn : n < 18446744073709551616) (hm : m < 18446744073709551616) : Op.bytesLess (form n) (form m) = decide (n < m) := by
  have a := nb_le n hn
  have b := nb_le m hm
  unfold form
  rw [Op.bytesLess]
  rcases Nat.lt_trichotomy (nb n) (nb m) with h | h | h
  · have h1 : UInt8.ofNat (nb n) < UInt8.ofNat (nb m) := (u8_lt _ _).2 (by omega)
    have h2 : n < m := by
      rcases Nat.lt_or_ge n m with h2 | h2
      · exact h2
      · have := nb_mono hn h2; omega
    simp [h1, h2]
  · rw [h, be_less]
    have l1 := lt_nb n hn
    have l2 := lt_nb m hm
    rw [h] at l1
    rw [Nat.mod_eq_of_lt l1, Nat.mod_eq_of_lt l2]
    simp
  · have h1 : ¬ UInt8.ofNat (nb n) < UInt8.ofNat (nb m) := fun e => by have := (u8_lt _ _).1 e; omega
    have h3 : ¬ UInt8.ofNat (nb n) = UInt8.ofNat (nb m) := fun e => by have := (u8_eq _ _).1 e; omega
    have h2 : ¬ n < m := fun e => by have := nb_mono hm (Nat.le_of_lt e); omega
    simp [h1, h2, h3]

theorem form_pre (n m : Nat) (hn : n < 18446744073709551616) (hm : m < 18446744073709551616) (h : n ≠ m) (k : Nat) (hk : k = min (form n).length (form m).length) : (form n).take k ≠ (form m).take k := by
  intro e
  have a := nb_le n hn
  have b := nb_le m hm
  have hl := form_len n
  have hl' := form_len m
  by_cases he : nb n = nb m
  · rw [List.take_of_length_le (by omega), List.take_of_length_le (by omega)] at e
    exact h (form_inj hn hm e)
  · obtain ⟨j, rfl⟩ : ∃ j, k = j + 1 := ⟨k - 1, by omega⟩
    unfold form at e
    rw [List.take_succ_cons, List.take_succ_cons] at e
    have := (u8_eq _ _).1 (List.cons.inj e).1
    omega

end Go.Proofs.Ytkbhhejnhjhacaa
