/-
  Package program: what is read was written (plain).
-/
import Derived.Test.YtglfakglcoffkaaDoorPRP
namespace Go.Proofs.YtglfakglcoffkaaDoor
open Go.RowKit

theorem wbe_add : ∀ k a v, wbe k (a * 256 ^ k + v) = wbe k v
  | 0, _, _ => rfl
  | k + 1, a, v => by
    have e0 : a * 256 ^ (k + 1) + v = (a * 256) * 256 ^ k + v := by rw [Nat.pow_succ, Nat.mul_assoc, Nat.mul_comm 256]
    rw [e0, wbe, wbe, wbe_add k (a * 256) v]
    have e1 : (a * 256 * 256 ^ k + v) / 256 ^ k = a * 256 + v / 256 ^ k := by
      rw [Nat.mul_comm (a * 256), Nat.mul_add_div (Nat.pow_pos (by omega))]
    rw [e1]
    have e2 : UInt8.ofNat (a * 256 + v / 256 ^ k) = UInt8.ofNat (v / 256 ^ k) := by
      apply UInt8.toNat_inj.1
      rw [UInt8.toNat_ofNat', UInt8.toNat_ofNat']
      omega
    rw [e2]
theorem wbe_val : ∀ l : List UInt8, wbe l.length (valW l) = l
  | [] => rfl
  | c :: l => by
    rw [List.length_cons, wbe, val_cons]
    have h := valW_lt l
    have e1 : (c.toNat * 256 ^ l.length + valW l) / 256 ^ l.length = c.toNat := by
      rw [Nat.mul_comm, Nat.mul_add_div (Nat.pow_pos (by omega)), Nat.div_eq_of_lt h, Nat.add_zero]
    rw [e1, UInt8.ofNat_toNat, wbe_add, wbe_val l]
theorem nb_is {n k : Nat} (h : n < 18446744073709551616) (h1 : 1 ≤ k) (hlo : 256 ^ (k - 1) ≤ n) (hhi : n < 256 ^ k) : nb n = k := by
  have h0 : n ≠ 0 := by have := Nat.pow_pos (n := k - 1) (show 0 < 256 by omega); omega
  obtain ⟨g1, g2⟩ := nb_ge n h h0
  have g3 := lt_nb n h
  have a1 : nb n - 1 < k := (Nat.pow_lt_pow_iff_right (by omega : 1 < 256)).1 (Nat.lt_of_le_of_lt g2 hhi)
  have a2 : k - 1 < nb n := (Nat.pow_lt_pow_iff_right (by omega : 1 < 256)).1 (Nat.lt_of_le_of_lt hlo g3)
  omega
/-- A number that is read was written so. -/
theorem readU_was {bs : List UInt8} {k n : Nat} {x : Int} (h : readU bs k = (n, x, 0)) : ∃ k' : Nat, x = k' ∧ k ≤ k' ∧ k' ≤ bs.length ∧ bs.take k' = bs.take k ++ form n := by
  have hwell := readU_well bs k
  rw [h] at hwell
  have hr := hwell.ok rfl
  have htop := hwell.top
  dsimp only at hr htop
  have hkl : k ≤ bs.length := by omega
  unfold readU at h
  rw [if_neg (by omega), Int.toNat_natCast] at h
  have key : ∀ m, (bs.drop k).take m = form n → x = ((k + m : Nat) : Int) → ∃ k' : Nat, x = k' ∧ k ≤ k' ∧ k' ≤ bs.length ∧ bs.take k' = bs.take k ++ form n := fun m e1 e2 =>
    ⟨k + m, e2, by omega, by omega, by rw [List.take_add, e1]⟩
  generalize bs.drop k = r at h key
  match r, h, key with
  | [], h, _ => simp [readTail] at h
  | c :: t, h, key =>
    unfold readTail at h
    dsimp only at h
    by_cases h8 : 8 < c.toNat
    · rw [if_pos h8] at h; simp at h
    rw [if_neg h8] at h
    unfold digits at h
    by_cases hc0 : c.toNat = 0
    · rw [if_pos hc0] at h
      simp only [Prod.mk.injEq, and_true] at h
      obtain ⟨rfl, rfl⟩ := h
      refine key 1 ?_ (by omega)
      have e : c = 0 := UInt8.toNat_inj.1 (by rw [hc0]; rfl)
      rw [e]; rfl
    rw [if_neg hc0] at h
    match t, h, key with
    | [], h, _ => simp at h
    | d :: t, h, key =>
      dsimp only at h
      by_cases hd : d.toNat = 0
      · rw [if_pos hd] at h; simp at h
      rw [if_neg hd] at h
      by_cases hl : (d :: t).length < c.toNat
      · rw [if_pos hl] at h; simp at h
      rw [if_neg hl] at h
      simp only [Prod.mk.injEq, and_true] at h
      obtain ⟨hv, hx⟩ := h
      obtain ⟨j, hj⟩ : ∃ j, c.toNat = j + 1 := ⟨c.toNat - 1, by omega⟩
      have htk : (d :: t).take c.toNat = d :: t.take j := by rw [hj, List.take_succ_cons]
      have hlen : (d :: t.take j).length = c.toNat := by
        rw [← htk, List.length_take]; omega
      have hjl : (t.take j).length = j := by simp only [List.length_cons] at hlen; omega
      rw [htk] at hv
      have hnb : nb n = c.toNat := by
        refine nb_is htop (by omega) ?_ ?_
        · rw [← hv, val_cons, hjl, hj, Nat.add_sub_cancel]
          have : 1 * 256 ^ j ≤ d.toNat * 256 ^ j := Nat.mul_le_mul_right _ (by omega)
          omega
        · rw [← hv, ← hlen]; exact valW_lt _
      refine key (1 + c.toNat) ?_ (by omega)
      unfold form
      rw [hnb, UInt8.ofNat_toNat, Nat.add_comm, List.take_succ_cons, htk, ← hv, ← hlen, wbe_val]
theorem numS_was {bs : List UInt8} {most k n k' : Nat} (h : numS bs most (some k) = (n, some k')) : k ≤ k' ∧ k' ≤ bs.length ∧ n ≤ most ∧ bs.take k' = bs.take k ++ form n := by
  unfold numS at h
  dsimp only at h
  by_cases hc : (readU bs k).2.2 = 0 ∧ (readU bs k).1 ≤ most
  · rw [if_pos hc] at h
    obtain ⟨m, x, e, hq⟩ : ∃ m x e, readU bs k = (m, x, e) := ⟨_, _, _, rfl⟩
    rw [hq] at h hc
    simp only [Prod.mk.injEq, Option.some.injEq] at h
    obtain ⟨rfl, rfl⟩ := h
    obtain ⟨he, hm⟩ := hc
    dsimp only at he hm
    subst he
    obtain ⟨k2, rfl, h1, h2, h3⟩ := readU_was hq
    rw [Int.toNat_natCast]
    exact ⟨h1, h2, hm, h3⟩
  · rw [if_neg hc] at h; simp at h
theorem txtS_was {bs l : List UInt8} {k k' : Nat} (h : txtS bs (some k) = (l, some k')) : k ≤ k' ∧ k' ≤ bs.length ∧ l.length ≤ 40 ∧ bs.take k' = bs.take k ++ row l := by
  unfold txtS at h
  dsimp only at h
  by_cases hc : (readB bs k 40).2.2 = 0
  · rw [if_pos hc] at h
    unfold readB at h hc
    by_cases h0 : (readC bs k 40).2.2 = 0
    · rw [if_pos h0] at h hc
      by_cases h1 : (bs.length : Int) - (readC bs k 40).2.1 < ((readC bs k 40).1 : Int)
      · rw [if_pos h1] at hc; cases hc
      · rw [if_neg h1] at h
        obtain ⟨m, x, e, hq⟩ : ∃ m x e, readC bs k 40 = (m, x, e) := ⟨_, _, _, rfl⟩
        rw [hq] at h h0 h1
        dsimp only at h h0 h1
        subst h0
        simp only [Prod.mk.injEq, Option.some.injEq] at h
        obtain ⟨h2, h3⟩ := h
        have hU : readU bs k = (m, x, 0) ∧ m ≤ 40 := by
          unfold readC at hq
          by_cases g0 : (readU bs k).2.2 = 0
          · rw [if_pos g0] at hq
            by_cases g1 : (40 : Int) < 0 ∨ (40 : Int) < ((readU bs k).1 : Int)
            · rw [if_pos g1] at hq; simp at hq
            · rw [if_neg g1] at hq
              rw [hq] at g1
              dsimp only at g1
              exact ⟨hq, by omega⟩
          · rw [if_neg g0] at hq
            simp only [Prod.mk.injEq] at hq
            exact absurd hq.2.2 g0
        obtain ⟨k2, rfl, g1, g2, g3⟩ := readU_was hU.1
        rw [Int.toNat_natCast] at h2
        have hll : l.length = m := by rw [← h2, List.length_take, List.length_drop]; omega
        have hk' : k' = k2 + m := by omega
        subst hk'
        refine ⟨by omega, by omega, by omega, ?_⟩
        rw [List.take_add, g3, h2]
        unfold row
        rw [hll, List.append_assoc]
    · rw [if_neg h0] at hc; exact absurd hc h0
  · rw [if_neg hc] at h; simp at h

end Go.Proofs.YtglfakglcoffkaaDoor
