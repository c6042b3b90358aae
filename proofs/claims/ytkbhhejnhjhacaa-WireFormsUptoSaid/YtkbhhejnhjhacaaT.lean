/-
  What is written is read: plain.
-/
import Derived.Test.YtkbhhejnhjhacaaM
import Derived.Test.YtkbhhejnhjhacaaI
namespace Go.Proofs.Ytkbhhejnhjhacaa
open Go.RowKit

theorem val_from_eq : ∀ (l : List UInt8) (a : Nat), l.foldl (fun n c => n * 256 + c.toNat) a = a * 256 ^ l.length + val l
  | [], a => by simp [val]
  | c :: l, a => by
    have h1 := val_from_eq l (a * 256 + c.toNat)
    have h2 := val_from_eq l (0 * 256 + c.toNat)
    unfold val
    rw [List.foldl_cons, List.foldl_cons, h1, h2, List.length_cons, Nat.pow_succ, Nat.add_mul, Nat.zero_mul, Nat.zero_add]
    have : a * 256 * 256 ^ l.length = a * (256 ^ l.length * 256) := by rw [Nat.mul_assoc, Nat.mul_comm 256]
    omega
theorem val_cons (c : UInt8) (l : List UInt8) : val (c :: l) = c.toNat * 256 ^ l.length + val l := by
  have := val_from_eq l (0 * 256 + c.toNat)
  unfold val at *
  rw [List.foldl_cons, this]; simp

theorem val_be : ∀ k n, val (be k n) = n % 256 ^ k
  | 0, n => by simp [be, val, Nat.mod_one]
  | k + 1, n => by
    rw [be, val_cons, be_len, val_be k n, Nat.pow_succ, Nat.mod_mul]
    simp only [UInt8.toNat_ofNat']
    rw [Nat.mul_comm (n / 256 ^ k % 2 ^ 8)]
    show 256 ^ k * (n / 256 ^ k % 256) + n % 256 ^ k = _
    omega

theorem nb_ge (n : Nat) (h : n < 18446744073709551616) (h0 : n ≠ 0) : 1 ≤ nb n ∧ 256 ^ (nb n - 1) ≤ n := by
  have hb := Lib.bitLenAux_bounds 64 n h h0
  have h1 : 1 ≤ Lib.bitLen n := hb.1
  have h2 : 2 ^ (Lib.bitLen n - 1) ≤ n := hb.2.1
  refine ⟨by unfold nb; omega, ?_⟩
  refine Nat.le_trans ?_ h2
  rw [show (256 : Nat) = 2 ^ 8 from rfl, ← Nat.pow_mul]
  refine Nat.pow_le_pow_right (by omega) ?_
  unfold nb; omega

theorem digits_form_ok (n : Nat) (rest : List UInt8) (p : Int) (h : n < 18446744073709551616) : digits (nb n) (be (nb n) n ++ rest) p = (n, p + nb n, 0) := by
  by_cases h0 : n = 0
  · subst h0
    have : nb 0 = 0 := by decide
    rw [this]
    simp [digits]
  · obtain ⟨h1, h2⟩ := nb_ge n h h0
    have h3 := lt_nb n h
    obtain ⟨k, hk⟩ : ∃ k, nb n = k + 1 := ⟨nb n - 1, by omega⟩
    rw [hk] at h2 h3 ⊢
    simp only [Nat.add_sub_cancel] at h2
    unfold digits
    rw [if_neg (by omega)]
    have hl : (be (k + 1) n ++ rest).length = k + 1 + rest.length := by rw [List.length_append, be_len]
    have ht : (be (k + 1) n ++ rest).take (k + 1) = be (k + 1) n := by rw [List.take_append_of_le_length (by rw [be_len]; omega), List.take_of_length_le (by rw [be_len]; omega)]
    have hv : val (be (k + 1) n) = n := by rw [val_be, Nat.mod_eq_of_lt h3]
    have hd : (UInt8.ofNat (n / 256 ^ k)).toNat ≠ 0 := by
      rw [UInt8.toNat_ofNat']
      have hlt : n / 256 ^ k < 256 := by
        rw [Nat.div_lt_iff_lt_mul (Nat.pow_pos (by omega)), Nat.mul_comm, ← Nat.pow_succ]; exact h3
      have hge : 1 ≤ n / 256 ^ k := (Nat.le_div_iff_mul_le (Nat.pow_pos (by omega))).2 (by simpa using h2)
      rw [show (2 : Nat) ^ 8 = 256 from rfl, Nat.mod_eq_of_lt hlt]; omega
    have hc : be (k + 1) n ++ rest = UInt8.ofNat (n / 256 ^ k) :: (be k n ++ rest) := by rw [be]; rfl
    rw [hc] at hl ht ⊢
    dsimp only
    rw [if_neg hd, if_neg (by omega), ht, hv]

theorem readU_form (pre rest : List UInt8) (n : Nat) (h : n < 18446744073709551616) : readU (pre ++ (form n ++ rest)) pre.length = (n, ((pre.length + (form n).length : Nat) : Int), 0) := by
  unfold readU
  rw [if_neg (by rw [List.length_append]; omega), Int.toNat_natCast, List.drop_left]
  unfold form
  rw [List.cons_append]
  unfold readTail
  dsimp only
  have hnb := nb_le n h
  have hm : nb n % 2 ^ 8 = nb n := Nat.mod_eq_of_lt (by omega)
  rw [UInt8.toNat_ofNat', hm, if_neg (by omega), digits_form_ok n rest _ h, List.length_cons, be_len]
  congr 2
  omega

theorem readC_form (pre rest : List UInt8) (n : Nat) (most : Int) (h : n < 18446744073709551616) :
    readC (pre ++ (form n ++ rest)) pre.length most = if (n : Int) ≤ most then (n, ((pre.length + (form n).length : Nat) : Int), 0) else (0, 0, 3) := by
  unfold readC
  rw [readU_form pre rest n h, if_pos rfl]
  by_cases hm : (n : Int) ≤ most
  · rw [if_pos hm, if_neg (by dsimp only; omega)]
  · rw [if_neg hm, if_pos (by dsimp only; omega)]

theorem readB_row (pre rest x : List UInt8) (most : Int) (h : x.length < 18446744073709551616) :
    readB (pre ++ (row x ++ rest)) pre.length most = if (x.length : Int) ≤ most then (x, ((pre.length + (row x).length : Nat) : Int), 0) else ([], 0, 3) := by
  unfold readB
  have e : pre ++ (row x ++ rest) = pre ++ (form x.length ++ (x ++ rest)) := by unfold row; rw [List.append_assoc]
  rw [e, readC_form pre (x ++ rest) x.length most h]
  by_cases hm : (x.length : Int) ≤ most
  · rw [if_pos hm, if_pos rfl, if_pos hm, if_neg]
    · dsimp only
      rw [Int.toNat_natCast]
      have hd : (pre ++ (form x.length ++ (x ++ rest))).drop (pre.length + (form x.length).length) = x ++ rest := by
        rw [← List.append_assoc, ← List.length_append, List.drop_left]
      rw [hd, List.take_left]
      congr 2
      unfold row
      rw [List.length_append]; omega
    · dsimp only
      simp only [List.length_append]; omega
  · rw [if_neg hm, if_neg hm, if_neg (by decide)]

theorem readRows_flat (rest : List UInt8) (most : Int) : ∀ (L : List Row) (pre : List UInt8), (∀ r ∈ L, r.bs.length < 18446744073709551616) →
    readRows (pre ++ (flat L ++ rest)) most L.length pre.length = if ∀ r ∈ L, (r.bs.length : Int) ≤ most then (L.map Row.bs, ((pre.length + (flat L).length : Nat) : Int), 0) else ([], 0, 3)
  | [], pre, _ => by simp [readRows, flat]
  | r :: L, pre, h => by
    rw [List.length_cons, readRows]
    have e : pre ++ (flat (r :: L) ++ rest) = pre ++ (row r.bs ++ (flat L ++ rest)) := by unfold flat; rw [List.flatMap_cons, List.append_assoc]
    rw [e, readB_row pre (flat L ++ rest) r.bs most (h r (by simp))]
    by_cases hm : (r.bs.length : Int) ≤ most
    · rw [if_pos hm, if_pos rfl]
      dsimp only
      have e2 : pre ++ (row r.bs ++ (flat L ++ rest)) = (pre ++ row r.bs) ++ (flat L ++ rest) := by rw [List.append_assoc]
      rw [e2, ← List.length_append, readRows_flat rest most L (pre ++ row r.bs) (fun q hq => h q (by simp [hq]))]
      by_cases ha : ∀ q ∈ L, (q.bs.length : Int) ≤ most
      · rw [if_pos ha, if_pos (by intro q hq; rcases List.mem_cons.1 hq with rfl | hq; exact hm; exact ha q hq)]
        unfold joinR
        rw [if_pos rfl]
        simp only [List.map_cons, List.singleton_append, flat, List.flatMap_cons, List.length_append]
        congr 2
        omega
      · rw [if_neg ha, if_neg (fun hh => ha (fun q hq => hh q (by simp [hq])))]
        unfold joinR
        rw [if_neg (by decide)]
    · rw [if_neg hm, if_neg (by decide), if_neg (fun hh => hm (hh r (by simp)))]

theorem readL_list (pre rest : List UInt8) (L : List Row) (many most : Int) (h : ∀ r ∈ L, r.bs.length < 18446744073709551616) (hl : L.length < 18446744073709551616) :
    readL (pre ++ (listForm L ++ rest)) pre.length many most =
      if (L.length : Int) ≤ many ∧ ∀ r ∈ L, (r.bs.length : Int) ≤ most then (L.map Row.bs, ((pre.length + (listForm L).length : Nat) : Int), 0) else ([], 0, 3) := by
  unfold readL
  have e : pre ++ (listForm L ++ rest) = pre ++ (form L.length ++ (flat L ++ rest)) := by unfold listForm; rw [List.append_assoc]
  rw [e, readC_form pre (flat L ++ rest) L.length many hl]
  by_cases hm : (L.length : Int) ≤ many
  · rw [if_pos hm, if_pos rfl]
    dsimp only
    have e2 : pre ++ (form L.length ++ (flat L ++ rest)) = (pre ++ form L.length) ++ (flat L ++ rest) := by rw [List.append_assoc]
    rw [e2, ← List.length_append, readRows_flat rest most L (pre ++ form L.length) h]
    by_cases ha : ∀ q ∈ L, (q.bs.length : Int) ≤ most
    · rw [if_pos ha, if_pos ⟨hm, ha⟩]
      unfold listForm
      simp only [List.length_append]
      congr 3
      omega
    · rw [if_neg ha, if_neg (fun hh => ha hh.2)]
  · rw [if_neg hm, if_neg (by decide), if_neg (fun hh => hm hh.1)]

end Go.Proofs.Ytkbhhejnhjhacaa
