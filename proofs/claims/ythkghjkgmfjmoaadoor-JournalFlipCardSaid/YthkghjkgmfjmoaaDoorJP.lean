/-
  Package journal: what is read of any bytes (plain).
-/
import Derived.Test.YthkghjkgmfjmoaaDoorWA
import Derived.Test.YthkghjkgmfjmoaaDoorBV
namespace Go.Proofs.YthkghjkgmfjmoaaDoor
open Go.RowKit

theorem p256 (k : Nat) : (256 : Nat) ^ k = 2 ^ (8 * k) := by rw [Nat.pow_mul]
theorem wbe_be : ∀ k n, wbe k n = be k n
  | 0, _ => rfl
  | k + 1, n => by
    show UInt8.ofNat (n / 256 ^ k) :: wbe k n = UInt8.ofNat (n / 2 ^ (8 * k)) :: be k n
    rw [wbe_be k n, p256]
theorem valW_valL : ∀ l : List UInt8, valW l = valL l
  | [] => rfl
  | c :: l => by
    rw [val_cons, valW_valL l, p256]; rfl
theorem wbe_val (l : List UInt8) : wbe l.length (valW l) = l := by rw [wbe_be, valW_valL, be_val]
theorem nb_val (d : UInt8) (l : List UInt8) (hd : d.toNat ≠ 0) (hl : l.length < 8) : nb (valW (d :: l)) = l.length + 1 := by
  have h1 := val_cons d l
  have h2 := valW_lt (d :: l)
  rw [List.length_cons] at h2
  have h64 : (256 : Nat) ^ (l.length + 1) ≤ 256 ^ 8 := Nat.pow_le_pow_right (by omega) (by omega)
  have e8 : (256 : Nat) ^ 8 = 18446744073709551616 := by decide
  have hp : 0 < 256 ^ l.length := Nat.pow_pos (by omega)
  have hge : 256 ^ l.length ≤ valW (d :: l) := by
    have := Nat.mul_le_mul_right (256 ^ l.length) (show 1 ≤ d.toNat by omega)
    omega
  have a1 := (nb_pos_iff (valW (d :: l)) l.length (by omega)).1 (Nat.div_pos hge hp)
  have a2 : ¬ l.length + 1 < nb (valW (d :: l)) := fun h => by
    have := (nb_pos_iff (valW (d :: l)) (l.length + 1) (by omega)).2 h
    rw [Nat.div_eq_of_lt h2] at this
    omega
  omega

theorem readU_of (bs : List UInt8) (p n : Nat) (next : Int) (h : readU bs p = (n, next, 0)) :
    ∃ q : Nat, next = q ∧ bs.drop p = form n ++ bs.drop q ∧ q = p + (form n).length ∧ q ≤ bs.length := by
  unfold readU at h
  by_cases h0 : (p : Int) < 0 ∨ (bs.length : Int) < p
  · rw [if_pos h0] at h; cases h
  · rw [if_neg h0, Int.toNat_natCast] at h
    have hl : (bs.drop p).length = bs.length - p := List.length_drop
    unfold readTail at h
    match hd : bs.drop p with
    | [] => rw [hd] at h; cases h
    | c :: t =>
      rw [hd] at h
      rw [hd, List.length_cons] at hl
      dsimp only at h
      by_cases h1 : 8 < c.toNat
      · rw [if_pos h1] at h; cases h
      · rw [if_neg h1] at h
        have ht : bs.drop (p + 1) = t := by rw [← List.drop_drop, hd]; rfl
        unfold digits at h
        by_cases h2 : c.toNat = 0
        · rw [if_pos h2] at h
          injection h with e1 e2
          injection e2 with e2 _
          have hc : c = 0 := UInt8.toNat_inj.1 h2
          subst e1
          have hf : form 0 = [0] := by decide
          refine ⟨p + 1, by omega, ?_, by rw [hf]; rfl, by omega⟩
          rw [hf, ht, hc]; rfl
        · rw [if_neg h2] at h
          match t, ht, hl, h with
          | [], _, _, h => cases h
          | d :: t', ht, hl, h =>
            dsimp only at h
            by_cases h3 : d.toNat = 0
            · rw [if_pos h3] at h; cases h
            · rw [if_neg h3] at h
              by_cases h4 : (d :: t').length < c.toNat
              · rw [if_pos h4] at h; cases h
              · rw [if_neg h4] at h
                injection h with e1 e2
                injection e2 with e2 _
                obtain ⟨k, hk⟩ : ∃ k, c.toNat = k + 1 := ⟨c.toNat - 1, by omega⟩
                rw [hk, List.take_succ_cons] at e1
                rw [List.length_cons] at h4 hl
                have hlk : (t'.take k).length = k := by rw [List.length_take]; omega
                have hnb := nb_val d (t'.take k) h3 (by omega)
                rw [e1, hlk] at hnb
                have hw := wbe_val (d :: t'.take k)
                rw [e1, List.length_cons, hlk] at hw
                have hf : form n = c :: d :: t'.take k := by
                  unfold form
                  rw [hnb, hw]
                  congr 1
                  apply UInt8.toNat_inj.1
                  rw [UInt8.toNat_ofNat', hk]
                  omega
                refine ⟨p + 1 + (k + 1), by omega, ?_, ?_, by omega⟩
                · rw [hf, ← List.drop_drop, ht, List.drop_succ_cons]
                  show c :: d :: t' = c :: d :: (t'.take k ++ t'.drop k)
                  rw [List.take_append_drop]
                · rw [hf, List.length_cons, List.length_cons, hlk]; omega

theorem readB_of (bs : List UInt8) (p : Nat) (most : Int) (x : List UInt8) (next : Int) (h : readB bs p most = (x, next, 0)) :
    ∃ q : Nat, next = q ∧ bs.drop p = row x ++ bs.drop q ∧ q = p + (row x).length ∧ q ≤ bs.length ∧ (x.length : Int) ≤ most := by
  unfold readB at h
  by_cases h0 : (readC bs p most).2.2 = 0
  · rw [if_pos h0] at h
    by_cases h1 : (bs.length : Int) - (readC bs p most).2.1 < ((readC bs p most).1 : Int)
    · rw [if_pos h1] at h; cases h
    · rw [if_neg h1] at h
      unfold readC at h0 h1 h
      by_cases h2 : (readU bs p).2.2 = 0
      · rw [if_pos h2] at h0 h1 h
        by_cases h3 : most < 0 ∨ most < ((readU bs p).1 : Int)
        · rw [if_pos h3] at h0; cases h0
        · rw [if_neg h3] at h0 h1 h
          obtain ⟨n, nx, er, hq⟩ : ∃ n nx er, readU bs p = (n, nx, er) := ⟨_, _, _, rfl⟩
          rw [hq] at h0 h1 h h2 h3
          dsimp only at h0 h1 h h2 h3
          subst h2
          obtain ⟨q, rfl, hd, hql, hqb⟩ := readU_of bs p n nx hq
          rw [Int.toNat_natCast] at h
          injection h with e1 e2
          injection e2 with e2 _
          have hxl : x.length = n := by rw [← e1, List.length_take, List.length_drop]; omega
          have hrl : (row x).length = (form n).length + n := by unfold row; rw [List.length_append, hxl]
          refine ⟨q + n, by omega, ?_, by rw [hrl]; omega, by omega, by omega⟩
          unfold row
          rw [hxl, hd, List.append_assoc, ← List.drop_drop, ← e1, List.take_append_drop]
      · rw [if_neg h2] at h0; exact absurd h0 h2
  · rw [if_neg h0] at h
    injection h with _ e2
    injection e2 with _ e3
    exact absurd e3 h0

/-- The form of a record. -/
def formJ (x : List UInt8) : List UInt8 := row x ++ (dig x).take 8
theorem chk_len (x : List UInt8) : ((dig x).take 8).length = 8 := by rw [List.length_take, dig_len]; rfl
theorem formJ_len (x : List UInt8) : (formJ x).length = (row x).length + 8 := by unfold formJ; rw [List.length_append, chk_len]
/-- The record that stands at p. -/
def recJ (bs : List UInt8) (p : Nat) : Option (List UInt8 × Nat) :=
  if (readB bs p 8000).2.2 = 0 ∧ (readB bs p 8000).1 ≠ [] ∧ (readB bs p 8000).2.1 + 8 ≤ bs.length ∧ (bs.drop (readB bs p 8000).2.1.toNat).take 8 = (dig (readB bs p 8000).1).take 8 then
    some ((readB bs p 8000).1, (readB bs p 8000).2.1.toNat + 8) else none
structure RecAt (bs : List UInt8) (p : Nat) (x : List UInt8) (q : Nat) : Prop where
  here : bs.drop p = formJ x ++ bs.drop q
  behind : q = p + (formJ x).length
  within : q ≤ bs.length
  low : 1 ≤ x.length
  high : x.length ≤ 8000
theorem recJ_some {bs : List UInt8} {p : Nat} {x : List UInt8} {q : Nat} (h : recJ bs p = some (x, q)) : RecAt bs p x q := by
  unfold recJ at h
  split at h
  · rename_i hc
    obtain ⟨y, next, er, hq⟩ : ∃ y next er, readB bs p 8000 = (y, next, er) := ⟨_, _, _, rfl⟩
    rw [hq] at hc h
    dsimp only at hc h
    obtain ⟨rfl, h1, h2, h3⟩ := hc
    injection h with h
    injection h with e1 e2
    subst e1
    obtain ⟨k, rfl, hd, hk, hkb, hm⟩ := readB_of bs p 8000 y next hq
    rw [Int.toNat_natCast] at h3 e2
    subst e2
    refine ⟨?_, by rw [formJ_len]; omega, by omega, ?_, by omega⟩
    · unfold formJ
      rw [hd, List.append_assoc, ← h3, ← List.drop_drop, List.take_append_drop]
    · cases y with
      | nil => exact absurd rfl h1
      | cons a l => simp
  · cases h
theorem recJ_form (pre x rest : List UInt8) (h1 : 1 ≤ x.length) (h2 : x.length ≤ 8000) : recJ (pre ++ (formJ x ++ rest)) pre.length = some (x, pre.length + (formJ x).length) := by
  have e : pre ++ (formJ x ++ rest) = pre ++ (row x ++ ((dig x).take 8 ++ rest)) := by unfold formJ; rw [List.append_assoc]
  have hr := readB_row pre ((dig x).take 8 ++ rest) x 8000 (by omega)
  rw [if_pos (by omega), ← e] at hr
  unfold recJ
  rw [hr]
  dsimp only
  rw [if_pos, Int.toNat_natCast, formJ_len]
  · rfl
  · refine ⟨rfl, fun e => ?_, ?_, ?_⟩
    · rw [e] at h1; simp at h1
    · have := formJ_len x
      simp only [List.length_append]; omega
    · rw [Int.toNat_natCast, e, ← List.append_assoc pre, ← List.length_append, List.drop_left, List.take_left' (chk_len x)]
theorem recJ_at {bs : List UInt8} {p : Nat} {x : List UInt8} {q : Nat} (h : RecAt bs p x q) : recJ bs p = some (x, q) := by
  have hl := formJ_len x
  have hp : p ≤ bs.length := by have := h.behind; have := h.within; omega
  have e : bs = bs.take p ++ (formJ x ++ bs.drop q) := by rw [← h.here, List.take_append_drop]
  have hpl : (bs.take p).length = p := by rw [List.length_take]; omega
  have := recJ_form (bs.take p) x (bs.drop q) h.low h.high
  rw [← e, hpl] at this
  rw [this, h.behind]
theorem recJ_lt {bs : List UInt8} {p : Nat} {x : List UInt8} {q : Nat} (h : recJ bs p = some (x, q)) : p + 8 < q ∧ q ≤ bs.length := by
  have r := recJ_some h
  have := r.behind
  have := r.within
  have := formJ_len x
  have := r.low
  have : x.length ≤ (row x).length := by unfold row; rw [List.length_append]; omega
  omega
/-- A record is told by what stands from its place on alone. -/
theorem recJ_shift (pre s : List UInt8) (p : Nat) : recJ (pre ++ s) (pre.length + p) = (recJ s p).map fun r => (r.1, pre.length + r.2) := by
  have hdrop : ∀ k, (pre ++ s).drop (pre.length + k) = s.drop k := fun k => by rw [← List.drop_drop, List.drop_left]
  match h : recJ s p with
  | some (x, q) =>
    have r := recJ_some h
    exact recJ_at ⟨by rw [hdrop, hdrop]; exact r.here, by rw [r.behind, Nat.add_assoc], by rw [List.length_append]; have := r.within; omega, r.low, r.high⟩
  | none =>
    match h' : recJ (pre ++ s) (pre.length + p) with
    | none => rfl
    | some (x, q) =>
      exfalso
      have r := recJ_some h'
      have hb := r.behind
      have hw := r.within
      rw [List.length_append] at hw
      obtain ⟨k, rfl⟩ : ∃ k, q = pre.length + k := ⟨q - pre.length, by omega⟩
      have hh := r.here
      rw [hdrop, hdrop] at hh
      have := recJ_at (bs := s) (p := p) (x := x) (q := k) ⟨hh, by omega, by omega, r.low, r.high⟩
      rw [h] at this
      cases this

/-- Read: the records one behind the other, and where the last one ends. -/
def readJ (bs : List UInt8) (p : Nat) : List (List UInt8) × Nat :=
  match _h : recJ bs p with
  | none => ([], p)
  | some (x, q) => (x :: (readJ bs q).1, (readJ bs q).2)
termination_by bs.length - p
decreasing_by all_goals (have := recJ_lt (by assumption); omega)
theorem readJ_none {bs : List UInt8} {p : Nat} (h : recJ bs p = none) : readJ bs p = ([], p) := by
  rw [readJ]; split
  · rfl
  · rename_i h'; rw [h] at h'; cases h'
theorem readJ_some {bs : List UInt8} {p : Nat} {x : List UInt8} {q : Nat} (h : recJ bs p = some (x, q)) : readJ bs p = (x :: (readJ bs q).1, (readJ bs q).2) := by
  conv => lhs; rw [readJ]
  split
  · rename_i h'; rw [h] at h'; cases h'
  · rename_i h'; rw [h] at h'; injection h' with h'; injection h' with e1 e2; subst e1 e2; rfl

end Go.Proofs.YthkghjkgmfjmoaaDoor
