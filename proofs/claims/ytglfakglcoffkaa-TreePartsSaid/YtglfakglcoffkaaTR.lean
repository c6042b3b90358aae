/-
  Package tree: trees written and read (plain); one form.
-/
import Derived.Test.YtglfakglcoffkaaTQ
namespace Go.Proofs.Ytglfakglcoffkaa
open Go.RowKit

abbrev Key := List UInt8 × List UInt8
def keyB (f : Key) : List UInt8 := row f.1 ++ row f.2
def treeK (K : List Key) : List UInt8 := form K.length ++ K.flatMap keyB
def mkF (k : Key) : Fil := ⟨k.1, none, k.2, 0⟩
def mayK (K : List Key) : Bool := mayT (K.map mkF)
theorem riseT_keys : ∀ L : List Fil, riseT ((keys L).map mkF) = riseT L
  | [] => rfl
  | [_] => rfl
  | f :: g :: L => by
    show (!leB g.p f.p && riseT ((keys (g :: L)).map mkF)) = _
    rw [riseT_keys (g :: L)]; rfl
theorem sumT_cons (f : Fil) (L : List Fil) : sumT (f :: L) = f.x.length + sumT L := by
  have h : ∀ (L : List Fil) (a : Nat), L.foldl (fun n f => n + f.x.length) a = a + sumT L := by
    intro L
    induction L with
    | nil => intro a; rfl
    | cons g L ih =>
      intro a
      unfold sumT
      rw [List.foldl_cons, List.foldl_cons, ih, ih (0 + g.x.length)]
      omega
  show L.foldl (fun n f => n + f.x.length) (0 + f.x.length) = _
  rw [h, Nat.zero_add]
theorem sumT_keys : ∀ L : List Fil, sumT ((keys L).map mkF) = sumT L
  | [] => rfl
  | f :: L => by
    show sumT (mkF (keyF f) :: (keys L).map mkF) = _
    rw [sumT_cons, sumT_cons, sumT_keys L]; rfl
theorem allT_keys : ∀ L : List Fil, ((keys L).map mkF).all fileT = L.all fileT
  | [] => rfl
  | f :: L => by
    show (fileT f && ((keys L).map mkF).all fileT) = _
    rw [allT_keys L]; rfl
/-- Whether a tree may be is told by its paths and bytes. -/
theorem mayT_keys (L : List Fil) : mayT L = mayK (keys L) := by
  unfold mayK mayT
  rw [riseT_keys, sumT_keys, allT_keys]
  simp [keys]
theorem treeB_keys (L : List Fil) : treeB L = treeK (keys L) := by
  unfold treeB treeK keys
  rw [List.length_map, List.flatMap_map]
  rfl
theorem mayK_parts {K : List Key} (h : mayK K = true) : K.length ≤ 16 ∧ ∀ k ∈ K, k.1.length ≤ 40 ∧ k.2.length ≤ 2000 := by
  obtain ⟨h1, h2, -, -⟩ := mayT_parts h
  rw [List.length_map] at h1
  refine ⟨h1, fun k hk => ?_⟩
  obtain ⟨h3, h4⟩ := h2 (mkF k) (List.mem_map_of_mem hk)
  exact ⟨(path_len h3).2, h4⟩

/-- A number, and where reading goes on: none behind a fault. -/
def numS (bs : List UInt8) (most : Nat) : Option Nat → Nat × Option Nat
  | none => (0, none)
  | some at_ => if (readU bs at_).2.2 = 0 ∧ (readU bs at_).1 ≤ most then ((readU bs at_).1, some (readU bs at_).2.1.toNat) else (0, none)
def txtS (bs : List UInt8) (most : Nat) : Option Nat → List UInt8 × Option Nat
  | none => ([], none)
  | some at_ => if (readB bs at_ most).2.2 = 0 then ((readB bs at_ most).1, some (readB bs at_ most).2.1.toNat) else ([], none)
def filS (bs : List UInt8) (s : Option Nat) : Key × Option Nat :=
  let a := txtS bs 40 s
  let b := txtS bs 2000 a.2
  ((a.1, b.1), b.2)
def filsS (bs : List UInt8) : Nat → Option Nat → List Key × Option Nat
  | 0, s => ([], s)
  | k + 1, s => ((filsS bs k s).1 ++ [(filS bs (filsS bs k s).2).1], (filS bs (filsS bs k s).2).2)
def readT (bs : List UInt8) : Option (List Key) :=
  let n := numS bs 16 (some 0)
  let l := filsS bs n.1 n.2
  if l.2 = some bs.length ∧ mayK l.1 = true then some l.1 else none
theorem filsS_len (bs : List UInt8) : ∀ k s, (filsS bs k s).1.length = k
  | 0, _ => rfl
  | k + 1, s => by
    show ((filsS bs k s).1 ++ [_]).length = k + 1
    rw [List.length_append, filsS_len bs k s]; rfl
theorem filsS_none (bs : List UInt8) : ∀ k, (filsS bs k none).2 = none
  | 0 => rfl
  | k + 1 => by
    show (filS bs (filsS bs k none).2).2 = none
    rw [filsS_none bs k]; rfl
theorem filsS_lost {bs : List UInt8} {k : Nat} {s : Option Nat} (h : (filsS bs k s).2 = none) : ∀ d, (filsS bs (k + d) s).2 = none
  | 0 => h
  | d + 1 => by
    show (filS bs (filsS bs (k + d) s).2).2 = none
    rw [filsS_lost h d]; rfl
theorem numS_le (bs : List UInt8) (most : Nat) (s : Option Nat) : (numS bs most s).1 ≤ most := by
  cases s with
  | none => exact Nat.zero_le _
  | some a =>
    unfold numS
    dsimp only
    split
    · rename_i h; exact h.2
    · exact Nat.zero_le _
theorem readT_lost {bs : List UInt8} (h : (numS bs 16 (some 0)).2 = none) : readT bs = none := by
  unfold readT
  dsimp only
  rw [h, filsS_none, if_neg (fun h => by cases h.1)]
theorem readT_lost_at {bs : List UInt8} {k : Nat} (hk : k < (numS bs 16 (some 0)).1) (h : (filsS bs (k + 1) (numS bs 16 (some 0)).2).2 = none) : readT bs = none := by
  unfold readT
  dsimp only
  have h2 := filsS_lost h ((numS bs 16 (some 0)).1 - (k + 1))
  rw [show k + 1 + ((numS bs 16 (some 0)).1 - (k + 1)) = (numS bs 16 (some 0)).1 by omega] at h2
  rw [h2, if_neg (fun h => by cases h.1)]

/-! What is written is read. -/
theorem numS_form (pre rest : List UInt8) (n most : Nat) (h : n < 18446744073709551616) (hm : n ≤ most) : numS (pre ++ (form n ++ rest)) most (some pre.length) = (n, some (pre ++ form n).length) := by
  unfold numS
  dsimp only
  rw [readU_form pre rest n h, if_pos ⟨rfl, hm⟩]
  dsimp only
  rw [Int.toNat_natCast, List.length_append]
theorem txtS_row (pre rest x : List UInt8) (most : Nat) (h : x.length ≤ most) (hm : most ≤ 1000000) : txtS (pre ++ (row x ++ rest)) most (some pre.length) = (x, some (pre ++ row x).length) := by
  have h1 := readB_row pre rest x most (by omega)
  unfold txtS
  dsimp only
  rw [h1, if_pos (show (x.length : Int) ≤ (most : Int) by omega), if_pos rfl]
  dsimp only
  rw [Int.toNat_natCast, List.length_append]

/-! What is read was written. -/
theorem wbe_add : ∀ k a v, wbe k (a * 256 ^ k + v) = wbe k v
  | 0, _, _ => rfl
  | k + 1, a, v => by
    have e0 : a * 256 ^ (k + 1) + v = (a * 256) * 256 ^ k + v := by rw [Nat.pow_succ, Nat.mul_assoc, Nat.mul_comm 256]
    rw [e0, wbe, wbe, wbe_add k (a * 256) v]
    have e1 : (a * 256 * 256 ^ k + v) / 256 ^ k = a * 256 + v / 256 ^ k := by
      rw [Nat.mul_comm (a * 256), Nat.mul_add_div (Nat.pow_pos (by omega))]
    rw [e1]
    have e2 : UInt8.ofNat (a * 256 + v / 256 ^ k) = UInt8.ofNat (v / 256 ^ k) := by
      apply UInt8.toNat_inj.1
      rw [UInt8.toNat_ofNat', UInt8.toNat_ofNat']
      omega
    rw [e2]
theorem wbe_val : ∀ l : List UInt8, wbe l.length (valW l) = l
  | [] => rfl
  | c :: l => by
    rw [List.length_cons, wbe, val_cons]
    have h := valW_lt l
    have e1 : (c.toNat * 256 ^ l.length + valW l) / 256 ^ l.length = c.toNat := by
      rw [Nat.mul_comm, Nat.mul_add_div (Nat.pow_pos (by omega)), Nat.div_eq_of_lt h, Nat.add_zero]
    rw [e1, UInt8.ofNat_toNat, wbe_add, wbe_val l]
theorem nb_is {n k : Nat} (h : n < 18446744073709551616) (h1 : 1 ≤ k) (hlo : 256 ^ (k - 1) ≤ n) (hhi : n < 256 ^ k) : nb n = k := by
  have h0 : n ≠ 0 := by have := Nat.pow_pos (n := k - 1) (show 0 < 256 by omega); omega
  obtain ⟨g1, g2⟩ := nb_ge n h h0
  have g3 := lt_nb n h
  have a1 : nb n - 1 < k := (Nat.pow_lt_pow_iff_right (by omega : 1 < 256)).1 (Nat.lt_of_le_of_lt g2 hhi)
  have a2 : k - 1 < nb n := (Nat.pow_lt_pow_iff_right (by omega : 1 < 256)).1 (Nat.lt_of_le_of_lt hlo g3)
  omega
/-- A number that is read was written so. -/
theorem readU_was {bs : List UInt8} {k n : Nat} {x : Int} (h : readU bs k = (n, x, 0)) : ∃ k' : Nat, x = k' ∧ k ≤ k' ∧ k' ≤ bs.length ∧ bs.take k' = bs.take k ++ form n := by
  have hwell := readU_well bs k
  rw [h] at hwell
  have hr := hwell.ok rfl
  have htop := hwell.top
  dsimp only at hr htop
  have hkl : k ≤ bs.length := by omega
  unfold readU at h
  rw [if_neg (by omega), Int.toNat_natCast] at h
  have key : ∀ m, (bs.drop k).take m = form n → x = ((k + m : Nat) : Int) → ∃ k' : Nat, x = k' ∧ k ≤ k' ∧ k' ≤ bs.length ∧ bs.take k' = bs.take k ++ form n := fun m e1 e2 =>
    ⟨k + m, e2, by omega, by omega, by rw [List.take_add, e1]⟩
  generalize bs.drop k = r at h key
  match r, h, key with
  | [], h, _ => simp [readTail] at h
  | c :: t, h, key =>
    unfold readTail at h
    dsimp only at h
    by_cases h8 : 8 < c.toNat
    · rw [if_pos h8] at h; simp at h
    rw [if_neg h8] at h
    unfold digits at h
    by_cases hc0 : c.toNat = 0
    · rw [if_pos hc0] at h
      simp only [Prod.mk.injEq, and_true] at h
      obtain ⟨rfl, rfl⟩ := h
      refine key 1 ?_ (by omega)
      have e : c = 0 := UInt8.toNat_inj.1 (by rw [hc0]; rfl)
      rw [e]; rfl
    rw [if_neg hc0] at h
    match t, h, key with
    | [], h, _ => simp at h
    | d :: t, h, key =>
      dsimp only at h
      by_cases hd : d.toNat = 0
      · rw [if_pos hd] at h; simp at h
      rw [if_neg hd] at h
      by_cases hl : (d :: t).length < c.toNat
      · rw [if_pos hl] at h; simp at h
      rw [if_neg hl] at h
      simp only [Prod.mk.injEq, and_true] at h
      obtain ⟨hv, hx⟩ := h
      obtain ⟨j, hj⟩ : ∃ j, c.toNat = j + 1 := ⟨c.toNat - 1, by omega⟩
      have htk : (d :: t).take c.toNat = d :: t.take j := by rw [hj, List.take_succ_cons]
      have hlen : (d :: t.take j).length = c.toNat := by
        rw [← htk, List.length_take]; omega
      have hjl : (t.take j).length = j := by simp only [List.length_cons] at hlen; omega
      rw [htk] at hv
      have hnb : nb n = c.toNat := by
        refine nb_is htop (by omega) ?_ ?_
        · rw [← hv, val_cons, hjl, hj, Nat.add_sub_cancel]
          have : 1 * 256 ^ j ≤ d.toNat * 256 ^ j := Nat.mul_le_mul_right _ (by omega)
          omega
        · rw [← hv, ← hlen]; exact valW_lt _
      refine key (1 + c.toNat) ?_ (by omega)
      unfold form
      rw [hnb, UInt8.ofNat_toNat, Nat.add_comm, List.take_succ_cons, htk, ← hv, ← hlen, wbe_val]
theorem numS_was {bs : List UInt8} {most k n k' : Nat} (h : numS bs most (some k) = (n, some k')) : k ≤ k' ∧ k' ≤ bs.length ∧ n ≤ most ∧ bs.take k' = bs.take k ++ form n := by
  unfold numS at h
  dsimp only at h
  by_cases hc : (readU bs k).2.2 = 0 ∧ (readU bs k).1 ≤ most
  · rw [if_pos hc] at h
    obtain ⟨m, x, e, hq⟩ : ∃ m x e, readU bs k = (m, x, e) := ⟨_, _, _, rfl⟩
    rw [hq] at h hc
    simp only [Prod.mk.injEq, Option.some.injEq] at h
    obtain ⟨rfl, rfl⟩ := h
    obtain ⟨he, hm⟩ := hc
    dsimp only at he hm
    subst he
    obtain ⟨k2, rfl, h1, h2, h3⟩ := readU_was hq
    rw [Int.toNat_natCast]
    exact ⟨h1, h2, hm, h3⟩
  · rw [if_neg hc] at h; simp at h
theorem txtS_was {bs l : List UInt8} {most k k' : Nat} (h : txtS bs most (some k) = (l, some k')) : k ≤ k' ∧ k' ≤ bs.length ∧ l.length ≤ most ∧ bs.take k' = bs.take k ++ row l := by
  unfold txtS at h
  dsimp only at h
  by_cases hc : (readB bs k most).2.2 = 0
  · rw [if_pos hc] at h
    unfold readB at h hc
    by_cases h0 : (readC bs k most).2.2 = 0
    · rw [if_pos h0] at h hc
      by_cases h1 : (bs.length : Int) - (readC bs k most).2.1 < ((readC bs k most).1 : Int)
      · rw [if_pos h1] at hc; cases hc
      · rw [if_neg h1] at h
        obtain ⟨m, x, e, hq⟩ : ∃ m x e, readC bs k most = (m, x, e) := ⟨_, _, _, rfl⟩
        rw [hq] at h h0 h1
        dsimp only at h h0 h1
        subst h0
        simp only [Prod.mk.injEq, Option.some.injEq] at h
        obtain ⟨h2, h3⟩ := h
        have hU : readU bs k = (m, x, 0) ∧ m ≤ most := by
          unfold readC at hq
          by_cases g0 : (readU bs k).2.2 = 0
          · rw [if_pos g0] at hq
            by_cases g1 : (most : Int) < 0 ∨ (most : Int) < ((readU bs k).1 : Int)
            · rw [if_pos g1] at hq; simp at hq
            · rw [if_neg g1] at hq
              rw [hq] at g1
              dsimp only at g1
              exact ⟨hq, by omega⟩
          · rw [if_neg g0] at hq
            simp only [Prod.mk.injEq] at hq
            exact absurd hq.2.2 g0
        obtain ⟨k2, rfl, g1, g2, g3⟩ := readU_was hU.1
        rw [Int.toNat_natCast] at h2
        have hll : l.length = m := by rw [← h2, List.length_take, List.length_drop]; omega
        have hk' : k' = k2 + m := by omega
        subst hk'
        refine ⟨by omega, by omega, by omega, ?_⟩
        rw [List.take_add, g3, h2]
        unfold row
        rw [hll, List.append_assoc]
    · rw [if_neg h0] at hc; exact absurd hc h0
  · rw [if_neg hc] at h; simp at h

/-! One form. -/
theorem numS_at {bs pre rest : List UInt8} {n most k : Nat} (h : bs = pre ++ (form n ++ rest)) (hk : k = pre.length) (hn : n < 18446744073709551616) (hm : n ≤ most) : numS bs most (some k) = (n, some (pre ++ form n).length) := by
  subst h hk; exact numS_form pre rest n most hn hm
theorem txtS_at {bs pre rest x : List UInt8} {k most : Nat} (h : bs = pre ++ (row x ++ rest)) (hk : k = pre.length) (hx : x.length ≤ most) (hm : most ≤ 1000000) : txtS bs most (some k) = (x, some (pre ++ row x).length) := by
  subst h hk; exact txtS_row pre rest x most hx hm
theorem filS_form {bs pre rest : List UInt8} {x : Key} {k : Nat} (h : bs = pre ++ (keyB x ++ rest)) (hk : k = pre.length) (h1 : x.1.length ≤ 40) (h2 : x.2.length ≤ 2000) : filS bs (some k) = (x, some (pre ++ keyB x).length) := by
  obtain ⟨a, b⟩ := x
  dsimp only at h1 h2
  unfold keyB at h ⊢
  dsimp only at h ⊢
  simp only [List.append_assoc] at h
  unfold filS
  have e1 := txtS_at (most := 40) h hk h1 (by omega)
  rw [e1]
  dsimp only
  have h3 : bs = (pre ++ row a) ++ (row b ++ rest) := by rw [h]; simp only [List.append_assoc]
  have e2 := txtS_at (most := 2000) h3 rfl h2 (by omega)
  rw [e2]
  simp only [List.append_assoc]
theorem filsS_form {bs pre rest : List UInt8} {L : List Key} (h : bs = pre ++ (L.flatMap keyB ++ rest)) (hL : ∀ x ∈ L, x.1.length ≤ 40 ∧ x.2.length ≤ 2000) : ∀ k, k ≤ L.length → filsS bs k (some pre.length) = (L.take k, some (pre ++ (L.take k).flatMap keyB).length)
  | 0, _ => by simp [filsS]
  | k + 1, hk => by
    have ih := filsS_form h hL k (by omega)
    obtain ⟨x, hx⟩ : ∃ x, L[k]? = some x := ⟨_, List.getElem?_eq_getElem (by omega)⟩
    have ht : L.take (k + 1) = L.take k ++ [x] := by rw [List.take_add_one, hx]; rfl
    have hs : L = L.take k ++ (x :: L.drop (k + 1)) := by
      have h1 := List.getElem?_eq_some_iff.1 hx
      rw [← h1.2, ← List.drop_eq_getElem_cons h1.1, List.take_append_drop]
    have hb : bs = (pre ++ (L.take k).flatMap keyB) ++ (keyB x ++ ((L.drop (k + 1)).flatMap keyB ++ rest)) := by
      rw [h]
      have e : L.flatMap keyB = (L.take k).flatMap keyB ++ (keyB x ++ (L.drop (k + 1)).flatMap keyB) := by
        conv => lhs; rw [hs]
        rw [List.flatMap_append, List.flatMap_cons]
      rw [e]
      simp only [List.append_assoc]
    have hx2 := hL x (List.mem_of_getElem? hx)
    have hi := filS_form hb rfl hx2.1 hx2.2
    show ((filsS bs k (some pre.length)).1 ++ [(filS bs (filsS bs k (some pre.length)).2).1], (filS bs (filsS bs k (some pre.length)).2).2) = _
    rw [ih]
    dsimp only
    rw [hi, ht]
    simp only [List.flatMap_append, List.flatMap_cons, List.flatMap_nil, List.append_nil, List.append_assoc]
theorem readT_tree {L : List Key} (h : mayK L = true) (rest : List UInt8) : readT (treeK L ++ rest) = if rest = [] then some L else none := by
  obtain ⟨h1, h2⟩ := mayK_parts h
  have hb : treeK L ++ rest = [] ++ (form L.length ++ (L.flatMap keyB ++ rest)) := by unfold treeK; simp
  have hb2 : treeK L ++ rest = form L.length ++ (L.flatMap keyB ++ rest) := by unfold treeK; simp
  have e1 := numS_at (most := 16) (k := 0) hb rfl (by omega) h1
  unfold readT
  rw [e1]
  dsimp only
  rw [List.nil_append]
  have e2 := filsS_form hb2 h2 L.length (Nat.le_refl _)
  rw [e2]
  dsimp only
  rw [List.take_length]
  have e3 : (form L.length ++ L.flatMap keyB) = treeK L := rfl
  rw [e3]
  by_cases hr : rest = []
  · rw [if_pos hr, if_pos ⟨by rw [hr, List.append_nil], h⟩]
  · rw [if_neg hr, if_neg]
    intro hh
    have := Option.some.inj hh.1
    rw [List.length_append] at this
    exact hr (List.eq_nil_of_length_eq_zero (by omega))
theorem filS_was {bs : List UInt8} {k k' : Nat} {x : Key} (h : filS bs (some k) = (x, some k')) : k ≤ k' ∧ k' ≤ bs.length ∧ bs.take k' = bs.take k ++ keyB x := by
  unfold filS at h
  obtain ⟨a, s1, e1⟩ : ∃ x y, txtS bs 40 (some k) = (x, y) := ⟨_, _, rfl⟩
  rw [e1] at h
  dsimp only at h
  obtain ⟨b, s2, e2⟩ : ∃ x y, txtS bs 2000 s1 = (x, y) := ⟨_, _, rfl⟩
  rw [e2] at h
  simp only [Prod.mk.injEq] at h
  obtain ⟨rfl, rfl⟩ := h
  cases s1 with
  | none => cases e2
  | some k1 =>
  obtain ⟨p1, q1, _, r1⟩ := txtS_was e1
  obtain ⟨p2, q2, _, r2⟩ := txtS_was e2
  refine ⟨by omega, q2, ?_⟩
  unfold keyB
  dsimp only
  rw [r2, r1]
  simp only [List.append_assoc]
theorem filsS_was {bs : List UInt8} {k : Nat} : ∀ (n : Nat) {k' : Nat}, k ≤ bs.length → (filsS bs n (some k)).2 = some k' → k' ≤ bs.length ∧ bs.take k' = bs.take k ++ (filsS bs n (some k)).1.flatMap keyB
  | 0, k', hk, h => by
    obtain rfl := Option.some.inj h
    exact ⟨hk, by simp [filsS]⟩
  | n + 1, k', hk, h => by
    have h' : (filS bs (filsS bs n (some k)).2).2 = some k' := h
    obtain ⟨s, hs⟩ : ∃ s, (filsS bs n (some k)).2 = s := ⟨_, rfl⟩
    rw [hs] at h'
    cases s with
    | none => cases h'
    | some k1 =>
      obtain ⟨g1, g2⟩ := filsS_was n hk hs
      obtain ⟨x, hx⟩ : ∃ x, filS bs (some k1) = (x, some k') := ⟨(filS bs (some k1)).1, by rw [← h']⟩
      obtain ⟨_, q1, q2⟩ := filS_was hx
      refine ⟨q1, ?_⟩
      show _ = _ ++ ((filsS bs n (some k)).1 ++ [(filS bs (filsS bs n (some k)).2).1]).flatMap keyB
      rw [hs, hx, q2, g2, List.flatMap_append]
      simp
theorem readT_was {bs : List UInt8} {L : List Key} (h : readT bs = some L) : bs = treeK L ∧ mayK L = true := by
  unfold readT at h
  obtain ⟨n, s, e1⟩ : ∃ x y, numS bs 16 (some 0) = (x, y) := ⟨_, _, rfl⟩
  rw [e1] at h
  dsimp only at h
  by_cases hc : (filsS bs n s).2 = some bs.length ∧ mayK (filsS bs n s).1 = true
  · rw [if_pos hc] at h
    have hL := Option.some.inj h
    cases s with
    | none => rw [filsS_none] at hc; cases hc.1
    | some k =>
      obtain ⟨_, q1, _, r1⟩ := numS_was e1
      obtain ⟨_, g2⟩ := filsS_was n q1 hc.1
      rw [List.take_length, r1, List.take_zero, List.nil_append, hL] at g2
      refine ⟨?_, by rw [← hL]; exact hc.2⟩
      unfold treeK
      rw [g2, ← hL, filsS_len]
  · rw [if_neg hc] at h; cases h
theorem readT_self {L : List Key} (h : mayK L = true) : readT (treeK L) = some L := by
  have := readT_tree h []
  rwa [List.append_nil, if_pos rfl] at this
theorem tree_inj {L M : List Key} (hL : mayK L = true) (hM : mayK M = true) : treeK L = treeK M ↔ L = M := by
  constructor
  · intro h
    have h1 := readT_self hL
    rw [h, readT_self hM] at h1
    exact (Option.some.inj h1).symm
  · intro h; rw [h]
theorem readT_more {bs : List UInt8} {L : List Key} (h : readT bs = some L) (y : UInt8) : readT (bs ++ [y]) = none := by
  obtain ⟨h1, h2⟩ := readT_was h
  rw [h1, readT_tree h2, if_neg (by simp)]
theorem readT_pos {bs : List UInt8} {L : List Key} (h : readT bs = some L) : 0 < bs.length := by
  rw [(readT_was h).1]
  unfold treeK
  rw [List.length_append, form_len]; omega
theorem readT_less {bs : List UInt8} {L : List Key} (h : readT bs = some L) : readT (bs.take (bs.length - 1)) = none := by
  have hp := readT_pos h
  cases hm : readT (bs.take (bs.length - 1)) with
  | none => rfl
  | some M =>
    have h1 : bs = bs.take (bs.length - 1) ++ [bs[bs.length - 1]'(by omega)] := by
      rw [← List.take_succ_eq_append_getElem (by omega), Nat.sub_add_cancel hp, List.take_length]
    have h2 := readT_more hm (bs[bs.length - 1]'(by omega))
    rw [← h1, h] at h2
    cases h2
theorem txtS_le (bs : List UInt8) (most : Nat) (s : Option Nat) : (txtS bs most s).1.length ≤ most := by
  cases s with
  | none => exact Nat.zero_le _
  | some k =>
    obtain ⟨l, e, h⟩ : ∃ l e, txtS bs most (some k) = (l, e) := ⟨_, _, rfl⟩
    rw [h]
    cases e with
    | none =>
      unfold txtS at h
      dsimp only at h
      split at h
      · simp at h
      · simp only [Prod.mk.injEq] at h; rw [← h.1]; exact Nat.zero_le _
    | some k' => exact (txtS_was h).2.2.1

end Go.Proofs.Ytglfakglcoffkaa
