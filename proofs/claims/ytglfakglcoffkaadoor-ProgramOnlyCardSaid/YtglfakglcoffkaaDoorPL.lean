/-
  Package program: one form (plain).
-/
import Derived.Test.YtglfakglcoffkaaDoorPB1
import Derived.Test.YtglfakglcoffkaaDoorPRQ
namespace Go.Proofs.YtglfakglcoffkaaDoor
open Go.RowKit

theorem numS_at {bs pre rest : List UInt8} {n most k : Nat} (h : bs = pre ++ (form n ++ rest)) (hk : k = pre.length) (hn : n < 18446744073709551616) (hm : n ≤ most) : numS bs most (some k) = (n, some (pre ++ form n).length) := by
  subst h hk; exact numS_form pre rest n most hn hm
theorem txtS_at {bs pre rest x : List UInt8} {k : Nat} (h : bs = pre ++ (row x ++ rest)) (hk : k = pre.length) (hx : x.length ≤ 40) : txtS bs (some k) = (x, some (pre ++ row x).length) := by
  subst h hk; exact txtS_row pre rest x hx
theorem insS_form {bs pre rest : List UInt8} {x : Ins} {k : Nat} (h : bs = pre ++ (insF x ++ rest)) (hk : k = pre.length) (hx : x.small) : insS bs (some k) = (x, some (pre ++ insF x).length) := by
  obtain ⟨op, a, b, c, n, m⟩ := x
  obtain ⟨N, rfl⟩ : ∃ N : Nat, n = N := ⟨n.toNat, by have := hx.n; dsimp only at this; omega⟩
  obtain ⟨M, rfl⟩ : ∃ M : Nat, m = M := ⟨m.toNat, by have := hx.m; dsimp only at this; omega⟩
  have hop := hx.op
  have ha := hx.a
  have hb := hx.b
  have hc := hx.c
  have hn := hx.n
  have hm := hx.m
  dsimp only at hop ha hb hc hn hm
  unfold insF at h ⊢
  dsimp only at h ⊢
  rw [Int.toNat_natCast, Int.toNat_natCast] at h ⊢
  simp only [List.append_assoc] at h
  unfold insS
  have e1 := numS_at (most := 255) h hk (by omega) (by omega)
  rw [e1]
  dsimp only
  have h2 : bs = (pre ++ form op) ++ (row a ++ (row b ++ (row c ++ (form N ++ (form M ++ rest))))) := by rw [h]; simp only [List.append_assoc]
  have e2 := txtS_at h2 rfl ha
  rw [e2]
  dsimp only
  have h3 : bs = (pre ++ form op ++ row a) ++ (row b ++ (row c ++ (form N ++ (form M ++ rest)))) := by rw [h]; simp only [List.append_assoc]
  have e3 := txtS_at h3 rfl hb
  rw [e3]
  dsimp only
  have h4 : bs = (pre ++ form op ++ row a ++ row b) ++ (row c ++ (form N ++ (form M ++ rest))) := by rw [h]; simp only [List.append_assoc]
  have e4 := txtS_at h4 rfl hc
  rw [e4]
  dsimp only
  have h5 : bs = (pre ++ form op ++ row a ++ row b ++ row c) ++ (form N ++ (form M ++ rest)) := by rw [h]; simp only [List.append_assoc]
  have e5 := numS_at (most := 2000) h5 rfl (by omega) (by omega)
  rw [e5]
  dsimp only
  have h6 : bs = (pre ++ form op ++ row a ++ row b ++ row c ++ form N) ++ (form M ++ rest) := by rw [h]; simp only [List.append_assoc]
  have e6 := numS_at (most := 2000) h6 rfl (by omega) (by omega)
  rw [e6]
  simp only [List.append_assoc]
theorem listS_form {bs pre rest : List UInt8} {L : List Ins} (h : bs = pre ++ (L.flatMap insF ++ rest)) (hL : ∀ x ∈ L, x.small) : ∀ k, k ≤ L.length → listS bs k (some pre.length) = (L.take k, some (pre ++ (L.take k).flatMap insF).length)
  | 0, _ => by simp [listS]
  | k + 1, hk => by
    have ih := listS_form h hL k (by omega)
    obtain ⟨x, hx⟩ : ∃ x, L[k]? = some x := ⟨_, List.getElem?_eq_getElem (by omega)⟩
    have ht : L.take (k + 1) = L.take k ++ [x] := by rw [List.take_add_one, hx]; rfl
    have hs : L = L.take k ++ (x :: L.drop (k + 1)) := by
      have h1 := List.getElem?_eq_some_iff.1 hx
      rw [← h1.2, ← List.drop_eq_getElem_cons h1.1, List.take_append_drop]
    have hb : bs = (pre ++ (L.take k).flatMap insF) ++ (insF x ++ ((L.drop (k + 1)).flatMap insF ++ rest)) := by
      rw [h]
      have e : L.flatMap insF = (L.take k).flatMap insF ++ (insF x ++ (L.drop (k + 1)).flatMap insF) := by
        conv => lhs; rw [hs]
        rw [List.flatMap_append, List.flatMap_cons]
      rw [e]
      simp only [List.append_assoc]
    have hi := insS_form hb rfl (hL x (List.mem_of_getElem? hx))
    show ((listS bs k (some pre.length)).1 ++ [(insS bs (listS bs k (some pre.length)).2).1], (insS bs (listS bs k (some pre.length)).2).2) = _
    rw [ih]
    dsimp only
    rw [hi, ht]
    simp only [List.flatMap_append, List.flatMap_cons, List.flatMap_nil, List.append_nil, List.append_assoc]
theorem readP_prog {L : List Ins} (h : mayB L = true) (rest : List UInt8) : readP (progB L ++ rest) = if rest = [] then some L else none := by
  obtain ⟨h1, h2⟩ := mayB_small h
  have hb : progB L ++ rest = [] ++ (form L.length ++ (L.flatMap insF ++ rest)) := by unfold progB; simp
  have hb2 : progB L ++ rest = form L.length ++ (L.flatMap insF ++ rest) := by unfold progB; simp
  have e1 := numS_at (most := 30) (k := 0) hb rfl (by omega) h1
  unfold readP
  rw [e1]
  dsimp only
  rw [List.nil_append]
  have e2 := listS_form hb2 h2 L.length (Nat.le_refl _)
  rw [e2]
  dsimp only
  rw [List.take_length]
  have e3 : (form L.length ++ L.flatMap insF) = progB L := rfl
  rw [e3]
  by_cases hr : rest = []
  · rw [if_pos hr, if_pos ⟨by rw [hr, List.append_nil], h⟩]
  · rw [if_neg hr, if_neg]
    intro hh
    have := Option.some.inj hh.1
    rw [List.length_append] at this
    exact hr (List.eq_nil_of_length_eq_zero (by omega))
theorem insS_was {bs : List UInt8} {k k' : Nat} {x : Ins} (h : insS bs (some k) = (x, some k')) : k ≤ k' ∧ k' ≤ bs.length ∧ bs.take k' = bs.take k ++ insF x := by
  unfold insS at h
  obtain ⟨o, s1, e1⟩ : ∃ x y, numS bs 255 (some k) = (x, y) := ⟨_, _, rfl⟩
  rw [e1] at h
  dsimp only at h
  obtain ⟨a, s2, e2⟩ : ∃ x y, txtS bs s1 = (x, y) := ⟨_, _, rfl⟩
  rw [e2] at h
  dsimp only at h
  obtain ⟨b, s3, e3⟩ : ∃ x y, txtS bs s2 = (x, y) := ⟨_, _, rfl⟩
  rw [e3] at h
  dsimp only at h
  obtain ⟨c, s4, e4⟩ : ∃ x y, txtS bs s3 = (x, y) := ⟨_, _, rfl⟩
  rw [e4] at h
  dsimp only at h
  obtain ⟨n, s5, e5⟩ : ∃ x y, numS bs 2000 s4 = (x, y) := ⟨_, _, rfl⟩
  rw [e5] at h
  dsimp only at h
  obtain ⟨m, s6, e6⟩ : ∃ x y, numS bs 2000 s5 = (x, y) := ⟨_, _, rfl⟩
  rw [e6] at h
  simp only [Prod.mk.injEq] at h
  obtain ⟨rfl, rfl⟩ := h
  cases s5 with
  | none => cases e6
  | some k5 =>
  cases s4 with
  | none => cases e5
  | some k4 =>
  cases s3 with
  | none => cases e4
  | some k3 =>
  cases s2 with
  | none => cases e3
  | some k2 =>
  cases s1 with
  | none => cases e2
  | some k1 =>
  obtain ⟨p1, q1, _, r1⟩ := numS_was e1
  obtain ⟨p2, q2, _, r2⟩ := txtS_was e2
  obtain ⟨p3, q3, _, r3⟩ := txtS_was e3
  obtain ⟨p4, q4, _, r4⟩ := txtS_was e4
  obtain ⟨p5, q5, _, r5⟩ := numS_was e5
  obtain ⟨p6, q6, _, r6⟩ := numS_was e6
  refine ⟨by omega, q6, ?_⟩
  unfold insF
  dsimp only
  rw [r6, r5, r4, r3, r2, r1, Int.toNat_natCast, Int.toNat_natCast]
  simp only [List.append_assoc]
theorem listS_was {bs : List UInt8} {k : Nat} : ∀ (n : Nat) {k' : Nat}, k ≤ bs.length → (listS bs n (some k)).2 = some k' → k' ≤ bs.length ∧ bs.take k' = bs.take k ++ (listS bs n (some k)).1.flatMap insF
  | 0, k', hk, h => by
    obtain rfl := Option.some.inj h
    exact ⟨hk, by simp [listS]⟩
  | n + 1, k', hk, h => by
    have h' : (insS bs (listS bs n (some k)).2).2 = some k' := h
    obtain ⟨s, hs⟩ : ∃ s, (listS bs n (some k)).2 = s := ⟨_, rfl⟩
    rw [hs] at h'
    cases s with
    | none => cases h'
    | some k1 =>
      obtain ⟨g1, g2⟩ := listS_was n hk hs
      obtain ⟨x, hx⟩ : ∃ x, insS bs (some k1) = (x, some k') := ⟨(insS bs (some k1)).1, by rw [← h']⟩
      obtain ⟨_, q1, q2⟩ := insS_was hx
      refine ⟨q1, ?_⟩
      show _ = _ ++ ((listS bs n (some k)).1 ++ [(insS bs (listS bs n (some k)).2).1]).flatMap insF
      rw [hs, hx, q2, g2, List.flatMap_append]
      simp
theorem readP_was {bs : List UInt8} {L : List Ins} (h : readP bs = some L) : bs = progB L ∧ mayB L = true := by
  unfold readP at h
  obtain ⟨n, s, e1⟩ : ∃ x y, numS bs 30 (some 0) = (x, y) := ⟨_, _, rfl⟩
  rw [e1] at h
  dsimp only at h
  by_cases hc : (listS bs n s).2 = some bs.length ∧ mayB (listS bs n s).1 = true
  · rw [if_pos hc] at h
    have hL := Option.some.inj h
    cases s with
    | none => rw [listS_none] at hc; cases hc.1
    | some k =>
      obtain ⟨_, q1, _, r1⟩ := numS_was e1
      obtain ⟨_, g2⟩ := listS_was n q1 hc.1
      rw [List.take_length, r1, List.take_zero, List.nil_append, hL] at g2
      refine ⟨?_, by rw [← hL]; exact hc.2⟩
      unfold progB
      rw [g2, ← hL, listS_len]
  · rw [if_neg hc] at h; cases h
theorem readP_self {L : List Ins} (h : mayB L = true) : readP (progB L) = some L := by
  have := readP_prog h []
  rwa [List.append_nil, if_pos rfl] at this
theorem prog_inj {L M : List Ins} (hL : mayB L = true) (hM : mayB M = true) : progB L = progB M ↔ L = M := by
  constructor
  · intro h
    have h1 := readP_self hL
    rw [h, readP_self hM] at h1
    exact (Option.some.inj h1).symm
  · intro h; rw [h]
theorem readP_more {bs : List UInt8} {L : List Ins} (h : readP bs = some L) (y : UInt8) : readP (bs ++ [y]) = none := by
  obtain ⟨h1, h2⟩ := readP_was h
  rw [h1, readP_prog h2, if_neg (by simp)]
theorem readP_pos {bs : List UInt8} {L : List Ins} (h : readP bs = some L) : 0 < bs.length := by
  rw [(readP_was h).1]
  unfold progB
  rw [List.length_append, form_len]; omega
theorem readP_less {bs : List UInt8} {L : List Ins} (h : readP bs = some L) : readP (bs.take (bs.length - 1)) = none := by
  have hp := readP_pos h
  cases hm : readP (bs.take (bs.length - 1)) with
  | none => rfl
  | some M =>
    have h1 : bs = bs.take (bs.length - 1) ++ [bs[bs.length - 1]'(by omega)] := by
      rw [← List.take_succ_eq_append_getElem (by omega), Nat.sub_add_cancel hp, List.take_length]
    have h2 := readP_more hm (bs[bs.length - 1]'(by omega))
    rw [← h1, h] at h2
    cases h2

end Go.Proofs.YtglfakglcoffkaaDoor
