/-
  The document's book of claims: plain; what is heard.
-/
import Derived.Test.YtnpmfigcfikdgaaCA
namespace Go.Proofs.Ytnpmfigcfikdgaa
open Go.RowKit Go.Maps

section
variable {B : Bk} {r : Rk} {now : Int}
def newE (r : Rk) (c : Cl) (now : Int) : Ent := ⟨c, if c.gone then -1 else now + r.ttl⟩
theorem isPl_new (r : Rk) (c : Cl) (now : Int) : isPl c.d c.node (newE r c now) = true := isPl_iff.2 ⟨rfl, rfl⟩
theorem put_mem (h : Sim B r now) (c : Cl) {o : Ent} : o ∈ rPut r c now ↔ o = newE r c now ∨ (o ∈ r.ot ∧ isPl c.d c.node o = false) := by
  unfold rPut rAt
  rcases findIdx_find (p := isPl c.d c.node) (l := r.ot) with ⟨h1, h2⟩ | ⟨i, h1, h2, h3, h4⟩
  · rw [h1]
    simp only
    rw [List.mem_append, List.mem_singleton]
    constructor
    · rintro (h5 | h5)
      · exact .inr ⟨h5, by simpa using List.find?_eq_none.1 h2 o h5⟩
      · exact .inl h5
    · rintro (h5 | h5)
      · exact .inr h5
      · exact .inl h5.1
  · rw [h1]
    simp only
    have hk : isPl c.d c.node (r.ot.getD i default) = true := List.find?_some h3
    constructor
    · intro hm
      obtain ⟨j, hj, rfl⟩ := List.getElem_of_mem hm
      rw [List.length_set] at hj
      rw [List.getElem_set]
      by_cases e : i = j
      · rw [if_pos e]; exact .inl rfl
      · rw [if_neg e]
        refine .inr ⟨List.getElem_mem _, ?_⟩
        cases e2 : isPl c.d c.node r.ot[j]
        · rfl
        · have hp := List.pairwise_iff_getElem.1 (h.pl_uniq c.d c.node)
          obtain ⟨hi2, e3⟩ := List.getElem?_eq_some_iff.1 h4
          rw [← e3] at hk
          rcases Nat.lt_or_gt_of_ne e with h6 | h6
          · exact absurd ⟨hk, e2⟩ (hp i j hi2 hj h6)
          · exact absurd ⟨e2, hk⟩ (hp j i hj hi2 h6)
    · rintro (rfl | ⟨hm, hn⟩)
      · exact List.mem_iff_getElem.2 ⟨i, by rw [List.length_set]; exact h2, by rw [List.getElem_set_self]; rfl⟩
      · obtain ⟨j, hj, rfl⟩ := List.getElem_of_mem hm
        have e : i ≠ j := by
          intro e
          subst e
          obtain ⟨hi2, e3⟩ := List.getElem?_eq_some_iff.1 h4
          rw [← e3, hn] at hk
          cases hk
        exact List.mem_iff_getElem.2 ⟨j, by rw [List.length_set]; exact hj, by rw [List.getElem_set_ne e]⟩
theorem put_dis (h : Sim B r now) (c : Cl) : (rPut r c now).Pairwise fun a b => ¬ (a.c.d = b.c.d ∧ a.c.node = b.c.node) := by
  unfold rPut rAt
  rcases findIdx_find (p := isPl c.d c.node) (l := r.ot) with ⟨h1, h2⟩ | ⟨i, h1, h2, h3, h4⟩
  · rw [h1]
    simp only
    rw [List.pairwise_append]
    refine ⟨h.tdis, List.pairwise_singleton _ _, fun a ha b hb => ?_⟩
    rw [List.mem_singleton] at hb
    subst hb
    intro e
    exact List.find?_eq_none.1 h2 a ha (isPl_iff.2 e)
  · rw [h1]
    simp only
    have hk : isPl c.d c.node (r.ot.getD i default) = true := List.find?_some h3
    have hd := List.pairwise_iff_getElem.1 h.tdis
    obtain ⟨hi2, e3⟩ := List.getElem?_eq_some_iff.1 h4
    rw [← e3, isPl_iff] at hk
    rw [List.pairwise_iff_getElem]
    intro j k hj hk2 hjk
    rw [List.length_set] at hj hk2
    by_cases e1 : i = j
    · subst e1
      rw [List.getElem_set_self, List.getElem_set_ne (by omega)]
      intro e
      exact hd i k hi2 hk2 hjk ⟨hk.1.trans e.1, hk.2.trans e.2⟩
    · by_cases e2 : i = k
      · subst e2
        rw [List.getElem_set_self, List.getElem_set_ne e1]
        intro e
        exact hd j i hj hi2 hjk ⟨e.1.trans hk.1.symm, e.2.trans hk.2.symm⟩
      · rw [List.getElem_set_ne e1, List.getElem_set_ne e2]
        exact hd j k hj hk2 hjk
theorem find_uniq_mem {p : Ent → Bool} {l : List Ent} (hd : l.Pairwise fun a b => ¬ (p a = true ∧ p b = true)) {o : Option Ent} (h : ∀ x, o = some x ↔ x ∈ l ∧ p x = true) : l.find? p = o := by
  cases e : o with
  | none =>
    rw [List.find?_eq_none]
    intro x hx hp
    have := (h x).2 ⟨hx, hp⟩
    rw [e] at this
    cases this
  | some x => exact uniq_find hd ((h x).1 e).1 ((h x).1 e).2
theorem find_iff {p : Ent → Bool} {l : List Ent} (hd : l.Pairwise fun a b => ¬ (p a = true ∧ p b = true)) (x : Ent) : l.find? p = some x ↔ x ∈ l ∧ p x = true :=
  ⟨fun h => ⟨List.mem_of_find?_eq_some h, List.find?_some h⟩, fun h => uniq_find hd h.1 h.2⟩
theorem put_find (h : Sim B r now) (c : Cl) (d : Dig) (n : Int) : (rPut r c now).find? (isPl d n) = if d = c.d ∧ n = c.node then some (newE r c now) else r.ot.find? (isPl d n) := by
  have hd : (rPut r c now).Pairwise fun a b => ¬ (isPl d n a = true ∧ isPl d n b = true) := (put_dis h c).imp fun hab hh => by
    obtain ⟨h1, h2⟩ := hh
    rw [isPl_iff] at h1 h2
    exact hab ⟨h1.1.trans h2.1.symm, h1.2.trans h2.2.symm⟩
  refine find_uniq_mem hd fun x => ?_
  · rw [put_mem h c]
    by_cases e : d = c.d ∧ n = c.node
    · rw [if_pos e]
      obtain ⟨rfl, rfl⟩ := e
      constructor
      · intro e2
        obtain rfl := Option.some.inj e2
        exact ⟨.inl rfl, isPl_new r c now⟩
      · rintro ⟨rfl | ⟨_, h1⟩, h2⟩
        · rfl
        · rw [h1] at h2; cases h2
    · rw [if_neg e, find_iff (h.pl_uniq d n)]
      constructor
      · rintro ⟨h1, h2⟩
        refine ⟨.inr ⟨h1, ?_⟩, h2⟩
        cases e2 : isPl c.d c.node x
        · rfl
        · rw [isPl_iff] at e2 h2
          exact absurd ⟨h2.1.symm.trans e2.1, h2.2.symm.trans e2.2⟩ e
      · rintro ⟨rfl | ⟨h1, -⟩, h2⟩
        · rw [isPl_iff] at h2
          exact absurd ⟨h2.1.symm, h2.2.symm⟩ e
        · exact ⟨h1, h2⟩
theorem Sim.putS (h : Sim B r now) (ho : 0 ≤ B.ttl) (hn : 0 ≤ now) (c : Cl) : Sim (afterM B c now) { r with ot := rPut r c now } now where
  id := h.id
  inc := h.inc
  wait := h.wait
  ttl := h.ttl
  count := h.count
  mine := h.mine
  own := h.own
  odis := h.odis
  last d n := by
    show putF B.last (c.d, c.node) _ (d, n) = _
    rw [put_find h c]
    by_cases e : d = c.d ∧ n = c.node
    · rw [if_pos e]
      obtain ⟨rfl, rfl⟩ := e
      rw [putF_same]
      rfl
    · rw [if_neg e, putF_other _ _ (fun e2 => e (Prod.mk.inj e2)), h.last]
  tdis := put_dis h c
  till o hm := by
    rcases (put_mem h c).1 hm with rfl | ⟨hm, hp⟩
    · show match putF (forgetF B.lea now B.ttl) (c.d, c.node) (if c.gone then none else some now) (c.d, c.node) with | some h => (newE r c now).t = h + B.ttl | none => (newE r c now).t ≤ now
      rw [putF_same]
      unfold newE
      cases c.gone
      · show now + r.ttl = now + B.ttl
        rw [h.ttl]
      · show (-1 : Int) ≤ now
        omega
    · have hne : (o.c.d, o.c.node) ≠ (c.d, c.node) := fun e => by
        rw [isPl_iff.2 (Prod.mk.inj e)] at hp
        cases hp
      show match putF (forgetF B.lea now B.ttl) (c.d, c.node) _ (o.c.d, o.c.node) with | some h => o.t = h + B.ttl | none => o.t ≤ now
      rw [putF_other _ _ hne]
      have ht := h.till o hm
      unfold forgetF
      cases e : B.lea (o.c.d, o.c.node) with
      | none => rw [e] at ht; exact ht
      | some x =>
        rw [e] at ht
        have ht : o.t = x + B.ttl := ht
        have hx := h.lea _ _ e
        simp only
        rw [pastB_at hx.2.1 ho]
        by_cases h2 : x + B.ttl ≤ now
        · rw [decide_eq_true h2, if_pos rfl]
          show o.t ≤ now
          omega
        · rw [decide_eq_false h2, if_neg (by decide)]
          exact ht
  lea i x hx := by
    have hx : putF (forgetF B.lea now B.ttl) (c.d, c.node) (if c.gone then none else some now) i = some x := hx
    by_cases e : i = (c.d, c.node)
    · rw [e, putF_same] at hx
      cases hg : c.gone
      · rw [hg] at hx
        have e2 : now = x := by simpa using hx
        exact ⟨by omega, by omega, newE r c now, (put_mem h c).2 (.inl rfl), e.symm⟩
      · rw [hg] at hx
        simp at hx
    · rw [putF_other _ _ e] at hx
      unfold forgetF at hx
      cases e2 : B.lea i with
      | none => rw [e2] at hx; cases hx
      | some y =>
        rw [e2] at hx
        simp only at hx
        split at hx
        · cases hx
        · have e3 : y = x := Option.some.inj hx
          subst e3
          obtain ⟨h1, h2, o, hm, h3⟩ := h.lea _ _ e2
          refine ⟨h1, h2, o, (put_mem h c).2 (.inr ⟨hm, ?_⟩), h3⟩
          cases e4 : isPl c.d c.node o
          · rfl
          · have e5 := isPl_iff.1 e4
            rw [← h3] at e
            exact absurd (by rw [e5.1, e5.2]) e
theorem Sim.bad (h : Sim B r now) (c : Cl) : claimOk B c = !rBad r c := by
  unfold claimOk rBad
  rw [h.id, Bool.eq_iff_iff]
  simp only [Bool.and_eq_true, decide_eq_true_eq, Bool.not_eq_true', Bool.or_eq_false_iff, decide_eq_false_iff_not, beq_eq_false_iff_ne, ne_eq]
  constructor
  · intro; omega
  · intro; omega
theorem Sim.old (h : Sim B r now) (c : Cl) : oldB B c = rOldAt r c := by
  unfold oldB rOldAt rAt
  rw [h.last]
  rcases findIdx_find (p := isPl c.d c.node) (l := r.ot) with ⟨h1, h2⟩ | ⟨i, h1, h2, h3, h4⟩
  · rw [h1, h2]; rfl
  · rw [h1, h3]
    simp only [Option.map_some]
    generalize (r.ot.getD i default).c = l
    unfold lessB rOld aboveB
    simp only
    by_cases a1 : c.inc < l.inc
    · have a2 : ¬ l.inc < c.inc := by omega
      have a3 : ¬ c.inc = l.inc := by omega
      cases c.gone <;> simp [a1, a2, a3]
    · by_cases a2 : l.inc < c.inc
      · have a3 : ¬ c.inc = l.inc := by omega
        have a4 : ¬ l.inc = c.inc := by omega
        cases c.gone <;> simp [a1, a2, a3, a4]
      · have a3 : c.inc = l.inc := by omega
        rw [a3]
        by_cases b1 : c.count < l.count
        · have b2 : ¬ l.count < c.count := by omega
          cases c.gone <;> simp [b1, b2]
        · by_cases b2 : l.count < c.count
          · have b3 : ¬ c.count = l.count := by omega
            cases c.gone <;> simp [b1, b2, b3]
          · have b3 : c.count = l.count := by omega
            rw [b3]
            cases c.gone <;> simp
theorem Sim.gives (h : Sim B r now) (hw : 0 ≤ B.wait) (c : Cl) : givesB B c now = rGives r c now := by
  unfold givesB rGives rOwn
  rw [h.mine]
  rcases findIdx_find (p := isKey c.d) (l := r.ow) with ⟨h1, h2⟩ | ⟨i, h1, h2, h3, h4⟩
  · rw [h1, h2]; rfl
  · rw [h1, h3]
    simp only [Option.map_some]
    have h5 := (h.own _ (List.mem_of_getElem? h4)).2.2.2
    unfold readyB
    simp only
    rw [pastB_at h5.2 hw, h.id, h.wait]
    congr 1
    by_cases h6 : (r.ow.getD i default).t + B.wait ≤ now
    · rw [decide_eq_true h6, decide_eq_false (by omega)]; rfl
    · rw [decide_eq_false h6, decide_eq_true (by omega)]; rfl
theorem Sim.hearS (h : Sim B r now) (ho : 0 ≤ B.ttl) (hw : 0 ≤ B.wait) (hn : 0 ≤ now) (c : Cl) : Sim (hearM B c now).1 (rHear r c now).1 now ∧ (hearM B c now).2 = (rHear r c now).2 := by
  unfold hearM rHear
  rw [h.bad c, h.old c, h.gives hw c]
  have hp := h.putS ho hn c
  have hd := hp.dropS c.d
  generalize rBad r c = z1
  generalize rOldAt r c = z2
  generalize rGives r c now = z3
  generalize c.gone = z4
  cases z1 <;> cases z2 <;> cases z4 <;> cases z3 <;> simp [h, hp, hd]
end
end Go.Proofs.Ytnpmfigcfikdgaa
