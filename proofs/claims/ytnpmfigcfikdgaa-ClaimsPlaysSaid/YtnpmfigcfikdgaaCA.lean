/-
  The document's book of claims: plain; how it stands to the program's.
-/
import Derived.Test.YtnpmfigcfikdgaaU
namespace Go.Proofs.Ytnpmfigcfikdgaa
open Go.RowKit Go.Maps

/-- An entry: a claim and a tick. -/
structure Ent where
  c : Cl
  t : Int
instance : Inhabited Ent := ⟨⟨default, 0⟩⟩
/-- The document's book. -/
structure Rk where
  id : Int
  inc : Int
  wait : Int
  ttl : Int
  count : Int
  ow : List Ent
  ot : List Ent
def dEq (a b : Dig) : Bool := a.bs == b.bs
theorem dEq_iff {a b : Dig} : dEq a b = true ↔ a = b := by
  unfold dEq
  rw [beq_iff_eq]
  exact ⟨Dig.ext', fun e => e ▸ rfl⟩
theorem dEq_false {a b : Dig} : dEq a b = false ↔ a ≠ b := by
  rw [← Bool.not_eq_true, dEq_iff]
def isKey (d : Dig) (o : Ent) : Bool := dEq o.c.d d
def isPl (d : Dig) (n : Int) (o : Ent) : Bool := dEq o.c.d d && o.c.node == n
theorem isPl_iff {d : Dig} {n : Int} {o : Ent} : isPl d n o = true ↔ o.c.d = d ∧ o.c.node = n := by
  unfold isPl
  rw [Bool.and_eq_true, dEq_iff, beq_iff_eq]
def rLiveAt (r : Rk) (d : Dig) (now : Int) (n : Nat) : Bool := r.ot.any fun o => isPl d n o && decide (now < o.t)
def rLive (r : Rk) (d : Dig) (now : Int) : Option Nat := (List.range 16).find? (rLiveAt r d now)
def rOwn (r : Rk) (d : Dig) : Option Nat := r.ow.findIdx? (isKey d)
def rTry (r : Rk) (d : Dig) (now : Int) : Rk × Option Cl × Bool :=
  match rLive r d now with
  | some _ => (r, none, false)
  | none => match rOwn r d with
    | some i => (r, none, decide ((r.ow.getD i default).t + r.wait ≤ now))
    | none => ({ r with count := r.count + 1, ow := r.ow ++ [⟨⟨d, r.id, r.inc, r.count + 1, false⟩, now⟩] }, some ⟨d, r.id, r.inc, r.count + 1, false⟩, false)
def rDrop (r : Rk) (d : Dig) : Rk × Option Cl :=
  match rOwn r d with
  | none => (r, none)
  | some i => ({ r with ow := r.ow.take i ++ r.ow.drop (i + 1) }, some { (r.ow.getD i default).c with gone := true })
def aboveB (a c : Cl) : Bool := decide (c.inc < a.inc) || (decide (a.inc = c.inc) && decide (c.count < a.count))
def rBad (r : Rk) (c : Cl) : Bool := decide (c.node < 0) || decide (15 < c.node) || decide (1099511627776 < c.inc) || decide (1099511627776 < c.count) || decide (c.node = r.id)
def rAt (r : Rk) (c : Cl) : Option Nat := r.ot.findIdx? (isPl c.d c.node)
def rOld (l c : Cl) : Bool := (!c.gone && !aboveB c l) || (c.gone && aboveB l c)
/-- The others, when a claim has been heard. -/
def rPut (r : Rk) (c : Cl) (now : Int) : List Ent :=
  match rAt r c with
  | some i => r.ot.set i ⟨c, if c.gone then -1 else now + r.ttl⟩
  | none => r.ot ++ [⟨c, if c.gone then -1 else now + r.ttl⟩]
def rGives (r : Rk) (c : Cl) (now : Int) : Bool :=
  match rOwn r c.d with
  | some i => decide (c.node < r.id) && decide (now < (r.ow.getD i default).t + r.wait)
  | none => false
def rOldAt (r : Rk) (c : Cl) : Bool := match rAt r c with | some i => rOld (r.ot.getD i default).c c | none => false
def rHear (r : Rk) (c : Cl) (now : Int) : Rk × Option Cl × Int :=
  if rBad r c then (r, none, 2)
  else if rOldAt r c then (r, none, 220)
  else if c.gone then ({ r with ot := rPut r c now }, none, 0)
  else if rGives r c now then ((rDrop { r with ot := rPut r c now } c.d).1, (rDrop { r with ot := rPut r c now } c.d).2, 0)
  else ({ r with ot := rPut r c now }, none, 0)

/-- How the document's book stands to the program's, at a tick. -/
structure Sim (B : Bk) (r : Rk) (now : Int) : Prop where
  id : r.id = B.id
  inc : r.inc = B.inc
  wait : r.wait = B.wait
  ttl : r.ttl = B.ttl
  count : r.count = B.count
  mine : ∀ d, B.mine d = (r.ow.find? (isKey d)).map fun o => (o.c.count, o.t)
  own : ∀ o ∈ r.ow, o.c.node = B.id ∧ o.c.inc = B.inc ∧ o.c.gone = false ∧ 0 ≤ o.t ∧ o.t ≤ now
  odis : r.ow.Pairwise fun a b => a.c.d ≠ b.c.d
  last : ∀ d n, B.last (d, n) = (r.ot.find? (isPl d n)).map fun o => (o.c.inc, o.c.count)
  tdis : r.ot.Pairwise fun a b => ¬ (a.c.d = b.c.d ∧ a.c.node = b.c.node)
  till : ∀ o ∈ r.ot, match B.lea (o.c.d, o.c.node) with | some h => o.t = h + B.ttl | none => o.t ≤ now
  lea : ∀ i h, B.lea i = some h → 0 ≤ h ∧ h ≤ now ∧ ∃ o ∈ r.ot, (o.c.d, o.c.node) = i

section
variable {B : Bk} {r : Rk} {now : Int}
theorem pastB_at {a b c : Int} (h : b ≤ a) (hc : 0 ≤ c) : pastB a b c = decide (b + c ≤ a) := by
  unfold pastB
  by_cases h2 : b + c ≤ a
  · rw [decide_eq_true h2, decide_eq_true_eq]
    omega
  · rw [decide_eq_false h2, decide_eq_false_iff_not]
    omega
theorem Sim.later (h : Sim B r now) {now' : Int} (hn : now ≤ now') : Sim B r now' := { h with
  own := fun o ho => by have := h.own o ho; exact ⟨this.1, this.2.1, this.2.2.1, this.2.2.2.1, by have := this.2.2.2.2; omega⟩
  till := fun o ho => by
    have := h.till o ho
    revert this
    cases B.lea (o.c.d, o.c.node) with
    | some x => exact fun h => h
    | none => intro (h1 : o.t ≤ now); show o.t ≤ now'; omega
  lea := fun i x hx => by have := h.lea i x hx; exact ⟨this.1, by omega, this.2.2⟩ }
theorem uniq_find {α : Type} {p : α → Bool} {l : List α} {o : α} (hd : l.Pairwise fun a b => ¬ (p a = true ∧ p b = true)) (ho : o ∈ l) (hp : p o = true) : l.find? p = some o := by
  induction l with
  | nil => cases ho
  | cons a l ih =>
    rw [List.pairwise_cons] at hd
    rw [List.find?_cons]
    rcases List.mem_cons.1 ho with rfl | ho
    · rw [hp]
    · have : p a = false := by
        cases e : p a
        · rfl
        · exact absurd ⟨e, hp⟩ (hd.1 o ho)
      rw [this]
      exact ih hd.2 ho
theorem Sim.pl_uniq (h : Sim B r now) (d : Dig) (n : Int) : r.ot.Pairwise fun a b => ¬ (isPl d n a = true ∧ isPl d n b = true) :=
  h.tdis.imp fun hab ⟨h1, h2⟩ => by
    rw [isPl_iff] at h1 h2
    exact hab ⟨h1.1.trans h2.1.symm, h1.2.trans h2.2.symm⟩
theorem Sim.key_uniq (h : Sim B r now) (d : Dig) : r.ow.Pairwise fun a b => ¬ (isKey d a = true ∧ isKey d b = true) :=
  h.odis.imp fun hab ⟨h1, h2⟩ => by
    unfold isKey at h1 h2
    rw [dEq_iff] at h1 h2
    exact hab (h1.trans h2.symm)
theorem Sim.liveAt (h : Sim B r now) (ho : 0 ≤ B.ttl) (d : Dig) (n : Nat) : rLiveAt r d now n = liveAt B d now n := by
  unfold rLiveAt Proofs.Ytnpmfigcfikdgaa.liveAt
  cases e : B.lea (d, (n : Int)) with
  | none =>
    rw [List.any_eq_false]
    intro o hm hp
    rw [Bool.and_eq_true, isPl_iff, decide_eq_true_eq] at hp
    have := h.till o hm
    rw [hp.1.1, hp.1.2, e] at this
    have h2 : o.t ≤ now := this
    omega
  | some x =>
    obtain ⟨h0, h1, o, hm, e2⟩ := h.lea _ _ e
    have e3 := Prod.mk.inj e2
    have ht := h.till o hm
    rw [e2, e] at ht
    have ht : o.t = x + B.ttl := ht
    simp only
    rw [pastB_at h1 ho]
    by_cases h2 : x + B.ttl ≤ now
    · rw [decide_eq_true h2, Bool.not_true, List.any_eq_false]
      intro o2 hm2 hp
      rw [Bool.and_eq_true, isPl_iff, decide_eq_true_eq] at hp
      have ht2 := h.till o2 hm2
      rw [hp.1.1, hp.1.2, e] at ht2
      have ht2 : o2.t = x + B.ttl := ht2
      omega
    · rw [decide_eq_false h2, Bool.not_false, List.any_eq_true]
      refine ⟨o, hm, ?_⟩
      rw [Bool.and_eq_true, isPl_iff, decide_eq_true_eq]
      exact ⟨e3, by omega⟩
theorem Sim.live (h : Sim B r now) (ho : 0 ≤ B.ttl) (d : Dig) : rLive r d now = liveM B d now := by
  unfold rLive liveM
  congr 1
  funext n
  exact h.liveAt ho d n
/-- Where a key's own claim is. -/
theorem findIdx_find {α : Type} [Inhabited α] {p : α → Bool} : ∀ {l : List α}, (l.findIdx? p = none ∧ l.find? p = none) ∨ ∃ i, l.findIdx? p = some i ∧ i < l.length ∧ l.find? p = some (l.getD i default) ∧ l[i]? = some (l.getD i default)
  | [] => .inl ⟨rfl, rfl⟩
  | a :: l => by
    rw [List.findIdx?_cons, List.find?_cons]
    cases e : p a
    · rcases findIdx_find (p := p) (l := l) with ⟨h1, h2⟩ | ⟨i, h1, h2, h3, h4⟩
      · exact .inl ⟨by rw [h1]; rfl, h2⟩
      · exact .inr ⟨i + 1, by rw [h1]; rfl, by simp only [List.length_cons]; omega, by rw [h3]; simp, by simpa using h4⟩
    · exact .inr ⟨0, rfl, Nat.zero_lt_succ _, rfl, rfl⟩
theorem Sim.tryS (h : Sim B r now) (ho : 0 ≤ B.ttl) (hw : 0 ≤ B.wait) (hn : 0 ≤ now) (d : Dig) : Sim (tryM B d now).1 (rTry r d now).1 now ∧ (tryM B d now).2 = (rTry r d now).2 := by
  unfold rTry
  rw [h.live ho d]
  cases e : liveM B d now with
  | some k => rw [tryM_live e]; exact ⟨h, rfl⟩
  | none =>
    have hm := h.mine d
    unfold rOwn
    rcases findIdx_find (p := isKey d) (l := r.ow) with ⟨h1, h2⟩ | ⟨i, h1, h2, h3, h4⟩
    · rw [h2] at hm
      rw [tryM_new e hm, h1]
      simp only
      refine ⟨⟨h.id, h.inc, h.wait, h.ttl, by show r.count + 1 = B.count + 1; rw [h.count], fun d2 => ?_, fun o hm2 => ?_, ?_, h.last, h.tdis, h.till, h.lea⟩, by rw [h.id, h.inc, h.count]⟩
      · rw [List.find?_append]
        by_cases e2 : d2 = d
        · subst e2
          show putF B.mine d2 _ d2 = _
          rw [putF_same, h2]
          have e3 : isKey d2 ⟨⟨d2, r.id, r.inc, r.count + 1, false⟩, now⟩ = true := dEq_iff.2 rfl
          simp only [List.find?_cons, e3, Option.none_or, Option.map_some]
          rw [h.count]
        · show putF B.mine d _ d2 = _
          rw [putF_other _ _ e2, h.mine d2]
          have e3 : isKey d2 ⟨⟨d, r.id, r.inc, r.count + 1, false⟩, now⟩ = false := dEq_false.2 fun e => e2 e.symm
          simp only [List.find?_cons, e3, List.find?_nil, Option.or_none]
      · rcases List.mem_append.1 hm2 with hm2 | hm2
        · exact h.own o hm2
        · rw [List.mem_singleton] at hm2
          subst hm2
          exact ⟨h.id, h.inc, rfl, hn, Int.le_refl _⟩
      · rw [List.pairwise_append]
        refine ⟨h.odis, List.pairwise_singleton _ _, fun a ha b hb => ?_⟩
        rw [List.mem_singleton] at hb
        subst hb
        intro e2
        have := List.find?_eq_none.1 h2 a ha
        exact this (dEq_iff.2 e2)
    · rw [h3] at hm
      rw [tryM_had e hm, h1]
      refine ⟨h, ?_⟩
      simp only
      have h5 := (h.own _ (List.mem_of_getElem? h4)).2.2.2
      unfold readyB
      rw [pastB_at h5.2 hw, h.wait]
theorem find_take_drop {p : Ent → Bool} {l : List Ent} {i : Nat} (hd : l.Pairwise fun a b => ¬ (p a = true ∧ p b = true)) (hi : ∃ o, l[i]? = some o ∧ p o = true) : (l.take i ++ l.drop (i + 1)).find? p = none := by
  obtain ⟨o, ho, hp⟩ := hi
  rw [List.find?_eq_none]
  intro x hx hpx
  obtain ⟨hil, rfl⟩ := List.getElem?_eq_some_iff.1 ho
  rw [List.pairwise_iff_getElem] at hd
  rcases List.mem_append.1 hx with hx | hx
  · obtain ⟨j, hj, rfl⟩ := List.mem_take_iff_getElem.1 hx
    exact hd j i (by omega) hil (by omega) ⟨hpx, hp⟩
  · obtain ⟨j, hj, rfl⟩ := List.mem_drop_iff_getElem.1 hx
    exact hd i (i + 1 + j) hil (by omega) (by omega) ⟨hp, hpx⟩
theorem find_take_other {p : Ent → Bool} {l : List Ent} {i : Nat} {o : Ent} (ho : l[i]? = some o) (hp : p o = false) : (l.take i ++ l.drop (i + 1)).find? p = l.find? p := by
  obtain ⟨hil, rfl⟩ := List.getElem?_eq_some_iff.1 ho
  conv => rhs; rw [← List.take_append_drop i l, List.drop_eq_getElem_cons hil]
  rw [List.find?_append, List.find?_append, List.find?_cons, hp]
theorem Sim.dropS (h : Sim B r now) (d : Dig) : Sim (dropM B d).1 (rDrop r d).1 now ∧ (dropM B d).2 = (rDrop r d).2 := by
  have hm := h.mine d
  unfold rDrop rOwn
  rcases findIdx_find (p := isKey d) (l := r.ow) with ⟨h1, h2⟩ | ⟨i, h1, h2, h3, h4⟩
  · rw [h2] at hm
    rw [dropM_none hm, h1]
    exact ⟨h, rfl⟩
  · have hk : isKey d (r.ow.getD i default) = true := List.find?_some h3
    rw [h3] at hm
    rw [dropM_some hm, h1]
    simp only
    refine ⟨⟨h.id, h.inc, h.wait, h.ttl, h.count, fun d2 => ?_, fun o hm2 => ?_, ?_, h.last, h.tdis, h.till, h.lea⟩, ?_⟩
    · by_cases e2 : d2 = d
      · subst e2
        show putF B.mine d2 _ d2 = _
        rw [putF_same, find_take_drop (h.key_uniq d2) ⟨_, h4, hk⟩]
        rfl
      · show putF B.mine d _ d2 = _
        rw [putF_other _ _ e2, h.mine d2, find_take_other h4]
        unfold isKey at hk ⊢
        rw [dEq_iff] at hk
        rw [dEq_false, hk]
        exact fun e => e2 e.symm
    · refine h.own o ?_
      rcases List.mem_append.1 hm2 with hm2 | hm2
      · exact List.mem_of_mem_take hm2
      · exact List.mem_of_mem_drop hm2
    · have hs : (r.ow.take i ++ r.ow.drop (i + 1)).Sublist r.ow := by
        conv => rhs; rw [← List.take_append_drop i r.ow]
        refine List.Sublist.append (List.Sublist.refl _) ?_
        rw [← List.drop_drop (i := 1) (j := i)]
        exact List.drop_sublist 1 _
      exact h.odis.sublist hs
    · obtain ⟨h5, h6, -, -⟩ := h.own _ (List.mem_of_getElem? h4)
      have h7 : (r.ow.getD i default).c.d = d := dEq_iff.1 hk
      generalize r.ow.getD i default = o at *
      obtain ⟨⟨d', node, inc, count, gone⟩, t⟩ := o
      simp only at h5 h6 h7
      subst h5 h6 h7
      rfl
end
end Go.Proofs.Ytnpmfigcfikdgaa
