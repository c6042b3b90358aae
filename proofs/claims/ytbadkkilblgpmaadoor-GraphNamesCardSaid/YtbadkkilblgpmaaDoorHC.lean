/-
  Orders that are whole: the mathematics of GraphRight.
-/
import Derived.Test.YtbadkkilblgpmaaDoorGX3
namespace Go.Proofs.YtbadkkilblgpmaaDoor
open Go.RowKit Go.Maps

theorem sub_all : ∀ {o nd : List Nat}, o.Nodup → (∀ x ∈ o, x ∈ nd) → nd.length ≤ o.length → ∀ x ∈ nd, x ∈ o
  | [], nd, _, _, h, x, hx => by
    have : nd = [] := List.eq_nil_of_length_eq_zero (Nat.le_zero.1 h)
    rw [this] at hx
    exact hx
  | a :: o, nd, hn, hs, h, x, hx => by
    rw [List.nodup_cons] at hn
    have ha := hs a List.mem_cons_self
    have h1 := sub_all (o := o) (nd := nd.erase a) hn.2 (fun y hy => (List.mem_erase_of_ne (by intro e; subst e; exact hn.1 hy)).2 (hs y (List.mem_cons_of_mem _ hy))) (by rw [List.length_erase_of_mem ha]; simp only [List.length_cons] at h; omega)
    by_cases e : x = a
    · rw [e]; exact List.mem_cons_self
    · exact List.mem_cons_of_mem _ (h1 x ((List.mem_erase_of_ne e).2 hx))
theorem allT_iff {f : List UInt8 → Int} {D : List (List UInt8)} : allT f D = true ↔ ∀ s ∈ D, f s ≠ 0 := by
  unfold allT
  rw [List.all_eq_true]
  simp only [bne_iff_ne]
theorem readyAt_iff {L : List Tgt} {f : List UInt8 → Int} {i : Nat} : readyAt L f i = true ↔ f (nmAt L i) = 0 ∧ ∀ s ∈ dpAt L i, f s ≠ 0 := by
  unfold readyAt
  rw [Bool.and_eq_true, beq_iff_eq, allT_iff]
/-- What holds of an order under way. -/
structure OrdI (L : List Tgt) (nd o : List Nat) (f : List UInt8 → Int) : Prop where
  sub : ∀ i ∈ o, i ∈ nd
  told : ∀ s, f s ≠ 0 ↔ ∃ i ∈ o, nmAt L i = s
  dis : o.Pairwise fun i j => nmAt L i ≠ nmAt L j
  deps : ∀ k i, o[k]? = some i → ∀ d ∈ dpAt L i, ∃ j ∈ o.take k, nmAt L j = d
theorem ord_inv {L : List Tgt} {nd o : List Nat} {f : List UInt8 → Int} (h : OrdR L nd o f) : OrdI L nd o f := by
  induction h with
  | start => exact ⟨fun _ h => absurd h List.not_mem_nil, fun s => ⟨fun h => absurd rfl h, fun ⟨_, h, _⟩ => absurd h List.not_mem_nil⟩, List.Pairwise.nil, fun k i h => by simp at h⟩
  | step o f i _ hf ih =>
    have hr := readyAt_iff.1 (List.find?_some hf)
    have hm := List.mem_of_find?_eq_some hf
    refine ⟨fun x hx => ?_, fun s => ?_, ?_, fun k x hk d hd => ?_⟩
    · rcases List.mem_append.1 hx with hx | hx
      · exact ih.sub x hx
      · rw [List.mem_singleton] at hx; rw [hx]; exact hm
    · unfold updS
      by_cases e : s = nmAt L i
      · rw [if_pos e]
        exact ⟨fun _ => ⟨i, List.mem_append_right _ List.mem_cons_self, e.symm⟩, fun _ => by omega⟩
      · rw [if_neg e, ih.told]
        constructor
        · rintro ⟨j, hj, h⟩
          exact ⟨j, List.mem_append_left _ hj, h⟩
        · rintro ⟨j, hj, h⟩
          rcases List.mem_append.1 hj with hj | hj
          · exact ⟨j, hj, h⟩
          · rw [List.mem_singleton] at hj; subst hj; exact absurd h.symm e
    · rw [List.pairwise_append]
      refine ⟨ih.dis, List.pairwise_singleton _ _, fun x hx y hy => ?_⟩
      rw [List.mem_singleton] at hy
      subst hy
      intro e
      exact (ih.told (nmAt L y)).2 ⟨x, hx, e⟩ hr.1
    · rcases Nat.lt_or_ge k o.length with hlt | hge
      · rw [List.getElem?_append_left hlt] at hk
        rw [List.take_append_of_le_length (Nat.le_of_lt hlt)]
        exact ih.deps k x hk d hd
      · rw [List.getElem?_append_right hge] at hk
        have hk0 : k - o.length = 0 := by
          rcases Nat.eq_zero_or_pos (k - o.length) with h | h
          · exact h
          · rw [List.getElem?_eq_none (by simp; omega)] at hk; cases hk
        rw [hk0] at hk
        have hx : i = x := by simpa using hk
        subst hx
        obtain ⟨j, hj, h⟩ := (ih.told d).1 (hr.2 d hd)
        refine ⟨j, ?_, h⟩
        rw [List.take_append, List.take_of_length_le hge]
        exact List.mem_append_left _ hj
theorem OrdI.nodup {L : List Tgt} {nd o : List Nat} {f : List UInt8 → Int} (h : OrdI L nd o f) : o.Nodup := h.dis.imp fun h e => h (by rw [e])
theorem OrdI.same {L : List Tgt} {nd o : List Nat} {f : List UInt8 → Int} (h : OrdI L nd o f) {k m i j : Nat} (hk : o[k]? = some i) (hm : o[m]? = some j) (e : nmAt L i = nmAt L j) : k = m := by
  obtain ⟨hk1, rfl⟩ := List.getElem?_eq_some_iff.1 hk
  obtain ⟨hm1, rfl⟩ := List.getElem?_eq_some_iff.1 hm
  have hd := List.pairwise_iff_getElem.1 h.dis
  rcases Nat.lt_trichotomy k m with h2 | h2 | h2
  · exact absurd e (hd k m hk1 hm1 h2)
  · exact h2
  · exact absurd e.symm (hd m k hm1 hk1 h2)
theorem nb_why {L : List Tgt} {nd : List Nat} {q : List (List UInt8)} {r : Option (List Nat)} (h : NbR L nd q r) : ∀ x, r = some x → ∀ i ∈ x, i ∈ nd ∨ nmAt L i ∈ q ∨ ∃ j ∈ x, nmAt L i ∈ dpAt L j := by
  induction h with
  | done nd => intro x e i hi; cases e; exact .inl hi
  | none => intro x e; cases e
  | skip nd s q i t r h1 h2 h3 _ ih =>
    intro x e j hj
    rcases ih x e j hj with h | h | h
    · exact .inl h
    · exact .inr (.inl (List.mem_cons_of_mem _ h))
    · exact .inr (.inr h)
  | new nd s q i t r h1 h2 h3 hr ih =>
    intro x e j hj
    rcases ih x e j hj with h | h | h
    · rcases List.mem_append.1 h with h | h
      · exact .inl h
      · rw [List.mem_singleton] at h
        subst h
        rw [nmAt_get h1, h2]
        exact .inr (.inl List.mem_cons_self)
    · rcases List.mem_append.1 h with h | h
      · exact .inr (.inl (List.mem_cons_of_mem _ h))
      · refine .inr (.inr ⟨i, ?_, by rw [dpAt_get h1]; exact h⟩)
        obtain ⟨y, rfl⟩ := hr.grows x e
        exact List.mem_append_left _ (List.mem_append_right _ List.mem_cons_self)
    · exact .inr (.inr h)
theorem nb_closed {L : List Tgt} {nd : List Nat} {q : List (List UInt8)} {r : Option (List Nat)} (h : NbR L nd q r) : (∀ j ∈ nd, ∀ d ∈ dpAt L j, d ∈ q ∨ ∃ i ∈ nd, nmAt L i = d) → ∀ x, r = some x → (∀ j ∈ x, ∀ d ∈ dpAt L j, ∃ i ∈ x, nmAt L i = d) ∧ ∀ s ∈ q, ∃ i ∈ x, nmAt L i = s := by
  induction h with
  | done nd =>
    intro hc x e
    cases e
    refine ⟨fun j hj d hd => ?_, fun s hs => absurd hs List.not_mem_nil⟩
    rcases hc j hj d hd with h | h
    · exact absurd h List.not_mem_nil
    · exact h
  | none => intro _ x e; cases e
  | skip nd s q i t r h1 h2 h3 hr ih =>
    intro hc x e
    obtain ⟨ha, hb⟩ := ih (fun j hj d hd => by
      rcases hc j hj d hd with h | h
      · rcases List.mem_cons.1 h with h | h
        · exact .inr ⟨i, h3, by rw [nmAt_get h1, h2, h]⟩
        · exact .inl h
      · exact .inr h) x e
    refine ⟨ha, fun s' hs => ?_⟩
    rcases List.mem_cons.1 hs with h | h
    · obtain ⟨y, rfl⟩ := hr.grows x e
      exact ⟨i, List.mem_append_left _ h3, by rw [nmAt_get h1, h2, h]⟩
    · exact hb s' h
  | new nd s q i t r h1 h2 h3 hr ih =>
    intro hc x e
    have hnm : nmAt L i = s := by rw [nmAt_get h1, h2]
    obtain ⟨ha, hb⟩ := ih (fun j hj d hd => by
      rcases List.mem_append.1 hj with hj | hj
      · rcases hc j hj d hd with h | ⟨m, hm, h⟩
        · rcases List.mem_cons.1 h with h | h
          · exact .inr ⟨i, List.mem_append_right _ List.mem_cons_self, by rw [hnm, h]⟩
          · exact .inl (List.mem_append_left _ h)
        · exact .inr ⟨m, List.mem_append_left _ hm, h⟩
      · rw [List.mem_singleton] at hj
        subst hj
        rw [dpAt_get h1] at hd
        exact .inl (List.mem_append_right _ hd)) x e
    refine ⟨ha, fun s' hs => ?_⟩
    rcases List.mem_cons.1 hs with h | h
    · obtain ⟨y, rfl⟩ := hr.grows x e
      exact ⟨i, List.mem_append_left _ (List.mem_append_right _ List.mem_cons_self), by rw [hnm, h]⟩
    · exact hb s' (List.mem_append_left _ h)
/-- An order that is whole: all that is needed, want at its end. -/
structure Whole (L : List Tgt) (want : List UInt8) (o : List Nat) : Prop where
  lt : ∀ i ∈ o, i < L.length
  dis : ∀ (k m i j : Nat), o[k]? = some i → o[m]? = some j → nmAt L i = nmAt L j → k = m
  deps : ∀ (k i : Nat), o[k]? = some i → ∀ d ∈ dpAt L i, ∃ (m j : Nat), m < k ∧ o[m]? = some j ∧ nmAt L j = d
  last : ∀ (k i : Nat), o[k]? = some i → (k + 1 = o.length ↔ nmAt L i = want)
  why : ∀ (k i : Nat), o[k]? = some i → nmAt L i = want ∨ ∃ (m j : Nat), o[m]? = some j ∧ nmAt L i ∈ dpAt L j
  ne : o ≠ []
theorem whole_of {L : List Tgt} {want : List UInt8} {nd nd' o : List Nat} {f : List UInt8 → Int} (hb : NbR L [] [want] (some nd)) (hlt : ∀ i ∈ nd, i < L.length) (hs : SortedBy L nd nd') (ho : OrdR L nd' o f) (hl : o.length = nd.length) : Whole L want o ∧ (∀ i, i ∈ o ↔ i ∈ nd) := by
  have I := ord_inv ho
  have hsub : ∀ i ∈ o, i ∈ nd := fun i hi => hs.1.mem_iff.1 (I.sub i hi)
  have hall := sub_all I.nodup hsub (Nat.le_of_eq hl.symm)
  have hdeps : ∀ (k i : Nat), o[k]? = some i → ∀ d ∈ dpAt L i, ∃ (m j : Nat), m < k ∧ o[m]? = some j ∧ nmAt L j = d := fun k i hk d hd => by
    obtain ⟨j, hj, e⟩ := I.deps k i hk d hd
    obtain ⟨m, hm, rfl⟩ := List.mem_take_iff_getElem.1 hj
    exact ⟨m, _, by omega, List.getElem?_eq_getElem (by omega), e⟩
  have hwhy : ∀ (k i : Nat), o[k]? = some i → nmAt L i = want ∨ ∃ (m j : Nat), o[m]? = some j ∧ nmAt L i ∈ dpAt L j := fun k i hk => by
    rcases nb_why hb nd rfl i (hsub i (List.mem_of_getElem? hk)) with h | h | ⟨j, hj, h⟩
    · exact absurd h List.not_mem_nil
    · rw [List.mem_singleton] at h; exact .inl h
    · obtain ⟨m, hm, rfl⟩ := List.getElem_of_mem (hall j hj)
      exact .inr ⟨m, _, List.getElem?_eq_getElem hm, h⟩
  have hne : o ≠ [] := by
    intro e
    have h1 := hb.ne
    rw [e] at hl
    exact h1 (List.eq_nil_of_length_eq_zero hl.symm)
  have hpos := List.length_pos_iff.2 hne
  have hlast : ∀ (k i : Nat), o[k]? = some i → k + 1 = o.length → nmAt L i = want := fun k i hk e => by
    rcases hwhy k i hk with h | ⟨m, j, hm, h⟩
    · exact h
    · obtain ⟨m2, j2, hm2, hj2, e2⟩ := hdeps m j hm _ h
      have e3 := I.same hj2 hk e2
      have h4 := (List.getElem?_eq_some_iff.1 hm).1
      omega
  refine ⟨⟨fun i hi => hlt i (hsub i hi), fun k m i j hk hm e => I.same hk hm e, hdeps, fun k i hk => ⟨hlast k i hk, fun e => ?_⟩, hwhy, hne⟩, fun i => ⟨hsub i, hall i⟩⟩
  have h1 := hlast (o.length - 1) _ (List.getElem?_eq_getElem (by omega)) (by omega)
  have h2 := I.same hk (List.getElem?_eq_getElem (by omega : o.length - 1 < o.length)) (e.trans h1.symm)
  omega
/-- What the law of GraphRight tells of names. -/
def upd2 (f : List UInt8 → Int) (D : List (List UInt8)) : List UInt8 → Int := D.foldl (fun f s => updS f s 2) f
theorem upd2_step {f : List UInt8 → Int} {D : List (List UInt8)} {k : Nat} {s : List UInt8} (h : D[k]? = some s) : upd2 f (D.take (k + 1)) = updS (upd2 f (D.take k)) s 2 := by
  unfold upd2
  rw [List.take_add_one, h, List.foldl_append]
  rfl
theorem upd2_eq : ∀ (D : List (List UInt8)) (f : List UInt8 → Int) (s : List UInt8), upd2 f D s = if s ∈ D then 2 else f s
  | [], f, s => by rw [if_neg List.not_mem_nil]; rfl
  | x :: D, f, s => by
    show upd2 (updS f x 2) D s = _
    rw [upd2_eq D]
    unfold updS
    by_cases h1 : s ∈ D
    · rw [if_pos h1, if_pos (List.mem_cons_of_mem _ h1)]
    · rw [if_neg h1]
      by_cases h2 : s = x
      · rw [if_pos h2, if_pos (by rw [h2]; exact List.mem_cons_self)]
      · rw [if_neg h2, if_neg (by rw [List.mem_cons]; exact fun h => h.elim h2 h1)]
def stepT (L : List Tgt) (f : List UInt8 → Int) (i : Nat) : List UInt8 → Int := updS (upd2 f (dpAt L i)) (nmAt L i) 1
def toldT (L : List Tgt) (o : List Nat) : List UInt8 → Int := o.foldl (stepT L) fun _ => 0
theorem toldT_step {L : List Tgt} {o : List Nat} {k i : Nat} (h : o[k]? = some i) : toldT L (o.take (k + 1)) = stepT L (toldT L (o.take k)) i := by
  unfold toldT
  rw [List.take_add_one, h, List.foldl_append]
  rfl
theorem toldT_inv {L : List Tgt} {want : List UInt8} {o : List Nat} (h : Whole L want o) : ∀ k, k ≤ o.length → (∀ s, toldT L (o.take k) s ≠ 0 ↔ ∃ (m i : Nat), m < k ∧ o[m]? = some i ∧ nmAt L i = s) ∧ (∀ s, toldT L (o.take k) s = 1 → ∀ (m i : Nat), m < k → o[m]? = some i → s ∉ dpAt L i)
  | 0, _ => ⟨fun s => ⟨fun h => absurd rfl h, fun ⟨_, _, h, _⟩ => absurd h (Nat.not_lt_zero _)⟩, fun _ _ _ _ h => absurd h (Nat.not_lt_zero _)⟩
  | k + 1, hk => by
    obtain ⟨i, hi⟩ : ∃ i, o[k]? = some i := ⟨_, List.getElem?_eq_getElem (by omega)⟩
    obtain ⟨ha, hb⟩ := toldT_inv h k (by omega)
    rw [toldT_step hi]
    unfold stepT
    refine ⟨fun s => ?_, fun s => ?_⟩
    · unfold updS
      by_cases e : s = nmAt L i
      · rw [if_pos e]
        exact ⟨fun _ => ⟨k, i, by omega, hi, e.symm⟩, fun _ => by decide⟩
      · rw [if_neg e, upd2_eq]
        by_cases hd : s ∈ dpAt L i
        · rw [if_pos hd]
          refine ⟨fun _ => ?_, fun _ => by decide⟩
          obtain ⟨m, j, hm, hj, e2⟩ := h.deps k i hi s hd
          exact ⟨m, j, by omega, hj, e2⟩
        · rw [if_neg hd, ha s]
          constructor
          · rintro ⟨m, j, hm, h2⟩
            exact ⟨m, j, by omega, h2⟩
          · rintro ⟨m, j, hm, hj, e2⟩
            rcases Nat.lt_or_ge m k with h3 | h3
            · exact ⟨m, j, h3, hj, e2⟩
            · have e3 : m = k := by omega
              subst e3
              rw [hi] at hj
              cases hj
              exact absurd e2.symm e
    · unfold updS
      have hself : ∀ (m j : Nat), m < k + 1 → o[m]? = some j → nmAt L i ∉ dpAt L j := fun m j hm hj hd => by
        obtain ⟨m2, j2, hm2, hj2, e2⟩ := h.deps m j hj _ hd
        have := h.dis m2 k j2 i hj2 hi e2
        omega
      by_cases e : s = nmAt L i
      · rw [e]; exact fun _ => hself
      · rw [if_neg e, upd2_eq]
        by_cases hd : s ∈ dpAt L i
        · rw [if_pos hd]; exact fun h => absurd h (by decide)
        · rw [if_neg hd]
          intro h1 m j hm hj
          rcases Nat.lt_or_ge m k with h3 | h3
          · exact hb s h1 m j h3 hj
          · have e3 : m = k := by omega
            subst e3
            rw [hi] at hj
            cases hj
            exact hd
/-- At the end one alone is told that nobody stands on. -/
theorem toldT_end {L : List Tgt} {want : List UInt8} {o : List Nat} (h : Whole L want o) {s : List UInt8} (h1 : toldT L o s = 1) : s = want := by
  obtain ⟨ha, hb⟩ := toldT_inv h o.length (Nat.le_refl _)
  rw [List.take_of_length_le (Nat.le_refl _)] at ha hb
  obtain ⟨m, i, -, hi, e⟩ := (ha s).1 (by rw [h1]; decide)
  rcases h.why m i hi with h2 | ⟨m2, j, hj, h2⟩
  · rw [← e, h2]
  · rw [e] at h2
    exact absurd h2 (hb s h1 m2 j (List.getElem?_eq_some_iff.1 hj).1 hj)
/-- Within a round: what is told of a dep. -/
theorem toldT_dep {L : List Tgt} {want : List UInt8} {o : List Nat} (h : Whole L want o) {k i : Nat} (hi : o[k]? = some i) {d : List UInt8} (hd : d ∈ dpAt L i) (D : List (List UInt8)) : upd2 (toldT L (o.take k)) D d ≠ 0 := by
  rw [upd2_eq]
  split
  · decide
  · obtain ⟨m, j, hm, h2⟩ := h.deps k i hi d hd
    have hk := (List.getElem?_eq_some_iff.1 hi).1
    exact ((toldT_inv h k (by omega)).1 d).2 ⟨m, j, hm, h2⟩
theorem toldT_new {L : List Tgt} {want : List UInt8} {o : List Nat} (h : Whole L want o) {k i : Nat} (hi : o[k]? = some i) : toldT L (o.take k) (nmAt L i) = 0 := by
  have hk := (List.getElem?_eq_some_iff.1 hi).1
  refine Classical.byContradiction fun hne => ?_
  obtain ⟨m, j, hm, hj, e⟩ := ((toldT_inv h k (by omega)).1 _).1 hne
  have := h.dis m k j i hj hi e
  omega
end Go.Proofs.YtbadkkilblgpmaaDoor
