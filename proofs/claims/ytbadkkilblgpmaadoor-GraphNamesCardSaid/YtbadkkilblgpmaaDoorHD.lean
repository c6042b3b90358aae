/-
  Lists turned round: the mathematics of GraphNames.
-/
import Derived.Test.YtbadkkilblgpmaaDoorHC
namespace Go.Proofs.YtbadkkilblgpmaaDoor
open Go.RowKit Go.Maps

theorem nodup_len : ∀ {a b : List Nat}, a.Nodup → (∀ x ∈ a, x ∈ b) → a.length ≤ b.length
  | [], b, _, _ => Nat.zero_le _
  | x :: a, b, hn, hs => by
    rw [List.nodup_cons] at hn
    have hx := hs x List.mem_cons_self
    have h1 := nodup_len (a := a) (b := b.erase x) hn.2 fun y hy => (List.mem_erase_of_ne (by intro e; subst e; exact hn.1 hy)).2 (hs y (List.mem_cons_of_mem _ hy))
    rw [List.length_erase_of_mem hx] at h1
    have := List.length_pos_of_mem hx
    simp only [List.length_cons]
    omega
theorem nm_name {L : List Tgt} (hdis : L.Pairwise fun a b => a.n ≠ b.n) {i j : Nat} {s t : Tgt} (hi : L[i]? = some s) (hj : L[j]? = some t) (e : s.n = t.n) : i = j := by
  obtain ⟨hi1, rfl⟩ := List.getElem?_eq_some_iff.1 hi
  obtain ⟨hj1, rfl⟩ := List.getElem?_eq_some_iff.1 hj
  rw [List.pairwise_iff_getElem] at hdis
  rcases Nat.lt_trichotomy i j with h2 | h2 | h2
  · exact absurd e (hdis i j hi1 hj1 h2)
  · exact h2
  · exact absurd e.symm (hdis j i hj1 hi1 h2)
theorem plK_iff {L : List Tgt} {s : List UInt8} : s ∈ plK L L.length ↔ ∃ (i : Nat) (t : Tgt), L[i]? = some t ∧ t.n = s := by
  rw [plK_mem L s L.length (Nat.le_refl _)]
  constructor
  · rintro ⟨i, t, _, h⟩; exact ⟨i, t, h⟩
  · rintro ⟨i, t, h1, h2⟩; exact ⟨i, t, (List.getElem?_eq_some_iff.1 h1).1, h1, h2⟩
theorem nb_det {L : List Tgt} (hdis : L.Pairwise fun a b => a.n ≠ b.n) {nd : List Nat} {q : List (List UInt8)} {r : Option (List Nat)} (h : NbR L nd q r) : ∀ {r2}, NbR L nd q r2 → r = r2 := by
  induction h with
  | done nd => intro r2 h2; cases h2; rfl
  | none nd s q hs =>
    intro r2 h2
    cases h2 with
    | none => rfl
    | skip _ _ _ i t _ h1 h3 => exact absurd (plK_iff.2 ⟨i, t, h1, h3⟩) hs
    | new _ _ _ i t _ h1 h3 => exact absurd (plK_iff.2 ⟨i, t, h1, h3⟩) hs
  | skip nd s q i t r h1 h2 h3 hr ih =>
    intro r2 h4
    cases h4 with
    | none _ _ _ hs => exact absurd (plK_iff.2 ⟨i, t, h1, h2⟩) hs
    | skip _ _ _ i2 t2 _ g1 g2 g3 gr => exact ih gr
    | new _ _ _ i2 t2 _ g1 g2 g3 gr => exact absurd (by rw [← nm_name hdis h1 g1 (h2.trans g2.symm)]; exact h3) g3
  | new nd s q i t r h1 h2 h3 hr ih =>
    intro r2 h4
    cases h4 with
    | none _ _ _ hs => exact absurd (plK_iff.2 ⟨i, t, h1, h2⟩) hs
    | skip _ _ _ i2 t2 _ g1 g2 g3 gr => exact absurd (by rw [nm_name hdis h1 g1 (h2.trans g2.symm)]; exact g3) h3
    | new _ _ _ i2 t2 _ g1 g2 g3 gr =>
      obtain rfl := nm_name hdis h1 g1 (h2.trans g2.symm)
      rw [h1] at g1
      cases g1
      exact ih gr
/-- The place in the list turned round. -/
def turnI (L : List Tgt) (i : Nat) : Nat := L.length - 1 - i
theorem turn_at {L : List Tgt} {i : Nat} {t : Tgt} (h : L[i]? = some t) : L.reverse[turnI L i]? = some t := by
  have hi := (List.getElem?_eq_some_iff.1 h).1
  unfold turnI
  rw [List.getElem?_reverse (by omega), ← h]
  congr 1
  omega
theorem turn_inj {L : List Tgt} {i j : Nat} (hi : i < L.length) (hj : j < L.length) (e : turnI L i = turnI L j) : i = j := by
  unfold turnI at e; omega
theorem nm_turn {L : List Tgt} {i : Nat} (hi : i < L.length) : nmAt L.reverse (turnI L i) = nmAt L i ∧ dpAt L.reverse (turnI L i) = dpAt L i := by
  have h : L[i]? = some L[i] := List.getElem?_eq_getElem hi
  rw [nmAt_get h, nmAt_get (turn_at h), dpAt_get h, dpAt_get (turn_at h)]
  exact ⟨rfl, rfl⟩
theorem nb_lt {L : List Tgt} {nd : List Nat} {q : List (List UInt8)} {r : Option (List Nat)} (h : NbR L nd q r) : (∀ i ∈ nd, i < L.length) → ∀ x, r = some x → ∀ i ∈ x, i < L.length := by
  induction h with
  | done nd => intro h x e; cases e; exact h
  | none => intro _ x e; cases e
  | skip nd s q i t r h1 h2 h3 _ ih => exact ih
  | new nd s q i t r h1 h2 h3 _ ih =>
    intro h
    refine ih fun j hj => ?_
    rcases List.mem_append.1 hj with hj | hj
    · exact h j hj
    · rw [List.mem_singleton] at hj; rw [hj]; exact (List.getElem?_eq_some_iff.1 h1).1
theorem nb_turn {L : List Tgt} {nd : List Nat} {q : List (List UInt8)} {r : Option (List Nat)} (h : NbR L nd q r) : (∀ i ∈ nd, i < L.length) → NbR L.reverse (nd.map (turnI L)) q (r.map (List.map (turnI L))) := by
  induction h with
  | done nd => intro _; exact .done _
  | none nd s q hs =>
    intro _
    refine .none _ _ _ fun h => hs ?_
    rw [plK_iff] at h ⊢
    obtain ⟨i, t, h1, h2⟩ := h
    have hm : t ∈ L := List.mem_reverse.1 (List.mem_of_getElem? h1)
    obtain ⟨j, hj, rfl⟩ := List.getElem_of_mem hm
    exact ⟨j, _, List.getElem?_eq_getElem hj, h2⟩
  | skip nd s q i t r h1 h2 h3 _ ih =>
    intro h
    exact .skip _ _ _ _ t _ (turn_at h1) h2 (List.mem_map_of_mem h3) (ih h)
  | new nd s q i t r h1 h2 h3 _ ih =>
    intro h
    have hi := (List.getElem?_eq_some_iff.1 h1).1
    refine .new _ _ _ (turnI L i) t _ (turn_at h1) h2 (fun hm => ?_) ?_
    · obtain ⟨j, hj, e⟩ := List.mem_map.1 hm
      exact h3 (by rw [← turn_inj (h j hj) hi e]; exact hj)
    · have h4 := ih fun j hj => by
        rcases List.mem_append.1 hj with hj | hj
        · exact h j hj
        · rw [List.mem_singleton] at hj; rw [hj]; exact hi
      rw [List.map_append] at h4
      exact h4
theorem sorted_eq {L : List Tgt} (hdis : L.Pairwise fun a b => a.n ≠ b.n) (hz : ∀ x y : List UInt8, ¬ cmpB x y < 0 → ¬ cmpB y x < 0 → x = y) {nd a b : List Nat} (hlt : ∀ i ∈ nd, i < L.length) (ha : SortedBy L nd a) (hb : SortedBy L nd b) : a = b := by
  refine sorted_one (ha.1.trans hb.1.symm) ha.2 hb.2 fun x hx y hy h1 h2 => ?_
  have hxl := hlt x (ha.1.mem_iff.1 hx)
  have hyl := hlt y (ha.1.mem_iff.1 hy)
  have e := hz _ _ h2 h1
  have gx : L[x]? = some L[x] := List.getElem?_eq_getElem hxl
  have gy : L[y]? = some L[y] := List.getElem?_eq_getElem hyl
  rw [nmAt_get gx, nmAt_get gy] at e
  exact nm_name hdis gx gy e
theorem sorted_turn {L : List Tgt} {nd a : List Nat} (hlt : ∀ i ∈ nd, i < L.length) (ha : SortedBy L nd a) : SortedBy L.reverse (nd.map (turnI L)) (a.map (turnI L)) := by
  refine ⟨ha.1.map _, ?_⟩
  rw [List.pairwise_map]
  refine ha.2.imp_of_mem fun {i j} hi hj h => ?_
  rw [(nm_turn (hlt i (ha.1.mem_iff.1 hi))).1, (nm_turn (hlt j (ha.1.mem_iff.1 hj))).1]
  exact h
theorem find_turn {L : List Tgt} (f : List UInt8 → Int) : ∀ {a : List Nat}, (∀ i ∈ a, i < L.length) → (a.map (turnI L)).find? (readyAt L.reverse f) = (a.find? (readyAt L f)).map (turnI L)
  | [], _ => rfl
  | i :: a, h => by
    have h1 : readyAt L.reverse f (turnI L i) = readyAt L f i := by
      unfold readyAt
      rw [(nm_turn (h i List.mem_cons_self)).1, (nm_turn (h i List.mem_cons_self)).2]
    rw [List.map_cons, List.find?_cons, List.find?_cons, h1]
    cases readyAt L f i
    · exact find_turn f fun j hj => h j (List.mem_cons_of_mem _ hj)
    · rfl
theorem ordF_turn {L : List Tgt} {a : List Nat} (h : ∀ i ∈ a, i < L.length) : ∀ k, ordF L.reverse (a.map (turnI L)) k = (ordF L a k).map fun x => (x.1.map (turnI L), x.2)
  | 0 => rfl
  | k + 1 => by
    unfold ordF
    rw [ordF_turn h k]
    cases ordF L a k with
    | none => rfl
    | some x =>
      obtain ⟨o, f⟩ := x
      simp only [Option.map_some]
      rw [find_turn f h]
      cases e : a.find? (readyAt L f) with
      | none => rfl
      | some i =>
        simp only [Option.map_some, List.map_append, List.map_cons, List.map_nil, List.length_map]
        rw [(nm_turn (h i (List.mem_of_find?_eq_some e))).1]
theorem ordF_none {L : List Tgt} {a : List Nat} {k : Nat} (h : ordF L a k = none) : ∀ {m}, k ≤ m → ordF L a m = none
  | 0, hm => by rw [Nat.le_zero.1 hm] at h; exact h
  | m + 1, hm => by
    rcases Nat.lt_or_ge k (m + 1) with h1 | h1
    · unfold ordF
      rw [ordF_none h (Nat.lt_succ_iff.1 h1)]
    · rw [show m + 1 = k by omega]; exact h
theorem ord_stuck {L : List Tgt} {a o : List Nat} {f : List UInt8 → Int} (h : OrdR L a o f) (hf : a.find? (readyAt L f) = none) {m : Nat} (hm : o.length < m) : ordF L a m = none := by
  refine ordF_none (k := o.length + 1) ?_ hm
  unfold ordF
  rw [ord_fun h]
  simp only [hf]
/-- The outcome of an order. -/
inductive OrdO (L : List Tgt) (want : List UInt8) : Int → List Nat → Prop
  | bad : mayL L = false → OrdO L want 2 []
  | none : mayL L = true → NbR L [] [want] none → OrdO L want 6 []
  | cycle (nd nd' o f) : mayL L = true → NbR L [] [want] (some nd) → nd.Nodup → (∀ i ∈ nd, i < L.length) → SortedBy L nd nd' → OrdR L nd' o f → o.length < nd.length → nd'.find? (readyAt L f) = none → OrdO L want 150 []
  | ok (nd nd' o f) : mayL L = true → NbR L [] [want] (some nd) → nd.Nodup → (∀ i ∈ nd, i < L.length) → SortedBy L nd nd' → OrdR L nd' o f → o.length = nd.length → OrdO L want 0 o
theorem mayL_turn {L : List Tgt} (hconv : ∀ L : List Tgt, L.length ≤ 20 → (∀ t ∈ L, mayTgt t = true) → (L.Pairwise fun a b => a.n ≠ b.n) → mayL L = true) : mayL L.reverse = mayL L := by
  have h1 : ∀ L : List Tgt, mayL L = true → mayL L.reverse = true := fun L h => by
    obtain ⟨ha, hb, hc⟩ := mayL_of h
    refine hconv _ (by rw [List.length_reverse]; exact ha) (fun t ht => hb t (List.mem_reverse.1 ht)) ?_
    rw [List.pairwise_reverse]
    exact hc.imp fun h => h.symm
  cases e : mayL L
  · cases e2 : mayL L.reverse
    · rfl
    · have := h1 _ e2
      rw [List.reverse_reverse, e] at this
      cases this
  · exact h1 L e
/-- A list in another order: the same names come. -/
theorem ord_turn {L : List Tgt} (hconv : ∀ L : List Tgt, L.length ≤ 20 → (∀ t ∈ L, mayTgt t = true) → (L.Pairwise fun a b => a.n ≠ b.n) → mayL L = true) (hz : ∀ x y : List UInt8, ¬ cmpB x y < 0 → ¬ cmpB y x < 0 → x = y)
    {want : List UInt8} {n m : Int} {o p : List Nat} (h : OrdO L want n o) (k : OrdO L.reverse want m p) : n = m ∧ p = o.map (turnI L) := by
  have hm := mayL_turn (L := L) hconv
  cases h with
  | bad hb =>
    rw [hb] at hm
    cases k with
    | bad => exact ⟨rfl, rfl⟩
    | none h1 => rw [hm] at h1; cases h1
    | cycle _ _ _ _ h1 => rw [hm] at h1; cases h1
    | ok _ _ _ _ h1 => rw [hm] at h1; cases h1
  | none hb hn =>
    rw [hb] at hm
    have hdis := (mayL_of hm).2.2
    have hn2 := nb_turn hn (fun i h => absurd h List.not_mem_nil)
    cases k with
    | bad h1 => rw [hm] at h1; cases h1
    | none => exact ⟨rfl, rfl⟩
    | cycle _ _ _ _ _ h1 => exact absurd (nb_det hdis hn2 h1) (by simp)
    | ok _ _ _ _ _ h1 => exact absurd (nb_det hdis hn2 h1) (by simp)
  | cycle nd nd' o' f hb hn hnd hlt hs hr hl hf =>
    rw [hb] at hm
    have hdis := (mayL_of hm).2.2
    have hn2 := nb_turn hn (fun i h => absurd h List.not_mem_nil)
    have hlt' : ∀ i ∈ nd', i < L.length := fun i hi => hlt i (hs.1.mem_iff.1 hi)
    cases k with
    | bad h1 => rw [hm] at h1; cases h1
    | none _ h1 => exact absurd (nb_det hdis hn2 h1) (by simp)
    | cycle => exact ⟨rfl, rfl⟩
    | ok nd2 nd2' p f2 _ h1 _ hlt2 hs2 hr2 hl2 =>
      have e := nb_det hdis hn2 h1
      simp only [Option.map_some, Option.some.injEq] at e
      subst e
      have e2 := sorted_eq hdis hz hlt2 hs2 (sorted_turn hlt hs)
      subst e2
      have h3 := ord_fun hr2
      rw [ordF_turn hlt', ord_stuck hr hf (by rw [hl2, List.length_map]; exact hl)] at h3
      cases h3
  | ok nd nd' o f hb hn hnd hlt hs hr hl =>
    rw [hb] at hm
    have hdis := (mayL_of hm).2.2
    have hn2 := nb_turn hn (fun i h => absurd h List.not_mem_nil)
    have hlt' : ∀ i ∈ nd', i < L.length := fun i hi => hlt i (hs.1.mem_iff.1 hi)
    cases k with
    | bad h1 => rw [hm] at h1; cases h1
    | none _ h1 => exact absurd (nb_det hdis hn2 h1) (by simp)
    | cycle nd2 nd2' p f2 _ h1 _ hlt2 hs2 hr2 hl2 hf2 =>
      have e := nb_det hdis hn2 h1
      simp only [Option.map_some, Option.some.injEq] at e
      subst e
      have e2 := sorted_eq hdis hz hlt2 hs2 (sorted_turn hlt hs)
      subst e2
      have h3 := ordF_turn (L := L) hlt' o.length
      rw [ord_fun hr, ord_stuck hr2 hf2 (by rw [hl]; rw [List.length_map] at hl2; exact hl2)] at h3
      cases h3
    | ok nd2 nd2' p f2 _ h1 _ hlt2 hs2 hr2 hl2 =>
      have e := nb_det hdis hn2 h1
      simp only [Option.map_some, Option.some.injEq] at e
      subst e
      have e2 := sorted_eq hdis hz hlt2 hs2 (sorted_turn hlt hs)
      subst e2
      have h3 := ordF_turn (L := L) hlt' o.length
      have h4 := ord_fun hr2
      rw [List.length_map] at hl2
      rw [hl2, ← hl, h3, ord_fun hr] at h4
      simp only [Option.map_some, Option.some.injEq, Prod.mk.injEq] at h4
      exact ⟨rfl, h4.1.symm⟩
theorem OrdO.whole {L : List Tgt} {want : List UInt8} {o : List Nat} (h : OrdO L want 0 o) : mayL L = true ∧ Whole L want o ∧ o.length ≤ L.length := by
  cases h with
  | ok nd nd' o f hb hn hnd hlt hs hr hl =>
    exact ⟨hb, (whole_of hn hlt hs hr hl).1, by rw [hl]; exact nodup_le hnd hlt⟩
theorem OrdO.empty {L : List Tgt} {want : List UInt8} {n : Int} {o : List Nat} (h : OrdO L want n o) (hn : n ≠ 0) : o = [] := by
  cases h with
  | bad => rfl
  | none => rfl
  | cycle => rfl
  | ok => exact absurd rfl hn
theorem nb_least {L : List Tgt} (C : Nat → Prop) (hC : ∀ j, C j → ∀ d ∈ dpAt L j, ∀ (i : Nat) (t : Tgt), L[i]? = some t → t.n = d → C i) {nd : List Nat} {q : List (List UInt8)} {r : Option (List Nat)} (h : NbR L nd q r) :
    (∀ i ∈ nd, C i) → (∀ s ∈ q, ∀ (i : Nat) (t : Tgt), L[i]? = some t → t.n = s → C i) → ∀ x, r = some x → ∀ i ∈ x, C i := by
  induction h with
  | done nd => intro h _ x e; cases e; exact h
  | none => intro _ _ x e; cases e
  | skip nd s q i t r h1 h2 h3 _ ih => exact fun ha hb => ih ha fun s hs => hb s (List.mem_cons_of_mem _ hs)
  | new nd s q i t r h1 h2 h3 _ ih =>
    intro ha hb
    have hi := hb s List.mem_cons_self i t h1 h2
    refine ih (fun j hj => ?_) fun s' hs => ?_
    · rcases List.mem_append.1 hj with hj | hj
      · exact ha j hj
      · rw [List.mem_singleton] at hj; rw [hj]; exact hi
    · rcases List.mem_append.1 hs with hs | hs
      · exact hb s' (List.mem_cons_of_mem _ hs)
      · exact hC i hi s' (by rw [dpAt_get h1]; exact hs)
theorem nb_fails {L : List Tgt} (N : List UInt8 → Prop) (hN : ∀ s, N s → s ∈ plK L L.length) (hC : ∀ (i : Nat) (t : Tgt), L[i]? = some t → N t.n → ∀ d ∈ t.D, N d) {nd : List Nat} {q : List (List UInt8)} {r : Option (List Nat)} (h : NbR L nd q r) :
    (∀ s ∈ q, N s) → r ≠ none := by
  induction h with
  | done nd => intro _ e; cases e
  | none nd s q hs => intro h; exact absurd (hN s (h s List.mem_cons_self)) hs
  | skip nd s q i t r h1 h2 h3 _ ih => exact fun hb => ih fun s hs => hb s (List.mem_cons_of_mem _ hs)
  | new nd s q i t r h1 h2 h3 _ ih =>
    intro hb
    refine ih fun s' hs => ?_
    rcases List.mem_append.1 hs with hs | hs
    · exact hb s' (List.mem_cons_of_mem _ hs)
    · exact hC i t h1 (by rw [h2]; exact hb s List.mem_cons_self) s' hs
/-- All that a dep of want needs stands ahead of want. -/
theorem dep_ahead {L : List Tgt} {want d : List UInt8} {o c : List Nat} {g : Int} (h : OrdO L want 0 o) {k i : Nat} (hk : o[k]? = some i) (hl : k + 1 = o.length) (hd : d ∈ dpAt L i) (hc : OrdO L d g c) :
    g = 0 ∧ ∀ x ∈ c, ∃ m : Nat, m < k ∧ o[m]? = some x := by
  cases h with
  | ok nd nd' o f hb hn hnd hlt hs hr hlen =>
  obtain ⟨W, hmem⟩ := whole_of hn hlt hs hr hlen
  have hdis := (mayL_of hb).2.2
  obtain ⟨hcl, hcw⟩ := nb_closed hn (fun j hj => absurd hj List.not_mem_nil) nd rfl
  have hin : i ∈ nd := (hmem i).1 (List.mem_of_getElem? hk)
  have hwant : nmAt L i = want := (W.last k i hk).1 hl
  have hat : ∀ (j : Nat) (t : Tgt), L[j]? = some t → ∀ x, x ∈ nd → nmAt L x = t.n → x = j := fun j t hj x hx e => by
    have hx2 : L[x]? = some (L[x]'(hlt x hx)) := List.getElem?_eq_getElem (hlt x hx)
    rw [nmAt_get hx2] at e
    exact nm_name hdis hx2 hj e
  have hclo : ∀ j, j ∈ nd → ∀ d ∈ dpAt L j, ∀ (x : Nat) (t : Tgt), L[x]? = some t → t.n = d → x ∈ nd := fun j hj d hd x t hx e => by
    obtain ⟨y, hy, e2⟩ := hcl j hj d hd
    rw [← hat x t hx y hy (e2.trans e.symm)]
    exact hy
  have hsub : ∀ {r : Option (List Nat)}, NbR L [] [d] r → ∀ x, r = some x → ∀ y ∈ x, y ∈ nd := fun hr2 x e => nb_least (· ∈ nd) hclo hr2 (fun _ h => absurd h List.not_mem_nil) (fun s hs x t hx e => by
    rw [List.mem_singleton] at hs
    exact hclo i hin d hd x t hx (e.trans hs)) x e
  cases hc with
  | bad h1 => rw [hb] at h1; cases h1
  | none _ h1 =>
    refine absurd rfl (nb_fails (fun s => ∃ x ∈ nd, nmAt L x = s) (fun s hs => ?_) (fun x t hx hs d hd => ?_) h1 (fun s hs => ?_))
    · obtain ⟨x, hx, rfl⟩ := hs
      have hx2 : L[x]? = some (L[x]'(hlt x hx)) := List.getElem?_eq_getElem (hlt x hx)
      exact plK_iff.2 ⟨x, _, hx2, (nmAt_get hx2).symm⟩
    · obtain ⟨y, hy, e⟩ := hs
      have e2 := hat x t hx y hy e
      subst e2
      exact hcl y hy d (by rw [dpAt_get hx]; exact hd)
    · rw [List.mem_singleton] at hs
      rw [hs]
      exact hcl i hin d hd
  | cycle nd2 nd2' o2 f2 _ h1 hnd2 hlt2 hs2 hr2 hl2 hf2 =>
    exfalso
    have I := ord_inv hr2
    obtain ⟨hcl2, -⟩ := nb_closed h1 (fun j hj => absurd hj List.not_mem_nil) nd2 rfl
    have hex : ∃ (m x : Nat), o[m]? = some x ∧ x ∈ nd2 ∧ f2 (nmAt L x) = 0 := by
      refine Classical.byContradiction fun hno => ?_
      have hall : ∀ x ∈ nd2, x ∈ o2 := fun x hx => by
        have hxo := (hmem x).2 (hsub h1 nd2 rfl x hx)
        obtain ⟨m, hm, rfl⟩ := List.getElem_of_mem hxo
        have hne : f2 (nmAt L o[m]) ≠ 0 := fun e => hno ⟨m, _, List.getElem?_eq_getElem hm, hx, e⟩
        obtain ⟨y, hy, e⟩ := (I.told _).1 hne
        have hx2 : L[o[m]]? = some (L[o[m]]'(hlt2 _ hx)) := List.getElem?_eq_getElem (hlt2 _ hx)
        rw [nmAt_get hx2] at e
        have hy2 : y < L.length := hlt2 y (hs2.1.mem_iff.1 (I.sub y hy))
        have hy3 : L[y]? = some L[y] := List.getElem?_eq_getElem hy2
        rw [nmAt_get hy3] at e
        rw [← nm_name hdis hy3 hx2 e]
        exact hy
      have := nodup_len hnd2 hall
      omega
    have hmin : ∀ (n m x : Nat), m < n → o[m]? = some x → x ∈ nd2 → f2 (nmAt L x) = 0 → ∃ (m x : Nat), o[m]? = some x ∧ x ∈ nd2 ∧ f2 (nmAt L x) = 0 ∧ ∀ (m2 y : Nat), m2 < m → o[m2]? = some y → y ∈ nd2 → f2 (nmAt L y) ≠ 0 := by
      intro n
      induction n with
      | zero => intro m x h; exact absurd h (Nat.not_lt_zero _)
      | succ n ih =>
        intro m x hm hx h2 h3
        by_cases h4 : ∃ (m2 y : Nat), m2 < m ∧ o[m2]? = some y ∧ y ∈ nd2 ∧ f2 (nmAt L y) = 0
        · obtain ⟨m2, y, h5, h6, h7, h8⟩ := h4
          exact ih m2 y (by omega) h6 h7 h8
        · exact ⟨m, x, hx, h2, h3, fun m2 y h5 h6 h7 h8 => h4 ⟨m2, y, h5, h6, h7, h8⟩⟩
    obtain ⟨m, x, hm, hx, h0⟩ := hex
    obtain ⟨m, x, hm, hx, h0, hmn⟩ := hmin (m + 1) m x (by omega) hm hx h0
    have hready : readyAt L f2 x = true := by
      rw [readyAt_iff]
      refine ⟨h0, fun s hs => ?_⟩
      obtain ⟨y, hy, e⟩ := hcl2 x hx s hs
      obtain ⟨m2, j, hm2, hj, e2⟩ := W.deps m x hm s hs
      have hjn : j ∈ nd := (hmem j).1 (List.mem_of_getElem? hj)
      have hy3 : L[y]? = some (L[y]'(hlt2 y hy)) := List.getElem?_eq_getElem (hlt2 y hy)
      have hyj : j = y := hat y _ hy3 j hjn (by rw [e2, ← e, nmAt_get hy3])
      rw [← e2]
      exact hmn m2 j hm2 hj (by rw [hyj]; exact hy)
    rw [List.find?_eq_none] at hf2
    exact hf2 x (hs2.1.mem_iff.2 hx) hready
  | ok nd2 nd2' c f2 _ h1 hnd2 hlt2 hs2 hr2 hl2 =>
    refine ⟨rfl, fun x hx => ?_⟩
    have hx2 : x ∈ nd2 := hs2.1.mem_iff.1 ((ord_inv hr2).sub x hx)
    have hxn := hsub h1 nd2 rfl x hx2
    obtain ⟨m, hm, rfl⟩ := List.getElem_of_mem ((hmem x).2 hxn)
    refine ⟨m, ?_, List.getElem?_eq_getElem hm⟩
    refine Nat.lt_of_le_of_ne (by omega) fun e => ?_
    subst e
    have hk2 : o[m]? = some o[m] := List.getElem?_eq_getElem hm
    rw [hk2] at hk
    cases hk
    have hself : ∀ (q j : Nat), o[q]? = some j → want ∉ dpAt L j := fun q j hq hd2 => by
      obtain ⟨m2, j2, hm2, hj2, e2⟩ := W.deps q j hq _ hd2
      have e3 := W.dis m2 m j2 _ hj2 hk2 (e2.trans hwant.symm)
      have := (List.getElem?_eq_some_iff.1 hq).1
      omega
    rcases nb_why h1 nd2 rfl _ hx2 with h | h | ⟨j, hj, h⟩
    · exact absurd h List.not_mem_nil
    · rw [List.mem_singleton, hwant] at h
      rw [← h] at hd
      exact hself m _ hk2 hd
    · rw [hwant] at h
      obtain ⟨q, hq, rfl⟩ := List.getElem_of_mem ((hmem j).2 (hsub h1 nd2 rfl j hj))
      exact hself q _ (List.getElem?_eq_getElem hq) h
end Go.Proofs.YtbadkkilblgpmaaDoor
