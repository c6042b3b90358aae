/-
  Package adverts: results one by one, in whatever order; what is below a prefix (plain).
-/
import Derived.Test.YtkcammaccgkflaaDoorST
namespace Go.Proofs.YtkcammaccgkflaaDoor
open Go.RowKit

/-- Results added one by one. -/
def addAll (L l : List Att) : List Att := l.foldl (fun S a => (addM S a).1) L
/-- The same without a bound. -/
def insT (T : List Att) (a : Att) : List Att := if mayB a.n = true ∧ a ∉ T then T.take (posA T a) ++ a :: T.drop (posA T a) else T
def allT (T l : List Att) : List Att := l.foldl insT T
theorem ok_nil : OkA [] := ⟨fun i j x y _ h => by simp at h, Nat.zero_le _, fun x h => by cases h⟩
theorem addAll_ok : ∀ (l : List Att) {L : List Att}, OkA L → OkA (addAll L l)
  | [], _, ok => ok
  | a :: l, _, ok => addAll_ok l (addM_ok ok a)
theorem addAll_snoc (L l : List Att) (a : Att) : addAll L (l ++ [a]) = (addM (addAll L l) a).1 := by unfold addAll; rw [List.foldl_append]; rfl
theorem addAll_take (L l : List Att) {k : Nat} {a : Att} (h : l[k]? = some a) : addAll L (l.take (k + 1)) = (addM (addAll L (l.take k)) a).1 := by
  rw [List.take_add_one, h]; exact addAll_snoc _ _ _
structure OkT (T : List Att) : Prop where
  sort : SortA T
  may : ∀ x ∈ T, mayB x.n = true
theorem insT_ok {T : List Att} (ok : OkT T) (a : Att) : OkT (insT T a) := by
  unfold insT
  by_cases hc : mayB a.n = true ∧ a ∉ T
  · rw [if_pos hc]
    obtain ⟨hm, hn⟩ := hc
    have hs := ok.sort
    have h := sort_at hs a
    refine ⟨?_, fun x hx => ?_⟩
    · rw [sortA_iff] at hs ⊢
      generalize posA T a = k at h
      have hsp : (T.take k ++ T.drop k).Pairwise (fun x y => lessB x y = true) := by rw [List.take_append_drop]; exact hs
      rw [List.pairwise_append] at hsp ⊢
      have hlt : ∀ x ∈ T.take k, lessB x a = true := fun x hx => by
        obtain ⟨j, hj, rfl⟩ := List.getElem_of_mem hx
        rw [List.length_take] at hj
        rw [List.getElem_take]
        exact h.2.1 j _ (by omega) (List.getElem?_eq_getElem (by omega))
      have hgt : ∀ y ∈ T.drop k, lessB a y = true := fun y hy => by
        obtain ⟨j, hj, rfl⟩ := List.getElem_of_mem hy
        rw [List.length_drop] at hj
        rw [List.getElem_drop]
        have h1 := h.2.2 (k + j) _ (by omega) (List.getElem?_eq_getElem (by omega))
        have hmm : T[k + j]'(by omega) ∈ T := List.getElem_mem _
        cases hq : lessB a (T[k + j]'(by omega)) with
        | true => rfl
        | false => exact absurd (lessB_none _ _ (may_big hm) (may_big (ok.may _ hmm)) hq h1) (fun e => hn (e ▸ hmm))
      refine ⟨hsp.1, List.pairwise_cons.2 ⟨hgt, hsp.2.1⟩, fun x hx y hy => ?_⟩
      rcases List.mem_cons.1 hy with rfl | hy
      · exact hlt x hx
      · exact hsp.2.2 x hx y hy
    · rcases List.mem_append.1 hx with hx | hx
      · exact ok.may x (List.mem_of_mem_take hx)
      · rcases List.mem_cons.1 hx with rfl | hx
        · exact hm
        · exact ok.may x (List.mem_of_mem_drop hx)
  · rw [if_neg hc]; exact ok
theorem mem_insT {T : List Att} {a x : Att} : x ∈ insT T a ↔ x ∈ T ∨ (x = a ∧ mayB x.n = true) := by
  unfold insT
  by_cases hc : mayB a.n = true ∧ a ∉ T
  · rw [if_pos hc, List.mem_append, List.mem_cons]
    have e : x ∈ T ↔ x ∈ T.take (posA T a) ∨ x ∈ T.drop (posA T a) := by rw [← List.mem_append, List.take_append_drop]
    rw [e]
    constructor
    · rintro (h | rfl | h)
      · exact .inl (.inl h)
      · exact .inr ⟨rfl, hc.1⟩
      · exact .inl (.inr h)
    · rintro ((h | h) | ⟨rfl, -⟩)
      · exact .inl h
      · exact .inr (.inr h)
      · exact .inr (.inl rfl)
  · rw [if_neg hc]
    refine ⟨.inl, ?_⟩
    rintro (h | ⟨rfl, hm⟩)
    · exact h
    · exact Decidable.byContradiction fun hn => hc ⟨hm, hn⟩
theorem allT_ok : ∀ (l : List Att) {T : List Att}, OkT T → OkT (allT T l)
  | [], _, ok => ok
  | a :: l, _, ok => allT_ok l (insT_ok ok a)
theorem mem_allT : ∀ (l : List Att) {T : List Att} {x : Att}, x ∈ allT T l ↔ x ∈ T ∨ (x ∈ l ∧ mayB x.n = true)
  | [], T, x => by show x ∈ T ↔ _; simp
  | a :: l, T, x => by
    show x ∈ allT (insT T a) l ↔ _
    rw [mem_allT l, mem_insT, List.mem_cons]
    constructor
    · rintro ((h | ⟨rfl, h⟩) | ⟨h, hm⟩)
      · exact .inl h
      · exact .inr ⟨.inl rfl, h⟩
      · exact .inr ⟨.inr h, hm⟩
    · rintro (h | ⟨rfl | h, hm⟩)
      · exact .inl (.inl h)
      · exact .inl (.inr ⟨rfl, hm⟩)
      · exact .inr ⟨h, hm⟩
theorem sort_take {T : List Att} (hs : SortA T) (n : Nat) : SortA (T.take n) := by
  rw [sortA_iff] at hs ⊢
  exact hs.sublist (List.take_sublist _ _)
theorem pos_take {T : List Att} (hs : SortA T) (a : Att) : posA (T.take 200) a = min (posA T a) 200 := by
  have h := sort_at hs a
  refine (AtA.pos ⟨?_, fun j y hj hy => ?_, fun j y hj hy => ?_⟩).symm
  · rw [List.length_take]; have := h.1; omega
  · rw [List.getElem?_take_of_lt (by omega)] at hy
    exact h.2.1 j y (by omega) hy
  · rcases Nat.lt_or_ge j 200 with hj2 | hj2
    · rw [List.getElem?_take_of_lt hj2] at hy
      exact h.2.2 j y (by omega) hy
    · rw [List.getElem?_eq_none (by rw [List.length_take]; omega)] at hy; cases hy
theorem put_take {T : List Att} {a : Att} {p : Nat} (hp : p < 200) (hl : p ≤ T.length) : ((T.take 200).take p ++ a :: (T.take 200).drop p).take 200 = (T.take p ++ a :: T.drop p).take 200 := by
  have e1 : (T.take 200).take p = T.take p := by rw [List.take_take, Nat.min_eq_left (by omega)]
  have e2 : (T.take 200).drop p = (T.drop p).take (200 - p) := List.drop_take
  have hlen : (T.take p).length = p := by rw [List.length_take]; omega
  obtain ⟨m, hm⟩ : ∃ m, 200 - p = m + 1 := ⟨200 - p - 1, by omega⟩
  have e3 : ((T.drop p).take (m + 1)).take m = (T.drop p).take m := by rw [List.take_take, Nat.min_eq_left (by omega)]
  rw [e1, e2, List.take_append, List.take_append, hlen, hm, List.take_succ_cons, List.take_succ_cons, e3]
theorem add_take {T : List Att} (ok : OkT T) (a : Att) : (addM (T.take 200) a).1 = (insT T a).take 200 := by
  unfold addM insT
  cases hm : mayB a.n with
  | false => rw [if_neg (by simp), if_neg (by simp)]
  | true =>
    have hs := ok.sort
    have h := sort_at hs a
    rw [if_pos rfl]
    by_cases h1 : a ∈ T.take 200
    · rw [if_pos h1, if_neg (fun h => h.2 (List.mem_of_mem_take h1))]
    · rw [if_neg h1, pos_take hs]
      by_cases h2 : a ∈ T
      · rw [if_neg (show ¬ (true = true ∧ a ∉ T) from fun h => h.2 h2)]
        obtain ⟨j, hj, e⟩ := List.getElem_of_mem h2
        have hx : T[j]? = some a := by rw [List.getElem?_eq_getElem hj, e]
        have hj2 : 200 ≤ j := Nat.le_of_not_lt fun hlt => h1 (List.mem_of_getElem? (by rw [List.getElem?_take_of_lt hlt]; exact hx))
        have hp : 200 ≤ posA T a := Nat.le_of_not_lt fun hlt => by
          rcases Nat.lt_or_ge (posA T a) j with hq | hq
          · obtain ⟨y, hy⟩ : ∃ y, T[posA T a]? = some y := ⟨_, List.getElem?_eq_getElem (by omega)⟩
            have h3 := h.2.2 _ y (Nat.le_refl _) hy
            rw [hs _ j y a hq hy hx] at h3; cases h3
          · omega
        rw [if_pos (show 200 ≤ min (posA T a) 200 by omega)]
      · rw [if_pos (show true = true ∧ a ∉ T from ⟨rfl, h2⟩)]
        rcases Nat.lt_or_ge (posA T a) 200 with hp | hp
        · rw [if_neg (show ¬ 200 ≤ min (posA T a) 200 by omega)]
          unfold putA
          rw [pos_take hs, Nat.min_eq_left (by omega)]
          exact put_take hp h.1
        · rw [if_pos (show 200 ≤ min (posA T a) 200 by omega)]
          have hlen : (T.take (posA T a)).length = posA T a := by rw [List.length_take]; have := h.1; omega
          rw [List.take_append_of_le_length (by omega), List.take_take, Nat.min_eq_left hp]
theorem addAll_allT : ∀ (l : List Att) {T : List Att}, OkT T → addAll (T.take 200) l = (allT T l).take 200
  | [], _, _ => rfl
  | a :: l, T, ok => by
    show addAll (addM (T.take 200) a).1 l = (allT (insT T a) l).take 200
    rw [add_take ok, addAll_allT l (insT_ok ok a)]
theorem okT_nil : OkT [] := ⟨ok_nil.sort, ok_nil.may⟩
theorem addAll_nil (l : List Att) : addAll [] l = (allT [] l).take 200 := addAll_allT l okT_nil
theorem sort_ext : ∀ {T U : List Att}, SortA T → SortA U → (∀ x, x ∈ T ↔ x ∈ U) → T = U := by
  have key : ∀ {T U : List Att}, T.Pairwise (fun x y => lessB x y = true) → U.Pairwise (fun x y => lessB x y = true) → (∀ x, x ∈ T ↔ x ∈ U) → T = U := by
    intro T
    induction T with
    | nil =>
      intro U _ _ h
      cases U with
      | nil => rfl
      | cons y U => exact absurd ((h y).2 (List.mem_cons_self ..)) (by simp)
    | cons x T ih =>
      intro U hT hU h
      cases U with
      | nil => exact absurd ((h x).1 (List.mem_cons_self ..)) (by simp)
      | cons y U =>
        rw [List.pairwise_cons] at hT hU
        have e : x = y := by
          rcases List.mem_cons.1 ((h x).1 (List.mem_cons_self ..)) with e | hx
          · exact e
          · rcases List.mem_cons.1 ((h y).2 (List.mem_cons_self ..)) with e | hy
            · exact e.symm
            · have h1 := hU.1 x hx
              have h2 := hT.1 y hy
              rw [lessB_asym _ _ h1] at h2; cases h2
        subst e
        congr 1
        refine ih hT.2 hU.2 fun z => ?_
        constructor
        · intro hz
          rcases List.mem_cons.1 ((h z).1 (List.mem_cons_of_mem _ hz)) with rfl | hz2
          · have := hT.1 z hz; rw [lessB_self] at this; cases this
          · exact hz2
        · intro hz
          rcases List.mem_cons.1 ((h z).2 (List.mem_cons_of_mem _ hz)) with rfl | hz2
          · have := hU.1 z hz; rw [lessB_self] at this; cases this
          · exact hz2
  intro T U hT hU h
  exact key ((sortA_iff _).1 hT) ((sortA_iff _).1 hU) h
theorem addAll_order {l m : List Att} (h : ∀ x, x ∈ l ↔ x ∈ m) : addAll [] l = addAll [] m := by
  rw [addAll_nil, addAll_nil]
  congr 1
  refine sort_ext (allT_ok l okT_nil).sort (allT_ok m okT_nil).sort fun x => ?_
  rw [mem_allT, mem_allT, h]
/-- Who was added and is not there stands behind the last one. -/
theorem addAll_most {l : List Att} {x : Att} (hx : x ∈ l) (hm : mayB x.n = true) (hn : x ∉ addAll [] l) : (addAll [] l).length = 200 ∧ ∀ z, (addAll [] l)[199]? = some z → lessB x z = false := by
  rw [addAll_nil] at hn ⊢
  have ok := allT_ok l okT_nil
  have hT : x ∈ allT [] l := (mem_allT l).2 (.inr ⟨hx, hm⟩)
  obtain ⟨j, hj, e⟩ := List.getElem_of_mem hT
  have hxj : (allT [] l)[j]? = some x := by rw [List.getElem?_eq_getElem hj, e]
  have hj2 : 200 ≤ j := Nat.le_of_not_lt fun hlt => hn (List.mem_of_getElem? (by rw [List.getElem?_take_of_lt hlt]; exact hxj))
  refine ⟨by rw [List.length_take]; omega, fun z hz => ?_⟩
  rw [List.getElem?_take_of_lt (by decide)] at hz
  exact lessB_asym _ _ (ok.sort 199 j z x (by omega) hz hxj)

/-- Is the result below the prefix? -/
def inP (p : List UInt8) (x : Att) : Bool := (List.range p.length).all fun i => halfN x.k.1 i == (p.getD i 0).toNat
def belowA (L : List Att) (p : List UInt8) : List Att := if prefB p then L.filter (inP p) else []
theorem inP_nil (x : Att) : inP [] x = true := rfl
theorem belowA_nil (L : List Att) : belowA L [] = L := by
  unfold belowA
  rw [if_pos (by decide)]
  exact List.filter_eq_self.2 fun x _ => rfl
theorem inP_iff (p : List UInt8) (x : Att) : inP p x = true ↔ ∀ i, i < p.length → halfN x.k.1 i = (p.getD i 0).toNat := by
  unfold inP
  rw [List.all_eq_true]
  exact ⟨fun h i hi => by simpa using h i (List.mem_range.2 hi), fun h i hi => by simpa using h i (List.mem_range.1 hi)⟩
theorem inP_snoc (p : List UInt8) (n : UInt8) (x : Att) : inP (p ++ [n]) x = true ↔ inP p x = true ∧ halfN x.k.1 p.length = n.toNat := by
  rw [inP_iff, inP_iff]
  constructor
  · intro h
    refine ⟨fun i hi => ?_, ?_⟩
    · have := h i (by rw [List.length_append]; omega)
      rwa [List.getD_eq_getElem?_getD, List.getElem?_append_left hi, ← List.getD_eq_getElem?_getD] at this
    · have := h p.length (by simp)
      rwa [List.getD_eq_getElem?_getD, List.getElem?_append_right (Nat.le_refl _), Nat.sub_self] at this
  · rintro ⟨h1, h2⟩ i hi
    rw [List.length_append, List.length_singleton] at hi
    rcases Nat.lt_or_ge i p.length with hlt | hge
    · rw [List.getD_eq_getElem?_getD, List.getElem?_append_left hlt, ← List.getD_eq_getElem?_getD]; exact h1 i hlt
    · obtain rfl : i = p.length := by omega
      rw [List.getD_eq_getElem?_getD, List.getElem?_append_right (Nat.le_refl _), Nat.sub_self]; exact h2
theorem halfN_lt (d : List UInt8) (i : Nat) : halfN d i < 16 := by
  unfold halfN
  have := UInt8.toNat_lt (d.getD (i / 2) 0)
  split <;> omega
theorem cmp_at : ∀ (m : Nat) (x y : List UInt8) (u v : UInt8), (∀ i, i < m → x[i]? = y[i]?) → x[m]? = some u → y[m]? = some v → u < v → cmpB x y < 0
  | 0, a :: x, b :: y, u, v, _, h1, h2, h => by
    simp at h1 h2
    subst h1; subst h2
    rw [cmp_cons, if_pos h]; decide
  | 0, [], _, u, v, _, h1, _, _ => by simp at h1
  | 0, _ :: _, [], u, v, _, _, h2, _ => by simp at h2
  | m + 1, [], _, u, v, _, h1, _, _ => by simp at h1
  | m + 1, _ :: _, [], u, v, _, _, h2, _ => by simp at h2
  | m + 1, a :: x, b :: y, u, v, he, h1, h2, h => by
    have e0 := he 0 (Nat.zero_lt_succ _)
    simp at e0
    subst e0
    rw [cmp_cons, if_neg (UInt8.lt_irrefl a), if_neg (UInt8.lt_irrefl a)]
    exact cmp_at m x y u v (fun i hi => by simpa using he (i + 1) (by omega)) (by simpa using h1) (by simpa using h2) h
theorem half_less {p : List UInt8} {x y : Att} (hp : p.length < 64) (hx : inP p x = true) (hy : inP p y = true) (h : halfN x.k.1 p.length < halfN y.k.1 p.length) : lessB x y = true := by
  rw [inP_iff] at hx hy
  have hs : ∀ i, i < p.length → halfN x.k.1 i = halfN y.k.1 i := fun i hi => (hx i hi).trans (hy i hi).symm
  generalize p.length = d at *
  have hby : ∀ i, 2 * i + 1 < d → x.k.1.getD i 0 = y.k.1.getD i 0 := fun i hi => by
    have h0 := hs (2 * i) (by omega)
    have h1 := hs (2 * i + 1) hi
    unfold halfN at h0 h1
    rw [if_pos (by omega), if_pos (by omega), show 2 * i / 2 = i by omega] at h0
    rw [if_neg (by omega), if_neg (by omega), show (2 * i + 1) / 2 = i by omega] at h1
    exact UInt8.toNat_inj.1 (by omega)
  have hlt : x.k.1.getD (d / 2) 0 < y.k.1.getD (d / 2) 0 := by
    rw [UInt8.lt_iff_toNat_lt]
    rcases Nat.mod_two_eq_zero_or_one d with he | he
    · unfold halfN at h
      rw [if_pos he, if_pos he] at h
      omega
    · have h0 := hs (d - 1) (by omega)
      unfold halfN at h h0
      rw [if_neg (by omega), if_neg (by omega)] at h
      rw [if_pos (by omega), if_pos (by omega), show (d - 1) / 2 = d / 2 by omega] at h0
      omega
  have lx := x.k.2
  have ly := y.k.2
  unfold lessB attBytes
  refine decide_eq_true (cmp_at (d / 2) _ _ _ _ (fun i hi => ?_) ?_ ?_ hlt)
  · rw [List.getElem?_append_left (by omega), List.getElem?_append_left (by omega)]
    have := hby i (by omega)
    rw [List.getD_eq_getElem?_getD, List.getD_eq_getElem?_getD, List.getElem?_eq_getElem (by omega), List.getElem?_eq_getElem (by omega)] at this
    rw [List.getElem?_eq_getElem (by omega), List.getElem?_eq_getElem (by omega)]
    simpa using this
  · rw [List.getElem?_append_left (by omega), List.getD_eq_getElem?_getD, List.getElem?_eq_getElem (by omega)]; rfl
  · rw [List.getElem?_append_left (by omega), List.getD_eq_getElem?_getD, List.getElem?_eq_getElem (by omega)]; rfl
theorem pref_snoc {p : List UInt8} {n : UInt8} (h : prefB p = true) (hl : p.length < 8) (hn : n.toNat < 16) : prefB (p ++ [n]) = true := by
  unfold prefB at h ⊢
  rw [Bool.and_eq_true] at h ⊢
  refine ⟨decide_eq_true (by rw [List.length_append, List.length_singleton]; omega), ?_⟩
  have h2 : p.any overB = false := by simpa using h.2
  have h3 : overB n = false := decide_eq_false (by omega)
  rw [List.any_append, h2]; simp [h3]
theorem belowA_parts {L : List Att} {p : List UInt8} (hs : SortA L) (hp : prefB p = true) (hl : p.length < 8) : ((List.range 16).flatMap fun n => belowA L (p ++ [UInt8.ofNat n])) = belowA L p := by
  have e16 : ∀ n, n < 16 → (UInt8.ofNat n).toNat = n := fun n hn => by rw [UInt8.toNat_ofNat']; omega
  have hmem : ∀ n, n < 16 → ∀ x, x ∈ belowA L (p ++ [UInt8.ofNat n]) ↔ x ∈ L ∧ inP p x = true ∧ halfN x.k.1 p.length = n := fun n hn x => by
    unfold belowA
    rw [if_pos (pref_snoc hp hl (by rw [e16 n hn]; exact hn)), List.mem_filter, inP_snoc, e16 n hn]
  refine sort_ext ?_ ?_ fun x => ?_
  · rw [sortA_iff] at hs ⊢
    rw [List.pairwise_flatMap]
    refine ⟨fun n hn => ?_, List.Pairwise.imp_of_mem ?_ List.pairwise_lt_range⟩
    · unfold belowA
      split
      · exact hs.sublist List.filter_sublist
      · exact List.Pairwise.nil
    · intro a b ha hb hab x hx y hy
      rw [hmem a (List.mem_range.1 ha)] at hx
      rw [hmem b (List.mem_range.1 hb)] at hy
      exact half_less (by omega) hx.2.1 hy.2.1 (by omega)
  · rw [sortA_iff] at hs ⊢
    unfold belowA
    rw [if_pos hp]
    exact hs.sublist List.filter_sublist
  · rw [List.mem_flatMap]
    constructor
    · rintro ⟨n, hn, h⟩
      rw [hmem n (List.mem_range.1 hn)] at h
      unfold belowA
      rw [if_pos hp, List.mem_filter]
      exact ⟨h.1, h.2.1⟩
    · intro h
      unfold belowA at h
      rw [if_pos hp, List.mem_filter] at h
      have hh := halfN_lt x.k.1 p.length
      exact ⟨_, List.mem_range.2 hh, (hmem _ hh x).2 ⟨h.1, h.2, rfl⟩⟩
theorem belowA_may {L : List Att} (h : ∀ x ∈ L, mayB x.n = true) (p : List UInt8) : ∀ x ∈ belowA L p, mayB x.n = true := fun x hx => by
  unfold belowA at hx
  split at hx
  · exact h x (List.mem_filter.1 hx).1
  · cases hx
theorem belowA_len (L : List Att) (p : List UInt8) : (belowA L p).length ≤ L.length := by
  unfold belowA
  split
  · exact List.length_filter_le _ _
  · exact Nat.zero_le _
theorem attBytes_inj {a b : Att} (ha : Big a.n) (hb : Big b.n) (h : attBytes a (u64n a.n) = attBytes b (u64n b.n)) : a = b := by
  refine lessB_none a b ha hb ?_ ?_
  · unfold lessB; rw [h, cmp_self]; rfl
  · unfold lessB; rw [h, cmp_self]; rfl
theorem rowB_inj {L M : List Att} (hL : ∀ x ∈ L, mayB x.n = true) (hM : ∀ x ∈ M, mayB x.n = true) (h : rowB L = rowB M) : L = M := by
  unfold rowB at h
  rw [List.cons.injEq] at h
  replace h := h.2
  induction L generalizing M with
  | nil =>
    cases M with
    | nil => rfl
    | cons y M => 
      have := congrArg List.length h
      rw [List.flatMap_cons, List.length_append, attBytes_len] at this
      simp at this
      omega
  | cons x L ih =>
    cases M with
    | nil =>
      have := congrArg List.length h
      rw [List.flatMap_cons, List.length_append, attBytes_len] at this
      simp at this
    | cons y M =>
      rw [List.flatMap_cons, List.flatMap_cons] at h
      obtain ⟨e1, e2⟩ := List.append_inj h (by rw [attBytes_len, attBytes_len])
      rw [attBytes_inj (may_big (hL x (List.mem_cons_self ..))) (may_big (hM y (List.mem_cons_self ..))) e1, ih (fun z hz => hL z (List.mem_cons_of_mem _ hz)) (fun z hz => hM z (List.mem_cons_of_mem _ hz)) e2]

end Go.Proofs.YtkcammaccgkflaaDoor
