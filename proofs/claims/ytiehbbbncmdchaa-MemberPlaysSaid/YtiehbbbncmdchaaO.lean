/-
  What stands behind updates hangs on which were heard, not on their order: plain facts.
-/
import Derived.Test.YtiehbbbncmdchaaE
namespace Go.Proofs.Ytiehbbbncmdchaa

theorem M.ext_ {m m' : M} (h1 : m.self = m'.self) (h2 : m.count = m'.count) (h3 : ∀ i : Nat, m.stand[i]? = m'.stand[i]?) : m = m' := by
  obtain ⟨s, c, l⟩ := m
  obtain ⟨s', c', l'⟩ := m'
  dsimp only at *
  subst h1 h2
  rw [List.ext_getElem? h3]

def heard (m : M) (u : U) : M := (hear m u).1

theorem heard_self (m : M) (u : U) : (heard m u).self = m.self := by unfold heard hear; split <;> rfl
theorem heard_count (m : M) (u : U) : (heard m u).count = m.count := by unfold heard hear; split <;> rfl

/-- What an update does to the member i. -/
def at_ (s c i : Nat) (u x : U) : U :=
  if (0 ≤ u.node ∧ u.node < c) ∧ (1 ≤ u.st ∧ u.st ≤ 3) ∧ u.inc ≤ 1099511627776 ∧ u.node = i then (if u.node = s then { x with inc := answered x.inc u } else if greater u x then u else x) else x

theorem heard_get (m : M) (u : U) (i : Nat) : (heard m u).stand[i]? = (m.stand[i]?).map (at_ m.self m.count i u) := by
  unfold heard hear
  split
  · rename_i hf
    obtain ⟨n, hn⟩ := Int.eq_ofNat_of_zero_le hf.1.1
    dsimp only [M.put]
    rw [hn, Int.toNat_natCast]
    by_cases h : n = i
    · subst h
      cases hl : m.stand[n]? with
      | none =>
        rw [List.getElem?_eq_none_iff] at hl
        simp [hl]
      | some v =>
        have hlt := (List.getElem?_eq_some_iff.1 hl).1
        rw [List.getElem?_set_self hlt, List.getD_eq_getElem?_getD, hl]
        simp only [Option.getD_some, Option.map_some, Option.some.injEq]
        unfold at_ hearU
        have hc : (0 ≤ u.node ∧ u.node < (m.count : Int)) ∧ (1 ≤ u.st ∧ u.st ≤ 3) ∧ u.inc ≤ 1099511627776 ∧ u.node = (n : Int) := ⟨hf.1, hf.2.1, hf.2.2, hn⟩
        rw [if_pos hc]
    · rw [List.getElem?_set_ne h]
      cases hl : m.stand[i]? with
      | none => rfl
      | some v =>
        simp only [Option.map_some, Option.some.injEq]
        unfold at_
        rw [if_neg (by omega)]
  · rename_i hf
    cases hl : m.stand[i]? with
    | none => rfl
    | some v =>
      simp only [Option.map_some, Option.some.injEq]
      unfold at_
      rw [if_neg (fun h => hf ⟨h.1, h.2.1, h.2.2.1⟩)]

theorem answered_eq (own : Int) (u : U) (h0 : own ≤ 1099511627776) : answered own u = max own (if u.st = 1 then u.inc else min (u.inc + 1) 1099511627776) := by
  unfold answered; repeat' split
  all_goals omega

theorem U.ext_ {u v : U} (h1 : u.node = v.node) (h2 : u.st = v.st) (h3 : u.inc = v.inc) : u = v := by
  obtain ⟨a, b, c⟩ := u
  obtain ⟨x, y, z⟩ := v
  simp at *
  exact ⟨h1, h2, h3⟩

theorem answered_le (own : Int) (u : U) (h0 : own ≤ 1099511627776) (h1 : u.inc ≤ 1099511627776) : answered own u ≤ 1099511627776 := by
  unfold answered; repeat' split
  all_goals omega

theorem at_comm (s c i : Nat) (u v x : U) (hx : i < c → x.node = (i : Int) ∧ x.inc ≤ 1099511627776) : at_ s c i v (at_ s c i u x) = at_ s c i u (at_ s c i v x) := by
  unfold at_
  by_cases hu : (0 ≤ u.node ∧ u.node < c) ∧ (1 ≤ u.st ∧ u.st ≤ 3) ∧ u.inc ≤ 1099511627776 ∧ u.node = i
  · by_cases hv : (0 ≤ v.node ∧ v.node < c) ∧ (1 ≤ v.st ∧ v.st ≤ 3) ∧ v.inc ≤ 1099511627776 ∧ v.node = i
    · obtain ⟨hx1, hx2⟩ := hx (by omega)
      simp only [if_pos hu, if_pos hv]
      by_cases hs : u.node = s
      · have hs' : v.node = s := by omega
        simp only [if_pos hs, if_pos hs']
        rw [answered_eq _ v (answered_le _ _ hx2 hu.2.2.1), answered_eq x.inc u hx2, answered_eq _ u (answered_le _ _ hx2 hv.2.2.1), answered_eq x.inc v hx2]
        refine U.ext_ rfl rfl ?_
        dsimp only
        omega
      · have hs' : v.node ≠ s := by omega
        simp only [if_neg hs, if_neg hs']
        have g1 : ∀ a b : U, (greater a b = true) = (b.inc < a.inc ∨ (a.inc = b.inc ∧ b.st < a.st)) := fun a b => by unfold greater; rw [decide_eq_true_eq]
        simp only [g1]
        repeat' split
        all_goals first | rfl | (exfalso; omega) | exact U.ext_ (by omega) (by omega) (by omega)
    · simp only [if_neg hv]
  · simp only [if_neg hu]

theorem at_idem (s c i : Nat) (u x : U) (hx : i < c → x.node = (i : Int) ∧ x.inc ≤ 1099511627776) : at_ s c i u (at_ s c i u x) = at_ s c i u x := by
  unfold at_
  by_cases hu : (0 ≤ u.node ∧ u.node < c) ∧ (1 ≤ u.st ∧ u.st ≤ 3) ∧ u.inc ≤ 1099511627776 ∧ u.node = i
  · obtain ⟨hx1, hx2⟩ := hx (by omega)
    simp only [if_pos hu]
    by_cases hs : u.node = s
    · simp only [if_pos hs]
      rw [answered_eq _ u (answered_le _ _ hx2 hu.2.2.1), answered_eq x.inc u hx2]
      refine U.ext_ rfl rfl ?_
      dsimp only
      omega
    · simp only [if_neg hs]
      cases h1 : greater u x <;> simp [h1]
  · simp only [if_neg hu]

theorem heard_comm (m : M) (u v : U) (ho : m.ok) : heard (heard m u) v = heard (heard m v) u := by
  refine M.ext_ (by simp only [heard_self]) (by simp only [heard_count]) fun i => ?_
  rw [heard_get, heard_get, heard_get, heard_get]
  simp only [heard_self, heard_count]
  cases hl : m.stand[i]? with
  | none => rfl
  | some x =>
    simp only [Option.map_some, Option.some.injEq]
    exact at_comm _ _ _ _ _ _ fun hi => ⟨(ho.node i x hl hi).1, (ho.node i x hl hi).2.2.2⟩

theorem heard_idem (m : M) (u : U) (ho : m.ok) : heard (heard m u) u = heard m u := by
  refine M.ext_ (by simp only [heard_self]) (by simp only [heard_count]) fun i => ?_
  rw [heard_get, heard_get]
  simp only [heard_self, heard_count]
  cases hl : m.stand[i]? with
  | none => rfl
  | some x =>
    simp only [Option.map_some, Option.some.injEq]
    exact at_idem _ _ _ _ _ fun hi => ⟨(ho.node i x hl hi).1, (ho.node i x hl hi).2.2.2⟩

def hearAll (m : M) (L : List U) : M := L.foldl heard m

theorem heard_ok (m : M) (u : U) (ho : m.ok) (hi : 0 ≤ u.inc) : (heard m u).ok := hear_ok m u ho hi

theorem hearAll_ok : ∀ (L : List U) (m : M), m.ok → (∀ u ∈ L, 0 ≤ u.inc) → (hearAll m L).ok
  | [], _, ho, _ => ho
  | u :: L, m, ho, h => hearAll_ok L (heard m u) (heard_ok m u ho (h u (by simp))) (fun v hv => h v (by simp [hv]))

theorem hearAll_push : ∀ (L : List U) (m : M) (u : U), m.ok → (∀ v ∈ L, 0 ≤ v.inc) → heard (hearAll m L) u = hearAll (heard m u) L
  | [], _, _, _, _ => rfl
  | a :: L, m, u, ho, h => by
    show heard (hearAll (heard m a) L) u = hearAll (heard (heard m u) a) L
    rw [hearAll_push L (heard m a) u (heard_ok m a ho (h a (by simp))) (fun v hv => h v (by simp [hv])), heard_comm m a u ho]

theorem hearAll_absorb : ∀ (L : List U) (m : M) (u : U), m.ok → (∀ v ∈ L, 0 ≤ v.inc) → u ∈ L → heard (hearAll m L) u = hearAll m L
  | [], _, _, _, _, h => by cases h
  | a :: L, m, u, ho, h, hu => by
    have ha := h a (by simp)
    have hL : ∀ v ∈ L, 0 ≤ v.inc := fun v hv => h v (by simp [hv])
    show heard (hearAll (heard m a) L) u = hearAll (heard m a) L
    rcases List.mem_cons.1 hu with rfl | hu
    · rw [hearAll_push L (heard m u) u (heard_ok m u ho ha) hL, heard_idem m u ho]
    · exact hearAll_absorb L (heard m a) u (heard_ok m a ho ha) hL hu

theorem hearAll_append (m : M) (L1 L2 : List U) : hearAll m (L1 ++ L2) = hearAll (hearAll m L1) L2 := by unfold hearAll; rw [List.foldl_append]

theorem hearAll_still : ∀ (L : List U) (m : M), (∀ u ∈ L, heard m u = m) → hearAll m L = m
  | [], _, _ => rfl
  | u :: L, m, h => by
    show hearAll (heard m u) L = m
    rw [h u (by simp)]
    exact hearAll_still L m fun v hv => h v (by simp [hv])

theorem hearAll_swap : ∀ (L1 L2 : List U) (m : M), m.ok → (∀ v ∈ L1, 0 ≤ v.inc) → (∀ v ∈ L2, 0 ≤ v.inc) → hearAll (hearAll m L1) L2 = hearAll (hearAll m L2) L1
  | [], _, _, _, _, _ => rfl
  | a :: L1, L2, m, ho, h1, h2 => by
    have ha := h1 a (by simp)
    show hearAll (hearAll (heard m a) L1) L2 = hearAll (heard (hearAll m L2) a) L1
    rw [hearAll_push L2 m a ho h2]
    exact hearAll_swap L1 L2 (heard m a) (heard_ok m a ho ha) (fun v hv => h1 v (by simp [hv])) h2

/-- Two rows with the same updates come to the same. -/
theorem hearAll_same (m : M) (L1 L2 : List U) (ho : m.ok) (h1 : ∀ v ∈ L1, 0 ≤ v.inc) (h2 : ∀ v ∈ L2, 0 ≤ v.inc) (h12 : ∀ u ∈ L1, u ∈ L2) (h21 : ∀ u ∈ L2, u ∈ L1) :
    hearAll m L1 = hearAll m L2 := by
  have e1 : hearAll (hearAll m L1) L2 = hearAll m L1 := hearAll_still _ _ fun u hu => hearAll_absorb L1 m u ho h1 (h21 u hu)
  have e2 : hearAll (hearAll m L2) L1 = hearAll m L2 := hearAll_still _ _ fun u hu => hearAll_absorb L2 m u ho h2 (h12 u hu)
  rw [← e1, ← e2]
  exact hearAll_swap L1 L2 m ho h1 h2

end Go.Proofs.Ytiehbbbncmdchaa
