/-
  One chunk, asked of peer after peer in vain: plain facts on plans.
-/
import Derived.Test.YtippkdjggipnmaaQ2
namespace Go.Proofs.Ytippkdjggipnmaa
open Go.RowKit Go.Maps

/-- How many of the first r rounds were the peer k's. -/
def dem (np : Nat) : Nat → Nat → Nat
  | 0, _ => 0
  | r + 1, k => dem np r k + if r % np = k then 1 else 0

theorem div_step (np r : Nat) (h : 0 < np) : ((r + 1) % np = r % np + 1 ∧ r % np + 1 < np ∧ (r + 1) / np = r / np) ∨ (r % np + 1 = np ∧ (r + 1) % np = 0 ∧ (r + 1) / np = r / np + 1) := by
  have hm := Nat.mod_lt r h
  have hd := Nat.div_add_mod r np
  by_cases e : r % np + 1 = np
  · right
    have h1 : r + 1 = np * (r / np + 1) := by rw [Nat.mul_add]; omega
    refine ⟨e, ?_, ?_⟩
    · rw [h1]; exact Nat.mul_mod_right _ _
    · rw [h1]; exact Nat.mul_div_cancel_left _ h
  · left
    have h1 : r + 1 = (r % np + 1) + np * (r / np) := by omega
    have h2 : r % np + 1 < np := by omega
    refine ⟨?_, h2, ?_⟩
    · conv => lhs; rw [h1]
      rw [Nat.add_mul_mod_self_left, Nat.mod_eq_of_lt h2]
    · conv => lhs; rw [h1]
      rw [Nat.add_mul_div_left _ _ h, Nat.div_eq_of_lt h2]; omega

theorem dem_eq (np : Nat) (h : 0 < np) : ∀ (r k : Nat), k < np → dem np r k = r / np + if k < r % np then 1 else 0
  | 0, k, _ => by simp [dem]
  | r + 1, k, hk => by
    rw [dem, dem_eq np h r k hk]
    have hm := Nat.mod_lt r h
    rcases div_step np r h with ⟨a, b, c⟩ | ⟨a, b, c⟩
    · rw [a, c]
      by_cases e : r % np = k
      · rw [if_pos e, if_neg (by omega), if_pos (by omega)] <;> omega
      · rw [if_neg e]
        by_cases e2 : k < r % np
        · rw [if_pos e2, if_pos (by omega)] <;> omega
        · rw [if_neg e2, if_neg (by omega)] <;> omega
    · rw [b, c, if_neg (by omega : ¬ k < 0)]
      by_cases e : r % np = k
      · rw [if_pos e, if_neg (by omega)] <;> omega
      · rw [if_neg e, if_pos (by omega)] <;> omega

def tsR (np r : Nat) : Int → Int → Int := fun c k => if c = 0 ∧ 0 ≤ k then (dem np r k.toNat : Nat) else 0
def peR (np r : Nat) : List Pr := (List.range np).map (fun k => ⟨0, (dem np r k : Nat)⟩)
theorem peR_len (np r : Nat) : (peR np r).length = np := by unfold peR; rw [List.length_map, List.length_range]
theorem peR_get (np r k : Nat) (h : k < np) : (peR np r)[k]? = some ⟨0, (dem np r k : Nat)⟩ := by unfold peR; rw [List.getElem?_map, List.getElem?_range h]; rfl

/-- Behind the sweep of the round r. -/
def swR (np : Nat) (tim : Int) (r : Nat) : Pl := ⟨1, tim, [⟨0, 0, 0⟩], peR np r, tsR np r⟩
def akR (np : Nat) (tim a : Int) (r : Nat) : Pl := askAt (swR np tim r) 0 (r % np) (a + r * tim)

theorem peR_next (np r : Nat) (h : 0 < np) : (peR np r).set (r % np) ⟨0, (dem np r (r % np) : Nat) + 1⟩ = peR np (r + 1) := by
  have hm := Nat.mod_lt r h
  apply List.ext_getElem?
  intro j
  by_cases hj : j < np
  · rw [peR_get _ _ _ hj]
    by_cases e : r % np = j
    · subst e
      rw [List.getElem?_set_self (by rw [peR_len]; exact hj), dem, if_pos rfl]; rfl
    · rw [List.getElem?_set_ne e, peR_get _ _ _ hj, dem, if_neg e]; rfl
  · rw [List.getElem?_eq_none (by rw [List.length_set, peR_len]; omega), List.getElem?_eq_none (by rw [peR_len]; omega)]

theorem tsR_next (np r : Nat) : upd (tsR np r) (0 : Nat) (r % np : Nat) (tsR np r (0 : Nat) (r % np : Nat) + 1) = tsR np (r + 1) := by
  funext c k
  unfold upd tsR
  by_cases hc : c = 0
  · subst hc
    by_cases hk : 0 ≤ k
    · obtain ⟨j, rfl⟩ := Int.eq_ofNat_of_zero_le hk
      simp only [Int.toNat_natCast, dem]
      by_cases e : r % np = j
      · subst e
        rw [if_pos ⟨rfl, rfl⟩, if_pos ⟨rfl, by omega⟩, if_pos ⟨trivial, by omega⟩, if_pos rfl]
        rfl
      · have : ¬ ((j : Int) = (r % np : Nat)) := by omega
        simp only [this, and_false, if_false, e]
        simp
    · have : ¬ (k = (r % np : Nat)) := by omega
      simp only [this, and_false, if_false, hk]
  · have : ¬ (c = ((0 : Nat) : Int)) := hc
    simp only [this, hc, false_and, if_false]

theorem getD_pe {np r : Nat} (h : 0 < np) : (peR np r).getD (r % np) default = ⟨0, (dem np r (r % np) : Nat)⟩ := getD_of (peR_get _ _ _ (Nat.mod_lt r h))

theorem akR_eq (np : Nat) (tim a : Int) (r : Nat) (h : 0 < np) : akR np tim a r = ⟨1, tim, [⟨1, (r % np : Nat), a + r * tim⟩], (peR np r).set (r % np) ⟨1, (dem np r (r % np) : Nat)⟩, tsR np (r + 1)⟩ := by
  unfold akR askAt
  rw [show (swR np tim r).pe = peR np r from rfl, getD_pe h, show (swR np tim r).ts = tsR np r from rfl, tsR_next]
  rfl

theorem sweep_one (p : Pl) (x : Ck) (now : Int) (h : p.ch = [x]) : sweepM p now = if lateB p x now then reopenM p 0 else p := by
  unfold sweepM
  rw [h]
  show sweepK p now 1 = _
  unfold sweepK
  rw [show sweepK p now 0 = p from rfl, h]
  rfl

theorem sweep_ak (np : Nat) (tim a : Int) (r : Nat) (h : 0 < np) (ht : 1 ≤ tim) : sweepM (akR np tim a r) (a + ((r + 1 : Nat) : Int) * tim) = swR np tim (r + 1) := by
  have hm := Nat.mod_lt r h
  rw [sweep_one _ _ _ (by rw [akR_eq np tim a r h])]
  have hl : lateB (akR np tim a r) ⟨1, (r % np : Nat), a + r * tim⟩ (a + ((r + 1 : Nat) : Int) * tim) = true := by
    unfold lateB pastB
    rw [akR_eq np tim a r h]
    have : ((r + 1 : Nat) : Int) * tim = r * tim + tim := by rw [Int.natCast_add, Int.add_mul]; simp
    rw [this]
    simp only [Bool.and_eq_true, beq_iff_eq, decide_eq_true_eq, true_and]
    generalize (r : Int) * tim = z
    omega
  rw [hl, if_pos rfl, akR_eq np tim a r h]
  unfold reopenM reopenAt swR
  simp only [List.getD_cons_zero, Int.toNat_natCast]
  rw [getD_of (List.getElem?_set_self (by rw [peR_len]; exact hm)), List.set_set]
  have := peR_next np r h
  rw [show ((1 : Int) - 1) = 0 from rfl, this]
  rfl

theorem next_ak (np : Nat) (tim a : Int) (r : Nat) (h : 0 < np) (ht : 1 ≤ tim) : nextM (akR np tim a r) (a + r * tim + tim - 1) = (akR np tim a r, none) := by
  have hs : sweepM (akR np tim a r) (a + r * tim + tim - 1) = akR np tim a r := by
    rw [sweep_one _ _ _ (by rw [akR_eq np tim a r h])]
    have hl : lateB (akR np tim a r) ⟨1, (r % np : Nat), a + r * tim⟩ (a + r * tim + tim - 1) = false := by
      unfold lateB pastB
      rw [akR_eq np tim a r h]
      simp only [Bool.and_eq_false_iff, decide_eq_false_iff_not]
      right
      generalize (r : Int) * tim = z
      omega
    rw [hl]; rfl
  have hn : leastM (sweepM (akR np tim a r) (a + r * tim + tim - 1)) = none := by
    rw [hs, akR_eq np tim a r h]; rfl
  rw [next_none1 hn, hs]

theorem rank_sw (np : Nat) (tim : Int) (r k : Nat) (hk : k < np) : rankM (swR np tim r) 0 k = [((dem np r k : Nat) : Int), 0, ((dem np r k : Nat) : Int), (k : Int)] := by
  unfold rankM
  rw [show (swR np tim r).pe = peR np r from rfl, getD_of (peR_get _ _ _ hk)]
  unfold swR tsR
  simp
theorem fits_sw (np : Nat) (tim : Int) (r k : Nat) (hk : k < np) : fitsB (swR np tim r) k = decide (dem np r k < 3) := by
  unfold fitsB banB
  rw [show (swR np tim r).pe = peR np r from rfl, getD_of (peR_get _ _ _ hk)]
  show (!(decide ((3 : Int) ≤ (dem np r k : Nat))) && !(decide ((1 : Int) ≤ 0))) = _
  by_cases h : dem np r k < 3
  · rw [decide_eq_true h, decide_eq_false (by omega : ¬ (3 : Int) ≤ (dem np r k : Nat))]; rfl
  · rw [decide_eq_false h, decide_eq_true (by omega : (3 : Int) ≤ (dem np r k : Nat))]; rfl

theorem cmpI_lt {a b : Int} (h : a < b) : cmpI a b = -1 := by unfold cmpI; rw [if_pos h]
theorem cmpI_gt {a b : Int} (h : b < a) : cmpI a b = 1 := by unfold cmpI; rw [if_neg (by omega : ¬ a < b), if_pos h]
theorem cmpI_eq (a : Int) : cmpI a a = 0 := by unfold cmpI; rw [if_neg (by omega : ¬ a < a), if_neg (by omega : ¬ a < a)]
theorem cmpL_less {a b x y : Int} (h : a < b ∨ (a = b ∧ x < y)) : ¬ (0 ≤ cmpL [a, 0, a, x] [b, 0, b, y]) := by
  rcases h with h | ⟨rfl, h⟩
  · unfold cmpL; rw [cmpI_lt h, if_pos (by decide)]; decide
  · simp only [cmpL, cmpI_eq, cmpI_lt h]; decide
theorem cmpL_more {a b x y : Int} (h : b < a ∨ (a = b ∧ y < x)) : 0 ≤ cmpL [a, 0, a, x] [b, 0, b, y] := by
  rcases h with h | ⟨rfl, h⟩
  · unfold cmpL; rw [cmpI_gt h, if_pos (by decide)]; decide
  · simp only [cmpL, cmpI_eq, cmpI_gt h]; decide

theorem fit_sw (np : Nat) (tim : Int) (r : Nat) (h : 0 < np) (hr : r < 3 * np) : ∀ k, k ≤ np →
    fitK (swR np tim r) 0 k = if k ≤ r % np then (if k = 0 ∨ 2 ≤ r / np then none else some 0) else some (r % np)
  | 0, _ => by simp [fitK]
  | k + 1, hk => by
    have hm := Nat.mod_lt r h
    have hq : r / np < 3 := Nat.div_lt_of_lt_mul (by omega)
    have hd : ∀ j, j < np → dem np r j = r / np + if j < r % np then 1 else 0 := dem_eq np h r
    have ih := fit_sw np tim r h hr k (by omega)
    unfold fitK
    rw [fits_sw _ _ _ _ (by omega : k < np), ih, hd k (by omega)]
    by_cases h1 : k < r % np
    · rw [if_pos h1, if_pos (by omega : k ≤ r % np), if_pos (by omega : k + 1 ≤ r % np)]
      by_cases h2 : 2 ≤ r / np
      · rw [decide_eq_false (by omega), if_pos (Or.inr h2), if_pos (Or.inr h2)]; rfl
      · rw [decide_eq_true (by omega), if_pos rfl, if_neg (by omega : ¬ (k + 1 = 0 ∨ 2 ≤ r / np))]
        by_cases h3 : k = 0
        · subst h3; rw [if_pos (Or.inl rfl)]; rfl
        · rw [if_neg (by omega : ¬ (k = 0 ∨ 2 ≤ r / np))]
          unfold fitNext
          simp only
          rw [rank_sw _ _ _ _ (by omega : k < np), rank_sw _ _ _ _ h, hd k (by omega), hd 0 h, if_pos h1, if_pos (by omega : 0 < r % np), if_pos (cmpL_more (.inr ⟨rfl, by omega⟩))]
    · by_cases h2 : k = r % np
      · subst h2
        rw [if_neg (by omega : ¬ r % np < r % np), decide_eq_true (by omega), if_pos rfl, if_pos (Nat.le_refl _), if_neg (by omega : ¬ r % np + 1 ≤ r % np)]
        by_cases h3 : r % np = 0 ∨ 2 ≤ r / np
        · rw [if_pos h3]; rfl
        · rw [if_neg h3]
          unfold fitNext
          simp only
          rw [rank_sw _ _ _ _ (by omega : r % np < np), rank_sw _ _ _ _ h, hd (r % np) (by omega), hd 0 h, if_neg (by omega : ¬ r % np < r % np), if_pos (by omega : 0 < r % np), if_neg (cmpL_less (.inl (by omega)))]
      · rw [if_neg h1, if_neg (by omega : ¬ k ≤ r % np), if_neg (by omega : ¬ k + 1 ≤ r % np), decide_eq_true (by omega), if_pos rfl]
        unfold fitNext
        simp only
        rw [rank_sw _ _ _ _ (by omega : k < np), rank_sw _ _ _ _ hm, hd k (by omega), hd (r % np) hm, if_neg h1, if_neg (by omega : ¬ r % np < r % np), if_pos (cmpL_more (.inr ⟨rfl, by omega⟩))]

theorem next_sw (np : Nat) (tim a : Int) (r : Nat) (h : 0 < np) (hr : r < 3 * np) {p : Pl} (hp : sweepM p (a + r * tim) = swR np tim r) :
    nextM p (a + r * tim) = (akR np tim a r, some (0, r % np)) := by
  have hm := Nat.mod_lt r h
  have h1 : leastM (sweepM p (a + r * tim)) = some 0 := by rw [hp]; rfl
  have h2 : fitM (sweepM p (a + r * tim)) 0 = some (r % np) := by
    rw [hp]
    unfold fitM
    rw [show (swR np tim r).pe.length = np from peR_len np r, fit_sw np tim r h hr np (Nat.le_refl _), if_neg (by omega)]
  rw [next_some h1 h2, hp]
  rfl

theorem sweep_new (np : Nat) (tim a : Int) : sweepM (newP 1 np 1 tim) (a + (0 : Nat) * tim) = swR np tim 0 := by
  rw [sweep_one _ ⟨0, 0, 0⟩ _ rfl]
  have hl : lateB (newP 1 np 1 tim) ⟨0, 0, 0⟩ (a + (0 : Nat) * tim) = false := rfl
  rw [hl]
  unfold newP swR
  have e1 : List.replicate np (⟨0, 0⟩ : Pr) = peR np 0 := by
    apply List.ext_getElem?
    intro j
    by_cases hj : j < np
    · rw [peR_get _ _ _ hj, List.getElem?_replicate, if_pos hj]; rfl
    · rw [List.getElem?_eq_none (by rw [List.length_replicate]; omega), List.getElem?_eq_none (by rw [peR_len]; omega)]
  have e2 : (fun _ _ => 0 : Int → Int → Int) = tsR np 0 := by
    funext c k; unfold tsR dem; simp
  rw [e1, e2]; rfl

theorem dem_ak (np : Nat) (tim a : Int) (r : Nat) (h : 0 < np) : demM (akR np tim a r) (r % np : Nat) = (r / np : Nat) := by
  have hm := Nat.mod_lt r h
  rw [akR_eq np tim a r h]
  unfold demM
  rw [if_pos ⟨by omega, by show ((r % np : Nat) : Int) < ((List.set _ _ _).length : Nat); rw [List.length_set, peR_len]; omega⟩, Int.toNat_natCast]
  show Pr.de ((List.set _ _ _).getD _ default) = _
  rw [getD_of (List.getElem?_set_self (by rw [peR_len]; exact hm))]
  show ((dem np r (r % np) : Nat) : Int) = _
  rw [dem_eq np h r _ hm, if_neg (by omega)]; rfl

theorem next_end (np : Nat) (tim a : Int) (h : 0 < np) {p : Pl} (hp : sweepM p (a + (3 * np : Nat) * tim) = swR np tim (3 * np)) : nextM p (a + (3 * np : Nat) * tim) = (swR np tim (3 * np), none) ∧ leftM (swR np tim (3 * np)) = 1 ∧ stuckM (swR np tim (3 * np)) = true := by
  have hd : ∀ j, j < np → dem np (3 * np) j = 3 := fun j hj => by
    rw [dem_eq np h _ j hj, Nat.mul_mod_left, Nat.mul_div_cancel _ h]; simp
  have h1 : leastM (sweepM p (a + (3 * np : Nat) * tim)) = some 0 := by rw [hp]; rfl
  have h3 : ∀ k, k ≤ np → fitK (swR np tim (3 * np)) 0 k = none := by
    intro k
    induction k with
    | zero => intro _; rfl
    | succ k ih =>
      intro hk
      unfold fitK
      rw [fits_sw _ _ _ _ (by omega : k < np), hd k (by omega), ih (by omega)]; rfl
  have h2 : fitM (sweepM p (a + (3 * np : Nat) * tim)) 0 = none := by
    rw [hp]
    unfold fitM
    rw [show (swR np tim (3 * np)).pe.length = np from peR_len np _]
    exact h3 np (Nat.le_refl _)
  refine ⟨by rw [next_none2 h1 h2, hp], rfl, ?_⟩
  unfold stuckM
  rw [show leftM (swR np tim (3 * np)) = 1 from rfl]
  have : ((swR np tim (3 * np)).pe.any fun x => !banB x) = false := by
    rw [List.any_eq_false]
    intro x hx
    obtain ⟨j, hj⟩ := List.mem_iff_getElem?.1 hx
    have hjl : j < np := by
      have := (List.getElem?_eq_some_iff.1 hj).1
      rw [show (swR np tim (3 * np)).pe = peR np (3 * np) from rfl, peR_len] at this
      exact this
    rw [show (swR np tim (3 * np)).pe = peR np (3 * np) from rfl, peR_get _ _ _ hjl, hd j hjl] at hj
    rw [← Option.some.inj hj]
    decide
  rw [this]; rfl

end Go.Proofs.Ytippkdjggipnmaa
