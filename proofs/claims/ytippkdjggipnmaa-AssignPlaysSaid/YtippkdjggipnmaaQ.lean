/-
  What is had, what is asked: plain facts on plans.
-/
import Derived.Test.YtippkdjggipnmaaJ
namespace Go.Proofs.Ytippkdjggipnmaa
open Go.RowKit Go.Maps

theorem set_same {α : Type} : ∀ (l : List α) (j : Nat) (a : α), l[j]? = some a → l.set j a = l
  | [], _, _, h => by simp at h
  | b :: r, 0, a, h => by simp at h; subst h; rfl
  | b :: r, j + 1, a, h => by simp at h; simp [set_same r j a h]

def hadV (x : Ck) : Int := if x.st = 2 then 1 else 0
def hadL (p : Pl) : List Int := p.ch.map hadV
theorem hadL_len (p : Pl) : (hadL p).length = p.ch.length := List.length_map _

theorem had_keep {L : List Ck} {c : Nat} {x y : Ck} (hx : L[c]? = some x) (h1 : x.st ≠ 2) (h2 : y.st ≠ 2) : (L.set c y).map hadV = L.map hadV := by
  rw [List.map_set, set_same]
  rw [List.getElem?_map, hx]
  simp [hadV, h1, h2]

theorem hadL_reopen {p : Pl} {c : Nat} {x : Ck} (hx : p.ch[c]? = some x) (h1 : x.st = 1) : hadL (reopenM p c) = hadL p := had_keep hx (by omega) (by decide)

theorem hadL_sweepK (p : Pl) (now : Int) : ∀ k, k ≤ p.ch.length → hadL (sweepK p now k) = hadL p
  | 0, _ => rfl
  | k + 1, hk => by
    have ih := hadL_sweepK p now k (by omega)
    have hl := (sweepK_len p now k).1
    unfold sweepK
    split
    · rename_i hlate
      obtain ⟨x, hx⟩ : ∃ x, (sweepK p now k).ch[k]? = some x := ⟨_, List.getElem?_eq_getElem (by omega)⟩
      rw [getD_of hx] at hlate
      unfold lateB at hlate
      rw [hadL_reopen hx (by have := (Bool.and_eq_true _ _ ▸ hlate).1; simpa using this)]
      exact ih
    · exact ih

theorem hadL_next (p : Pl) (now : Int) : hadL (nextM p now).1 = hadL p := by
  have hs := hadL_sweepK p now p.ch.length (Nat.le_refl _)
  unfold nextM
  split
  · exact hs
  · rename_i c hc
    split
    · exact hs
    · obtain ⟨x, hx, h0⟩ := least_some hc
      exact (had_keep hx (by omega) (by show (1 : Int) ≠ 2; decide)).trans hs

theorem next_asked {p : Pl} {now : Int} {c k : Nat} (h : (nextM p now).2 = some (c, k)) :
    ∃ x, (sweepM p now).ch[c]? = some x ∧ x.st = 0 ∧ fitM (sweepM p now) c = some k ∧ (nextM p now).1 = askAt (sweepM p now) c k now ∧ leastM (sweepM p now) = some c := by
  cases hc : leastM (sweepM p now) with
  | none => rw [next_none1 hc] at h; cases h
  | some c' =>
    cases hk : fitM (sweepM p now) c' with
    | none => rw [next_none2 hc hk] at h; cases h
    | some k' =>
      rw [next_some hc hk] at h
      simp only [Option.some.injEq, Prod.mk.injEq] at h
      obtain ⟨rfl, rfl⟩ := h
      obtain ⟨x, hx, h0⟩ := least_some hc
      exact ⟨x, hx, h0, hk, by rw [next_some hc hk], rfl⟩

/-- What is asked is there, and not had. -/
theorem next_open {p : Pl} {now : Int} {c k : Nat} (h : (nextM p now).2 = some (c, k)) : c < p.ch.length ∧ (hadL p)[c]? = some 0 := by
  obtain ⟨x, hx, h0, _⟩ := next_asked h
  have hs := hadL_sweepK p now p.ch.length (Nat.le_refl _)
  have h1 : c < (sweepM p now).ch.length := (List.getElem?_eq_some_iff.1 hx).1
  have h2 := (sweepK_len p now p.ch.length).1
  refine ⟨by unfold sweepM at h1; omega, ?_⟩
  rw [← hs]
  show ((sweepM p now).ch.map hadV)[c]? = _
  rw [List.getElem?_map, hx]
  simp [hadV, h0]

theorem hadL_bad (p : Pl) (c k : Int) : hadL (badM p c k).1 = hadL p := by
  by_cases g : (0 ≤ c ∧ c < p.ch.length) ∧ (0 ≤ k ∧ k < p.pe.length)
  · obtain ⟨i, rfl⟩ := Int.eq_ofNat_of_zero_le g.1.1
    obtain ⟨x, hx⟩ : ∃ x, p.ch[i]? = some x := ⟨_, List.getElem?_eq_getElem (by omega)⟩
    rw [bad_in hx g.2]
    split
    · rename_i h1; exact hadL_reopen hx h1.1
    · rfl
  · rw [bad_out g]

/-- Had says OK just of what was not had; it is had then. -/
theorem hadL_had (p : Pl) (c : Int) : ((hadM p c).2 = 0 ∧ ∃ i : Nat, c = i ∧ (hadL p)[i]? = some 0 ∧ hadL (hadM p c).1 = (hadL p).set i 1) ∨ ((hadM p c).2 ≠ 0 ∧ (hadM p c).1 = p) := by
  by_cases g : 0 ≤ c ∧ c < p.ch.length
  · obtain ⟨i, rfl⟩ := Int.eq_ofNat_of_zero_le g.1
    obtain ⟨x, hx⟩ : ∃ x, p.ch[i]? = some x := ⟨_, List.getElem?_eq_getElem (by omega)⟩
    rw [had_in hx]
    by_cases h2 : x.st = 2
    · rw [if_pos h2]; exact .inr ⟨by show (7 : Int) ≠ 0; decide, rfl⟩
    · rw [if_neg h2]
      have h0 : (hadL p)[i]? = some 0 := by unfold hadL; rw [List.getElem?_map, hx]; simp [hadV, h2]
      have hs : (p.ch.set i ⟨2, 0, 0⟩).map hadV = (hadL p).set i 1 := by rw [List.map_set]; rfl
      split
      · exact .inl ⟨rfl, i, rfl, h0, hs⟩
      · exact .inl ⟨rfl, i, rfl, h0, hs⟩
  · rw [had_out g]; exact .inr ⟨by show (6 : Int) ≠ 0; decide, rfl⟩

theorem left_had (p : Pl) : ((leftM p : Nat) : Int) = p.ch.length - (hadL p).sum := by
  unfold leftM hadL
  induction p.ch with
  | nil => rfl
  | cons x L ih =>
    rw [List.countP_cons, List.map_cons, List.sum_cons, List.length_cons]
    unfold hadV at *
    by_cases h : x.st = 2
    · have e : (x.st != 2) = false := by simp [h]
      rw [e, if_pos h]
      simp only [Bool.false_eq_true, if_false, Nat.add_zero]
      omega
    · have e : (x.st != 2) = true := by simp [h]
      rw [e, if_neg h]
      simp only [if_true]
      omega

theorem sum_set (L : List Int) (i : Nat) (h : L[i]? = some 0) : (L.set i 1).sum = L.sum + 1 := by
  induction L generalizing i with
  | nil => simp at h
  | cons a L ih =>
    cases i with
    | zero => simp at h; subst h; rw [List.set_cons_zero, List.sum_cons, List.sum_cons]; omega
    | succ i => rw [List.set_cons_succ, List.sum_cons, List.sum_cons, ih i (by simpa using h)]; omega

theorem state_had {p : Pl} {i : Nat} {v : Int} (h : (hadL p)[i]? = some v) : (v = 0 ∨ v = 1) ∧ (v = 1 ↔ stateM p i = 2) := by
  unfold hadL at h
  rw [List.getElem?_map] at h
  cases hx : p.ch[i]? with
  | none => rw [hx] at h; cases h
  | some x =>
    rw [hx] at h
    simp only [Option.map_some, Option.some.injEq] at h
    have hl := (List.getElem?_eq_some_iff.1 hx).1
    unfold stateM
    rw [if_pos ⟨by omega, by omega⟩, Int.toNat_natCast, getD_of hx]
    unfold hadV at h
    split at h <;> omega

/-- Of no peer more is asked than the window. -/
def Pl.winOk (p : Pl) : Prop := ∀ x ∈ p.pe, x.ak ≤ p.win

end Go.Proofs.Ytippkdjggipnmaa
