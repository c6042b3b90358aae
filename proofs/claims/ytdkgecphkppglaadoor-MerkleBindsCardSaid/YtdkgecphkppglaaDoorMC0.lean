/-
  Package merkle: what leads from a leaf up, plainly.
-/
import Derived.Test.YtdkgecphkppglaaDoorMS0
namespace Go.Proofs.YtdkgecphkppglaaDoor
open Go.RowKit

/-- Which of two digests comes first: by the place of the first one. -/
def orderedDg (i : Nat) (d p : Dg) : Dg := if i % 2 = 0 then pairDg d p else pairDg p d

theorem half_lt (n : Nat) (h : 1 < n) : (n + 1) / 2 < n := by omega

/-- From the digest d, the i-th of a row of n, up by the proof P: none where the proof has not the right length. -/
def climb (n i : Nat) (d : Dg) (P : List Dg) : Option Dg :=
  if _h : 1 < n then
    (if aloneB n i = true then climb ((n + 1) / 2) (i / 2) d P
     else match P with
      | [] => none
      | p :: P' => climb ((n + 1) / 2) (i / 2) (orderedDg i d p) P')
  else if P = [] then some d else none
termination_by n
decreasing_by all_goals exact half_lt n (by assumption)

theorem climb_end (n i : Nat) (d : Dg) (P : List Dg) (h : n ≤ 1) : climb n i d P = if P = [] then some d else none := by
  rw [climb.eq_def, dif_neg (by omega)]
theorem climb_alone (n i : Nat) (d : Dg) (P : List Dg) (h : 1 < n) (ha : aloneB n i = true) : climb n i d P = climb ((n + 1) / 2) (i / 2) d P := by
  conv => lhs; rw [climb.eq_def]
  rw [dif_pos h, if_pos ha]
theorem climb_nil (n i : Nat) (d : Dg) (h : 1 < n) (ha : aloneB n i = false) : climb n i d [] = none := by
  rw [climb.eq_def, dif_pos h, if_neg (by rw [ha]; decide)]
theorem climb_cons (n i : Nat) (d p : Dg) (P : List Dg) (h : 1 < n) (ha : aloneB n i = false) : climb n i d (p :: P) = climb ((n + 1) / 2) (i / 2) (orderedDg i d p) P := by
  conv => lhs; rw [climb.eq_def]
  rw [dif_pos h, if_neg (by rw [ha]; decide)]

/-- How long a proof has to be. -/
def needN (n i : Nat) : Nat :=
  if _h : 1 < n then (if aloneB n i = true then 0 else 1) + needN ((n + 1) / 2) (i / 2) else 0
termination_by n
decreasing_by exact half_lt n (by assumption)
theorem need_end (n i : Nat) (h : n ≤ 1) : needN n i = 0 := by rw [needN, dif_neg (by omega)]
theorem need_step (n i : Nat) (h : 1 < n) : needN n i = (if aloneB n i = true then 0 else 1) + needN ((n + 1) / 2) (i / 2) := by
  conv => lhs; rw [needN]
  rw [dif_pos h]

theorem climb_wrong : ∀ (m n i : Nat) (d : Dg) (P : List Dg), n ≤ m → P.length ≠ needN n i → climb n i d P = none := by
  intro m
  induction m with
  | zero =>
    intro n i d P hn hp
    rw [need_end n i (by omega)] at hp
    rw [climb_end n i d P (by omega), if_neg (fun e => hp (by rw [e]; rfl))]
  | succ m ih =>
    intro n i d P hn hp
    by_cases h1 : 1 < n
    · have hs := need_step n i h1
      by_cases ha : aloneB n i = true
      · rw [if_pos ha, Nat.zero_add] at hs
        rw [climb_alone n i d P h1 ha]
        exact ih _ _ _ _ (by omega) (by rw [← hs]; exact hp)
      · rw [if_neg ha] at hs
        have ha' : aloneB n i = false := by simpa using ha
        match P, hp with
        | [], _ => exact climb_nil n i d h1 ha'
        | p :: P', hp =>
          rw [climb_cons n i d p P' h1 ha']
          refine ih _ _ _ _ (by omega) (fun e => hp ?_)
          rw [List.length_cons, e, hs, Nat.add_comm]
    · rw [need_end n i (by omega)] at hp
      rw [climb_end n i d P (by omega), if_neg (fun e => hp (by rw [e]; rfl))]

theorem proofB_need : ∀ (m : Nat) (L : List Dg) (i : Nat), L.length ≤ m → (proofB L i).length = needN L.length i := by
  intro m
  induction m with
  | zero => intro L i h; rw [proofB_end L i (by omega), need_end _ _ (by omega)]; rfl
  | succ m ih =>
    intro L i h
    by_cases h1 : 1 < L.length
    · rw [proofB_step L i h1, need_step _ _ h1, List.length_append, ih (nextB L) (i / 2) (by rw [nextB_len]; omega), nextB_len]
      by_cases ha : aloneB L.length i = true
      · rw [if_pos ha, if_pos ha]; rfl
      · rw [if_neg ha, if_neg ha]; rfl
    · rw [proofB_end L i (by omega), need_end _ _ (by omega)]; rfl

theorem next_of (L : List Dg) (i : Nat) (_h1 : 1 < L.length) (hi : i < L.length) :
    (nextB L).getD (i / 2) zeroDg = if aloneB L.length i = true then L.getD i zeroDg else orderedDg i (L.getD i zeroDg) (L.getD (i ^^^ 1) zeroDg) := by
  have hl : i / 2 < (nextB L).length := by rw [nextB_len]; omega
  have hg : (nextB L).getD (i / 2) zeroDg = nextDg L (i / 2) := by
    rw [List.getD_eq_getElem?_getD, List.getElem?_eq_getElem hl, nextB_at L _ hl]; rfl
  rw [hg]
  unfold nextDg
  have hs := sib_eq i
  by_cases ha : aloneB L.length i = true
  · have h2 : 2 * (i / 2) = i := by unfold aloneB at ha; simp at ha; omega
    simp only [h2, ha, if_true]
  · rw [if_neg ha]
    have hb : aloneB L.length (2 * (i / 2)) = true → False := fun hb => ha (by
      unfold aloneB at *
      simp only [Bool.and_eq_true, decide_eq_true_eq] at *
      omega)
    rw [if_neg hb]
    apply Subtype.ext
    unfold orderedDg pairDg
    rcases Nat.mod_two_eq_zero_or_one i with h | h
    · have e1 : 2 * (i / 2) = i := by omega
      have e2 : i ^^^ 1 = i + 1 := by omega
      rw [if_pos h]
      show pairB (L.getD (2 * (i / 2)) zeroDg).1 (L.getD (2 * (i / 2) + 1) zeroDg).1 = pairB (L.getD i zeroDg).1 (L.getD (i ^^^ 1) zeroDg).1
      rw [e1, e2]
    · have e1 : 2 * (i / 2) = i ^^^ 1 := by omega
      have e2 : 2 * (i / 2) + 1 = i := by omega
      rw [if_neg (by omega)]
      show pairB (L.getD (2 * (i / 2)) zeroDg).1 (L.getD (2 * (i / 2) + 1) zeroDg).1 = pairB (L.getD (i ^^^ 1) zeroDg).1 (L.getD i zeroDg).1
      rw [e2, e1]

/-- The proof of a place leads to the top. -/
theorem climb_proof : ∀ (m : Nat) (L : List Dg) (i : Nat), L.length ≤ m → i < L.length → climb L.length i (L.getD i zeroDg) (proofB L i) = some (topB L) := by
  intro m
  induction m with
  | zero => intro L i h hi; omega
  | succ m ih =>
    intro L i h hi
    by_cases h1 : 1 < L.length
    · have hn := next_of L i h1 hi
      have hl := nextB_len L
      have hr := ih (nextB L) (i / 2) (by omega) (by omega)
      rw [hl, hn] at hr
      rw [proofB_step L i h1, topB_step L h1, ← hr]
      by_cases ha : aloneB L.length i = true
      · rw [if_pos ha, if_pos ha, List.nil_append, climb_alone _ _ _ _ h1 ha]
      · rw [if_neg ha, if_neg ha, List.singleton_append, climb_cons _ _ _ _ _ h1 (by simpa using ha)]
    · have h0 : i = 0 := by omega
      subst h0
      rw [proofB_end L 0 (by omega), topB_end L (by omega), climb_end _ _ _ _ (by omega), if_pos rfl]

/-- What is answered where the climb has come to an end. -/
def checkR (root : List UInt8) (N : Nat) : Option Dg → Bool
  | none => false
  | some d => rootOfB N d.1 == root
/-- What Check tells of a chunk that may be there. -/
def checkB (root : List UInt8) (n i : Nat) (x : List UInt8) (P : List Dg) : Bool := checkR root n (climb (cntN n) i ⟨leafB i x, dig_len _⟩ P)

end Go.Proofs.YtdkgecphkppglaaDoor
