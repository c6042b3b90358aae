/-
  Windows: plain facts on plans.
-/
import Derived.Test.YtippkdjggipnmaaQ
import Derived.Test.YtippkdjggipnmaaK2
namespace Go.Proofs.Ytippkdjggipnmaa
open Go.RowKit Go.Maps

theorem newP_win {nc np : Nat} {win tim : Int} (h : mayP nc np win tim) : (newP nc np win tim).winOk := by
  intro x hx
  have := (List.mem_replicate.1 hx).2
  rw [this]
  show (0 : Int) ≤ win
  have := h.2.2.1
  omega

theorem win_set {P : List Pr} {W : Int} (h : ∀ x ∈ P, x.ak ≤ W) (k : Nat) (d : Int) : ∀ x ∈ P.set k ⟨(P.getD k default).ak - 1, d⟩, x.ak ≤ W := by
  intro x hx
  by_cases hk : k < P.length
  · rcases mem_set hx with hx | rfl
    · exact h x hx
    · have := h P[k] (List.getElem_mem hk)
      rw [List.getD_eq_getElem?_getD, List.getElem?_eq_getElem hk]
      show P[k].ak - 1 ≤ _
      omega
  · rw [List.set_eq_of_length_le (by omega)] at hx
    exact h x hx

theorem win_reopen {p : Pl} {c : Nat} (h : p.winOk) : (reopenM p c).winOk := by
  unfold reopenM reopenAt Pl.winOk
  exact win_set h _ _

theorem win_sweepK {p : Pl} (now : Int) (h : p.winOk) : ∀ k, (sweepK p now k).winOk
  | 0 => h
  | k + 1 => by
    have ih := win_sweepK now h k
    unfold sweepK
    split
    · exact win_reopen ih
    · exact ih

theorem fitK_fits (p : Pl) (c : Nat) : ∀ k j, fitK p c k = some j → fitsB p j = true
  | 0, j, h => by cases h
  | k + 1, j, h => by
    unfold fitK at h
    split at h
    · rename_i hf
      unfold fitNext at h
      split at h
      · cases h; exact hf
      · rename_i i hi
        split at h
        · cases h; exact fitK_fits p c k _ hi
        · cases h; exact hf
    · exact fitK_fits p c k j h

theorem win_next {p : Pl} {now : Int} (h : p.winOk) : (nextM p now).1.winOk := by
  have hs := win_sweepK now h p.ch.length
  unfold nextM
  split
  · exact hs
  · split
    · exact hs
    · rename_i c hc k hk
      have hf := fitK_fits _ _ _ _ hk
      unfold fitsB at hf
      simp only [Bool.and_eq_true, Bool.not_eq_true', decide_eq_false_iff_not] at hf
      intro x hx
      unfold askAt at hx
      rcases mem_set hx with hx | rfl
      · exact hs x hx
      · show _ + 1 ≤ (sweepM p now).win
        omega

theorem win_had {p : Pl} (c : Int) (h : p.winOk) : (hadM p c).1.winOk := by
  unfold hadM
  split
  · split
    · exact h
    · split
      · unfold hadAt Pl.winOk
        exact win_set h _ _
      · exact h
  · exact h

theorem win_bad {p : Pl} (c k : Int) (h : p.winOk) : (badM p c k).1.winOk := by
  unfold badM
  split
  · split
    · exact win_reopen h
    · exact h
  · exact h

/-- What was just asked is told so, of a peer that is not banned. -/
theorem next_told {p : Pl} {now : Int} {c k : Nat} (h : (nextM p now).2 = some (c, k)) : askedM (nextM p now).1 c = ((k : Int), now, true) ∧ demM (nextM p now).1 k < 3 := by
  obtain ⟨x, hx, h0, hf, he, _⟩ := next_asked h
  have hcl := (List.getElem?_eq_some_iff.1 hx).1
  have hkl := fit_lt hf
  have hb := fitK_fits _ _ _ _ hf
  unfold fitsB banB at hb
  simp only [Bool.and_eq_true, Bool.not_eq_true', decide_eq_false_iff_not] at hb
  rw [he]
  have e1 : (askAt (sweepM p now) c k now).ch[c]? = some ⟨1, k, now⟩ := by unfold askAt; exact List.getElem?_set_self hcl
  have e2 : (askAt (sweepM p now) c k now).pe[k]? = some ⟨((sweepM p now).pe.getD k default).ak + 1, ((sweepM p now).pe.getD k default).de⟩ := by unfold askAt; exact List.getElem?_set_self hkl
  have l1 := (List.getElem?_eq_some_iff.1 e1).1
  have l2 := (List.getElem?_eq_some_iff.1 e2).1
  constructor
  · unfold askedM
    have : stateM (askAt (sweepM p now) c k now) c = 1 := by
      unfold stateM; rw [if_pos ⟨by omega, by omega⟩, Int.toNat_natCast, getD_of e1]
    rw [if_pos this, Int.toNat_natCast, getD_of e1]
  · unfold demM; rw [if_pos ⟨by omega, by omega⟩, Int.toNat_natCast, getD_of e2]
    show ((sweepM p now).pe.getD k default).de < 3
    omega

def loadL (L : List Ck) (np : Nat) : List Int := (List.range np).map (fun k : Nat => ((cnt L (k : Int) : Nat) : Int))
theorem loadL_len (L : List Ck) (np : Nat) : (loadL L np).length = np := by unfold loadL; rw [List.length_map, List.length_range]
theorem loadL_get (L : List Ck) (np k : Nat) (h : k < np) : (loadL L np)[k]? = some ((cnt L (k : Int) : Nat) : Int) := by
  unfold loadL; rw [List.getElem?_map, List.getElem?_range h]; rfl
theorem cnt_snoc (L : List Ck) (x : Ck) (k : Int) : cnt (L ++ [x]) k = cnt L k + if x.st = 1 ∧ x.pe = k then 1 else 0 := by
  unfold cnt; rw [List.countP_append, List.countP_cons]; simp
theorem loadL_skip (L : List Ck) (np : Nat) (x : Ck) (h : x.st ≠ 1) : loadL (L ++ [x]) np = loadL L np := by
  unfold loadL
  apply List.map_congr_left
  intro k _
  rw [cnt_snoc, if_neg (by omega)]; rfl
theorem loadL_add (L : List Ck) (np k : Nat) (x : Ck) (h : x.st = 1) (hk : x.pe = k) : loadL (L ++ [x]) np = (loadL L np).set k (((cnt L (k : Int) : Nat) : Int) + 1) := by
  apply List.ext_getElem?
  intro j
  by_cases hj : j < np
  · rw [loadL_get _ _ _ hj, cnt_snoc]
    by_cases e : k = j
    · subst e
      rw [if_pos ⟨h, hk⟩, List.getElem?_set_self (by rw [loadL_len]; exact hj)]
      rfl
    · rw [if_neg (by omega), List.getElem?_set_ne e, loadL_get _ _ _ hj]; rfl
  · rw [List.getElem?_eq_none (by rw [loadL_len]; omega), List.getElem?_eq_none (by rw [List.length_set, loadL_len]; omega)]
theorem loadL_nil (np : Nat) : loadL [] np = List.replicate np 0 := by
  apply List.ext_getElem?
  intro j
  by_cases hj : j < np
  · rw [loadL_get _ _ _ hj, List.getElem?_replicate, if_pos hj]; rfl
  · rw [List.getElem?_eq_none (by rw [loadL_len]; omega), List.getElem?_eq_none (by rw [List.length_replicate]; omega)]

theorem asked_in {p : Pl} {n i : Nat} {x : Ck} (ho : p.ok n) (hx : p.ch[i]? = some x) : (x.st = 1 ∧ (∃ k : Nat, x.pe = k ∧ k < p.pe.length) ∧ askedM p i = (x.pe, x.sn, true)) ∨ (x.st ≠ 1 ∧ askedM p i = (0, 0, false)) := by
  have hl := (List.getElem?_eq_some_iff.1 hx).1
  have hxo := ho.cks x (List.mem_of_getElem? hx)
  have hs : stateM p i = x.st := by unfold stateM; rw [if_pos ⟨by omega, by omega⟩, Int.toNat_natCast, getD_of hx]
  unfold askedM
  rw [hs, Int.toNat_natCast, getD_of hx]
  by_cases h1 : x.st = 1
  · left
    unfold Ck.ok at hxo
    obtain ⟨k, hk⟩ := Int.eq_ofNat_of_zero_le (a := x.pe) (by omega)
    exact ⟨h1, ⟨k, hk, by omega⟩, by rw [if_pos h1]⟩
  · exact .inr ⟨h1, by rw [if_neg h1]⟩

end Go.Proofs.Ytippkdjggipnmaa
