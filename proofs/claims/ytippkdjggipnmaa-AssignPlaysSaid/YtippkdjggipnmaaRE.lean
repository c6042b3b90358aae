/-
  The document's plan of layer 23: Next.
-/
import Derived.Test.YtippkdjggipnmaaRD
import Derived.Deep.RegionHeld3
namespace Go.Proofs.Ytippkdjggipnmaa
open Go.RowKit Go.Maps

theorem Sim.ask {p : Pl} {r : Rf} (h : Sim p r) {c k : Nat} {x : Ck} {row : List Int} (hx : p.ch[c]? = some x) (hk : k < p.pe.length) (hr : r.tm[c]? = some row) (now : Int) (_hc : c ≤ 100) (hkb : k ≤ 100) :
    Sim (askAt p c k now) { r with st := r.st.set c 1, pe := r.pe.set c k, sn := r.sn.set c now, tm := r.tm.set c (row.set k (p.ts c k + 1)) } := by
  have hcl : c < p.ch.length := (List.getElem?_eq_some_iff.1 hx).1
  obtain ⟨y, hy⟩ : ∃ y, p.pe[k]? = some y := ⟨_, List.getElem?_eq_getElem hk⟩
  unfold askAt
  refine ⟨by show r.st.set c 1 = _; rw [h.st]; simp only [List.map_set], by simp only [List.length_set]; exact h.pl, by simp only [List.length_set]; exact h.sl, ?_, ?_, by simp only [List.length_set]; exact h.tl, ?_, h.win, h.tim⟩
  · intro j z hz h1
    rcases get_set hz with ⟨rfl, rfl⟩ | ⟨hne, hz'⟩
    · exact ⟨List.getElem?_set_self (by rw [h.pl]; exact hcl), List.getElem?_set_self (by rw [h.sl]; exact hcl)⟩
    · simp only [List.getElem?_set_ne hne]
      exact h.asked j z hz' h1
  · show r.bd = _
    simp only [List.map_set]
    rw [getD_of hy, h.bd]
    symm
    refine set_same _ _ _ ?_
    rw [List.getElem?_map, hy]; rfl
  · intro j row' hj
    simp only [List.length_set]
    rcases get_set hj with ⟨rfl, rfl⟩ | ⟨hne, hj'⟩
    · obtain ⟨h1, h2⟩ := h.tm c row hr
      refine ⟨by rw [List.length_set]; exact h1, fun l hl => ?_⟩
      unfold upd
      by_cases e : l = k
      · subst e
        rw [List.getElem?_set_self (by omega), if_pos ⟨rfl, rfl⟩]
      · rw [List.getElem?_set_ne (fun h => e h.symm), if_neg (by omega)]
        exact h2 l hl
    · obtain ⟨h1, h2⟩ := h.tm j row' hj'
      refine ⟨h1, fun l hl => ?_⟩
      unfold upd
      rw [if_neg (by omega)]
      exact h2 l hl

def Tk (x : Ck) : Prop := -1152921504606846976 ≤ x.sn ∧ x.sn ≤ 1152921504606846976
theorem tk_sweep {p : Pl} (now : Int) (h : ∀ x ∈ p.ch, Tk x) : ∀ k, ∀ x ∈ (sweepK p now k).ch, Tk x
  | 0 => h
  | k + 1 => by
    unfold sweepK
    split
    · intro x hx
      rw [reopenM_ch] at hx
      rcases mem_set hx with h1 | h1
      · exact tk_sweep now h k x h1
      · rw [h1]; exact ⟨by decide, by decide⟩
    · exact tk_sweep now h k

def bestZ (o : Option Nat) : Int := match o with | none => -1 | some j => j
theorem fitK_no {p : Pl} {c k : Nat} (h : fitsB p k = false) : fitK p c (k + 1) = fitK p c k := by rw [fitK, h]; rfl
theorem fitK_first {p : Pl} {c k : Nat} (h : fitsB p k = true) (h0 : fitK p c k = none) : fitK p c (k + 1) = some k := by rw [fitK, h, h0]; rfl
theorem fitK_more {p : Pl} {c k j : Nat} (h : fitsB p k = true) (h0 : fitK p c k = some j) : fitK p c (k + 1) = if betB p c k j then some k else some j := by
  rw [fitK, h, h0]
  unfold fitNext betB
  by_cases h1 : 0 ≤ cmpL (rankM p c k) (rankM p c j)
  · simp only [h1, if_true]
    rw [if_neg (by simp; omega)]
  · simp only [h1, if_false, if_true]
    rw [if_pos (by simp; omega)]

/-- What stands at the head of each round of the sweep. -/
def SwRel (w : World) (q : Rb) (p : Pl) (now : Int) (k : Nat) (wr : World) : Prop := ∃ r, RefAt wr q r ∧ Sim (sweepK p now k) r ∧ Kept q.has w wr

end Go.Proofs.Ytippkdjggipnmaa
