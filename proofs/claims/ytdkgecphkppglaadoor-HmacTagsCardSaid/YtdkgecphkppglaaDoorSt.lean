/-
  A region that draws its order, walked by states: each state once, however many orders lead to it.
-/
import Derived.Test.YtdkgecphkppglaaDoorKn
namespace Go.Proofs.YtdkgecphkppglaaDoor
open Go.RowKit

section
variable {P : Program} {md : Region.Mode} {ops : Array Oper} {Q : Exit → Act → World → Prop} {S : World → Prop}

/-- Whichever of these comes up, a state of the table is met. -/
def AllSt {ι : Type} (P : Program) (ops : Array Oper) (Q : Exit → Act → World → Prop) (S : World → Prop) (L : ι → Array Bool) (m : ι → Nat) (A : ι → Act → World → Prop) (s : ι) (a : Act) (w : World) (rs : List Nat) : Prop :=
  ∀ i ∈ rs, wpOp P ops Q i (fun a' w' => S w' ∧ ∃ s', L s' = (L s).setIfInBounds i true ∧ m s' + 1 = m s ∧ A s' a' w') a w

theorem wpAnyH_states {ι : Type} (L : ι → Array Bool) (m : ι → Nat) (A : ι → Act → World → Prop)
    (hstep : ∀ s a w, A s a w → (∀ fuel, m s ≤ fuel → wpAnyH P md ops Q S fuel (L s) a w) ∨
      (m s ≠ 0 ∧ ∃ rs, Region.ready md ops (L s) = rs ∧ rs ≠ [] ∧ AllSt P ops Q S L m A s a w rs)) :
    ∀ fuel s a w, m s ≤ fuel → A s a w → wpAnyH P md ops Q S fuel (L s) a w
  | 0, s, a, w, hm, h => by
    rcases hstep s a w h with h1 | ⟨h1, _⟩
    · exact h1 0 hm
    · omega
  | fuel + 1, s, a, w, hm, h => by
    rcases hstep s a w h with h1 | ⟨h1, rs, hr, hne, h2⟩
    · exact h1 _ hm
    · refine wpAnyH_all hr hne fun i hi => wpOp_mono (fun a' w' h' => ?_) (h2 i hi)
      obtain ⟨hS, s', hL, hm', hA⟩ := h'
      refine ⟨hS, ?_⟩
      rw [← hL]
      exact wpAnyH_states L m A hstep fuel s' a' w' (by omega) hA

theorem AllSt.nil {ι : Type} {L : ι → Array Bool} {m : ι → Nat} {A : ι → Act → World → Prop} {s : ι} {a : Act} {w : World} : AllSt P ops Q S L m A s a w [] := fun _ h => by cases h
theorem AllSt.cons {ι : Type} {L : ι → Array Bool} {m : ι → Nat} {A : ι → Act → World → Prop} {s : ι} {i : Nat} {o : Oper} {rs : List Nat} {a : Act} {w : World} (ho : ops[i]? = some o)
    (h : ∀ K' : Act → World → Prop, Shut (∀ a' w', (S w' ∧ ∃ s', L s' = (L s).setIfInBounds i true ∧ m s' + 1 = m s ∧ A s' a' w') → K' a' w') → if Region.wanted o (yielded ops a.tmps) = true then Oper.wp P o a w K' Q else K' (a.put o.dst undef) w)
    (hs : AllSt P ops Q S L m A s a w rs) : AllSt P ops Q S L m A s a w (i :: rs) := fun j hj => by
  rcases List.mem_cons.1 hj with rfl | hj
  · exact wpOp_step ho (fun K' hK => h K' (fun a w hW => hK a w hW))
  · exact hs j hj
end

theorem hp_chg {w w' : World} {q : Nat} {o : Obj} {c : Option Nat} (h : w.heap[q]? = some o) (g : Chg c w w') (hne : some q ≠ c) : w'.heap[q]? = some o :=
  (g.block q (Array.getElem?_eq_some_iff.1 h).1 hne).trans h
theorem hp_lt {w : World} {q : Nat} {o : Obj} (h : w.heap[q]? = some o) : q < w.heap.size := (Array.getElem?_eq_some_iff.1 h).1

/-- '[]byte' of a constant: its row is marked. -/
theorem conv_mark {P : Program} {w : World} {t e : TypeId} {p : Nat} {C : Array Value} (n c : Nat) (ht : P.underlying t = some (.slice e)) (he : P.underlying e = some (.int .u8))
    (hb : w.heap[p]? = some (.cells C e (0, 0))) :
    ∃ w', (convert t t (.slice (some ⟨p, 0, none⟩) n c)).run P w = .ok (.slice (some ⟨p, 0, none⟩) n c) w' ∧ Chg (some p) w w' ∧ ∃ fr, w'.heap[p]? = some (.cells C e fr) := by
  have hsh : w.shape? p = some (e, C.size) := by
    unfold World.shape?
    rw [hb]
  refine ⟨w.freeze ⟨p, C.size, none⟩ 1, ?_, ?_, ?_⟩
  · simp [convert, run_underlying ht, run_underlying he, markStringish, hsh]
  · unfold World.freeze
    rw [if_neg (by decide)]
    refine ⟨rfl, rfl, rfl, by simp, fun i hi hn => ?_⟩
    have hne : p ≠ i := fun h => hn (by rw [h])
    simp [Array.getElem?_modify, hne]
  · unfold World.freeze
    rw [if_neg (by decide)]
    simp [Array.getElem?_modify, hb]

end Go.Proofs.YtdkgecphkppglaaDoor
