/-
  What two have of each member when they have told one another: plain facts.
-/
import Derived.Test.YtiehbbbncmdchaaN2
namespace Go.Proofs.Ytiehbbbncmdchaa

theorem three_same {c i : Nat} {f g f' g' : U → U → U} {x y : U} (hx : Fit c i x) (hy : Fit c i y)
    (hf : ∀ u x, Fit c i u → Fit c i x → f u x = f' u x ∧ Fit c i (f' u x)) (hg : ∀ u x, Fit c i u → Fit c i x → g u x = g' u x ∧ Fit c i (g' u x)) : three f g x y = three f' g' x y := by
  unfold three
  have h1 := hg x y hx hy
  simp only [h1.1]
  have h2 := hf _ _ h1.2 hx
  simp only [h2.1]
  have h3 := hg _ _ h2.2 h1.2
  simp only [h3.1]
  have h4 := hf _ _ h3.2 h2.2
  simp only [h4.1]
  have h5 := hg _ _ h4.2 h3.2
  simp only [h5.1]
  have h6 := hf _ _ h5.2 h4.2
  simp only [h6.1]

theorem not_greater_trans {u v w : U} (h1 : greater u v = false) (h2 : greater v w = false) : greater u w = false := by
  unfold greater at *
  rw [decide_eq_false_iff_not] at *
  omega

theorem three_grew {c i : Nat} {s t : Nat} {x y : U} (hx : Fit c i x) (hy : Fit c i y) :
    greater x (three (at_ s c i) (at_ t c i) x y).1 = false ∧ greater y (three (at_ s c i) (at_ t c i) x y).2 = false := by
  have hat : ∀ (s : Nat) u x, Fit c i u → Fit c i x → Fit c i (at_ s c i u x) := fun s u x hu hx => by
    by_cases h : i = s
    · subst h; rw [at_ans hu]; exact ans_fit hx hu
    · rw [at_join hu h]; exact join_fit hu hx
  unfold three
  dsimp only
  have f1 := hat t x y hx hy
  have g1 := at_grew t c i x y hy.inc.2
  generalize at_ t c i x y = b1 at *
  have f2 := hat s b1 x f1 hx
  have g2 := at_grew s c i b1 x hx.inc.2
  generalize at_ s c i b1 x = a1 at *
  have f3 := hat t a1 b1 f2 f1
  have g3 := at_grew t c i a1 b1 f1.inc.2
  generalize at_ t c i a1 b1 = b2 at *
  have f4 := hat s b2 a1 f3 f2
  have g4 := at_grew s c i b2 a1 f2.inc.2
  generalize at_ s c i b2 a1 = a2 at *
  have g5 := at_grew t c i a2 b2 f3.inc.2
  generalize at_ t c i a2 b2 = b3 at *
  have g6 := at_grew s c i b3 a2 f4.inc.2
  exact ⟨not_greater_trans g2 (not_greater_trans g4 g6), not_greater_trans g1 (not_greater_trans g3 g5)⟩

structure Merged (i : Nat) (x y p q : U) : Prop where
  up : greater x p = false
  uq : greater y q = false
  third : 2 ≤ i → p = wanted x y ∧ q = wanted x y
  own : i < 2 → p.inc < 1099511627776 → p = q ∧ p.st = 1

theorem merged {c : Nat} {p : M × M} (h : Pair c p) {i : Nat} (hi : i < c) {x y : U} (hx : p.1.stand[i]? = some x) (hy : p.2.stand[i]? = some y) :
    ∃ u v, (talk (talk (talk p))).1.stand[i]? = some u ∧ (talk (talk (talk p))).2.stand[i]? = some v ∧ Merged i x y u v := by
  have h3 := three_get h hi hx hy
  have fx : Fit c i x := by have := h.oka.fit hx (by rw [h.counta]; exact hi); rwa [h.counta] at this
  have fy : Fit c i y := by have := h.okb.fit hy (by rw [h.countb]; exact hi); rwa [h.countb] at this
  have hg := three_grew (s := 0) (t := 1) fx fy
  refine ⟨_, _, h3.1, h3.2, hg.1, hg.2, fun h2 => ?_, fun h2 hn => ?_⟩
  · have e : three (at_ 0 c i) (at_ 1 c i) x y = three joinU joinU x y :=
      three_same fx fy (fun u x hu hx => ⟨at_join hu (by omega) x, join_fit hu hx⟩) (fun u x hu hx => ⟨at_join hu (by omega) x, join_fit hu hx⟩)
    rw [e, three_third fx fy]
    exact ⟨rfl, rfl⟩
  · obtain rfl | rfl : i = 0 ∨ i = 1 := by omega
    · have e : three (at_ 0 c 0) (at_ 1 c 0) x y = three ans joinU x y :=
        three_same fx fy (fun u x hu hx => ⟨at_ans hu x, ans_fit hx hu⟩) (fun u x hu hx => ⟨at_join hu (by omega) x, join_fit hu hx⟩)
      rw [e] at hn ⊢
      exact three_a fx fy (h.alivea x (by rw [h.selfa]; exact hx)) hn
    · have e : three (at_ 0 c 1) (at_ 1 c 1) x y = three joinU ans x y :=
        three_same fx fy (fun u x hu hx => ⟨at_join hu (by omega) x, join_fit hu hx⟩) (fun u x hu hx => ⟨at_ans hu x, ans_fit hx hu⟩)
      rw [e] at hn ⊢
      exact three_b fx fy (h.aliveb y (by rw [h.selfb]; exact hy)) hn

end Go.Proofs.Ytiehbbbncmdchaa
