/-
  What a step of a turn may come to, told more closely: plain facts.
-/
import Derived.Test.YtcfpjlojknahlaaS
namespace Go.Proofs.Ytcfpjlojknahlaa
open Go.RowKit

inductive Out (t : T) (now : Int) (f : F) : T → Int → Prop
  | over (t' : T) : t.st = 4 → t'.st = 4 → t'.ans = t.ans → Out t now f t' t.ans
  | done (t' : T) : t.st ≠ 4 → t'.st = 4 → t'.ans = 4 → Out t now f t' 4
  | wrong (t' : T) : t.st = 3 → t'.st = 4 → t'.ans = 5 → Out t now f t' 5
  | runs (t' : T) : t.st = 3 → t'.st = 3 → f.stored = false → f.ran = false → f.wrong = false → Out t now f t' 3
  | run (t' : T) : (t.st = 1 ∨ t.st = 2) → t'.st = 3 → Out t now f t' 3
  | goes (t' : T) : t.st = 2 → t'.st = 2 → t'.fb = t.fb → pastB now t.fb t.bud = false → Out t now f t' 2
  | fetch (t' : T) : t.st = 1 → t'.st = 2 → t'.fb = now → Out t now f t' 2
  | none (t' : T) (a : Int) : (a = 0 ∨ a = 1) → t'.st = 1 → (t.st = 1 ∨ t.st = 2) → pastB now (t.begin now).first t.cap = false → Out t now f t' a

theorem look_out (t0 t : T) (now : Int) (f : F) (hs : t.st = 1) (h0 : t0.st = 1 ∨ t0.st = 2) (hf : t0.st = 2 → t.fetched = true)
    (hc : pastB now t.first t.cap = pastB now (t0.begin now).first t0.cap) : Out t0 now f (look t now f).1 (look t now f).2 := by
  unfold look
  split
  · rename_i h
    rw [Bool.and_eq_true] at h
    rcases h0 with h1 | h1
    · exact .fetch _ h1 rfl rfl
    · rw [hf h1] at h; simp at h
  · split
    · exact .run _ h0 rfl
    · rename_i h
      rw [Bool.or_eq_true, not_or] at h
      have hp : pastB now (t0.begin now).first t0.cap = false := by rw [← hc]; simpa using h.2
      split
      · exact .none _ _ (Or.inl rfl) hs h0 hp
      · exact .none _ _ (Or.inr rfl) hs h0 hp

theorem step_out (t : T) (now : Int) (f : F) (hm : t.made) : Out t now f (stepM t now f).1 (stepM t now f).2 := by
  unfold stepM stepB
  rw [T.begin_st, begin_ans]
  split
  · rename_i h
    exact .over _ h (by rw [T.begin_st]; exact h) (begin_ans _ _)
  · rename_i h4
    split
    · exact .done _ h4 rfl rfl
    · rename_i hs
      split
      · rename_i h3
        unfold runM
        split
        · exact .done _ h4 rfl rfl
        · rename_i hr
          split
          · exact .wrong _ h3 rfl rfl
          · rename_i hw
            exact .runs _ h3 (by rw [T.begin_st]; exact h3) (by simpa using hs) (by simpa using hr) (by simpa using hw)
      · rename_i h3
        split
        · rename_i h2
          split
          · exact look_out t _ now f rfl (Or.inr h2) (fun _ => rfl) (by rw [← begin_cap t now])
          · rename_i hp
            rw [T.begin_fb, T.begin_bud, Bool.or_eq_true, not_or] at hp
            exact .goes _ h2 (by rw [T.begin_st]; exact h2) (T.begin_fb _ _) (by simpa using hp.2)
        · rename_i h2
          have h1 : t.st = 1 := by unfold T.made at hm; omega
          exact look_out t _ now f (by rw [T.begin_st]; exact h1) (Or.inl h1) (fun h => by omega) (by rw [begin_cap])

/-- Between two ticks: k steps were taken, at the ticks 0 to k - 1. -/
structure Tick (c u : Int) (k : Nat) (t : T) (ran : Int) : Prop where
  cap : t.cap = c
  bud : t.bud = u
  ok : t.ok
  bgn : t.begun = decide (0 < k)
  fst : t.begun = true → t.first = 0
  cases : (t.st = 1 ∧ ran = -1 ∧ (k : Int) ≤ max c 0 ) ∨ (t.st = 2 ∧ ran = -1 ∧ t.fb ≤ c ∧ 0 ≤ t.fb ∧ ((k : Int) - 1 = t.fb ∨ (k : Int) - 1 < t.fb + u)) ∨
    (t.st = 3 ∧ 0 ≤ ran) ∨ (t.st = 4 ∧ (t.ans = 4 ∨ t.ans = 5) ∧ -1 ≤ ran)

theorem Tick.made {c u ran : Int} {k : Nat} {t : T} (h : Tick c u k t ran) : t.made := by
  have := h.cases
  unfold T.made
  omega

theorem Tick.next {c u ran ran' : Int} {k : Nat} {t t' : T} {f : F} {a : Int} (h : Tick c u k t ran) (hc0 : 0 ≤ c) (hu0 : 0 ≤ u)
    (ho : Out t (k : Int) f t' a) (hc : t'.cap = t.cap) (hu : t'.bud = t.bud) (hok : t'.ok) (hf : t'.first = (t.begin k).first) (hb : t'.begun = true)
    (hr : ran' = if a = 3 ∧ ran < 0 then (k : Int) else ran) : Tick c u (k + 1) t' ran' := by
  have h0 : t'.first = 0 := by
    rw [hf, begin_first, h.bgn]
    split
    · rename_i h1
      exact h.fst (by rw [h.bgn]; exact h1)
    · rename_i h1
      have : ¬ 0 < k := by simpa using h1
      omega
  have hcs := h.cases
  have hu1 := h.bud
  have hc1 := h.cap
  refine ⟨hc.trans h.cap, hu.trans h.bud, hok, by rw [hb]; simp, fun _ => h0, ?_⟩
  have e : ((k + 1 : Nat) : Int) = (k : Int) + 1 := by omega
  rw [e]
  have hg0 : (t.begin k).first = 0 := by rw [← hf]; exact h0
  cases ho with
  | over h1 h2 h3 =>
    have : t'.ans = 4 ∨ t'.ans = 5 := by rw [h3]; omega
    rw [if_neg (by omega)] at hr
    exact Or.inr (Or.inr (Or.inr ⟨h2, this, by omega⟩))
  | done h1 h2 h3 => rw [if_neg (by omega)] at hr; exact Or.inr (Or.inr (Or.inr ⟨h2, Or.inl h3, by omega⟩))
  | wrong h1 h2 h3 => rw [if_neg (by omega)] at hr; exact Or.inr (Or.inr (Or.inr ⟨h2, Or.inr h3, by omega⟩))
  | runs h1 h2 => rw [if_neg (by omega)] at hr; exact Or.inr (Or.inr (Or.inl ⟨h2, by omega⟩))
  | run h1 h2 => rw [if_pos (by omega)] at hr; exact Or.inr (Or.inr (Or.inl ⟨h2, by omega⟩))
  | goes h1 h2 h3 h4 =>
    rw [if_neg (by omega)] at hr
    have h5 : (k : Int) < t.fb + t.bud ∨ (k : Int) < t.fb := by
      unfold pastB at h4; rw [decide_eq_false_iff_not] at h4; omega
    exact Or.inr (Or.inl ⟨h2, by omega, by omega, by omega, by omega⟩)
  | fetch h1 h2 h3 => rw [if_neg (by omega)] at hr; exact Or.inr (Or.inl ⟨h2, by omega, by omega, by omega, by omega⟩)
  | none _ h1 h2 h3 h4 =>
    rw [if_neg (by omega)] at hr
    have h5 : (k : Int) < c := by
      rw [hg0] at h4
      unfold pastB at h4; rw [decide_eq_false_iff_not] at h4
      omega
    exact Or.inl ⟨h2, by omega, by omega⟩

end Go.Proofs.Ytcfpjlojknahlaa
