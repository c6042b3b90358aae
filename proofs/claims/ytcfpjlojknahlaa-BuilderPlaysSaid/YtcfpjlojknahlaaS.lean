/-
  What a step of a turn may come to: plain facts.
-/
import Derived.Test.YtcfpjlojknahlaaG
namespace Go.Proofs.Ytcfpjlojknahlaa
open Go.RowKit

/-- What holds of a turn between two steps: the last answer, how many fetches were begun, the first tick. -/
structure Inv (c u : Int) (t : T) (first last : Int) (fs : Int) : Prop where
  cap : t.cap = c
  bud : t.bud = u
  ok : t.ok
  fst : t.begun = true → t.first = first
  cases : (t.st = 1 ∧ (last = 0 ∨ last = 1) ∧ 0 ≤ fs ∧ fs ≤ 1 ∧ (t.fetched = false → fs = 0)) ∨ (t.st = 2 ∧ last = 2 ∧ fs = 1) ∨
    (t.st = 3 ∧ last = 3 ∧ 0 ≤ fs ∧ fs ≤ 1) ∨ (t.st = 4 ∧ t.ans = last ∧ (last = 4 ∨ last = 5) ∧ 0 ≤ fs ∧ fs ≤ 1)

theorem Inv.made {c u : Int} {t : T} {first last fs : Int} (h : Inv c u t first last fs) : t.made := by
  have := h.cases
  unfold T.made
  omega

/-- What a step answers: why. -/
inductive Why (t : T) (f : F) (late : Prop) (last : Int) : T → Int → Prop
  | over (t' : T) : t.st = 4 → t'.st = 4 → t'.ans = last → t.ans = last → Why t f late last t' last
  | done (t' : T) : t.st ≠ 4 → (f.stored = true ∨ f.ran = true) → t'.st = 4 → t'.ans = 4 → Why t f late last t' 4
  | wrong (t' : T) : t.st = 3 → f.wrong = true → t'.st = 4 → t'.ans = 5 → Why t f late last t' 5
  | runs (t' : T) : t.st = 3 → t'.st = 3 → Why t f late last t' 3
  | run (t' : T) : t.st ≠ 4 → (f.ready = true ∨ late) → t'.st = 3 → Why t f late last t' 3
  | goes (t' : T) : t.st = 2 → t'.st = 2 → Why t f late last t' 2
  | fetch (t' : T) : t.st = 1 → t.fetched = false → t'.st = 2 → Why t f late last t' 2
  | none (t' : T) (a : Int) : (a = 0 ∨ a = 1) → t'.st = 1 → (t.st = 1 ∨ (t.st = 2 ∧ t'.fetched = true)) → (t.st = 1 → t'.fetched = t.fetched) → t.st ≠ 4 → t.st ≠ 3 → Why t f late last t' a

theorem look_cap (t : T) (now : Int) (f : F) : (look t now f).1.cap = t.cap ∧ (look t now f).1.bud = t.bud ∧ (look t now f).1.first = t.first ∧ (look t now f).1.begun = t.begun := by
  unfold look; repeat' split
  all_goals exact ⟨rfl, rfl, rfl, rfl⟩
theorem look_ok (t : T) (now : Int) (f : F) (h : t.ok) (hn : I64 now) : (look t now f).1.ok := by
  obtain ⟨h1, h2, h3, h4⟩ := h
  unfold look; repeat' split
  all_goals first | exact ⟨h1, h2, h3, hn⟩ | exact ⟨h1, h2, h3, h4⟩

theorem stepB_ok (t : T) (now : Int) (f : F) (h : t.ok) (hn : I64 now) : (stepB t now f).1.ok := by
  obtain ⟨h1, h2, h3, h4⟩ := h
  unfold stepB runM; repeat' split
  all_goals first | exact ⟨h1, h2, h3, h4⟩ | exact look_ok _ _ _ ⟨h1, h2, h3, h4⟩ hn
theorem stepM_ok (t : T) (now : Int) (f : F) (h : t.ok) (hn : I64 now) : (stepM t now f).1.ok := stepB_ok _ _ _ (T.begin_ok t now h hn) hn

theorem stepB_cap (t : T) (now : Int) (f : F) : (stepB t now f).1.cap = t.cap ∧ (stepB t now f).1.bud = t.bud ∧ (stepB t now f).1.first = t.first ∧ (stepB t now f).1.begun = t.begun := by
  unfold stepB runM; repeat' split
  all_goals first | exact ⟨rfl, rfl, rfl, rfl⟩ | exact look_cap _ _ _

theorem begin_first (t : T) (now : Int) : (t.begin now).first = if t.begun then t.first else now := by
  unfold T.begin; split <;> rfl
theorem begin_cap (t : T) (now : Int) : (t.begin now).cap = t.cap := by unfold T.begin; split <;> rfl
theorem begin_bud (t : T) (now : Int) : (t.begin now).bud = t.bud := by unfold T.begin; split <;> rfl
theorem begin_ans (t : T) (now : Int) : (t.begin now).ans = t.ans := by unfold T.begin; split <;> rfl
theorem begin_fetched (t : T) (now : Int) : (t.begin now).fetched = t.fetched := by unfold T.begin; split <;> rfl

theorem pastB_late {a b c : Int} (h : pastB a b c = true) (hc : 0 ≤ c) : b + c ≤ a := by
  unfold pastB at h; rw [decide_eq_true_eq] at h; omega

/-- A look: what may come of it. -/
theorem look_why (t0 t : T) (now : Int) (f : F) (last : Int) (late : Prop) (hs : t.st = 1) (h4 : t0.st ≠ 4) (h3 : t0.st ≠ 3) (hlate : pastB now t.first t.cap = true → late)
    (hf : (t0.st = 1 ∧ t.fetched = t0.fetched) ∨ (t0.st = 2 ∧ t.fetched = true)) : Why t0 f late last (look t now f).1 (look t now f).2 := by
  unfold look
  split
  · rename_i h
    rw [Bool.and_eq_true] at h
    rcases hf with ⟨h1, h2⟩ | ⟨_, h2⟩
    · refine .fetch _ h1 ?_ rfl
      rw [← h2]; simpa using h.2
    · rw [h2] at h; simp at h
  · split
    · rename_i h
      rw [Bool.or_eq_true] at h
      exact .run _ h4 (h.imp id hlate) rfl
    · split
      · exact .none _ _ (Or.inl rfl) hs (by rcases hf with h | h; exact Or.inl h.1; exact Or.inr h) (by rcases hf with h | h; exact fun _ => h.2; (intro h'; omega)) h4 h3
      · exact .none _ _ (Or.inr rfl) hs (by rcases hf with h | h; exact Or.inl h.1; exact Or.inr h) (by rcases hf with h | h; exact fun _ => h.2; (intro h'; omega)) h4 h3

theorem step_why (t : T) (now : Int) (f : F) (last : Int) (late : Prop) (hm : t.made) (hl : t.st = 4 → t.ans = last)
    (hlate : pastB now (t.begin now).first t.cap = true → late) : Why t f late last (stepM t now f).1 (stepM t now f).2 := by
  unfold stepM stepB
  rw [T.begin_st, begin_ans]
  split
  · rename_i h
    rw [show (t.begin now, t.ans).2 = last from hl h]
    exact .over _ h (by rw [T.begin_st]; exact h) (by rw [begin_ans]; exact hl h) (hl h)
  · rename_i h4
    split
    · rename_i h
      exact .done _ h4 (Or.inl h) rfl rfl
    · split
      · rename_i h3
        unfold runM
        split
        · rename_i h
          exact .done _ h4 (Or.inr h) rfl rfl
        · split
          · rename_i h
            exact .wrong _ h3 h rfl rfl
          · exact .runs _ h3 (by rw [T.begin_st]; exact h3)
      · rename_i h3
        split
        · rename_i h2
          split
          · exact look_why t _ now f last late rfl h4 h3 (by rw [← begin_cap t now] at hlate; exact hlate) (Or.inr ⟨h2, rfl⟩)
          · exact .goes _ h2 (by rw [T.begin_st]; exact h2)
        · rename_i h2
          have h1 : t.st = 1 := by unfold T.made at hm; omega
          exact look_why t _ now f last late (by rw [T.begin_st]; exact h1) h4 h3 (by rw [begin_cap]; exact hlate) (Or.inl ⟨h1, begin_fetched t now⟩)

/-- What is kept from step to step. -/
theorem Inv.next {c u : Int} {t t' : T} {first first' last a fs fs' : Int} {f : F} {late : Prop} (h : Inv c u t first last fs) (hw : Why t f late last t' a)
    (hc : t'.cap = t.cap) (hu : t'.bud = t.bud) (hok : t'.ok) (hf : t'.first = first')
    (hfs : fs' = if a = 2 ∧ last ≠ 2 then fs + 1 else fs) : Inv c u t' first' a fs' := by
  refine ⟨hc.trans h.cap, hu.trans h.bud, hok, fun _ => hf, ?_⟩
  have hcs := h.cases
  cases hw with
  | over h1 h2 h3 h4 => rw [if_neg (by omega)] at hfs; exact Or.inr (Or.inr (Or.inr ⟨h2, h3, by omega, by omega, by omega⟩))
  | done h1 h2 h3 h4 => rw [if_neg (by omega)] at hfs; exact Or.inr (Or.inr (Or.inr ⟨h3, h4, by omega, by omega, by omega⟩))
  | wrong h1 h2 h3 h4 => rw [if_neg (by omega)] at hfs; exact Or.inr (Or.inr (Or.inr ⟨h3, h4, by omega, by omega, by omega⟩))
  | runs h1 h2 => rw [if_neg (by omega)] at hfs; exact Or.inr (Or.inr (Or.inl ⟨h2, rfl, by omega, by omega⟩))
  | run h1 h2 h3 => rw [if_neg (by omega)] at hfs; exact Or.inr (Or.inr (Or.inl ⟨h3, rfl, by omega, by omega⟩))
  | goes h1 h2 => rw [if_neg (by omega)] at hfs; exact Or.inr (Or.inl ⟨h2, rfl, by omega⟩)
  | fetch h1 h2 h3 => rw [if_pos (by omega)] at hfs; exact Or.inr (Or.inl ⟨h3, rfl, by
      have h7 : t.fetched = false → fs = 0 := by
        rcases hcs with ⟨_, _, _, _, h⟩ | h | h | h
        · exact h
        all_goals omega
      have := h7 h2
      omega⟩)
  | none _ h1 h2 h3 h4 h5 h6 =>
    rw [if_neg (by omega)] at hfs
    refine Or.inl ⟨h2, h1, by omega, by omega, fun hf => ?_⟩
    rcases h3 with h3 | ⟨_, h3⟩
    · have h7 := h4 h3
      rw [h7] at hf
      have h8 : t.fetched = false → fs = 0 := by
        rcases hcs with ⟨_, _, _, _, h⟩ | h | h | h
        · exact h
        all_goals omega
      have := h8 hf
      omega
    · rw [h3] at hf; cases hf

end Go.Proofs.Ytcfpjlojknahlaa
