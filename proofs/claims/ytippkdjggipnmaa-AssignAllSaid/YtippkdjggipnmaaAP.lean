/-
  One peer always answers: plain facts on plans.
-/
import Derived.Test.YtippkdjggipnmaaQ2
namespace Go.Proofs.Ytippkdjggipnmaa
open Go.RowKit Go.Maps

def sumT (f : Nat → Int) : Nat → Int
  | 0 => 0
  | k + 1 => sumT f k + f k

theorem sumT_le {f : Nat → Int} : ∀ n, (∀ k, k < n → 0 ≤ f k ∧ f k ≤ 1) → 0 ≤ sumT f n ∧ sumT f n ≤ n
  | 0, _ => ⟨Int.le_refl _, Int.le_refl _⟩
  | n + 1, h => by
    have ih := sumT_le n (fun k hk => h k (by omega))
    have := h n (by omega)
    unfold sumT
    omega
theorem sumT_lt {f : Nat → Int} {g : Nat} : ∀ n, (∀ k, k < n → 0 ≤ f k ∧ f k ≤ 1) → g < n → f g = 0 → sumT f n + 1 ≤ n
  | 0, _, h, _ => by omega
  | n + 1, h, hg, h0 => by
    have hl := sumT_le n (fun k hk => h k (by omega))
    unfold sumT
    by_cases e : g = n
    · subst e; omega
    · have ih := sumT_lt n (fun k hk => h k (by omega)) (by omega) h0
      have := h n (by omega)
      omega
theorem sumT_congr {f f' : Nat → Int} : ∀ n, (∀ k, k < n → f' k = f k) → sumT f' n = sumT f n
  | 0, _ => rfl
  | n + 1, h => by unfold sumT; rw [sumT_congr n (fun k hk => h k (by omega)), h n (by omega)]
theorem sumT_one {f f' : Nat → Int} {j : Nat} : ∀ n, j < n → f' j = f j + 1 → (∀ k, k < n → k ≠ j → f' k = f k) → sumT f' n = sumT f n + 1
  | 0, h, _, _ => by omega
  | n + 1, hj, h1, h => by
    unfold sumT
    by_cases e : j = n
    · subst e
      rw [sumT_congr j (fun k hk => h k (by omega) (by omega)), h1]; omega
    · rw [sumT_one n (by omega) h1 (fun k hk hn => h k (by omega) hn), h n (by omega) (fun e' => e e'.symm)]; omega

/-- How often a chunk was asked. -/
def askedN (p : Pl) (c : Nat) : Int := sumT (fun k => p.ts c k) p.pe.length

structure AInv (g : Nat) (now : Int) (p : Pl) : Prop where
  lt : g < p.pe.length
  gd : p.pe[g]? = some ⟨0, 0⟩
  ts : ∀ (c : Nat) x, p.ch[c]? = some x → x.st ≠ 2 → ∀ k : Nat, k < p.pe.length → 0 ≤ p.ts c k ∧ p.ts c k ≤ 1 ∧ (k = g → p.ts c k = 0)
  ck : ∀ (c : Nat) x, p.ch[c]? = some x → x.st = 1 → x.pe ≠ g ∧ x.sn ≤ now ∧ now ≤ x.sn + p.tim ∧ x.sn + p.tim ≤ askedN p c * p.tim
  op : ∀ (c : Nat) x, p.ch[c]? = some x → x.st = 0 → now ≤ askedN p c * p.tim

theorem AInv.few {g : Nat} {now : Int} {p : Pl} (h : AInv g now p) {c : Nat} {x : Ck} (hx : p.ch[c]? = some x) (h2 : x.st ≠ 2) : 0 ≤ askedN p c ∧ askedN p c + 1 ≤ p.pe.length := by
  have ht := h.ts c x hx h2
  exact ⟨(sumT_le _ (fun k hk => ⟨(ht k hk).1, (ht k hk).2.1⟩)).1, sumT_lt _ (fun k hk => ⟨(ht k hk).1, (ht k hk).2.1⟩) h.lt ((ht g h.lt).2.2 rfl)⟩

theorem AInv.soon {g n : Nat} {now : Int} {p : Pl} (h : AInv g now p) (ho : p.ok n) {c : Nat} {x : Ck} (hx : p.ch[c]? = some x) (h2 : x.st ≠ 2) : now ≤ ((p.pe.length : Int) - 1) * p.tim := by
  obtain ⟨f0, f1⟩ := h.few hx h2
  have ht := ho.tim
  have hb : askedN p c * p.tim ≤ ((p.pe.length : Int) - 1) * p.tim := Int.mul_le_mul_of_nonneg_right (by omega) (by omega)
  have hxo := ho.cks x (List.mem_of_getElem? hx)
  rcases hxo with ⟨a, _⟩ | ⟨a, _⟩ | ⟨a, _⟩
  · have := h.op c x hx a; omega
  · have := (h.ck c x hx a).2.2; omega
  · exact absurd a h2

theorem late_iff {p : Pl} {x : Ck} {now : Int} : lateB p x now = true ↔ x.st = 1 ∧ x.sn ≤ now ∧ (p.tim ≤ 0 ∨ p.tim ≤ now - x.sn) := by
  unfold lateB pastB; simp

theorem sweepK_ch (p : Pl) (now : Int) : ∀ (k c : Nat), (sweepK p now k).ch[c]? = (p.ch[c]?).map (fun x => if c < k ∧ lateB p x now = true then ⟨0, 0, 0⟩ else x)
  | 0, c => by
    show p.ch[c]? = _
    cases p.ch[c]? with
    | none => rfl
    | some x => simp
  | k + 1, c => by
    have ih := sweepK_ch p now k
    have hk := ih k
    unfold sweepK
    split
    · rename_i hl
      rw [reopenM_ch]
      by_cases e : k = c
      · subst e
        cases hx : p.ch[k]? with
        | none =>
          rw [hx] at hk
          simp only [Option.map_none] at hk ⊢
          rw [List.getElem?_eq_none_iff] at hk ⊢
          rw [List.length_set]; exact hk
        | some x =>
          rw [hx] at hk
          simp only [Option.map_some, Nat.lt_irrefl, false_and, if_false] at hk
          rw [getD_of hk] at hl
          have hlen := (List.getElem?_eq_some_iff.1 hk).1
          rw [List.getElem?_set_self hlen]
          simp [hl]
      · rw [List.getElem?_set_ne e, ih c]
        cases p.ch[c]? with
        | none => rfl
        | some x =>
          simp only [Option.map_some, Option.some.injEq]
          by_cases h1 : c < k
          · simp [h1, show c < k + 1 by omega]
          · simp [h1, show ¬ c < k + 1 by omega]
    · rename_i hl
      rw [ih c]
      cases hx : p.ch[c]? with
      | none => rfl
      | some x =>
        simp only [Option.map_some, Option.some.injEq]
        by_cases h1 : c < k
        · simp [h1, show c < k + 1 by omega]
        · by_cases e : c = k
          · subst e
            rw [hx] at hk
            simp only [Option.map_some, Nat.lt_irrefl, false_and, if_false] at hk
            rw [getD_of hk] at hl
            simp [hl]
          · simp [h1, show ¬ c < k + 1 by omega]

theorem sweepK_pe {p : Pl} {g n : Nat} (now : Int) (ho : p.ok n) (h : ∀ (c : Nat) x, p.ch[c]? = some x → x.st = 1 → x.pe ≠ g) : ∀ k, (sweepK p now k).pe[g]? = p.pe[g]?
  | 0 => rfl
  | k + 1 => by
    have ih := sweepK_pe now ho h k
    have hc := sweepK_ch p now k k
    unfold sweepK
    split
    · rename_i hl
      cases hx : p.ch[k]? with
      | none =>
        rw [hx] at hc
        rw [List.getD_eq_getElem?_getD, hc] at hl
        exact absurd (late_iff.1 hl).1 (by show ¬ (0 : Int) = 1; decide)
      | some x =>
        rw [hx] at hc
        simp only [Option.map_some, Nat.lt_irrefl, false_and, if_false] at hc
        rw [getD_of hc] at hl
        have h1 := (late_iff.1 hl).1
        have hne := h k x hx h1
        have hxo := ho.cks x (List.mem_of_getElem? hx)
        have h0 : 0 ≤ x.pe := by unfold Ck.ok at hxo; omega
        unfold reopenM reopenAt
        rw [getD_of hc, List.getElem?_set_ne (by omega)]
        exact ih
    · exact ih

theorem sweepM_ch {p : Pl} {now : Int} {c : Nat} {x : Ck} (h : (sweepM p now).ch[c]? = some x) : ∃ y, p.ch[c]? = some y ∧ ((lateB p y now = true ∧ x = ⟨0, 0, 0⟩) ∨ (lateB p y now = false ∧ x = y)) := by
  unfold sweepM at h
  rw [sweepK_ch] at h
  cases hy : p.ch[c]? with
  | none => rw [hy] at h; cases h
  | some y =>
    rw [hy] at h
    have hlt := (List.getElem?_eq_some_iff.1 hy).1
    simp only [Option.map_some, Option.some.injEq, hlt, true_and] at h
    refine ⟨y, rfl, ?_⟩
    cases hl : lateB p y now with
    | true => rw [hl, if_pos rfl] at h; exact .inl ⟨rfl, h.symm⟩
    | false => rw [hl] at h; exact .inr ⟨rfl, by simpa using h.symm⟩

theorem sweep_facts (p : Pl) (now : Int) : (sweepM p now).ch.length = p.ch.length ∧ (sweepM p now).pe.length = p.pe.length ∧ (sweepM p now).win = p.win ∧ (sweepM p now).tim = p.tim ∧ (sweepM p now).ts = p.ts := sweepK_len p now _

theorem askedN_sweep (p : Pl) (now : Int) (c : Nat) : askedN (sweepM p now) c = askedN p c := by
  obtain ⟨_, h2, _, _, h5⟩ := sweep_facts p now
  unfold askedN; rw [h2, h5]

theorem AInv.sweep {g n : Nat} {now : Int} {p : Pl} (h : AInv g now p) (ho : p.ok n) : AInv g now (sweepM p now) ∧ ∀ (c : Nat) x, (sweepM p now).ch[c]? = some x → x.st = 1 → now + 1 ≤ x.sn + p.tim := by
  obtain ⟨h1, h2, h3, h4, h5⟩ := sweep_facts p now
  have ht := ho.tim
  refine ⟨⟨by rw [h2]; exact h.lt, ?_, ?_, ?_, ?_⟩, ?_⟩
  · exact (sweepK_pe now ho (fun c x hx hs => (h.ck c x hx hs).1) _).trans h.gd
  · intro c x hx h2' k hk
    rw [h5]
    rw [h2] at hk
    obtain ⟨y, hy, hh⟩ := sweepM_ch hx
    rcases hh with ⟨hl, _⟩ | ⟨_, rfl⟩
    · exact h.ts c y hy (by have := (late_iff.1 hl).1; omega) k hk
    · exact h.ts c x hy h2' k hk
  · intro c x hx hs
    obtain ⟨y, hy, hh⟩ := sweepM_ch hx
    rcases hh with ⟨_, rfl⟩ | ⟨_, rfl⟩
    · exact absurd hs (by decide)
    · rw [h4, askedN_sweep]; exact h.ck c x hy hs
  · intro c x hx hs
    obtain ⟨y, hy, hh⟩ := sweepM_ch hx
    rw [h4, askedN_sweep]
    rcases hh with ⟨hl, rfl⟩ | ⟨_, rfl⟩
    · have hl := late_iff.1 hl
      have := h.ck c y hy hl.1
      omega
    · exact h.op c x hy hs
  · intro c x hx hs
    obtain ⟨y, hy, hh⟩ := sweepM_ch hx
    rcases hh with ⟨_, rfl⟩ | ⟨hl, rfl⟩
    · exact absurd hs (by decide)
    · have hc := h.ck c x hy hs
      by_cases hq : now + 1 ≤ x.sn + p.tim
      · exact hq
      · have : lateB p x now = true := late_iff.2 ⟨hs, hc.2.1, .inr (by omega)⟩
        rw [hl] at this; cases this

theorem cmpL_head1 {a b : Int} {A B : List Int} (h : 0 ≤ cmpL (a :: A) (b :: B)) : b ≤ a := by
  by_cases e : a < b
  · unfold cmpL at h; rw [cmpI, if_pos e, if_pos (by decide)] at h; exact absurd h (by decide)
  · omega
theorem cmpL_head2 {a b : Int} {A B : List Int} (h : ¬ 0 ≤ cmpL (a :: A) (b :: B)) : a ≤ b := by
  by_cases e : b < a
  · exfalso
    apply h
    unfold cmpL
    have : cmpI a b = 1 := by unfold cmpI; rw [if_neg (by omega), if_pos e]
    rw [this, if_pos (by decide)]; decide
  · omega

theorem fitK_least (p : Pl) (c : Nat) : ∀ K j, fitK p c K = some j → ∀ k, k < K → fitsB p k = true → p.ts c j ≤ p.ts c k
  | 0, _, h, _, _, _ => by cases h
  | K + 1, j, h, k, hk, hf => by
    unfold fitK at h
    split at h
    · unfold fitNext at h
      split at h
      · rename_i hn
        cases h
        by_cases e : k = K
        · subst e; exact Int.le_refl _
        · exfalso
          have : ∀ K k, k < K → fitsB p k = true → fitK p c K ≠ none := by
            intro K
            induction K with
            | zero => intro k hk; omega
            | succ K ih =>
              intro k hk hf
              unfold fitK
              by_cases e : k = K
              · subst e
                rw [if_pos hf]
                unfold fitNext
                split
                · simp
                · split <;> simp
              · split
                · unfold fitNext
                  split
                  · simp
                  · split <;> simp
                · exact ih k (by omega) hf
          exact this K k (by omega) hf hn
      · rename_i i hi
        have ih := fitK_least p c K i hi
        split at h
        · rename_i hc
          cases h
          by_cases e : k = K
          · subst e; exact cmpL_head1 hc
          · exact ih k (by omega) hf
        · rename_i hc
          cases h
          by_cases e : k = K
          · subst e; exact Int.le_refl _
          · have h1 := cmpL_head2 hc
            have h2 := ih k (by omega) hf
            exact Int.le_trans h1 h2
    · rename_i hn
      by_cases e : k = K
      · subst e; exact absurd hf hn
      · exact fitK_least p c K j h k (by omega) hf

theorem fitK_some (p : Pl) (c : Nat) : ∀ K k, k < K → fitsB p k = true → ∃ j, fitK p c K = some j := by
  intro K
  induction K with
  | zero => intro k hk; omega
  | succ K ih =>
    intro k hk hf
    unfold fitK
    by_cases e : k = K
    · subst e
      rw [if_pos hf]
      unfold fitNext
      split
      · exact ⟨_, rfl⟩
      · split <;> exact ⟨_, rfl⟩
    · obtain ⟨j, hj⟩ := ih k (by omega) hf
      split
      · rw [hj]
        unfold fitNext
        simp only
        split <;> exact ⟨_, rfl⟩
      · exact ⟨j, hj⟩

end Go.Proofs.Ytippkdjggipnmaa
