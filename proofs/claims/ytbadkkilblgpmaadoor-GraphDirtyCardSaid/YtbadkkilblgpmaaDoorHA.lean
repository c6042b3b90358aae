/-
  What is dirty: the mathematics of GraphDirty.
-/
import Derived.Test.YtbadkkilblgpmaaDoorGX3
import Derived.Sort.Walk0
namespace Go.Proofs.YtbadkkilblgpmaaDoor
open Go.RowKit Go.Maps

def LeM (f g : List UInt8 → Int) : Prop := ∀ s, 0 < f s → 0 < g s
theorem LeM.mark1 {f g : List UInt8 → Int} (hh : LeM f g) (t : Tgt) : LeM (mark1 f t) (mark1 g t) := fun s h => by
  rw [mark1_pos] at h ⊢
  rcases h with h | ⟨e, d, hd, h⟩
  · exact .inl (hh s h)
  · exact .inr ⟨e, d, hd, hh d h⟩
theorem LeM.markL (L : List Tgt) : ∀ {f g : List UInt8 → Int}, LeM f g → LeM (markL f L) (markL g L) := by
  induction L with
  | nil => exact id
  | cons t L ih => exact fun hh => ih (hh.mark1 t)
theorem LeM.markN (L : List Tgt) {f g : List UInt8 → Int} (hh : LeM f g) : ∀ k, LeM (markN L k f) (markN L k g)
  | 0 => hh
  | k + 1 => (LeM.markN L hh k).markL L
theorem markL_why (L : List Tgt) : ∀ {f : List UInt8 → Int} {s : List UInt8}, 0 < markL f L s → 0 < f s ∨ ∃ t, t ∈ L ∧ s = t.n ∧ ∃ d, d ∈ t.D ∧ 0 < markL f L d := by
  induction L with
  | nil => exact fun h => .inl h
  | cons t L ih =>
    intro f s h
    rcases ih (f := mark1 f t) h with h1 | ⟨t2, ht2, e, d, hd, h1⟩
    · rcases mark1_pos.1 h1 with h2 | ⟨e, d, hd, h2⟩
      · exact .inl h2
      · exact .inr ⟨t, List.mem_cons_self, e, d, hd, markL_mono (t :: L) h2⟩
    · exact .inr ⟨t2, List.mem_cons_of_mem _ ht2, e, d, hd, h1⟩
theorem markN_why (L : List Tgt) {f : List UInt8 → Int} : ∀ (k : Nat) {s : List UInt8}, 0 < markN L k f s → 0 < f s ∨ ∃ t, t ∈ L ∧ s = t.n ∧ ∃ d, d ∈ t.D ∧ 0 < markN L k f d
  | 0, s, h => .inl h
  | k + 1, s, h => by
    rcases markL_why L h with h1 | h1
    · rcases markN_why L k h1 with h2 | ⟨t, ht, e, d, hd, h2⟩
      · exact .inl h2
      · exact .inr ⟨t, ht, e, d, hd, markL_mono L h2⟩
    · exact .inr h1
theorem markL_at (L : List Tgt) : ∀ {f : List UInt8 → Int} {t : Tgt} {d : List UInt8}, t ∈ L → d ∈ t.D → 0 < f d → 0 < markL f L t.n := by
  induction L with
  | nil => exact fun h => absurd h List.not_mem_nil
  | cons t0 L ih =>
    intro f t d ht hd h
    rcases List.mem_cons.1 ht with rfl | ht
    · exact markL_mono L (mark1_pos.2 (.inr ⟨rfl, d, hd, h⟩))
    · exact ih ht hd (mark1_pos.2 (.inl h))
theorem countP_less {α : Type} {p q : α → Bool} : ∀ {L : List α}, (∀ t ∈ L, p t = true → q t = true) → (∃ t ∈ L, q t = true ∧ p t = false) → L.countP p < L.countP q
  | [], _, h => by obtain ⟨t, ht, _⟩ := h; cases ht
  | a :: L, h, ⟨t, ht, hq, hp⟩ => by
    have hle : L.countP p ≤ L.countP q := List.countP_mono_left fun x hx hpx => h x (List.mem_cons_of_mem _ hx) hpx
    rcases List.mem_cons.1 ht with rfl | ht
    · rw [List.countP_cons_of_neg (by simp [hp]), List.countP_cons_of_pos hq]
      omega
    · have h1 := countP_less (fun x hx hpx => h x (List.mem_cons_of_mem _ hx) hpx) ⟨t, ht, hq, hp⟩
      rw [List.countP_cons, List.countP_cons]
      have h2 := h a List.mem_cons_self
      cases e : p a
      · simp; omega
      · rw [h2 e]; simp; omega
def cntM (L : List Tgt) (f : List UInt8 → Int) : Nat := L.countP fun t => decide (0 < f t.n)
theorem mark_fix_step (L : List Tgt) (f : List UInt8 → Int) : LeM (markL f L) f ∨ cntM L f < cntM L (markL f L) := by
  by_cases h : ∀ t ∈ L, 0 < markL f L t.n → 0 < f t.n
  · refine .inl fun s hs => ?_
    rcases markL_why L hs with h1 | ⟨t, ht, rfl, _⟩
    · exact h1
    · exact h t ht hs
  · refine .inr (countP_less (fun t _ hp => ?_) ?_)
    · rw [decide_eq_true_eq] at hp ⊢
      exact markL_mono L hp
    · simp only [Classical.not_forall] at h
      obtain ⟨t, ht, h1, h2⟩ := h
      exact ⟨t, ht, decide_eq_true h1, decide_eq_false h2⟩
theorem mark_fix (L : List Tgt) (f : List UInt8 → Int) : LeM (markL (markN L L.length f) L) (markN L L.length f) := by
  have h : ∀ k, LeM (markL (markN L k f) L) (markN L k f) ∨ k ≤ cntM L (markN L k f) := by
    intro k
    induction k with
    | zero => exact .inr (Nat.zero_le _)
    | succ k ih =>
      rcases ih with ih | ih
      · exact .inl (ih.markL L)
      · rcases mark_fix_step L (markN L k f) with h | h
        · exact .inl (h.markL L)
        · exact .inr (Nat.lt_of_le_of_lt ih h)
  rcases h L.length with h | h
  · exact h
  · intro s hs
    rcases markL_why L hs with h1 | ⟨t, ht, rfl, _⟩
    · exact h1
    · unfold cntM at h
      have h2 := List.countP_eq_length.1 (Nat.le_antisymm List.countP_le_length h) t ht
      simpa using h2
/-- What is dirty: what has changed, and what stands on something dirty. -/
theorem dirty_iff {L : List Tgt} (hdis : L.Pairwise fun a b => a.n ≠ b.n) {S : List (List UInt8)} {t : Tgt} (ht : t ∈ L) : t.n ∈ dirtyL L S ↔ t.n ∈ S ∨ ∃ d, d ∈ t.D ∧ (d ∈ dirtyL L S ∨ d ∈ S) := by
  have hz : ∀ s, 0 < updAll (fun _ => 0) S s ↔ s ∈ S := fun s => by
    rw [updAll_pos]
    exact ⟨fun h => h.elim id fun h => absurd h (by decide), .inl⟩
  rw [dirty_mem]
  constructor
  · rintro ⟨-, h⟩
    rcases markN_why L L.length h with h1 | ⟨t2, ht2, e, d, hd, h1⟩
    · exact .inl ((hz _).1 h1)
    · have e2 : t2 = t := by
        obtain ⟨i, hi, rfl⟩ := List.getElem_of_mem ht
        obtain ⟨j, hj, rfl⟩ := List.getElem_of_mem ht2
        rw [List.pairwise_iff_getElem] at hdis
        rcases Nat.lt_trichotomy i j with h2 | h2 | h2
        · exact absurd e (hdis i j hi hj h2)
        · subst h2; rfl
        · exact absurd e.symm (hdis j i hj hi h2)
      subst e2
      refine .inr ⟨d, hd, ?_⟩
      rcases markN_why L L.length h1 with h2 | ⟨t3, ht3, rfl, -⟩
      · exact .inr ((hz _).1 h2)
      · exact .inl (dirty_mem.2 ⟨⟨t3, ht3, rfl⟩, h1⟩)
  · intro h
    refine ⟨⟨t, ht, rfl⟩, ?_⟩
    rcases h with h | ⟨d, hd, h⟩
    · exact markN_mono L ((hz _).2 h) L.length
    · refine mark_fix L _ _ (markL_at L ht hd ?_)
      rcases h with h | h
      · exact (dirty_mem.1 h).2
      · exact markN_mono L ((hz _).2 h) L.length
/-- More that has changed makes no less dirty. -/
theorem dirty_more {L : List Tgt} {S : List (List UInt8)} {m s : List UInt8} (h : s ∈ dirtyL L S) : s ∈ dirtyL L (S ++ [m]) := by
  rw [dirty_mem] at h ⊢
  refine ⟨h.1, LeM.markN L (fun x hx => ?_) L.length s h.2⟩
  rw [updAll_pos] at hx ⊢
  rcases hx with hx | hx
  · exact .inl (List.mem_append_left _ hx)
  · exact .inr hx
/-- One where the text is among those. -/
def isF (S : List (List UInt8)) : List UInt8 → Int := updAll (fun _ => 0) S
theorem isF_eq : ∀ (S : List (List UInt8)) (s : List UInt8), isF S s = if s ∈ S then 1 else 0 := by
  have h : ∀ (S : List (List UInt8)) (f : List UInt8 → Int) (s : List UInt8), updAll f S s = if s ∈ S then 1 else f s := by
    intro S
    induction S with
    | nil => intro f s; rw [if_neg List.not_mem_nil]; rfl
    | cons x S ih =>
      intro f s
      show updAll (updS f x 1) S s = _
      rw [ih]
      unfold updS
      by_cases h1 : s ∈ S
      · rw [if_pos h1, if_pos (List.mem_cons_of_mem _ h1)]
      · rw [if_neg h1]
        by_cases h2 : s = x
        · rw [if_pos h2, if_pos (by rw [h2]; exact List.mem_cons_self)]
        · rw [if_neg h2, if_neg (by rw [List.mem_cons]; exact fun h => h.elim h2 h1)]
  exact fun S s => h S _ s
/-- The greatest of what is told of a target's deps. -/
def wantF (f g : List UInt8 → Int) (z : Int) (D : List (List UInt8)) : Int := D.foldl (fun a x => max (max a (f x)) (g x)) z
theorem wantF_step {f g : List UInt8 → Int} {z : Int} {D : List (List UInt8)} {k : Nat} {s : List UInt8} (h : D[k]? = some s) : wantF f g z (D.take (k + 1)) = max (max (wantF f g z (D.take k)) (f s)) (g s) := by
  unfold wantF
  rw [List.take_add_one, h, List.foldl_append]
  rfl
theorem wantF_bnd {S T : List (List UInt8)} : ∀ (D : List (List UInt8)) (z : Int), 0 ≤ z → z ≤ 1 → 0 ≤ wantF (isF S) (isF T) z D ∧ wantF (isF S) (isF T) z D ≤ 1 ∧ (wantF (isF S) (isF T) z D = 1 ↔ z = 1 ∨ ∃ d, d ∈ D ∧ (d ∈ S ∨ d ∈ T))
  | [], z, h0, h1 => ⟨h0, h1, ⟨.inl, fun h => h.elim id fun ⟨d, hd, _⟩ => absurd hd List.not_mem_nil⟩⟩
  | x :: D, z, h0, h1 => by
    have hx : ∀ S, isF S x = 0 ∧ x ∉ S ∨ isF S x = 1 ∧ x ∈ S := fun S => by
      rw [isF_eq]
      by_cases h : x ∈ S
      · rw [if_pos h]; exact .inr ⟨rfl, h⟩
      · rw [if_neg h]; exact .inl ⟨rfl, h⟩
    have h2 := wantF_bnd (S := S) (T := T) D (max (max z (isF S x)) (isF T x)) (by omega) (by rcases hx S with ⟨e, _⟩ | ⟨e, _⟩ <;> rcases hx T with ⟨e2, _⟩ | ⟨e2, _⟩ <;> omega)
    refine ⟨h2.1, h2.2.1, h2.2.2.trans ?_⟩
    constructor
    · rintro (h | ⟨d, hd, h⟩)
      · rcases hx S with ⟨e, _⟩ | ⟨e, e3⟩
        · rcases hx T with ⟨e2, _⟩ | ⟨e2, e4⟩
          · exact .inl (by omega)
          · exact .inr ⟨x, List.mem_cons_self, .inr e4⟩
        · exact .inr ⟨x, List.mem_cons_self, .inl e3⟩
      · exact .inr ⟨d, List.mem_cons_of_mem _ hd, h⟩
    · rintro (h | ⟨d, hd, h⟩)
      · refine .inl ?_
        rcases hx S with ⟨e, _⟩ | ⟨e, _⟩ <;> rcases hx T with ⟨e2, _⟩ | ⟨e2, _⟩ <;> omega
      · rcases List.mem_cons.1 hd with rfl | hd
        · refine .inl ?_
          rcases h with h | h
          · rcases hx S with ⟨_, e⟩ | ⟨e, _⟩
            · exact absurd h e
            · rcases hx T with ⟨e2, _⟩ | ⟨e2, _⟩ <;> omega
          · rcases hx T with ⟨_, e⟩ | ⟨e, _⟩
            · exact absurd h e
            · rcases hx S with ⟨e2, _⟩ | ⟨e2, _⟩ <;> omega
        · exact .inr ⟨d, hd, h⟩
/-- The law's round. -/
theorem want_is {L : List Tgt} (hdis : L.Pairwise fun a b => a.n ≠ b.n) {S : List (List UInt8)} {t : Tgt} (ht : t ∈ L) : wantF (isF (dirtyL L S)) (isF S) (isF S t.n) t.D = isF (dirtyL L S) t.n := by
  have hb : 0 ≤ isF S t.n ∧ isF S t.n ≤ 1 ∧ (isF S t.n = 1 ↔ t.n ∈ S) := by
    rw [isF_eq]
    by_cases h : t.n ∈ S
    · rw [if_pos h]; exact ⟨by decide, by decide, ⟨fun _ => h, fun _ => rfl⟩⟩
    · rw [if_neg h]; exact ⟨by decide, by decide, ⟨fun e => absurd e (by decide), fun e => absurd e h⟩⟩
  obtain ⟨h0, h1, h2⟩ := wantF_bnd (S := dirtyL L S) (T := S) t.D _ hb.1 hb.2.1
  rw [hb.2.2, ← dirty_iff hdis ht] at h2
  rw [isF_eq (dirtyL L S)]
  by_cases h : t.n ∈ dirtyL L S
  · rw [if_pos h, h2.2 h]
  · rw [if_neg h]
    have h3 : wantF (isF (dirtyL L S)) (isF S) (isF S t.n) t.D ≠ 1 := fun e => h (h2.1 e)
    omega
theorem is_wide {L : List Tgt} {S : List (List UInt8)} {m s : List UInt8} : isF (dirtyL L S) s ≤ isF (dirtyL L (S ++ [m])) s := by
  rw [isF_eq, isF_eq]
  by_cases h : s ∈ dirtyL L S
  · rw [if_pos h, if_pos (dirty_more h)]; exact Int.le_refl _
  · rw [if_neg h]
    split <;> decide
theorem isF_bnd (S : List (List UInt8)) (s : List UInt8) : 0 ≤ isF S s ∧ isF S s ≤ 1 := by
  rw [isF_eq]
  split <;> decide
theorem sortS_le (R : List (List UInt8)) : (sortS R).Pairwise fun x y => x ≤ y := by
  have h := List.pairwise_mergeSort (le := fun (x y : List UInt8) => decide (x ≤ y)) (fun a b c h1 h2 => by
    rw [decide_eq_true_eq] at h1 h2 ⊢
    exact List.le_trans h1 h2) (fun a b => by
    rw [Bool.or_eq_true, decide_eq_true_eq, decide_eq_true_eq]
    exact List.le_total a b) R
  exact h.imp fun h => by rwa [decide_eq_true_eq] at h
theorem sortS_lt {R : List (List UInt8)} (h : R.Nodup) : (sortS R).Pairwise fun x y => x < y := by
  have h2 : (sortS R).Nodup := (sortS_perm R).nodup_iff.2 h
  refine (List.Pairwise.and (sortS_le R) h2).imp fun ⟨h1, h3⟩ => ?_
  exact Std.lt_of_le_of_ne h1 h3
theorem less_lt (x y : List UInt8) (h : x < y) : Op.bytesLess x y = true := by rw [bytesLess_eq, decide_eq_true h]
theorem dirty_less {L : List Tgt} (hdis : L.Pairwise fun a b => a.n ≠ b.n) (S : List (List UInt8)) {k : Nat} {s t : List UInt8} (hs : (dirtyL L S)[k]? = some s) (ht : (dirtyL L S)[k + 1]? = some t) : Op.bytesLess s t = true := by
  have h1 := dirty_nodup hdis S
  unfold dirtyL at h1 hs ht
  rw [(sortS_perm _).nodup_iff] at h1
  have h2 := List.pairwise_iff_getElem.1 (sortS_lt h1)
  obtain ⟨a, rfl⟩ := List.getElem?_eq_some_iff.1 hs
  obtain ⟨b, rfl⟩ := List.getElem?_eq_some_iff.1 ht
  exact less_lt _ _ (h2 k (k + 1) a b (Nat.lt_succ_self _))
end Go.Proofs.YtbadkkilblgpmaaDoor
