/-
  What stands never grows less: plain facts.
-/
import Derived.Test.YtiehbbbncmdchaaO
namespace Go.Proofs.Ytiehbbbncmdchaa

/-- From m to m' nothing that stands has grown less; who it is, and how many there are, has stayed. -/
structure Grew (m m' : M) : Prop where
  self : m'.self = m.self
  count : m'.count = m.count
  stand : ∀ (i : Nat) (u v : U), i < m.count → m.stand[i]? = some u → m'.stand[i]? = some v → greater u v = false

/-- Oneself is alive. -/
def M.alive (m : M) : Prop := ∀ v, m.stand[m.self]? = some v → v.st = 1

theorem greater_self (u : U) : greater u u = false := by unfold greater; rw [decide_eq_false_iff_not]; omega

theorem at_grew (s c i : Nat) (u x : U) (hx : x.inc ≤ 1099511627776) : greater x (at_ s c i u x) = false := by
  unfold at_
  split
  · split
    · rw [answered_eq _ _ hx]; unfold greater; rw [decide_eq_false_iff_not]; dsimp only; omega
    · split
      · rename_i h
        unfold greater at *
        rw [decide_eq_true_eq] at h
        rw [decide_eq_false_iff_not]
        omega
      · exact greater_self x
  · exact greater_self x

theorem hear_grew (m : M) (u : U) (ho : m.ok) : Grew m (heard m u) := by
  refine ⟨heard_self m u, heard_count m u, fun i x y hi hx hy => ?_⟩
  rw [heard_get, hx] at hy
  obtain rfl := Option.some.inj hy
  exact at_grew _ _ _ _ _ (ho.node i x hx hi).2.2.2

theorem hear_alive (m : M) (u : U) (ha : m.alive) : (heard m u).alive := by
  intro v hv
  rw [heard_self, heard_get] at hv
  cases hl : m.stand[m.self]? with
  | none => rw [hl] at hv; cases hv
  | some x =>
    rw [hl] at hv
    obtain rfl := Option.some.inj hv
    have hx := ha x hl
    unfold at_
    split
    · rename_i h
      rw [if_pos h.2.2.2]
      exact hx
    · exact hx

theorem turn_grew (m : M) (n f t : Int) (hft : f < t) : Grew m (m.turn n f t).1 := by
  unfold M.turn
  split
  · rename_i h
    obtain ⟨k, rfl⟩ := Int.eq_ofNat_of_zero_le h.1
    rw [Int.toNat_natCast] at *
    refine ⟨rfl, rfl, fun i x y _ hx hy => ?_⟩
    dsimp only [M.put] at hy
    by_cases hki : k = i
    · subst hki
      have hl := (List.getElem?_eq_some_iff.1 hx).1
      rw [List.getElem?_set_self hl] at hy
      obtain rfl := Option.some.inj hy
      have hg : m.stand.getD k default = x := by rw [List.getD_eq_getElem?_getD, hx]; rfl
      rw [hg] at h ⊢
      unfold greater
      rw [decide_eq_false_iff_not]
      dsimp only
      omega
    · rw [List.getElem?_set_ne hki, hx] at hy
      obtain rfl := Option.some.inj hy
      exact greater_self x
  · exact ⟨rfl, rfl, fun i x y _ hx hy => by rw [hx] at hy; obtain rfl := Option.some.inj hy; exact greater_self x⟩

theorem turn_alive (m : M) (n f t : Int) (ha : m.alive) : (m.turn n f t).1.alive := by
  unfold M.turn
  split
  · rename_i h
    intro v hv
    dsimp only [M.put] at hv
    rw [List.getElem?_set_ne (by omega)] at hv
    exact ha v hv
  · exact ha

/-- Who hears that oneself is not alive says something greater. -/
theorem hear_answers (m : M) (u v : U) (hf : U.fine m u) (hs : u.node = m.self) (h1 : u.st ≠ 1) (hi : u.inc < 1099511627776) (hv : (heard m u).stand[m.self]? = some v) : u.inc < v.inc := by
  rw [heard_get] at hv
  cases hl : m.stand[m.self]? with
  | none => rw [hl] at hv; cases hv
  | some x =>
    rw [hl] at hv
    obtain rfl := Option.some.inj hv
    unfold at_
    rw [if_pos ⟨hf.1, hf.2.1, hf.2.2, hs⟩, if_pos hs]
    show u.inc < answered x.inc u
    unfold answered
    rw [if_neg h1]
    split <;> omega

theorem M.ok.me {m : M} (h : m.ok) : ∃ v, m.stand[m.self]? = some v := h.get h.own

theorem hear_err (m : M) (u : U) : (hear m u).2.2 = if U.fine m u then 0 else 2 := by
  unfold hear; split <;> rfl

theorem fresh_alive (s c : Nat) (inc : Int) (hs : s < c) (hc : c ≤ 16) : (M.fresh s c inc).alive := by
  intro v hv
  have hl : s < (M.making s c c).stand.length := by simp [M.making]; omega
  have e : (M.fresh s c inc).stand[s]? = some ⟨s, 1, inc⟩ := by
    show ((M.making s c c).stand.set s ⟨s, 1, inc⟩)[s]? = _
    rw [List.getElem?_set_self hl]
  have hv' : (M.fresh s c inc).stand[s]? = some v := hv
  rw [e] at hv'
  obtain rfl := Option.some.inj hv'
  rfl

end Go.Proofs.Ytiehbbbncmdchaa
