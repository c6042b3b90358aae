/-
  Keys are apart: plain.
-/
import Derived.Test.YtnpmfigcfikdgaaU
namespace Go.Proofs.Ytnpmfigcfikdgaa
open Go.RowKit

/-- What is told of any key but one is as it was. -/
def Apart (B B' : Bk) (d0 : Dig) (now : Int) : Prop := ∀ d, d ≠ d0 → liveM B' d now = liveM B d now ∧ mineB B' d = mineB B d

theorem live_of {B B' : Bk} {d : Dig} {now : Int} (h : ∀ j : Nat, liveAt B' d now j = liveAt B d now j) : liveM B' d now = liveM B d now := by
  unfold liveM
  rw [show liveAt B' d now = liveAt B d now from funext h]

theorem try_apart (B : Bk) (d0 : Dig) (now : Int) : Apart B (tryM B d0 now).1 d0 now := by
  intro d hd
  cases hl : liveM B d0 now with
  | some k => rw [tryM_live hl]; exact ⟨rfl, rfl⟩
  | none =>
    cases hm : B.mine d0 with
    | some x => rw [tryM_had hl hm]; exact ⟨rfl, rfl⟩
    | none =>
      rw [tryM_new hl hm]
      refine ⟨live_of fun j => rfl, ?_⟩
      show (putF B.mine d0 _ d).isSome = (B.mine d).isSome
      rw [putF_other _ _ hd]

theorem drop_apart (B : Bk) (d0 : Dig) (now : Int) : Apart B (dropM B d0).1 d0 now := by
  intro d hd
  cases hm : B.mine d0 with
  | none => rw [dropM_none hm]; exact ⟨rfl, rfl⟩
  | some x =>
    rw [dropM_some hm]
    refine ⟨live_of fun j => rfl, ?_⟩
    show (putF B.mine d0 _ d).isSome = (B.mine d).isSome
    rw [putF_other _ _ hd]

theorem after_apart (B : Bk) (c : Cl) (now : Int) : Apart B (afterM B c now) c.d now := by
  intro d hd
  refine ⟨live_of fun j => ?_, rfl⟩
  show (match putF (forgetF B.lea now B.ttl) (c.d, c.node) _ (d, (j : Int)) with | none => false | some x => !pastB now x B.ttl) = (match B.lea (d, (j : Int)) with | none => false | some x => !pastB now x B.ttl)
  rw [putF_other _ _ (by intro e; exact hd (congrArg Prod.fst e))]
  unfold forgetF
  cases h : B.lea (d, (j : Int)) with
  | none => rfl
  | some x =>
    simp only
    by_cases hp : pastB now x B.ttl = true
    · rw [if_pos hp, hp]; rfl
    · rw [if_neg hp]

theorem hear_apart (B : Bk) (c : Cl) (now : Int) : Apart B (hearM B c now).1 c.d now := by
  unfold hearM
  split
  · split
    · exact fun d _ => ⟨rfl, rfl⟩
    · split
      · intro d hd
        have h1 := after_apart B c now d hd
        have h2 := drop_apart (afterM B c now) c.d now d hd
        exact ⟨h2.1.trans h1.1, h2.2.trans h1.2⟩
      · exact after_apart B c now
  · exact fun d _ => ⟨rfl, rfl⟩

theorem keyDig_ne {k m : Int} (hk : 0 ≤ k ∧ k ≤ 255) (hm : 0 ≤ m ∧ m ≤ 255) (h : k ≠ m) : keyDig k hk ≠ keyDig m hm := by
  intro e
  have h1 : (keyDig k hk).bs = (keyDig m hm).bs := by rw [e]
  unfold keyDig at h1
  simp at h1
  exact h h1

/-- What is told of key number j. -/
def kd3 (j : Nat) : Dig := if h : j ≤ 255 then keyDig (j : Int) ⟨by omega, by omega⟩ else keyDig 0 ⟨by omega, by omega⟩
theorem kd3_is (j : Nat) (h : j < 3) : kd3 j = keyDig (j : Int) ⟨by omega, by omega⟩ := by unfold kd3; rw [dif_pos (by omega)]
noncomputable def nodeV (B : Bk) (now : Int) (j : Nat) : Int := match liveM B (kd3 j) now with | none => 0 | some c => c
noncomputable def liveV (B : Bk) (now : Int) (j : Nat) : Int := match liveM B (kd3 j) now with | none => 0 | some _ => 1
def mineV (B : Bk) (j : Nat) : Int := if mineB B (kd3 j) = true then 1 else 0

theorem Apart.vals {B B' : Bk} {k : Int} (hk : 0 ≤ k ∧ k ≤ 255) {now : Int} (h : Apart B B' (keyDig k hk) now) (j : Nat) (hj : j < 3) (hjk : (j : Int) ≠ k) :
    nodeV B' now j = nodeV B now j ∧ liveV B' now j = liveV B now j ∧ mineV B' j = mineV B j := by
  have h1 := h (kd3 j) (by rw [kd3_is j hj]; exact keyDig_ne _ _ hjk)
  unfold nodeV liveV mineV
  rw [h1.1, h1.2]
  exact ⟨rfl, rfl, rfl⟩

/-- Three numbers in a row. -/
def arr3 (f : Nat → Int) : Array Value := #[.int .i64 (f 0), .int .i64 (f 1), .int .i64 (f 2)]
def mix (m : Nat) (f g : Nat → Int) : Nat → Int := fun j => if j < m then f j else g j
def at3 (f : Nat → Int) (m : Nat) (z : Int) : Nat → Int := fun j => if j = m then z else f j
theorem arr3_set (f : Nat → Int) (m : Nat) (hm : m < 3) (z : Int) : (arr3 f).setIfInBounds m (.int .i64 z) = arr3 (at3 f m z) := by
  match m, hm with
  | 0, _ => rfl
  | 1, _ => rfl
  | 2, _ => rfl
theorem at3_twice (f : Nat → Int) (m : Nat) (y z : Int) : at3 (at3 f m y) m z = at3 f m z := by
  funext j; unfold at3; split <;> simp [*]
theorem mix_zero (f g : Nat → Int) : mix 0 f g = g := by funext j; unfold mix; simp
theorem arr3_mix (f g : Nat → Int) : arr3 (mix 3 f g) = arr3 f := rfl
theorem mix_next (m : Nat) (f g : Nat → Int) : at3 (mix m f g) m (f m) = mix (m + 1) f g := by
  funext j
  unfold at3 mix
  by_cases h : j = m
  · subst h; simp
  · rw [if_neg h]
    by_cases h1 : j < m
    · rw [if_pos h1, if_pos (by omega)]
    · rw [if_neg h1, if_neg (by omega)]
theorem arr3_at (f : Nat → Int) (m : Nat) (hm : m < 3) : (arr3 f)[m]? = some (.int .i64 (f m)) := by
  match m, hm with
  | 0, _ => rfl
  | 1, _ => rfl
  | 2, _ => rfl

end Go.Proofs.Ytnpmfigcfikdgaa
