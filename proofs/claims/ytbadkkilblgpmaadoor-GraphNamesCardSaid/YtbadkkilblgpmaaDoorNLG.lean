/-
  Rows of the call's own, in general.
-/
import Derived.Test.YtbadkkilblgpmaaDoorNC
import Derived.Test.YtbadkkilblgpmaaDoorTS
import Derived.Test.YtbadkkilblgpmaaDoorPGR
import Derived.Test.YtbadkkilblgpmaaDoorR
namespace Go.Proofs.YtbadkkilblgpmaaDoor
open Go.RowKit

theorem Tryd.info9 : (Tryd.prog.info? 9).map (fun i => (i.zero, i.size, i.bytes)) = some (some (.string ⟨#[]⟩), 1, 16) := by kernel_rfl
theorem Tryd.info40 : (Tryd.prog.info? 40).map (fun i => (i.zero, i.size, i.bytes)) = some (some (.slice none 0 0), 1, 24) := by kernel_rfl
theorem own_apartE {w : World} {B e s : Nat} {v : Value} {n : Nat} {xs : List Value} {B' e' s' : Nat} {v' : Value} {n' : Nat} {xs' : List Value} (h : w.ownsRow B e s v n xs) (k : w.ownsRow B' e' s' v' n' xs') (hne : e ≠ e') : v'.ownBlock = none ∨ v'.ownBlock ≠ v.ownBlock := by
  rcases k.2 with ⟨rfl, -⟩ | ⟨g', cap', cur', rfl, -, hg', -⟩
  · exact .inl rfl
  · refine .inr fun he => ?_
    rcases h.2 with ⟨rfl, -⟩ | ⟨g, cap, cur, rfl, -, hg, -⟩
    · cases he
    · have e2 : g' = g := by simpa [Value.ownBlock] using he
      subst e2
      rw [hg] at hg'
      simp at hg'
      exact hne hg'.2
theorem Chg.ownRow {c row : Option Nat} {u v w : World} (h : Chg c u v) (k : v.grownBy w row) (hb : ∀ g, row = some g → u.heap.size ≤ g) : Chg c u w :=
  ⟨k.os.trans h.os, k.tape.trans h.tape, k.output.trans h.output, Nat.le_trans h.size k.size,
    fun i hi hn => (k.block i (Nat.lt_of_lt_of_le hi h.size) (fun e => by have := hb i e.symm; omega)).trans (h.block i hi hn)⟩
theorem own_rowsAt {α : Type} {w : World} {b : Nat} {e : TypeId} {A : Option Addr} {L : List α} {c : Nat} {f : α → List Value} (hf : ∀ a, (f a).length = 1) (h : w.ownsRow b e 1 (.slice A L.length c) L.length (L.flatMap f)) : RowsAt w 1 A f L ∧ L.length ≤ c ∧ c ≤ maxLen := by
  rcases h.2 with ⟨h1, h2⟩ | ⟨g, cap, cur, h1, hb, hg, hn, hm, hs, ht⟩
  · have e0 : L = [] := List.eq_nil_of_length_eq_zero h2
    subst e0
    injection h1 with _ _ h3
    exact ⟨fun h => absurd rfl h, by rw [h3]; exact Nat.le_refl _, by rw [h3]; exact Nat.zero_le _⟩
  · injection h1 with hA _ hc
    subst hA hc
    refine ⟨fun _ => ⟨g, 0, rfl, (Array.getElem?_eq_some_iff.1 hg).1, fun i a hi j hj => ?_⟩, hn, hm⟩
    have hl : i < L.length := (List.getElem?_eq_some_iff.1 hi).1
    obtain rfl : j = 0 := by omega
    have h2 := flat_get f 1 hf L i 0 a hi (by omega)
    rw [← ht, List.getElem?_take, if_pos (by omega)] at h2
    rw [← h2]
    simp [World.cell?, hg]

theorem own_none (v : Value) : v.ownBlock = none ∨ v.ownBlock ≠ none := by cases v.ownBlock <;> simp
theorem dep_name {D : List (List UInt8)} (h : depsB D = true) : D.length ≤ 5 ∧ ∀ s ∈ D, nameB s = true := by
  unfold depsB at h
  rw [Bool.and_eq_true, decide_eq_true_eq, List.all_eq_true] at h
  refine ⟨h.1, fun s hs => ?_⟩
  obtain ⟨i, hi, rfl⟩ := List.getElem_of_mem hs
  have h1 := h.2 i (by simpa using hi)
  unfold depOk at h1
  rw [Bool.and_eq_true] at h1
  have h2 := h1.1
  rw [List.getD_eq_getElem?_getD, List.getElem?_eq_getElem hi] at h2
  exact h2
end Go.Proofs.YtbadkkilblgpmaaDoor
