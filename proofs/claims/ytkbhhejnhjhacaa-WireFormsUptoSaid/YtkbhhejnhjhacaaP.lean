/-
  Rows that are written over; WireReads, its walk.
-/
import Derived.Test.YtkbhhejnhjhacaaO
namespace Go.Proofs.Ytkbhhejnhjhacaa
open Go.RowKit

/-- A row of bytes of the call's own, whatever they are. -/
def SomeOwn (w : World) (base : Nat) (v : Value) (n : Nat) : Prop := ∃ ys : List UInt8, n = ys.length ∧ w.ownsRow base 5 1 v n (byteVals ys)

theorem SomeOwn.store {w : World} {base : Nat} {v : Value} {n : Nat} (h : SomeOwn w base v n) (g j : Nat) (z : UInt8) : SomeOwn (w.setCell ⟨g, j, none⟩ (.int .u8 z.toNat)) base v n := by
  obtain ⟨ys, hn, hown⟩ := h
  rcases hown.2 with ⟨rfl, h0⟩ | ⟨g', cap, cur, rfl, hb, hh, h4⟩
  · exact ⟨ys, hn, hown.1, .inl ⟨rfl, h0⟩⟩
  · by_cases hg : g' = g
    · subst hg
      by_cases hj : j < n
      · have := hown.stored j (.int .u8 z.toNat)
        refine ⟨ys.set j z, by rw [List.length_set]; exact hn, ?_⟩
        have e : byteVals (ys.set j z) = (byteVals ys).set j (.int .u8 z.toNat) := by simp [byteVals, List.map_set]
        rw [e]
        exact this.1
      · have := hown.stored j (.int .u8 z.toNat)
        refine ⟨ys, hn, ?_⟩
        rw [List.set_eq_of_length_le (by rw [byteVals_len]; omega)] at this
        exact this.1
    · exact ⟨ys, hn, hown.1, .inr ⟨g', cap, cur, rfl, hb, (Below.heap_setCell w ⟨g, j, none⟩ _ g' hg).trans hh, h4⟩⟩

theorem SomeOwn.at_ {w : World} {base : Nat} {A : Option Addr} {n c : Nat} (h : SomeOwn w base (.slice A n c) n) {k : Nat} (hk : k < n) :
    ∃ g y, A = some ⟨g, 0, none⟩ ∧ base ≤ g ∧ g < w.heap.size ∧ w.cell? ⟨g, k, none⟩ = some (.int .u8 (y : UInt8).toNat) ∧ w.frozen? ⟨g, k, none⟩ = false := by
  obtain ⟨ys, hn, hown⟩ := h
  obtain ⟨g, cap, hv, hb, hlt⟩ := hown.form (by omega)
  injection hv with h1 h2 h3
  subst h1 h3
  have hy : ys[k]? = some (ys[k]'(by omega)) := List.getElem?_eq_getElem (by omega)
  exact ⟨g, ys[k]'(by omega), rfl, hb, hlt, by rw [hown.cellAt k (by omega)]; exact byteVals_get hy, hown.frozenAt k⟩

/-- Rows of the call's own, whatever their bytes are. -/
structure SGath (w : World) (base : Nat) (v : Value) (n : Nat) (rows : List Row) : Prop where
  len : n = rows.length
  list : w.ownsRow base 22 1 v n (rows.map Row.val)
  each : ∀ r ∈ rows, SomeOwn w base r.val r.bs.length

theorem Gath.some {w : World} {base : Nat} {v : Value} {n : Nat} {rows : List Row} (h : Gath w base v n rows) : SGath w base v n rows :=
  ⟨h.len, h.list, fun r hr => ⟨r.bs, rfl, h.each r hr⟩⟩

theorem own_other {w : World} {base e size n : Nat} {v : Value} {xs : List Value} (h : w.ownsRow base e size v n xs) (a : Addr) (u : Value) (ha : v.ownBlock ≠ some a.block) : (w.setCell a u).ownsRow base e size v n xs := by
  refine ⟨h.1, ?_⟩
  rcases h.2 with h1 | ⟨g, cap, cur, h1, h2, h3, h4⟩
  · exact .inl h1
  · exact .inr ⟨g, cap, cur, h1, h2, (Below.heap_setCell w a u g (fun e => ha (by rw [h1]; simp [Value.ownBlock, e]))).trans h3, h4⟩

theorem SGath.store {w : World} {base base' : Nat} {v : Value} {n : Nat} {rows : List Row} (h : SGath w base v n rows) {g m c' : Nat} (hr : SomeOwn w base' (.slice (.some ⟨g, 0, none⟩) m c') m) (hbb : base' ≤ base) (j : Nat) (z : UInt8) :
    SGath (w.setCell ⟨g, j, none⟩ (.int .u8 z.toNat)) base v n rows := by
  refine ⟨h.len, own_other h.list _ _ ?_, fun r hr' => (h.each r hr').store g j z⟩
  obtain ⟨ys, _, hown⟩ := hr
  have := own_blk_ne (World.ownsRow.mono h.list hbb) hown (by decide)
  rcases this with h1 | h1
  · rw [h1]; simp
  · exact h1

theorem own_cap {w : World} {base n c : Nat} {A : Option Addr} {xs : List Value} (h : w.ownsRow base 5 1 (.slice A n c) n xs) : n ≤ c := by
  rcases h.2 with ⟨h1, h2⟩ | ⟨g, cap, cur, h1, _, _, h4, _⟩
  · omega
  · injection h1 with _ _ h5
    omega

theorem own_max {w : World} {base e size n c : Nat} {A : Option Addr} {xs : List Value} (h : w.ownsRow base e size (.slice A n c) n xs) : n ≤ 9223372036854775807 := by
  rcases h.2 with ⟨h1, h2⟩ | ⟨g, cap, cur, h1, _, _, h4, h5, _⟩
  · omega
  · unfold maxLen at h5; omega

theorem own_nilOk {w : World} {base e size n c : Nat} {A : Option Addr} {xs : List Value} (h : w.ownsRow base e size (.slice A n c) n xs) : NilOk A n c := by
  intro hA
  subst hA
  rcases h.2 with ⟨h1, h2⟩ | ⟨g, cap, cur, h1, _⟩
  · injection h1 with _ _ h3
    exact ⟨h2, h3⟩
  · injection h1 with h3
    cases h3

theorem Gath.rowsIn {w : World} {base : Nat} {A : Option Addr} {n c : Nat} {rows : List Row} (h : Gath w base (.slice A n c) n rows) : RowsIn w w.heap.size A rows := by
  have hl := h.len
  subst hl
  exact ⟨Reads.of_own h.list, fun r hr => ⟨own_nilOk (h.each r hr), own_cap (h.each r hr), Reads.of_own (h.each r hr)⟩⟩

end Go.Proofs.Ytkbhhejnhjhacaa
