/-
  The document's own members (package ref): their memory; Turn; the program's Copy.
-/
import Derived.Test.YtiehbbbncmdchaaT
import Derived.Laws.Rows
namespace Go.Proofs.Ytiehbbbncmdchaa
open Go.RowKit

/-- The document's members stand in block B; their row in block G. -/
structure RefAt (w : World) (B G cap : Nat) (m : M) : Prop where
  blk : Blk w B #[.int .i64 m.self, .slice (some ⟨G, 0, none⟩) m.count cap] 84
  row : ∃ tail : List Value, BlkL w G (m.row.flatMap U.cells ++ tail) 31
  le : m.count ≤ cap
  ne : B ≠ G

section
variable {w w' : World} {B G cap : Nat} {m : M}
theorem RefAt.lt (h : RefAt w B G cap m) : B < w.heap.size ∧ G < w.heap.size := by
  obtain ⟨t, ht⟩ := h.row
  exact ⟨Blk.lt h.blk, Blk.lt ht⟩
theorem RefAt.alloc (h : RefAt w B G cap m) (o : Obj) : RefAt (w.alloc o) B G cap m := by
  obtain ⟨t, ht⟩ := h.row
  exact ⟨h.blk.alloc o, ⟨t, Blk.alloc ht o⟩, h.le, h.ne⟩
theorem RefAt.drew (h : RefAt w B G cap m) : RefAt w.drew B G cap m := ⟨h.blk, h.row, h.le, h.ne⟩
theorem RefAt.chg {c : Option Nat} (h : RefAt w B G cap m) (hc : Chg c w w') (h1 : some B ≠ c) (h2 : some G ≠ c) : RefAt w' B G cap m := by
  obtain ⟨t, ht⟩ := h.row
  exact ⟨h.blk.chg hc h1, ⟨t, Blk.chg ht hc h2⟩, h.le, h.ne⟩
theorem RefAt.head (h : RefAt w B G cap m) :
    w.cell? ⟨B, 0, none⟩ = some (.int .i64 m.self) ∧ w.cell? ⟨B, 1, none⟩ = some (.slice (some ⟨G, 0, none⟩) m.count cap) := by
  constructor <;> (rw [Blk.cell h.blk]; rfl)
theorem RefAt.at (h : RefAt w B G cap m) {n : Nat} {u : U} (hn : m.row[n]? = some u) :
    w.cell? ⟨G, n * 3, none⟩ = some (.int .i64 u.node) ∧ w.cell? ⟨G, n * 3 + 1, none⟩ = some (.int .u8 u.st) ∧ w.cell? ⟨G, n * 3 + 2, none⟩ = some (.int .u64 u.inc) := by
  obtain ⟨t, ht⟩ := h.row
  have hl : n < m.row.length := (List.getElem?_eq_some_iff.1 hn).1
  have hh : ∀ j, j < 3 → w.cell? ⟨G, n * 3 + j, none⟩ = u.cells[j]? := fun j hj => by
    rw [BlkL.cell ht, List.getElem?_append_left (by rw [flat_len U.cells 3 U.cells_len]; omega)]
    exact flat_get U.cells 3 U.cells_len m.row n j u hn hj
  exact ⟨hh 0 (by omega), hh 1 (by omega), hh 2 (by omega)⟩
theorem RefAt.frozen (h : RefAt w B G cap m) (i : Nat) : w.frozen? ⟨G, i, none⟩ = false := by
  obtain ⟨t, ht⟩ := h.row
  exact Blk.frozen ht i

theorem M.put_row (m : M) (n : Nat) (u : U) : (m.put n u).row = m.row.set n u := by
  unfold M.row M.put
  rw [List.take_set]

theorem RefAt.put1 (h : RefAt w B G cap m) {n : Nat} {u : U} (hn : m.row[n]? = some u) (j : Nat) (hj : j < 3) (u' : U) (v : Value) (hu : u'.cells = u.cells.set j v) :
    RefAt (w.setCell ⟨G, n * 3 + j, none⟩ v) B G cap (m.put n u') := by
  obtain ⟨t, ht⟩ := h.row
  have hl : n < m.row.length := (List.getElem?_eq_some_iff.1 hn).1
  refine ⟨h.blk.setOther _ _ h.ne, ⟨t, ?_⟩, h.le, h.ne⟩
  have := BlkL.set ht (n * 3 + j) v
  rw [List.set_append_left _ _ (by rw [flat_len U.cells 3 U.cells_len]; omega), flat_set U.cells 3 U.cells_len m.row n j u u' v hn hj hu] at this
  rw [M.put_row]
  exact this

theorem RefAt.put3 (h : RefAt w B G cap m) {n : Nat} {u : U} (hn : m.row[n]? = some u) (u' : U) :
    RefAt (((w.setCell ⟨G, n * 3, none⟩ (.int .i64 u'.node)).setCell ⟨G, n * 3 + 1, none⟩ (.int .u8 u'.st)).setCell ⟨G, n * 3 + 2, none⟩ (.int .u64 u'.inc)) B G cap (m.put n u') := by
  have hl : n < m.row.length := (List.getElem?_eq_some_iff.1 hn).1
  have h1 := h.put1 hn 0 (by omega) ⟨u'.node, u.st, u.inc⟩ (.int .i64 u'.node) rfl
  have h2 := h1.put1 (n := n) (u := ⟨u'.node, u.st, u.inc⟩) (by simp [M.put_row, hl]) 1 (by omega) ⟨u'.node, u'.st, u.inc⟩ (.int .u8 u'.st) rfl
  have h3 := h2.put1 (n := n) (u := ⟨u'.node, u'.st, u.inc⟩) (by simp [M.put_row, hl]) 2 (by omega) u' (.int .u64 u'.inc) rfl
  have e : ((m.put n ⟨u'.node, u.st, u.inc⟩).put n ⟨u'.node, u'.st, u.inc⟩).put n u' = m.put n u' := by simp [M.put]
  rw [e] at h3
  exact h3
end

theorem M.row_at {m : M} {n : Nat} {u : U} (hn : n < m.count) (hu : m.stand[n]? = some u) : m.row[n]? = some u := by
  rw [M.row_get _ _ hn]; exact hu

def RTurnPost (B G cap : Nat) (w : World) (r : M × Bool) (e : Ending) (w' : World) : Prop :=
  e = .returned (.bool r.2) ∧ RefAt w' B G cap r.1 ∧ Chg (some G) w w'

set_option maxHeartbeats 1000000 in
theorem rturn (B G cap : Nat) (m : M) (n f t : Int) (w : World) (hm : RefAt w B G cap m) (ho : m.ok) :
    Calls Try.prog 17 #[.pointer (some ⟨B, 0, none⟩), .int .i64 n, .int .u8 f, .int .u8 t] w (RTurnPost B G cap w (m.turn n f t)) := by
  obtain ⟨h0, h1⟩ := hm.head
  obtain ⟨hBl, hGl⟩ := hm.lt
  have hfz := hm.frozen
  have htop := ho.top
  have hle := hm.le
  by_cases hr : 0 ≤ n ∧ n < m.count
  · obtain ⟨k, rfl⟩ := Int.eq_ofNat_of_zero_le hr.1
    obtain ⟨u, hu⟩ := ho.get (n := k) (by omega)
    have hrow := M.row_at (m := m) (n := k) (by omega) hu
    obtain ⟨c0, c1, c2⟩ := hm.at hrow
    have hg : m.stand.getD k default = u := by rw [List.getD_eq_getElem?_getD, hu]; rfl
    have hkc : k < m.count := by omega
    have d0 : decide ((k : Int) < 0) = false := by simp
    have d1 : decide ((m.count : Int) ≤ (k : Int)) = false := by simp; omega
    clear hr
    by_cases hs : k = m.self
    · have ht : m.turn k f t = (m, false) := by unfold M.turn; rw [if_neg (by simp [hs])]
      rw [ht]
      have hbe : ((k : Int) == (m.self : Int)) = true := by simp [hs]
      clear ht hg ho hu hs hrow
      go_enter Try.func17, Try.ntmps17
      go_wp2_with fail
      go_ret
      exact ⟨rfl, hm, Chg.refl _ _⟩
    · have hbe : ((k : Int) == (m.self : Int)) = false := beq_false_of_ne (by omega)
      by_cases hf : u.st = f
      · have ht : m.turn k f t = (m.put k { u with st := t }, true) := by unfold M.turn; rw [Int.toNat_natCast, hg, if_pos ⟨by omega, by omega, by omega, hf⟩]
        rw [ht]
        have hput := hm.put1 hrow 1 (by omega) { u with st := t } (.int .u8 t) rfl
        rw [hf] at c1
        clear ht hg ho hu hs hf hrow
        go_enter Try.func17, Try.ntmps17
        go_wp2_with fail
        go_ret
        exact ⟨rfl, hput, (Chg.refl _ _).setCell _ _⟩
      · have ht : m.turn k f t = (m, false) := by unfold M.turn; rw [Int.toNat_natCast, hg, if_neg (by simp [hf])]
        rw [ht]
        have hbf : (u.st != f) = true := by simp [hf]
        clear ht hg ho hu hs hf hrow
        go_enter Try.func17, Try.ntmps17
        go_wp2_with fail
        go_ret
        exact ⟨rfl, hm, Chg.refl _ _⟩
  · have ht : m.turn n f t = (m, false) := by unfold M.turn; rw [if_neg (by omega)]
    rw [ht]
    by_cases h0n : n < 0
    · clear ht hr ho
      go_enter Try.func17, Try.ntmps17
      go_wp2_with fail
      go_ret
      exact ⟨rfl, hm, Chg.refl _ _⟩
    · have d1 : decide ((m.count : Int) ≤ n) = true := by simp; omega
      clear ht hr ho
      go_enter Try.func17, Try.ntmps17
      go_wp2_with fail
      go_ret
      exact ⟨rfl, hm, Chg.refl _ _⟩

end Go.Proofs.Ytiehbbbncmdchaa
