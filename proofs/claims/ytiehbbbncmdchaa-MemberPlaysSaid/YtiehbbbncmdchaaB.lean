/-
  Walks over package member: of members that were made.
-/
import Derived.Test.YtiehbbbncmdchaaA
import Derived.StillTailTactics
namespace Go.Proofs.Ytiehbbbncmdchaa
open Go.RowKit

structure M where
  self : Nat
  count : Nat
  stand : List U

theorem U.cells_len (u : U) : u.cells.length = 3 := rfl

def M.cells (m : M) : List Value := .int .i64 m.self :: .int .i64 m.count :: m.stand.flatMap U.cells
def MemAt (w : World) (b : Nat) (m : M) : Prop := BlkL w b m.cells 50

structure M.ok (m : M) : Prop where
  len : m.stand.length = 16
  one : 1 ≤ m.count
  top : m.count ≤ 16
  own : m.self < m.count
  node : ∀ i u, m.stand[i]? = some u → i < m.count → u.node = (i : Int) ∧ (1 ≤ u.st ∧ u.st ≤ 3) ∧ (0 ≤ u.inc ∧ u.inc ≤ 1099511627776)

theorem M.ok.get {m : M} (h : m.ok) {n : Nat} (hn : n < m.count) : ∃ u, m.stand[n]? = some u := by
  have := h.len
  have := h.top
  exact ⟨_, List.getElem?_eq_getElem (by omega)⟩

theorem MemAt.alloc {w : World} {b : Nat} {m : M} (h : MemAt w b m) (o : Obj) : MemAt (w.alloc o) b m := Blk.alloc h o
theorem MemAt.drew {w : World} {b : Nat} {m : M} (h : MemAt w b m) : MemAt w.drew b m := h
theorem MemAt.drewN {w : World} {b : Nat} {m : M} (h : MemAt w b m) (n : Nat) : MemAt (w.drewN n) b m := Blk.drewN h n
theorem MemAt.chg {w w' : World} {b : Nat} {c : Option Nat} {m : M} (h : MemAt w b m) (hc : Chg c w w') (hne : some b ≠ c) : MemAt w' b m := Blk.chg h hc hne

theorem MemAt.head {w : World} {b : Nat} {m : M} (h : MemAt w b m) :
    w.cell? ⟨b, 0, none⟩ = some (.int .i64 m.self) ∧ w.cell? ⟨b, 1, none⟩ = some (.int .i64 m.count) := by
  constructor <;> (rw [BlkL.cell h]; rfl)

theorem MemAt.at {w : World} {b : Nat} {m : M} (h : MemAt w b m) {n : Nat} {u : U} (hn : m.stand[n]? = some u) :
    w.cell? ⟨b, 2 + n * 3, none⟩ = some (.int .i64 u.node) ∧ w.cell? ⟨b, 2 + n * 3 + 1, none⟩ = some (.int .u8 u.st) ∧ w.cell? ⟨b, 2 + n * 3 + 2, none⟩ = some (.int .u64 u.inc) := by
  have hh : ∀ j, j < 3 → w.cell? ⟨b, 2 + n * 3 + j, none⟩ = u.cells[j]? := fun j hj => by
    rw [BlkL.cell h, show 2 + n * 3 + j = (n * 3 + j) + 2 by omega]
    exact flat_get U.cells 3 U.cells_len m.stand n j u hn hj
  exact ⟨hh 0 (by omega), hh 1 (by omega), hh 2 (by omega)⟩

set_option maxHeartbeats 400000 in
theorem get_made (b : Nat) (m : M) (n : Nat) (u : U) (w : World) (hm : MemAt w b m) (ho : m.ok) (hn : n < m.count) (hu : m.stand[n]? = some u) :
    Calls Try.prog 26 #[.pointer (some ⟨b, 0, none⟩), .int .i64 n] w fun e w' => e = .returned (.tuple #[.agg #[.int .i64 u.node, .int .u8 u.st, .int .u64 u.inc], .bool true]) ∧ Chg none w w' := by
  obtain ⟨h0, h1⟩ := hm.head
  obtain ⟨c0, c1, c2⟩ := hm.at hu
  have hb := Blk.lt hm
  have hH := has_some b m.count n _ (hm.alloc (.cells #[.int .i64 0, .int .u8 0, .int .u64 0] 31)).head.2 (by have := ho.one; omega)
  have hd : decide ((0 : Int) ≤ n ∧ (n : Int) < m.count) = true := by simp; omega
  have htop := ho.top
  rw [hd] at hH
  clear hd ho hm hu
  go_enter Try.func26, Try.ntmps26
  go_wp2_with fail
  refine hH.mono ?_
  rintro e w' ⟨rfl, rfl⟩
  go_wp2_with fail
  exact bodyPost_ret (v := .tuple #[.agg #[.int .i64 u.node, .int .u8 u.st, .int .u64 u.inc], .bool true]) (by simp [results, Try.results26, go_sem]) rfl ⟨rfl, (Chg.refl _ _).alloc _⟩

set_option maxHeartbeats 400000 in
theorem get_no (p : Option Addr) (n : Int) (w : World) (hH : Calls Try.prog 36 #[.pointer p, .int .i64 n] (w.alloc (.cells #[.int .i64 0, .int .u8 0, .int .u64 0] 31)) fun e w' => e = .returned (.bool false) ∧ (w.alloc (.cells #[.int .i64 0, .int .u8 0, .int .u64 0] 31)) = w') :
    Calls Try.prog 26 #[.pointer p, .int .i64 n] w fun e w' => e = .returned (.tuple #[.agg #[.int .i64 0, .int .u8 0, .int .u64 0], .bool false]) ∧ Chg none w w' := by
  go_enter Try.func26, Try.ntmps26
  go_wp2_with fail
  refine hH.mono ?_
  rintro e w' ⟨rfl, rfl⟩
  go_wp2_with fail
  exact bodyPost_ret (v := .tuple #[.agg #[.int .i64 0, .int .u8 0, .int .u64 0], .bool false]) (by simp [results, Try.results26, go_sem]) rfl ⟨rfl, (Chg.refl _ _).alloc _⟩

def M.put (m : M) (n : Nat) (u : U) : M := { m with stand := m.stand.set n u }

theorem MemAt.put1 {w : World} {b : Nat} {m : M} (h : MemAt w b m) {n : Nat} {u : U} (hn : m.stand[n]? = some u) (j : Nat) (hj : j < 3) (u' : U) (v : Value) (hu : u'.cells = u.cells.set j v) :
    MemAt (w.setCell ⟨b, 2 + n * 3 + j, none⟩ v) b (m.put n u') := by
  have := BlkL.set h (2 + n * 3 + j) v
  unfold MemAt M.cells M.put at *
  rw [show 2 + n * 3 + j = (n * 3 + j) + 2 by omega] at *
  simp only [List.set_cons_succ] at this
  rw [flat_set U.cells 3 U.cells_len m.stand n j u u' v hn hj hu] at this
  exact this

def M.turn (m : M) (n from_ to_ : Int) : M × Bool :=
  if 0 ≤ n ∧ n < m.count ∧ n ≠ m.self ∧ (m.stand.getD n.toNat default).st = from_ then (m.put n.toNat { m.stand.getD n.toNat default with st := to_ }, true) else (m, false)

def TurnPost (b : Nat) (w : World) (r : M × Bool) (e : Ending) (w' : World) : Prop :=
  e = .returned (.bool r.2) ∧ MemAt w' b r.1 ∧ Chg (some b) w w'

set_option maxHeartbeats 400000 in
theorem turn_made (b : Nat) (m : M) (n f t : Int) (w : World) (hm : MemAt w b m) (ho : m.ok) :
    Calls Try.prog 34 #[.pointer (some ⟨b, 0, none⟩), .int .i64 n, .int .u8 f, .int .u8 t] w (TurnPost b w (m.turn n f t)) := by
  obtain ⟨h0, h1⟩ := hm.head
  have hfz := Blk.frozen hm
  have hH := has_some b m.count n w h1 (by have := ho.one; omega)
  have htop := ho.top
  by_cases hr : 0 ≤ n ∧ n < m.count
  · obtain ⟨k, rfl⟩ := Int.eq_ofNat_of_zero_le hr.1
    obtain ⟨u, hu⟩ := ho.get (n := k) (by omega)
    obtain ⟨c0, c1, c2⟩ := hm.at hu
    have hd : decide ((0 : Int) ≤ k ∧ (k : Int) < m.count) = true := by simpa using hr.2
    have hg : m.stand.getD k default = u := by rw [List.getD_eq_getElem?_getD, hu]; rfl
    have hkc : k < m.count := by omega
    rw [hd] at hH
    clear hd hr
    by_cases hs : k = m.self
    · have ht : m.turn k f t = (m, false) := by unfold M.turn; rw [if_neg (by simp [hs])]
      rw [ht]
      have hbe : ((k : Int) == (m.self : Int)) = true := by simp [hs]
      clear ht hg ho hu hs
      go_enter Try.func34, Try.ntmps34
      go_wp2_with fail
      refine hH.mono ?_
      rintro e w' ⟨rfl, rfl⟩
      go_wp2_with fail
      go_ret
      exact ⟨rfl, hm, Chg.refl _ _⟩
    · have hbe : ((k : Int) == (m.self : Int)) = false := beq_false_of_ne (by omega)
      by_cases hf : u.st = f
      · have ht : m.turn k f t = (m.put k { u with st := t }, true) := by unfold M.turn; rw [Int.toNat_natCast, hg, if_pos ⟨by omega, by omega, by omega, hf⟩]
        rw [ht]
        have hbf : (u.st == f) = true := by simp [hf]
        have hput := hm.put1 hu 1 (by omega) { u with st := t } (.int .u8 t) rfl
        rw [hf] at c1
        clear ht hg ho hu hs hf hbf
        go_enter Try.func34, Try.ntmps34
        go_wp2_with fail
        refine hH.mono ?_
        rintro e w' ⟨rfl, rfl⟩
        go_wp2_with fail
        go_ret
        exact ⟨rfl, hput, (Chg.refl _ _).setCell _ _⟩
      · have ht : m.turn k f t = (m, false) := by unfold M.turn; rw [Int.toNat_natCast, hg, if_neg (by simp [hf])]
        rw [ht]
        have hbf : (u.st == f) = false := by simp [hf]
        clear ht hg ho hu hs hf
        go_enter Try.func34, Try.ntmps34
        go_wp2_with fail
        refine hH.mono ?_
        rintro e w' ⟨rfl, rfl⟩
        go_wp2_with fail
        go_ret
        exact ⟨rfl, hm, Chg.refl _ _⟩
  · have ht : m.turn n f t = (m, false) := by unfold M.turn; rw [if_neg (by omega)]
    have hd : decide ((0 : Int) ≤ n ∧ n < m.count) = false := by simpa using hr
    rw [hd] at hH
    rw [ht]
    clear ht hr hd ho
    go_enter Try.func34, Try.ntmps34
    go_wp2_with fail
    refine hH.mono ?_
    rintro e w' ⟨rfl, rfl⟩
    go_wp2_with fail
    go_ret
    exact ⟨rfl, hm, Chg.refl _ _⟩

set_option maxHeartbeats 400000 in
theorem turn_no (p : Option Addr) (n f t : Int) (w : World) (hH : Calls Try.prog 36 #[.pointer p, .int .i64 n] w fun e w' => e = .returned (.bool false) ∧ w = w') :
    Calls Try.prog 34 #[.pointer p, .int .i64 n, .int .u8 f, .int .u8 t] w fun e w' => e = .returned (.bool false) ∧ w = w' := by
  go_enter Try.func34, Try.ntmps34
  go_wp2_with fail
  refine hH.mono ?_
  rintro e w' ⟨rfl, rfl⟩
  go_wp2_with fail
  go_ret
  exact ⟨rfl, rfl⟩

set_option maxHeartbeats 400000 in
theorem self_made (b : Nat) (m : M) (u : U) (w : World) (hm : MemAt w b m) (ho : m.ok) (hu : m.stand[m.self]? = some u) :
    Calls Try.prog 24 #[.pointer (some ⟨b, 0, none⟩)] w fun e w' => e = .returned (.agg #[.int .i64 u.node, .int .u8 u.st, .int .u64 u.inc]) ∧ Chg none w w' := by
  obtain ⟨h0, h1⟩ := hm.head
  obtain ⟨c0, c1, c2⟩ := hm.at hu
  have hb := Blk.lt hm
  have hN := isNone_some b m.count _ (hm.alloc (.cells #[.int .i64 0, .int .u8 0, .int .u64 0] 31)).head.2
  have hz : ((m.count : Int) == 0) = false := beq_false_of_ne (by have := ho.one; omega)
  rw [hz] at hN
  have htop := ho.top
  have hown := ho.own
  clear hz ho hm hu
  go_enter Try.func24, Try.ntmps24
  go_wp2_with fail
  refine hN.mono ?_
  rintro e w' ⟨rfl, rfl⟩
  go_wp2_with fail
  go_region
  all_goals go_wp2_with fail
  all_goals exact bodyPost_ret (v := .agg #[.int .i64 u.node, .int .u8 u.st, .int .u64 u.inc]) (by simp [results, Try.results24, go_sem]) rfl ⟨rfl, by repeat (first | (with_reducible exact Chg.refl _ _) | (with_reducible refine Chg.drew ?_) | (with_reducible refine Chg.alloc ?_ _))⟩

set_option maxHeartbeats 400000 in
theorem self_no (p : Option Addr) (w : World) (h : Calls Try.prog 35 #[.pointer p] (w.alloc (.cells #[.int .i64 0, .int .u8 0, .int .u64 0] 31)) fun e w' => e = .returned (.bool true) ∧ (w.alloc (.cells #[.int .i64 0, .int .u8 0, .int .u64 0] 31)) = w') :
    Calls Try.prog 24 #[.pointer p] w fun e w' => e = .returned (.agg #[.int .i64 0, .int .u8 0, .int .u64 0]) ∧ Chg none w w' := by
  go_enter Try.func24, Try.ntmps24
  go_wp2_with fail
  refine h.mono ?_
  rintro e w' ⟨rfl, rfl⟩
  go_wp2_with fail
  exact bodyPost_ret (v := .agg #[.int .i64 0, .int .u8 0, .int .u64 0]) (by simp [results, Try.results24, go_sem]) rfl ⟨rfl, (Chg.refl _ _).alloc _⟩

end Go.Proofs.Ytiehbbbncmdchaa
