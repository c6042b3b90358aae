/-
  Walks over package member: Suspect, Kill; members that are not there, or were not made.
-/
import Derived.Test.YtiehbbbncmdchaaF
namespace Go.Proofs.Ytiehbbbncmdchaa
open Go.RowKit

set_option maxHeartbeats 400000 in
theorem suspect_made (b : Nat) (m : M) (n : Int) (w : World) (hm : MemAt w b m) (ho : m.ok) :
    Calls Try.prog 16 #[.pointer (some ⟨b, 0, none⟩), .int .i64 n] w (TurnPost b w (m.turn n 1 2)) := by
  have hT := turn_made b m n 1 2 w hm ho
  clear hm ho
  go_enter Try.func16, Try.ntmps16
  go_wp2_with fail
  refine hT.mono ?_
  rintro e w' ⟨rfl, h1, h2⟩
  go_wp2_with fail
  go_ret
  exact ⟨rfl, h1, h2⟩

set_option maxHeartbeats 400000 in
theorem kill_made (b : Nat) (m : M) (n : Int) (w : World) (hm : MemAt w b m) (ho : m.ok) :
    Calls Try.prog 18 #[.pointer (some ⟨b, 0, none⟩), .int .i64 n] w (TurnPost b w (m.turn n 2 3)) := by
  have hT := turn_made b m n 2 3 w hm ho
  clear hm ho
  go_enter Try.func18, Try.ntmps18
  go_wp2_with fail
  refine hT.mono ?_
  rintro e w' ⟨rfl, h1, h2⟩
  go_wp2_with fail
  go_ret
  exact ⟨rfl, h1, h2⟩

/-- A pointer to members that are not there, or were not made. -/
def NoMem (p : Option Addr) (w : World) : Prop := p = none ∨ ∃ b, p = some ⟨b, 0, none⟩ ∧ b < w.heap.size ∧ w.cell? ⟨b, 1, none⟩ = some (.int .i64 0)

theorem NoMem.isNone {p : Option Addr} {w : World} (h : NoMem p w) : Calls Try.prog 35 #[.pointer p] w fun e w' => e = .returned (.bool true) ∧ w = w' := by
  rcases h with rfl | ⟨b, rfl, _, hc⟩
  · exact isNone_nil w
  · exact isNone_some b 0 w hc

theorem NoMem.has {p : Option Addr} {w : World} (h : NoMem p w) (n : Int) : Calls Try.prog 36 #[.pointer p, .int .i64 n] w fun e w' => e = .returned (.bool false) ∧ w = w' :=
  has_none p n w h.isNone

theorem NoMem.alloc {p : Option Addr} {w : World} (h : NoMem p w) (o : Obj) : NoMem p (w.alloc o) := by
  rcases h with rfl | ⟨b, rfl, hb, hc⟩
  · exact Or.inl rfl
  · exact Or.inr ⟨b, rfl, by simp; omega, by rw [World.cell?_alloc_past _ _ _ hb]; exact hc⟩

theorem NoMem.chg {p : Option Addr} {w w' : World} (h : NoMem p w) (hc : Chg none w w') : NoMem p w' := by
  rcases h with rfl | ⟨b, rfl, hb, hx⟩
  · exact Or.inl rfl
  · exact Or.inr ⟨b, rfl, Nat.lt_of_lt_of_le hb hc.size, World.grownBy.cell hc hx (by simp)⟩

set_option maxHeartbeats 400000 in
theorem turn_none (p : Option Addr) (n f t : Int) (w : World) (h : NoMem p w) :
    Calls Try.prog 34 #[.pointer p, .int .i64 n, .int .u8 f, .int .u8 t] w fun e w' => e = .returned (.bool false) ∧ w = w' := turn_no p n f t w (h.has n)

set_option maxHeartbeats 400000 in
theorem suspect_none (p : Option Addr) (n : Int) (w : World) (h : NoMem p w) :
    Calls Try.prog 16 #[.pointer p, .int .i64 n] w fun e w' => e = .returned (.bool false) ∧ w = w' := by
  have hT := turn_none p n 1 2 w h
  clear h
  go_enter Try.func16, Try.ntmps16
  go_wp2_with fail
  refine hT.mono ?_
  rintro e w' ⟨rfl, rfl⟩
  go_wp2_with fail
  go_ret
  exact ⟨rfl, rfl⟩

set_option maxHeartbeats 400000 in
theorem kill_none (p : Option Addr) (n : Int) (w : World) (h : NoMem p w) :
    Calls Try.prog 18 #[.pointer p, .int .i64 n] w fun e w' => e = .returned (.bool false) ∧ w = w' := by
  have hT := turn_none p n 2 3 w h
  clear h
  go_enter Try.func18, Try.ntmps18
  go_wp2_with fail
  refine hT.mono ?_
  rintro e w' ⟨rfl, rfl⟩
  go_wp2_with fail
  go_ret
  exact ⟨rfl, rfl⟩

set_option maxHeartbeats 400000 in
theorem all_none (p : Option Addr) (w : World) (h : NoMem p w) :
    Calls Try.prog 23 #[.pointer p] w fun e w' => e = .returned (.slice none 0 0) ∧ w = w' := by
  have hN := h.isNone
  clear h
  go_enter Try.func23, Try.ntmps23
  go_wp2_with fail
  refine hN.mono ?_
  rintro e w' ⟨rfl, rfl⟩
  go_wp2_with fail
  go_ret
  exact ⟨rfl, rfl⟩

set_option maxHeartbeats 400000 in
theorem alive_none (p : Option Addr) (w : World) (h : NoMem p w) :
    Calls Try.prog 27 #[.pointer p] w fun e w' => e = .returned (.slice none 0 0) ∧ w = w' := by
  have hN := all_none p w h
  clear h
  go_enter Try.func27, Try.ntmps27
  go_wp2_with fail
  refine hN.mono ?_
  rintro e w' ⟨rfl, rfl⟩
  go_wp2_with fail
  refine wp_loop_rounds 1 ?_
  rw [rounds_succ]
  go_wp2_with fail
  go_ret
  exact ⟨rfl, rfl⟩

set_option maxHeartbeats 400000 in
theorem copy_none (p : Option Addr) (w : World) (h : NoMem p w) :
    Calls Try.prog 19 #[.pointer p] w fun e w' => e = .returned (.pointer none) ∧ w = w' := by
  have hN := h.isNone
  clear h
  go_enter Try.func19, Try.ntmps19
  go_wp2_with fail
  refine hN.mono ?_
  rintro e w' ⟨rfl, rfl⟩
  go_wp2_with fail
  go_ret
  exact ⟨rfl, rfl⟩

set_option maxHeartbeats 400000 in
theorem hear_none (p : Option Addr) (u : U) (w : World) (h : NoMem p w) :
    Calls Try.prog 20 #[.pointer p, u.val] w fun e w' => e = .returned (.tuple #[.bool false, .int .i64 1]) ∧ Chg none w w' := by
  have hN := (h.alloc (.cells u.parts 31)).isNone
  unfold U.val U.parts at *
  clear h
  go_enter Try.func20, Try.ntmps20
  go_wp2_with fail
  refine hN.mono ?_
  rintro e w' ⟨rfl, rfl⟩
  go_wp2_with fail
  go_ret2
  exact ⟨rfl, (Chg.refl _ _).alloc _⟩

theorem get_none (p : Option Addr) (n : Int) (w : World) (h : NoMem p w) :
    Calls Try.prog 26 #[.pointer p, .int .i64 n] w fun e w' => e = .returned (.tuple #[.agg #[.int .i64 0, .int .u8 0, .int .u64 0], .bool false]) ∧ Chg none w w' :=
  get_no p n w ((h.alloc _).has n)

theorem self_none (p : Option Addr) (w : World) (h : NoMem p w) :
    Calls Try.prog 24 #[.pointer p] w fun e w' => e = .returned (.agg #[.int .i64 0, .int .u8 0, .int .u64 0]) ∧ Chg none w w' :=
  self_no p w (h.alloc _).isNone

end Go.Proofs.Ytiehbbbncmdchaa
