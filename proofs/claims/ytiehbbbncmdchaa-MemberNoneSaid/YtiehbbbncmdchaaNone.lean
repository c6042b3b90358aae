/-
  The law MemberNone: its walk.
-/
import Derived.Test.YtiehbbbncmdchaaH
namespace Go.Proofs.Ytiehbbbncmdchaa
open Go.RowKit

set_option maxRecDepth 100000 in
set_option maxHeartbeats 2000000 in
theorem none_main (u : U) (w : World) : Calls Try.prog 6 #[u.val] w fun e w' => e = .returned (.bool true) ∧ Chg none w w' := by
  have n31 := neq31
  have gd31 := Try.guard31
  obtain ⟨un, us, ui⟩ := u
  unfold U.val
  dsimp only
  have hP : ∃ P : Nat → Option Addr, P 0 = none ∧ P 1 = some ⟨w.heap.size + 1, 0, none⟩ := ⟨fun k => if k = 0 then none else some ⟨w.heap.size + 1, 0, none⟩, rfl, rfl⟩
  obtain ⟨P, hP0, hP1⟩ := hP
  have HP0 := Lib.hid hP0
  have HP1 := Lib.hid hP1
  clear hP0 hP1
  go_enter Try.func6, Try.ntmps6
  go_wp2_with fail
  go_loopw [14] (fun s14 wr => ∃ k : Nat, k ≤ 2 ∧ s14 = .int .i64 k ∧ Blk wr w.heap.size #[.int .i64 un, .int .u8 us, .int .u64 ui] 31 ∧ wr.cell? ⟨w.heap.size + 1, 1, none⟩ = some (.int .i64 0) ∧ w.heap.size + 1 < wr.heap.size ∧
      wr.cell? ⟨w.heap.size + 2, 0, none⟩ = some (.pointer (P 0)) ∧ wr.cell? ⟨w.heap.size + 2, 1, none⟩ = some (.pointer (P 1)) ∧ Chg none w wr) (fun s14 _ => 2 - (intOf s14).toNat)
  case atStart =>
    rw [HP0.out, HP1.out]
    refine ⟨0, by omega, rfl, ((Blk.new w _ _).alloc _).alloc _, ?_, by simp, ?_, ?_, (((Chg.refl _ _).alloc _).alloc _).alloc _⟩
    · rw [Blk.cell ((Blk.newAt (w := w.alloc _) (n := w.heap.size + 1) _ _ (by simp)).alloc _)]; rfl
    · rw [Blk.cell (Blk.newAt (w := (w.alloc _).alloc _) (n := w.heap.size + 2) _ _ (by simp))]; rfl
    · rw [Blk.cell (Blk.newAt (w := (w.alloc _).alloc _) (n := w.heap.size + 2) _ _ (by simp))]; rfl
  case round =>
    obtain ⟨k, hk, rfl, hb, hz, hsz, hl0, hl1, hg⟩ := hrel
    by_cases hlt : k < 2
    · have hcell : wr.cell? ⟨w.heap.size + 2, k, none⟩ = some (.pointer (P k)) := by
        rcases (show k = 0 ∨ k = 1 by omega) with rfl | rfl
        · exact hl0
        · exact hl1
      have hno : NoMem (P k) wr := by
        rcases (show k = 0 ∨ k = 1 by omega) with rfl | rfl
        · exact Or.inl HP0.out
        · exact Or.inr ⟨_, HP1.out, hsz, hz⟩
      obtain ⟨q0, q1, q2⟩ := Blk.three hb
      generalize P k = p at *
      go_wp2_with fail
      refine (hear_none p ⟨un, us, ui⟩ _ hno).mono ?_
      rintro e w2 ⟨rfl, g2⟩
      have hno2 := hno.chg g2
      have a0 := World.grownBy.cell g2 q0 (by simp)
      go_wp2_with fail
      refine (get_none p un _ hno2).mono ?_
      rintro e w3 ⟨rfl, g3⟩
      have hno3 := hno2.chg g3
      have b0 := World.grownBy.cell g3 a0 (by simp)
      have z3 : w.heap.size < w3.heap.size := by have := g2.size; have := g3.size; omega
      go_wp2_with fail
      refine (suspect_none p un _ (hno3.alloc _)).mono ?_
      rintro e w4 ⟨rfl, rfl⟩
      go_wp2_with fail
      refine (kill_none p un _ (hno3.alloc _)).mono ?_
      rintro e w4 ⟨rfl, rfl⟩
      go_wp2_with fail
      refine (all_none p _ (hno3.alloc _)).mono ?_
      rintro e w4 ⟨rfl, rfl⟩
      go_wp2_with fail
      refine (alive_none p _ (hno3.alloc _)).mono ?_
      rintro e w4 ⟨rfl, rfl⟩
      go_wp2_with fail
      refine (self_none p _ (hno3.alloc _)).mono ?_
      rintro e w4 ⟨rfl, g4⟩
      have hno4 := (hno3.alloc _).chg g4
      go_wp2_with fail
      refine (copy_none p _ hno4).mono ?_
      rintro e w5 ⟨rfl, rfl⟩
      go_wp2_with fail
      have gall := ((hg.trans g2).trans g3).trans (((Chg.refl _ _).alloc _).trans g4)
      have hne : some (w.heap.size + 1) ≠ (none : Option Nat) := by simp
      go_roundw
      case rel =>
        exact ⟨k + 1, by omega, by go_num, (((hb.chg g2 (by simp)).chg g3 (by simp)).alloc _).chg g4 (by simp),
          World.grownBy.cell ((g2.trans g3).trans (((Chg.refl _ _).alloc _).trans g4)) hz (by simp), by have := g4.size; have := g3.size; have := g2.size; simp at *; omega,
          World.grownBy.cell ((g2.trans g3).trans (((Chg.refl _ _).alloc _).trans g4)) hl0 (by simp), World.grownBy.cell ((g2.trans g3).trans (((Chg.refl _ _).alloc _).trans g4)) hl1 (by simp), gall⟩
      case measure => simp [intOf]; omega
    · go_wp2_with fail
      refine (known_any _).mono ?_
      rintro e w5 ⟨rfl, g5⟩
      go_wp2_with fail
      go_ret
      exact ⟨rfl, hg.trans g5⟩

end Go.Proofs.Ytiehbbbncmdchaa
