/-
  Walks over package assign: Copy.
-/
import Derived.Test.YtippkdjggipnmaaRK
import Derived.Deep.RegionHeld3
namespace Go.Proofs.Ytippkdjggipnmaa
open Go.RowKit Go.Maps

def CopyP (w : World) (n : Nat) (p : Pl) (e : Ending) (w' : World) : Prop := ∃ q' : Qb, e = .returned (.pointer (some ⟨q'.b, 0, none⟩)) ∧ PlanAt w' q' n p ∧ (∀ g, q'.has g → w.heap.size ≤ g) ∧ Chg none w w'

set_option maxHeartbeats 8000000 in
theorem copy_any (w : World) (q : Qb) (n : Nat) (p : Pl) (h : PlanAt w q n p) (ho : p.ok n) :
    Calls Try.prog 19 #[.pointer (some ⟨q.b, 0, none⟩)] w (CopyP w n p) := by
  have HM := Lib.hid (h.made ho)
  obtain ⟨c1, c2, o0, o1, o2, o3, o4, fz⟩ := h.open
  have hlb := h.lt (g := q.b) (.inl rfl)
  obtain ⟨tl1, hc⟩ := h.chs
  obtain ⟨tl2, hp⟩ := h.prs
  obtain ⟨nc, hnc⟩ : ∃ nc, nc = p.ch.length := ⟨_, rfl⟩
  obtain ⟨np, hnp⟩ : ∃ np, np = p.pe.length := ⟨_, rfl⟩
  have H36 : Hid (∀ v, Chg none w v → Calls Try.prog 36 #[.slice (some ⟨q.c, 0, none⟩) nc c1] v (ClP Ck.cells 59 p.ch v)) := Lib.hid fun v g => by rw [hnc]; exact clone36 p.ch q.c c1 tl1 v (Blk.chg hc g (by simp)) ho.nc
  have H37 : Hid (∀ v, Chg none w v → Calls Try.prog 37 #[.slice (some ⟨q.p, 0, none⟩) np c2] v (ClP Pr.cells 68 p.pe v)) := Lib.hid fun v g => by rw [hnp]; exact clone37 p.pe q.p c2 tl2 v (Blk.chg hp g (by simp)) (by have := ho.np; omega)
  have H38 : Hid (∀ v, Chg none w v → Calls Try.prog 38 #[.map (some q.m)] v fun e w' => e = .returned (.map (some v.heap.size)) ∧ MapT w' v.heap.size n p.ts ∧ Chg none v w') := Lib.hid fun v g => clone38 q.m n p.ts v (h.map.block (g.block _ h.map.lt (by simp)))
  rw [← hnc] at o2
  rw [← hnp] at o3
  have HNC := Lib.hid hnc
  have HNP := Lib.hid hnp
  have HEND : Hid (∀ (W : World) (g1 g2 g3 d1 d2 : Nat) (tl1 tl2 : List Value), Blk W w.heap.size #[.int .i64 p.win, .int .i64 p.tim, .slice (some ⟨g1, 0, none⟩) nc d1, .slice (some ⟨g2, 0, none⟩) np d2, .map (some g3)] 44 → BlkL W g1 (p.ch.flatMap Ck.cells ++ tl1) 59 → BlkL W g2 (p.pe.flatMap Pr.cells ++ tl2) 68 → MapT W g3 n p.ts → w.heap.size ≤ g1 → w.heap.size ≤ g2 → w.heap.size ≤ g3 → Chg none w W → CopyP w n p (.returned (.pointer (some ⟨w.heap.size, 0, none⟩))) W) :=
    Lib.hid fun W g1 g2 g3 d1 d2 tl1 tl2 h1 h2 h3 h4 l1 l2 l3 g => ⟨⟨w.heap.size, g1, g2, g3⟩, rfl, ⟨⟨d1, d2, by rw [← HNC.out, ← HNP.out]; exact h1⟩, ⟨tl1, h2⟩, ⟨tl2, h3⟩, h4⟩, fun x hx => by rcases hx with rfl | rfl | rfl | rfl <;> first | exact Nat.le_refl _ | assumption, g⟩
  clear h ho hc hp hnc hnp
  go_enter Try.func19, Try.ntmps19
  go_wp2_with fail
  refine HM.out.mono ?_
  rintro e w' ⟨rfl, rfl⟩
  go_upto_region 4 with fail
  obtain ⟨W3, hW3⟩ : ∃ W, W = w.alloc (.cells #[.int .i64 p.win, .int .i64 p.tim, .slice (some ⟨q.c, 0, none⟩) nc c1, .slice (some ⟨q.p, 0, none⟩) np c2, .map (some q.m)] 44) := ⟨_, rfl⟩
  have hB3 : Blk W3 w.heap.size #[.int .i64 p.win, .int .i64 p.tim, .slice (some ⟨q.c, 0, none⟩) nc c1, .slice (some ⟨q.p, 0, none⟩) np c2, .map (some q.m)] 44 := by rw [hW3]; exact Blk.new _ _ _
  have g3 : Chg none w W3 := by rw [hW3]; exact (Chg.refl _ _).alloc _
  try rw [← hW3]
  have HS : Hid (∀ v, Chg none w v → v.cell? ⟨q.b, 2, none⟩ = some (.slice (some ⟨q.c, 0, none⟩) nc c1) ∧ v.cell? ⟨q.b, 3, none⟩ = some (.slice (some ⟨q.p, 0, none⟩) np c2) ∧ v.cell? ⟨q.b, 4, none⟩ = some (.map (some q.m))) := Lib.hid fun v g => ⟨World.grownBy.cell g o2 (by simp), World.grownBy.cell g o3 (by simp), World.grownBy.cell g o4 (by simp)⟩
  clear hW3 o0 o1 o2 o3 o4 fz
  have hS3 := HS.out _ g3.drew
  have HNC0 := HNC.out.symm
  have HNP0 := HNP.out.symm
  refine wp_region_held_drew (S := (fun v => v.cell? ⟨q.b, 2, none⟩ = some (.slice (some ⟨q.c, 0, none⟩) nc c1) ∧ v.cell? ⟨q.b, 3, none⟩ = some (.slice (some ⟨q.p, 0, none⟩) np c2) ∧ v.cell? ⟨q.b, 4, none⟩ = some (.map (some q.m)))) (by kernel_rfl) hS3 (fun _ => ?_)
  refine wpAnyH_take (i := 0) (oi := ⟨some 9, _, _, _, _, _⟩) (v := ?_) rfl (by kernel_rfl) (by kernel_rfl) (by kernel_rfl) (fun _ _ _ h => h) (Or.inl ⟨by rfl, ?_⟩) (by assumption) ?_
  rotate_left
  · intro w hSw; (try dsimp only at hSw); go_simp; (try with_reducible rfl)
  try simp only [Act.put, List.setIfInBounds_toArray, List.set_cons_zero, List.set_cons_succ]
  refine wpAnyH_take (i := 1) (oi := ⟨some 10, _, _, _, _, _⟩) (v := ?_) rfl (by kernel_rfl) (by kernel_rfl) (by kernel_rfl) (fun _ _ _ h => h) (Or.inl ⟨by rfl, ?_⟩) (by assumption) ?_
  rotate_left
  · intro w hSw; (try dsimp only at hSw); go_simp; (try with_reducible rfl)
  try simp only [Act.put, List.setIfInBounds_toArray, List.set_cons_zero, List.set_cons_succ]
  refine wpAnyH_take (i := 2) (oi := ⟨some 11, _, _, _, _, _⟩) (v := ?_) rfl (by kernel_rfl) (by kernel_rfl) (by kernel_rfl) (fun _ _ _ h => h) (Or.inl ⟨by rfl, ?_⟩) (by assumption) ?_
  rotate_left
  · intro w hSw; (try dsimp only at hSw); go_simp; (try with_reducible rfl)
  try simp only [Act.put, List.setIfInBounds_toArray, List.set_cons_zero, List.set_cons_succ]
  refine wpAnyH_take (i := 3) (oi := ⟨some 12, _, _, _, _, _⟩) (v := ?_) rfl (by kernel_rfl) (by kernel_rfl) (by kernel_rfl) (fun _ _ _ h => h) (Or.inl ⟨by rfl, ?_⟩) (by assumption) ?_
  rotate_left
  · intro w hSw; (try dsimp only at hSw); go_simp; (try with_reducible rfl)
  try simp only [Act.put, List.setIfInBounds_toArray, List.set_cons_zero, List.set_cons_succ]
  refine wpAnyH_take (i := 5) (oi := ⟨some 14, _, _, _, _, _⟩) (v := ?_) rfl (by kernel_rfl) (by kernel_rfl) (by kernel_rfl) (fun _ _ _ h => h) (Or.inl ⟨by rfl, ?_⟩) (by assumption) ?_
  rotate_left
  · intro w hSw; (try dsimp only at hSw); go_simp; (try with_reducible rfl)
  try simp only [Act.put, List.setIfInBounds_toArray, List.set_cons_zero, List.set_cons_succ]
  refine wpAnyH_take (i := 6) (oi := ⟨some 15, _, _, _, _, _⟩) (v := ?_) rfl (by kernel_rfl) (by kernel_rfl) (by kernel_rfl) (fun _ _ _ h => h) (Or.inl ⟨by rfl, ?_⟩) (by assumption) ?_
  rotate_left
  · intro w hSw; (try dsimp only at hSw); go_simp; (try with_reducible rfl)
  try simp only [Act.put, List.setIfInBounds_toArray, List.set_cons_zero, List.set_cons_succ]
  refine wpAnyH_take (i := 7) (oi := ⟨some 16, _, _, _, _, _⟩) (v := ?_) rfl (by kernel_rfl) (by kernel_rfl) (by kernel_rfl) (fun _ _ _ h => h) (Or.inl ⟨by rfl, ?_⟩) (by assumption) ?_
  rotate_left
  · intro w hSw; (try dsimp only at hSw); go_simp; (try with_reducible rfl)
  try simp only [Act.put, List.setIfInBounds_toArray, List.set_cons_zero, List.set_cons_succ]
  refine wpAnyH_take (i := 8) (oi := ⟨some 17, _, _, _, _, _⟩) (v := ?_) rfl (by kernel_rfl) (by kernel_rfl) (by kernel_rfl) (fun _ _ _ h => h) (Or.inl ⟨by rfl, ?_⟩) (by assumption) ?_
  rotate_left
  · intro w hSw; (try dsimp only at hSw); go_simp; (try with_reducible rfl)
  try simp only [Act.put, List.setIfInBounds_toArray, List.set_cons_zero, List.set_cons_succ]
  refine wpAnyH_take (i := 10) (oi := ⟨some 19, _, _, _, _, _⟩) (v := ?_) rfl (by kernel_rfl) (by kernel_rfl) (by kernel_rfl) (fun _ _ _ h => h) (Or.inl ⟨by rfl, ?_⟩) (by assumption) ?_
  rotate_left
  · intro w hSw; (try dsimp only at hSw); go_simp; (try with_reducible rfl)
  try simp only [Act.put, List.setIfInBounds_toArray, List.set_cons_zero, List.set_cons_succ]
  refine wpAnyH_take (i := 11) (oi := ⟨some 20, _, _, _, _, _⟩) (v := ?_) rfl (by kernel_rfl) (by kernel_rfl) (by kernel_rfl) (fun _ _ _ h => h) (Or.inl ⟨by rfl, ?_⟩) (by assumption) ?_
  rotate_left
  · intro w hSw; (try dsimp only at hSw); go_simp; (try with_reducible rfl)
  try simp only [Act.put, List.setIfInBounds_toArray, List.set_cons_zero, List.set_cons_succ]
  refine wpAnyH_take (i := 12) (oi := ⟨some 21, _, _, _, _, _⟩) (v := ?_) rfl (by kernel_rfl) (by kernel_rfl) (by kernel_rfl) (fun _ _ _ h => h) (Or.inl ⟨by rfl, ?_⟩) (by assumption) ?_
  rotate_left
  · intro w hSw; (try dsimp only at hSw); go_simp; (try with_reducible rfl)
  try simp only [Act.put, List.setIfInBounds_toArray, List.set_cons_zero, List.set_cons_succ]
  refine wpAnyH_take (i := 13) (oi := ⟨some 22, _, _, _, _, _⟩) (v := ?_) rfl (by kernel_rfl) (by kernel_rfl) (by kernel_rfl) (fun _ _ _ h => h) (Or.inl ⟨by rfl, ?_⟩) (by assumption) ?_
  rotate_left
  · intro w hSw; (try dsimp only at hSw); go_simp; (try with_reducible rfl)
  try simp only [Act.put, List.setIfInBounds_toArray, List.set_cons_zero, List.set_cons_succ]
  refine wpAnyH_ready (rs := [4]) (by kernel_rfl) (by simp) ?_
  refine AllReadyH.cons (o := ⟨some 13, _, _, _, _, _⟩) rfl (fun K hK => ?_) ?_
  rotate_left
  · exact AllReadyH.nil
  go_simp
  go_at_call 36
  refine (H36.out _ g3.drew).mono ?_
  rintro e w4 ⟨b1, d1, u1, rfl, l1, hk1, h4⟩
  rw [HNC0]
  have g4 := g3.drew.trans h4
  have hB4 := Blk.chg hB3.drew h4 (by simp)
  have hS4 := HS.out _ g4
  go_wp2_with fail
  refine hK.out _ _ hS4 (fun _ => ?_)
  clear hK K
  try simp only [Act.put, List.setIfInBounds_toArray, List.set_cons_zero, List.set_cons_succ]
  refine wpAnyH_ready (rs := [9]) (by kernel_rfl) (by simp) ?_
  refine AllReadyH.cons (o := ⟨some 18, _, _, _, _, _⟩) rfl (fun K hK => ?_) ?_
  rotate_left
  · exact AllReadyH.nil
  go_simp
  go_at_call 37
  refine (H37.out _ g4).mono ?_
  rintro e w5 ⟨b2, d2, u2, rfl, l2, hk2, h5⟩
  rw [HNP0]
  have g5 := g4.trans h5
  have hB5 := Blk.chg hB4 h5 (by simp)
  have hk15 := Blk.chg hk1 h5 (by simp)
  have hS5 := HS.out _ g5
  go_wp2_with fail
  refine hK.out _ _ hS5 (fun _ => ?_)
  clear hK K
  try simp only [Act.put, List.setIfInBounds_toArray, List.set_cons_zero, List.set_cons_succ]
  refine wpAnyH_ready (rs := [14]) (by kernel_rfl) (by simp) ?_
  refine AllReadyH.cons (o := ⟨some 23, _, _, _, _, _⟩) rfl (fun K hK => ?_) ?_
  rotate_left
  · exact AllReadyH.nil
  go_simp
  go_at_call 38
  refine (H38.out _ g5).mono ?_
  rintro e w6 ⟨rfl, hm, h6⟩
  have g6 := g5.trans h6
  have hB6 := Blk.chg hB5 h6 (by simp)
  have hk16 := Blk.chg hk15 h6 (by simp)
  have hk26 := Blk.chg hk2 h6 (by simp)
  have hS6 := HS.out _ g6
  have e2 : w6.cell? ⟨w.heap.size, 2, none⟩ = some (.slice (some ⟨q.c, 0, none⟩) nc c1) := by rw [Blk.cell hB6]; rfl
  have f6 := fun o => Blk.frozen hB6 o
  go_wp2_with fail
  refine hK.out _ _ hS6 (fun _ => ?_)
  clear hK K
  try simp only [Act.put, List.setIfInBounds_toArray, List.set_cons_zero, List.set_cons_succ]
  refine wpAnyH_take (i := 15) (oi := ⟨some 24, _, _, _, _, _⟩) (v := ?_) rfl (by kernel_rfl) (by kernel_rfl) (by kernel_rfl) (fun _ _ _ h => h) (Or.inl ⟨by rfl, ?_⟩) (by assumption) ?_
  rotate_left
  · intro w hSw; (try dsimp only at hSw); go_simp; (try with_reducible rfl)
  try simp only [Act.put, List.setIfInBounds_toArray, List.set_cons_zero, List.set_cons_succ]
  refine wpAnyH_ready (rs := [16]) (by kernel_rfl) (by simp) ?_
  refine AllReadyH.cons (o := ⟨none, _, _, _, _, _⟩) rfl (fun K hK => ?_) ?_
  rotate_left
  · exact AllReadyH.nil
  go_simp
  have hB7 := Blk.set hB6 2 (.slice (some ⟨b1, 0, none⟩) nc d1)
  have g7 := g6.setNew ⟨w.heap.size, 2, none⟩ (Nat.le_refl _) (.slice (some ⟨b1, 0, none⟩) nc d1)
  have hS7 := HS.out _ g7
  have e3 := (Blk.cell hB7 3).trans (show _ = some (.slice (some ⟨q.p, 0, none⟩) np c2) from rfl)
  have f7 := fun o => Blk.frozen hB7 o
  refine hK.out _ _ hS7 (fun _ => ?_)
  clear hK K
  refine wpAnyH_take (i := 17) (oi := ⟨some 25, _, _, _, _, _⟩) (v := ?_) rfl (by kernel_rfl) (by kernel_rfl) (by kernel_rfl) (fun _ _ _ h => h) (Or.inl ⟨by rfl, ?_⟩) (by assumption) ?_
  rotate_left
  · intro w hSw; (try dsimp only at hSw); go_simp; (try with_reducible rfl)
  try simp only [Act.put, List.setIfInBounds_toArray, List.set_cons_zero, List.set_cons_succ]
  refine wpAnyH_ready (rs := [18]) (by kernel_rfl) (by simp) ?_
  refine AllReadyH.cons (o := ⟨none, _, _, _, _, _⟩) rfl (fun K hK => ?_) ?_
  rotate_left
  · exact AllReadyH.nil
  go_simp
  have hB8 := Blk.set hB7 3 (.slice (some ⟨b2, 0, none⟩) np d2)
  have g8 := g7.setNew ⟨w.heap.size, 3, none⟩ (Nat.le_refl _) (.slice (some ⟨b2, 0, none⟩) np d2)
  have hS8 := HS.out _ g8
  have e4 := (Blk.cell hB8 4).trans (show _ = some (.map (some q.m)) from rfl)
  have f8 := fun o => Blk.frozen hB8 o
  refine hK.out _ _ hS8 (fun _ => ?_)
  clear hK K
  refine wpAnyH_take (i := 19) (oi := ⟨some 26, _, _, _, _, _⟩) (v := ?_) rfl (by kernel_rfl) (by kernel_rfl) (by kernel_rfl) (fun _ _ _ h => h) (Or.inl ⟨by rfl, ?_⟩) (by assumption) ?_
  rotate_left
  · intro w hSw; (try dsimp only at hSw); go_simp; (try with_reducible rfl)
  try simp only [Act.put, List.setIfInBounds_toArray, List.set_cons_zero, List.set_cons_succ]
  refine wpAnyH_ready (rs := [20]) (by kernel_rfl) (by simp) ?_
  refine AllReadyH.cons (o := ⟨none, _, _, _, _, _⟩) rfl (fun K hK => ?_) ?_
  rotate_left
  · exact AllReadyH.nil
  go_simp
  have hB9 := Blk.set hB8 4 (.map (some w5.heap.size))
  have g9 := g8.setNew ⟨w.heap.size, 4, none⟩ (Nat.le_refl _) (.map (some w5.heap.size))
  have hS9 := HS.out _ g9
  refine hK.out _ _ hS9 (fun _ => ?_)
  clear hK K
  refine wpAnyH_done (by kernel_rfl) ?_ _
  have z3 : w.heap.size < W3.heap.size := Blk.lt hB3
  have z4 : W3.heap.size ≤ w4.heap.size := h4.size
  have z5 : w4.heap.size ≤ w5.heap.size := h5.size
  have l1 : W3.heap.size ≤ b1 := l1
  have n1 : b1 ≠ w.heap.size := by omega
  have n2 : b2 ≠ w.heap.size := by omega
  have n3 : w5.heap.size ≠ w.heap.size := by omega
  have j1 := Blk.setOther (Blk.setOther (Blk.setOther hk16 ⟨w.heap.size, 2, none⟩ (.slice (some ⟨b1, 0, none⟩) nc d1) n1) ⟨w.heap.size, 3, none⟩ (.slice (some ⟨b2, 0, none⟩) np d2) n1) ⟨w.heap.size, 4, none⟩ (.map (some w5.heap.size)) n1
  have j2 := Blk.setOther (Blk.setOther (Blk.setOther hk26 ⟨w.heap.size, 2, none⟩ (.slice (some ⟨b1, 0, none⟩) nc d1) n2) ⟨w.heap.size, 3, none⟩ (.slice (some ⟨b2, 0, none⟩) np d2) n2) ⟨w.heap.size, 4, none⟩ (.map (some w5.heap.size)) n2
  have j3 := ((hm.block (Below.heap_setCell _ ⟨w.heap.size, 2, none⟩ (.slice (some ⟨b1, 0, none⟩) nc d1) _ n3)).block (Below.heap_setCell _ ⟨w.heap.size, 3, none⟩ (.slice (some ⟨b2, 0, none⟩) np d2) _ n3)).block (Below.heap_setCell _ ⟨w.heap.size, 4, none⟩ (.map (some w5.heap.size)) _ n3)
  have HX := Lib.hid (HEND.out _ b1 b2 _ d1 d2 u1 u2 hB9 j1 j2 j3 (by omega) (by omega) (by omega) g9)
  clear j1 j2 j3 hB9 g9 hm hk16 hk26
  go_wp2_with fail
  go_ret
  exact HX.out

end Go.Proofs.Ytippkdjggipnmaa
