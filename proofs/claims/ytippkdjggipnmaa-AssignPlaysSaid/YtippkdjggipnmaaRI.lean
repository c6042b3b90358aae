/-
  The document's plan of layer 23: New and May, walked.
-/
import Derived.Test.YtippkdjggipnmaaRH
import Derived.Test.YtippkdjggipnmaaR
namespace Go.Proofs.Ytippkdjggipnmaa
open Go.RowKit Go.Maps

theorem NewAt.cells {w wr : World} {np : Nat} {win tim : Int} {k1 k2 k3 k5 : Nat} {v1 v2 v3 v5 : Value} {rs : List Nat} (h : NewAt w wr np win tim k1 k2 k3 k5 v1 v2 v3 v5 rs) :
    wr.cell? ⟨w.heap.size, 0, none⟩ = some v1 ∧ wr.cell? ⟨w.heap.size, 1, none⟩ = some v2 ∧ wr.cell? ⟨w.heap.size, 2, none⟩ = some v3 ∧ wr.cell? ⟨w.heap.size, 3, none⟩ = some (.slice none 0 0) ∧ wr.cell? ⟨w.heap.size, 4, none⟩ = some v5 ∧
      (∀ o, wr.frozen? ⟨w.heap.size, o, none⟩ = false) ∧ w.heap.size < wr.heap.size := by
  refine ⟨?_, ?_, ?_, ?_, ?_, fun o => Blk.frozen h.blk o, Blk.lt h.blk⟩ <;> (rw [Blk.cell h.blk]; rfl)

set_option maxHeartbeats 8000000 in
theorem rnew_any (nc np : Nat) (win tim : Int) (w : World) (hm : mayP nc np win tim) :
    Calls Try.prog 12 #[.int .i64 nc, .int .i64 np, .int .i64 win, .int .i64 tim] w (RNew w nc np win tim) := by
  have hnc : nc ≤ 100 := by have := hm.1; omega
  have hnp : np ≤ 64 := by have := hm.2.1; omega
  have HMK := Lib.hid (make52 np (by omega))
  obtain ⟨i0, hi0, hz0, hz1, hz2⟩ := info_parts Try.info3
  obtain ⟨i1, hj0, hy0, hy1, hy2⟩ := info_parts Try.info52
  have HR : Hid (∀ W : World, Reads (W.alloc (.cells #[.int .i64 0] 3)) (W.heap.size + 1) 1 (some ⟨W.heap.size, 0, none⟩) 1 [.int .i64 0]) := Lib.hid fun W => ⟨rfl, fun _ => ⟨_, rfl, Nat.lt_succ_self _, fun j u hu => by
    rw [Go.WideShapes.add_plain, Blk.cell (Blk.new W _ _)]
    simpa using hu⟩⟩
  have HO := Lib.hid (show ∀ u ∈ [Value.int .i64 0], u.oneCell' = true by intro u hu; simp at hu; subst hu; rfl)
  have h0 : NewAt w (w.alloc (.cells #[.slice none 0 0, .slice none 0 0, .slice none 0 0, .slice none 0 0, .slice none 0 0, .int .i64 win, .int .i64 tim] 57)) np win tim 0 0 0 0 (.slice none 0 0) (.slice none 0 0) (.slice none 0 0) (.slice none 0 0) [] :=
    { blk := Blk.new _ _ _, o1 := World.ownsRow_nil _ _ _ _, o2 := World.ownsRow_nil _ _ _ _, o3 := World.ownsRow_nil _ _ _ _, o5 := World.ownsRow_nil _ _ _ _, rows := fun g hg => (by cases hg), nd := List.nodup_nil,
      a12 := fun g e => (by cases e), a13 := fun g e => (by cases e), a15 := fun g e => (by cases e), a23 := fun g e => (by cases e), a25 := fun g e => (by cases e), a35 := fun g e => (by cases e),
      r1 := fun g hg => (by cases hg), r2 := fun g hg => (by cases hg), r3 := fun g hg => (by cases hg), r5 := fun g hg => (by cases hg), chg := (Chg.refl _ _).alloc _ }
  have H0 := Lib.hid h0
  clear h0 hm
  go_enter Try.func12, Try.ntmps12
  go_wp2_with fail
  go_loopw [10] (fun i wr => ∃ (k : Nat) (v1 v2 v3 v5 : Value) (rs : List Nat), k ≤ nc ∧ i = .int .i64 k ∧ Hid (NewAt w wr np win tim k k k k v1 v2 v3 v5 rs)) (fun i _ => nc - (intOf i).toNat)
  case atStart => exact ⟨0, _, _, _, _, _, Nat.zero_le _, rfl, H0⟩
  case round =>
    obtain ⟨k, v1, v2, v3, v5, rs, hk, rfl, HN⟩ := hrel
    by_cases hlt : k < nc
    · have hdd : decide ((k : Int) < (nc : Int)) = true := by rw [decide_eq_true_eq]; omega
      obtain ⟨A1, c1, rfl⟩ := own_slice HN.out.o1
      obtain ⟨A2, c2, rfl⟩ := own_slice HN.out.o2
      obtain ⟨A3, c3, rfl⟩ := own_slice HN.out.o3
      obtain ⟨A5, c5, rfl⟩ := own_slice HN.out.o5
      have hs1 : k + 1 ≤ maxLen := by unfold maxLen; omega
      have hs2 : (k + 1) * 8 ≤ 140737488355328 := by omega
      have hs3 : (k + 1) * 24 ≤ 140737488355328 := by omega
      obtain ⟨x0, x1, x2, x3, x4, xf, xb⟩ := HN.out.cells
      have xl : w.heap.size < wr.heap.size + 1 := by omega
      go_upto_region 6 with (first
        | (refine wpList_append_any _ rfl (.tmp 24) (.tmp 25) 52 rfl (w.heap.size + 1) 3 i0 (.int .i64 0) 1 8 Try.underlying52 hi0 hz0 hz1 hz2 rfl (by decide) (.slice A1 k c1) k _ rfl (HN.out.o1.alloc _) _ (some ⟨wr.heap.size, 0, none⟩) 1 1 [.int .i64 0] rfl (HR.out wr) HO.out hs1 hs2 (by simp; omega) ?_
           intro v6 w6 hown6 hgr6 hat6
           have HM6 := Lib.hid ((HN.out.on ((Chg.refl _ _).alloc _)).app1 hown6 hgr6 hat6)
           have hB6 := Blk.chg (HN.out.blk.alloc _) hgr6 (fun e => by have := (HN.out.o1.lt _ e.symm).1; omega)
           obtain ⟨A6, c6, rfl⟩ := own_slice hown6
           have hf6 := Blk.frozen hB6 0
           have hc6 : w6.cell? ⟨w.heap.size, 0, none⟩ = some (.slice A1 k c1) := by rw [Blk.cell hB6]; rfl
           clear hown6 hgr6 hat6 hB6))
      obtain ⟨W1, hW1⟩ : ∃ W, W = w6.setCell ⟨w.heap.size, 0, none⟩ (.slice A6 (k + 1) c6) := ⟨_, rfl⟩
      rw [← hW1] at HM6
      rw [← hW1]
      clear hW1 hf6 hc6 x0 x1 x2 x3 x4 xf xb xl
      clear w6
      obtain ⟨y0, y1, y2, y3, y4, yf, yb⟩ := HM6.out.cells
      have yl : w.heap.size < W1.heap.size + 1 := by omega
      go_upto_region 7 with (first
        | (refine wpList_append_any _ rfl (.tmp 33) (.tmp 34) 52 rfl (w.heap.size + 1) 3 i0 (.int .i64 0) 1 8 Try.underlying52 hi0 hz0 hz1 hz2 rfl (by decide) (.slice A2 k c2) k _ rfl (HM6.out.o2.alloc _) _ (some ⟨W1.heap.size, 0, none⟩) 1 1 [.int .i64 0] rfl (HR.out W1) HO.out hs1 hs2 (by simp; omega) ?_
           intro v6 w6 hown6 hgr6 hat6
           have HM7 := Lib.hid ((HM6.out.on ((Chg.refl _ _).alloc _)).app2 hown6 hgr6 hat6)
           have hB6 := Blk.chg (HM6.out.blk.alloc _) hgr6 (fun e => by have := (HM6.out.o2.lt _ e.symm).1; omega)
           obtain ⟨A7, c7, rfl⟩ := own_slice hown6
           have hf6 := Blk.frozen hB6 1
           have hc7 : w6.cell? ⟨w.heap.size, 1, none⟩ = some (.slice A2 k c2) := by rw [Blk.cell hB6]; rfl
           clear hown6 hgr6 hat6 hB6))
      obtain ⟨W2, hWn⟩ : ∃ W, W = w6.setCell ⟨w.heap.size, 1, none⟩ (.slice A7 (k + 1) c7) := ⟨_, rfl⟩
      rw [← hWn] at HM7
      rw [← hWn]
      clear hWn hf6 hc7 y0 y1 y2 y3 y4 yf yb yl
      clear w6
      obtain ⟨y0, y1, y2, y3, y4, yf, yb⟩ := HM7.out.cells
      have yl : w.heap.size < W2.heap.size + 1 := by omega
      go_upto_region 8 with (first
        | (refine wpList_append_any _ rfl (.tmp 42) (.tmp 43) 52 rfl (w.heap.size + 1) 3 i0 (.int .i64 0) 1 8 Try.underlying52 hi0 hz0 hz1 hz2 rfl (by decide) (.slice A3 k c3) k _ rfl (HM7.out.o3.alloc _) _ (some ⟨W2.heap.size, 0, none⟩) 1 1 [.int .i64 0] rfl (HR.out W2) HO.out hs1 hs2 (by simp; omega) ?_
           intro v6 w6 hown6 hgr6 hat6
           have HM8 := Lib.hid ((HM7.out.on ((Chg.refl _ _).alloc _)).app3 hown6 hgr6 hat6)
           have hB6 := Blk.chg (HM7.out.blk.alloc _) hgr6 (fun e => by have := (HM7.out.o3.lt _ e.symm).1; omega)
           obtain ⟨A8, c8, rfl⟩ := own_slice hown6
           have hf6 := Blk.frozen hB6 2
           have hc8 : w6.cell? ⟨w.heap.size, 2, none⟩ = some (.slice A3 k c3) := by rw [Blk.cell hB6]; rfl
           clear hown6 hgr6 hat6 hB6))
      obtain ⟨W3, hWn⟩ : ∃ W, W = w6.setCell ⟨w.heap.size, 2, none⟩ (.slice A8 (k + 1) c8) := ⟨_, rfl⟩
      rw [← hWn] at HM8
      rw [← hWn]
      clear hWn hf6 hc8 y0 y1 y2 y3 y4 yf yb yl
      clear w6
      obtain ⟨W4, hmk, hbk, hck⟩ := HMK.out W3.drew
      have hs3w : W3.drew.heap.size = W3.heap.size := rfl
      rw [hs3w] at hmk hbk
      obtain ⟨y0, y1, y2, y3, y4, yf, yb⟩ := HM8.out.cells
      have HN4 := Lib.hid (HM8.out.on ((Chg.refl _ _).drew.trans hck))
      obtain ⟨z0, z1, z2, z3, z4, zf, zb⟩ := HN4.out.cells
      have yl : w.heap.size < W4.heap.size + 1 := by omega
      have HGN : Hid (BlkL W4 W3.heap.size (zs np) 3) := Lib.hid (by rw [← ints_zs]; exact hbk)
      have HR2 : Hid (Reads (W4.alloc (.cells #[.slice (some ⟨W3.heap.size, 0, none⟩) np np] 52)) (W4.heap.size + 1) 1 (some ⟨W4.heap.size, 0, none⟩) 1 [.slice (some ⟨W3.heap.size, 0, none⟩) np np]) := Lib.hid ⟨rfl, fun _ => ⟨_, rfl, Nat.lt_succ_self _, fun j u hu => by
        rw [Go.WideShapes.add_plain, Blk.cell (Blk.new W4 _ _)]
        simpa using hu⟩⟩
      have HO2 := Lib.hid (show ∀ u ∈ [Value.slice (some ⟨W3.heap.size, 0, none⟩) np np], u.oneCell' = true by intro u hu; simp at hu; subst hu; rfl)
      have HNE : Hid ((∀ {v : Value} {T m : Nat} {xs : List Value}, W3.ownsRow (w.heap.size + 1) T 1 v m xs → v.ownBlock ≠ some W3.heap.size) ∧ W3.heap.size ∉ rs) := Lib.hid ⟨fun h e => by have := (h.lt _ e).2; omega, fun hm => by have := Blk.lt (HM8.out.rows _ hm).1; omega⟩
      clear hbk hck hs3w
      go_region_law (first
        | (refine step_append_any _ rfl (.tmp 51) (.tmp 54) 55 rfl (w.heap.size + 1) 52 i1 (.slice none 0 0) 1 24 Try.underlying55 hj0 hy0 hy1 hy2 rfl (by decide) (.slice A5 k c5) k _ rfl (HN4.out.o5.alloc _) _ (some ⟨W4.heap.size, 0, none⟩) 1 1 [.slice (some ⟨W3.heap.size, 0, none⟩) np np] rfl HR2.out HO2.out hs1 hs3 (by simp; omega) ?_
           intro v9 w9 hown9 hgr9 hat9
           have HM9 := Lib.hid ((HN4.out.on ((Chg.refl _ _).alloc _)).app5 W3.heap.size (Blk.alloc HGN.out _) yb (HNE.out.1 HM8.out.o1) (HNE.out.1 HM8.out.o2) (HNE.out.1 HM8.out.o3) (HNE.out.1 HM8.out.o5) HNE.out.2 hown9 hgr9 hat9)
           have hB9 := Blk.chg (HN4.out.blk.alloc _) hgr9 (fun e => by have := (HN4.out.o5.lt _ e.symm).1; omega)
           obtain ⟨A9, c9, rfl⟩ := own_slice hown9
           have hf9 := Blk.frozen hB9 4
           have hc9 : w9.cell? ⟨w.heap.size, 4, none⟩ = some (.slice A5 k c5) := by rw [Blk.cell hB9]; rfl
           clear hown9 hgr9 hat9 hB9))
      all_goals go_wp2_with fail
      all_goals go_roundw
      all_goals first | exact ⟨k + 1, _, _, _, _, _, by omega, by go_num, HM9⟩ | (simp [intOf]; omega)
    · have hkn : k = nc := by omega
      subst hkn
      have hdd : decide (k < k) = false := by simp
      obtain ⟨W4, hmk, hbk, hck⟩ := HMK.out wr
      obtain ⟨z0, z1, z2, z3, z4, zf, zb⟩ := (HN.out.on hck).cells
      have HE := Lib.hid (RNew.of HN.out hck hbk np)
      clear hck hbk
      go_wp2_with fail
      go_ret
      exact HE.out

end Go.Proofs.Ytippkdjggipnmaa
