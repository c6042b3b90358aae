/-
  Package merkle: which of two digests comes first.
-/
import Derived.Test.YtdkgecphkppglaaDoorMC0
namespace Go.Proofs.YtdkgecphkppglaaDoor
open Go.RowKit

set_option maxRecDepth 100000 in
set_option maxHeartbeats 4000000 in
theorem ordered_any (i : Nat) (d p : Dg) (w : World) (hi : i < 9223372036854775808) (hT : Tabs w) :
    Calls Tryd.prog 62 #[.int .i64 i, .agg (byteVals d.1).toArray, .agg (byteVals p.1).toArray] w fun e w' => e = .returned (.agg (byteVals (orderedDg i d p).1).toArray) ∧ Chg none w w' := by
  obtain ⟨W3, hW3⟩ : ∃ W3, W3 = ((w.alloc (.cells (byteVals d.1).toArray 30)).alloc (.cells (byteVals p.1).toArray 30)).alloc (.cells zero32 30) := ⟨_, rfl⟩
  have HW3 : Hid (((w.alloc (.cells (byteVals d.1).toArray 30)).alloc (.cells (byteVals p.1).toArray 30)).alloc (.cells #[Value.int IntKind.u8 0, Value.int IntKind.u8 0, Value.int IntKind.u8 0, Value.int IntKind.u8 0, Value.int IntKind.u8 0, Value.int IntKind.u8 0, Value.int IntKind.u8 0, Value.int IntKind.u8 0, Value.int IntKind.u8 0, Value.int IntKind.u8 0, Value.int IntKind.u8 0, Value.int IntKind.u8 0, Value.int IntKind.u8 0, Value.int IntKind.u8 0, Value.int IntKind.u8 0, Value.int IntKind.u8 0, Value.int IntKind.u8 0, Value.int IntKind.u8 0, Value.int IntKind.u8 0, Value.int IntKind.u8 0, Value.int IntKind.u8 0, Value.int IntKind.u8 0, Value.int IntKind.u8 0, Value.int IntKind.u8 0, Value.int IntKind.u8 0, Value.int IntKind.u8 0, Value.int IntKind.u8 0, Value.int IntKind.u8 0, Value.int IntKind.u8 0, Value.int IntKind.u8 0, Value.int IntKind.u8 0, Value.int IntKind.u8 0] 30) = W3) := hW3.symm
  have g0 : Chg none w W3 := by rw [hW3]; exact (((Chg.refl _ _).alloc _).alloc _).alloc _
  have hs1 : (w.alloc (.cells (byteVals d.1).toArray 30)).heap.size = w.heap.size + 1 := by simp
  have hs2 : ((w.alloc (.cells (byteVals d.1).toArray 30)).alloc (.cells (byteVals p.1).toArray 30)).heap.size = w.heap.size + 1 + 1 := by simp
  have bA : BlkL W3 w.heap.size (byteVals d.1) 30 := by rw [hW3]; exact Blk.alloc (Blk.alloc (Blk.new _ _ _) _) _
  have bB : BlkL W3 (w.heap.size + 1) (byteVals p.1) 30 := by
    have h := Blk.new (w.alloc (.cells (byteVals d.1).toArray 30)) (byteVals p.1).toArray 30
    rw [hs1] at h
    rw [hW3]; exact Blk.alloc h _
  have bR : Blk W3 (w.heap.size + 1 + 1) zero32 30 := by
    have h := Blk.new ((w.alloc (.cells (byteVals d.1).toArray 30)).alloc (.cells (byteVals p.1).toArray 30)) zero32 30
    rw [hs2] at h
    rw [hW3]; exact h
  have hRge : w.heap.size ≤ w.heap.size + 1 + 1 := by omega
  have HId : Hid ((Tryd.prog.info? 30).map (·.size) = some (byteVals d.1).length) := by rw [byteVals_len, d.2]; show _ = _; kernel_rfl
  have HIp : Hid ((Tryd.prog.info? 30).map (·.size) = some (byteVals p.1).length) := by rw [byteVals_len, p.2]; show _ = _; kernel_rfl
  clear hW3 hs1 hs2
  by_cases h2 : i % 2 = 0
  · have t1 : ((i : Int) % 2 == 0) = true := by simp; omega
    obtain ⟨D, hD⟩ : ∃ D, D = pairB d.1 p.1 := ⟨_, rfl⟩
    have hDl : D.length = 32 := by rw [hD]; exact dig_len _
    have hO : (orderedDg i d p).1 = D := by unfold orderedDg; rw [if_pos h2, hD]; rfl
    rw [hO]
    have HD := Lib.hid hD.symm
    clear hO hD
    go_enter Tryd.func62, Tryd.ntmps62
    go_upto_region 2 with (fail)
    rw [HW3.out]
    clear HW3
    generalize w.heap.size + 1 + 1 = pR at *
    generalize w.heap.size + 1 = pB at *
    generalize hpA : w.heap.size = pA at *
    have HPA := Lib.hid hpA
    clear hpA
    have HPT := Lib.hid (pair_any d.1 p.1 d.2 p.2 W3 (hT.chg g0 (by simp)))
    have rA := Blk.range bA
    have rB := Blk.range bB
    rw [HD.out] at HPT
    obtain ⟨hds, hdo⟩ := row_facts D 32 hDl
    have HI : Hid ((Tryd.prog.info? 30).map (·.size) = some (byteVals D).toArray.size) := by rw [hds]; show _ = _; kernel_rfl
    have HZ : Hid (zero32.size = (byteVals D).toArray.size) := by rw [hds]; rfl
    have HO := Lib.hid hdo
    have RA := Lib.hid rA
    have RB := Lib.hid rB
    clear hds hdo rA rB bA bB
    go_wp2_with (first
      | (refine wpList_load_mid rfl 30 (.tmp 4) rfl pA 0 rfl (byteVals d.1) _ RA.out Tryd.underlying30 rfl HId.out ?_)
      | (refine wpList_load_mid rfl 30 (.tmp 5) rfl pB 0 rfl (byteVals p.1) _ RB.out Tryd.underlying30 rfl HIp.out ?_))
    refine HPT.out.mono ?_
    rintro e w4 ⟨rfl, g4⟩
    have bR4 := Blk.chg bR g4 (by simp)
    go_wp2_with (refine wpList_store_row rfl 30 _ _ rfl pR (byteVals D).toArray rfl rfl 30 _ bR4 HI.out HZ.out HO.out ?_)
    refine bodyPost_ret (results_cell_row (p := 6) (ty := 30) Tryd.results62 _ _ pR 30 (byteVals D).toArray (0, 0) _ rfl (setRow_heap _ _ _ _ _ _ bR4) Tryd.underlying30 rfl HI.out) rfl ⟨rfl, ?_⟩
    exact Chg.own (b := pR) (g0.trans g4) (chg_setRow _ _ _) (by rw [HPA.out]; exact hRge)
  · have t1 : ((i : Int) % 2 == 0) = false := by simp; omega
    obtain ⟨D, hD⟩ : ∃ D, D = pairB p.1 d.1 := ⟨_, rfl⟩
    have hDl : D.length = 32 := by rw [hD]; exact dig_len _
    have hO : (orderedDg i d p).1 = D := by unfold orderedDg; rw [if_neg h2, hD]; rfl
    rw [hO]
    have HD := Lib.hid hD.symm
    clear hO hD
    go_enter Tryd.func62, Tryd.ntmps62
    go_upto_region 3 with (fail)
    rw [HW3.out]
    clear HW3
    generalize w.heap.size + 1 + 1 = pR at *
    generalize w.heap.size + 1 = pB at *
    generalize hpA : w.heap.size = pA at *
    have HPA := Lib.hid hpA
    clear hpA
    have HPT := Lib.hid (pair_any p.1 d.1 p.2 d.2 W3 (hT.chg g0 (by simp)))
    have rA := Blk.range bA
    have rB := Blk.range bB
    rw [HD.out] at HPT
    obtain ⟨hds, hdo⟩ := row_facts D 32 hDl
    have HI : Hid ((Tryd.prog.info? 30).map (·.size) = some (byteVals D).toArray.size) := by rw [hds]; show _ = _; kernel_rfl
    have HZ : Hid (zero32.size = (byteVals D).toArray.size) := by rw [hds]; rfl
    have HO := Lib.hid hdo
    have RA := Lib.hid rA
    have RB := Lib.hid rB
    clear hds hdo rA rB bA bB
    go_wp2_with (first
      | (refine wpList_load_mid rfl 30 (.tmp 4) rfl pA 0 rfl (byteVals d.1) _ RA.out Tryd.underlying30 rfl HId.out ?_)
      | (refine wpList_load_mid rfl 30 (.tmp 5) rfl pB 0 rfl (byteVals p.1) _ RB.out Tryd.underlying30 rfl HIp.out ?_))
    refine HPT.out.mono ?_
    rintro e w4 ⟨rfl, g4⟩
    have bR4 := Blk.chg bR g4 (by simp)
    go_wp2_with (refine wpList_store_row rfl 30 _ _ rfl pR (byteVals D).toArray rfl rfl 30 _ bR4 HI.out HZ.out HO.out ?_)
    refine bodyPost_ret (results_cell_row (p := 6) (ty := 30) Tryd.results62 _ _ pR 30 (byteVals D).toArray (0, 0) _ rfl (setRow_heap _ _ _ _ _ _ bR4) Tryd.underlying30 rfl HI.out) rfl ⟨rfl, ?_⟩
    exact Chg.own (b := pR) (g0.trans g4) (chg_setRow _ _ _) (by rw [HPA.out]; exact hRge)

end Go.Proofs.YtdkgecphkppglaaDoor
