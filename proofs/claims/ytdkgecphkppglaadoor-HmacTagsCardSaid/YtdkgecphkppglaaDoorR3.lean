/-
  The document's digest: roots by digits.
-/
import Derived.Test.YtdkgecphkppglaaDoorR2
namespace Go.Proofs.YtdkgecphkppglaaDoor
open Go.RowKit

def zero10 : Array Value := (u64s (List.replicate 10 0)).toArray
theorem new_row10 (w : World) (cs : Array Value) : Chg none w ((w.alloc (.cells zero10 93)).setRow w.heap.size cs) ∧ Blk ((w.alloc (.cells zero10 93)).setRow w.heap.size cs) w.heap.size cs 93 :=
  ⟨Chg.own (b := w.heap.size) ((Chg.refl none w).alloc _) (chg_setRow _ _ _) (Nat.le_refl _), setRow_heap _ _ _ _ _ _ (heap_alloc_new _ _)⟩

theorem pow_small {X k : Nat} (h : X < 274877906945) (hk : k ≤ 3) : X ^ k < 65536 ^ 10 := by
  have h1 : X ^ k ≤ 274877906945 ^ k := Nat.pow_le_pow_left (by omega) k
  have h2 : 274877906945 ^ k ≤ 274877906945 ^ 3 := Nat.pow_le_pow_right (by decide) hk
  have h3 : 274877906945 ^ 3 < 65536 ^ 10 := by decide
  omega

set_option maxRecDepth 100000 in
set_option maxHeartbeats 16000000 in
theorem rootw_any (p power : Nat) (hp : p < 65536) (hw2 : 2 ≤ power) (hw3 : power ≤ 3) (w : World) : Calls Tryd.prog 39 #[.int .i64 p, .int .i64 power] w fun e w' => e = .returned (.int .u32 (rootV p power : Nat)) ∧ Chg none w w' := by
  obtain ⟨W1, hW1⟩ : ∃ W1, W1 = (w.alloc (.cells zero10 93)).setCell ⟨w.heap.size, 2 * power, none⟩ (.int .u64 (p : Int)) := ⟨_, rfl⟩
  have g1 : Chg none w W1 := by rw [hW1]; exact ((Chg.refl _ _).alloc _).setNew _ (Nat.le_refl _) _
  have bM : BlkL W1 w.heap.size (u64s (mostN p power)) 93 := by
    have h := BlkL.set (show BlkL (w.alloc (.cells zero10 93)) w.heap.size (u64s (List.replicate 10 0)) 93 from Blk.new _ _ _) (2 * power) (.int .u64 (p : Int))
    rw [u64s_set] at h
    rw [hW1]; exact h
  have cM : (w.alloc (.cells zero10 93)).cell? ⟨w.heap.size, 2 * power, none⟩ = some (.int .u64 0) := by
    rw [BlkL.cell (show BlkL (w.alloc (.cells zero10 93)) w.heap.size (u64s (List.replicate 10 0)) 93 from Blk.new _ _ _), u64s_get _ _ (by simp; omega)]
    rw [show (List.replicate 10 0).getD (2 * power) 0 = 0 by rw [List.getD_eq_getElem?_getD, List.getElem?_replicate]; split <;> rfl]
    rfl
  have fM : (w.alloc (.cells zero10 93)).frozen? ⟨w.heap.size, 2 * power, none⟩ = false := Blk.frozen (Blk.new _ _ _) _
  have HMD := Lib.hid (most_dig p power hp)
  have HMV := Lib.hid (most_val p power (by omega))
  have hle : w.heap.size ≤ w.heap.size := Nat.le_refl _
  obtain ⟨W0, hW0⟩ : ∃ W0, W0 = w.alloc (.cells zero10 93) := ⟨_, rfl⟩
  have HW0 : Hid (w.alloc (.cells #[Value.int IntKind.u64 0, Value.int IntKind.u64 0, Value.int IntKind.u64 0, Value.int IntKind.u64 0, Value.int IntKind.u64 0, Value.int IntKind.u64 0, Value.int IntKind.u64 0, Value.int IntKind.u64 0, Value.int IntKind.u64 0, Value.int IntKind.u64 0] 93) = W0) := hW0.symm
  have hlt0 : w.heap.size < W0.heap.size := by rw [hW0]; simp
  rw [← hW0] at cM fM hW1
  have HW1 := Lib.hid hW1.symm
  have p2 : (2 : Int) * (power : Int) < 10 := by omega
  have p3 : (0 : Int) ≤ 2 * (power : Int) := by omega
  have p4 : ((2 : Int) * (power : Int)).toNat = 2 * power := by omega
  clear hW0 hW1
  go_enter Tryd.func39, Tryd.ntmps39
  go_upto_region 2 with (fail)
  rw [HW0.out]
  clear HW0
  generalize hpM : w.heap.size = pM at *
  have HPM := Lib.hid hpM
  clear hpM
  go_wp2_with fail
  rw [HW1.out]
  clear HW1 cM fM hlt0 p2 p3 p4
  go_loopw [6, 7, 8, 9, 10] (fun s6 s7 _ _ _ wr => ∃ k : Nat, k ≤ 38 ∧ s6 = .int .u64 (rootX p power k : Nat) ∧ s7 = .int .u64 (bitN k : Nat) ∧ BlkL wr pM (u64s (mostN p power)) 93 ∧ Chg none w wr) (fun _ s7 _ _ _ _ => (intOf s7).toNat)
  case atStart => exact ⟨0, by omega, rfl, rfl, bM, g1⟩
  case round =>
    obtain ⟨k, hk, rfl, rfl, bMk, gk⟩ := hrel
    clear bM g1
    by_cases hlt : k < 38
    · have hpos := bit_pos k hlt
      have hhalf := bit_half k
      have hbd := root_bound p power k hlt
      have hrx : rootX p power (k + 1) = if p * 65536 ^ (2 * power) < (rootX p power k + bitN k) ^ power then rootX p power k else rootX p power k + bitN k := rfl
      have HRX := Lib.hid hrx
      have HHALF := Lib.hid hhalf
      clear hrx hhalf
      generalize hx : rootX p power k = x at *
      generalize hb : bitN k = bt at *
      obtain ⟨X, hX⟩ : ∃ X, X = x + bt := ⟨_, rfl⟩
      have hXi : (x : Int) + (bt : Int) = (X : Int) := by omega
      have hX2 : X < 274877906945 := by omega
      rw [← hX] at HRX
      have HDG := Lib.hid (fun v => digits_any X (by omega) v)
      have hbp : decide ((0 : Int) < (bt : Int)) = true := by simp; omega
      obtain ⟨d, hd⟩ : ∃ d, d = dgs X 4 := ⟨_, rfl⟩
      rw [← hd] at HDG
      have HDD : Hid (Dig d) := by show Dig d; rw [hd]; exact dgs_dig X 4
      have HDV : Hid (val d = X) := by show val d = X; rw [hd]; exact dgs_val X (by omega)
      have HX := Lib.hid hX
      have HXB := Lib.hid hx
      have HBT := Lib.hid hb
      clear hd hX hx hb
      go_wp2_with fail
      refine (HDG.out _).mono ?_
      rintro e w2 ⟨rfl, g2⟩
      have HNW := Lib.hid (fun v => heap_alloc_new v (.cells zero10 93))
      have HI := Lib.hid (u64s_info d HDD.out.1)
      have HIL := Lib.hid (u64s_infoL d HDD.out.1)
      have HS := Lib.hid (u64s_size (List.replicate 10 0) d dig_zero.1 HDD.out.1)
      have HO := Lib.hid (u64s_one d)
      obtain ⟨gN, bD3⟩ := new_row10 w2 (u64s d).toArray
      obtain ⟨W3, hW3⟩ : ∃ W3, W3 = (w2.alloc (.cells zero10 93)).setRow w2.heap.size (u64s d).toArray := ⟨_, rfl⟩
      have HW3 : Hid ((w2.alloc (.cells #[Value.int IntKind.u64 0, Value.int IntKind.u64 0, Value.int IntKind.u64 0, Value.int IntKind.u64 0, Value.int IntKind.u64 0, Value.int IntKind.u64 0, Value.int IntKind.u64 0, Value.int IntKind.u64 0, Value.int IntKind.u64 0, Value.int IntKind.u64 0] 93)).setRow w2.heap.size (u64s d).toArray = W3) := hW3.symm
      rw [← hW3] at gN bD3
      have g03 := (gk.trans g2).trans gN
      have bM3 := (Blk.chg bMk g2 (by simp)).chg gN (by simp)
      have zD : w.heap.size ≤ w2.heap.size := (gk.trans g2).size
      have hMD : pM < w2.heap.size := Blk.lt (Blk.chg bMk g2 (by simp))
      clear hW3 hXi gN HDG
      go_upto_region 8 with (refine wpList_store_row rfl 93 _ _ rfl w2.heap.size (u64s d).toArray rfl rfl 93 _ (HNW.out w2) HI.out HS.out HO.out ?_)
      rw [HW3.out]
      clear HW3
      generalize w2.heap.size = pD at *
      have rD3 := Lib.hid (show W3.rangeAt pD 0 (u64s d) from Blk.range bD3)
      obtain ⟨gN, bY4⟩ := new_row10 W3 (u64s d).toArray
      obtain ⟨W4, hW4⟩ : ∃ W4, W4 = (W3.alloc (.cells zero10 93)).setRow W3.heap.size (u64s d).toArray := ⟨_, rfl⟩
      have HW4 : Hid ((W3.alloc (.cells #[Value.int IntKind.u64 0, Value.int IntKind.u64 0, Value.int IntKind.u64 0, Value.int IntKind.u64 0, Value.int IntKind.u64 0, Value.int IntKind.u64 0, Value.int IntKind.u64 0, Value.int IntKind.u64 0, Value.int IntKind.u64 0, Value.int IntKind.u64 0] 93)).setRow W3.heap.size (u64s d).toArray = W4) := hW4.symm
      rw [← hW4] at gN bY4
      have g04 := g03.trans gN
      have bM4 := bM3.chg gN (by simp)
      have bD4 := bD3.chg gN (by simp)
      have zY : w.heap.size ≤ W3.heap.size := g03.size
      have hMY : pM ≠ W3.heap.size := by have := Blk.lt bM3; omega
      have hDY : pD ≠ W3.heap.size := by have := Blk.lt bD3; omega
      clear hW4 gN bM3 bD3 g03
      go_wp2_with (first
        | (refine wpList_load_mid rfl 93 _ rfl pD 0 rfl (u64s d) _ rD3.out Tryd.underlying93 rfl HIL.out ?_)
        | (refine wpList_store_row rfl 93 _ _ rfl W3.heap.size (u64s d).toArray rfl rfl 93 _ (HNW.out W3) HI.out HS.out HO.out ?_))
      rw [HW4.out]
      clear HW4 rD3
      generalize W3.heap.size = pY at *
      go_loopw [10] (fun s10 wq => ∃ (j : Nat) (y : List Nat), 1 ≤ j ∧ j ≤ power ∧ s10 = .int .i64 j ∧ Hid (Dig y) ∧ Hid (val y = X ^ j) ∧ BlkL wq pY (u64s y) 93 ∧ BlkL wq pD (u64s d) 93 ∧ BlkL wq pM (u64s (mostN p power)) 93 ∧ Chg none w wq) (fun s10 _ => power - (intOf s10).toNat)
      case atStart => exact ⟨1, d, by omega, by omega, rfl, HDD, Lib.hid (by rw [HDV.out, Nat.pow_one]), bY4, bD4, bM4, g04⟩
      case round =>
        obtain ⟨j, y, hj1, hj2, rfl, HYD, HYV, bY, bD, bM, gj⟩ := hrel
        clear bY4 bD4 bM4 g04
        by_cases hlt2 : j < power
        · have HTM := Lib.hid (fun v => times_any y d HYD.out HDD.out v)
          have rY := Lib.hid (show wr.rangeAt pY 0 (u64s y) from Blk.range bY)
          have rD := Lib.hid (show wr.rangeAt pD 0 (u64s d) from Blk.range bD)
          have HILy := Lib.hid (u64s_infoL y HYD.out.1)
          have HYS := Lib.hid (fun o (h : Dig o) => u64s_size y o HYD.out.1 h.1)
          go_wp2_with (first
            | (refine wpList_load_mid rfl 93 (.tmp 9) rfl pY 0 rfl (u64s y) _ rY.out Tryd.underlying93 rfl HILy.out ?_)
            | (refine wpList_load_mid rfl 93 (.tmp 8) rfl pD 0 rfl (u64s d) _ rD.out Tryd.underlying93 rfl HIL.out ?_))
          refine (HTM.out _).mono ?_
          rintro e w5 ⟨y2, hy2, hv2, rfl, g5⟩
          have HY2 := Lib.hid hy2
          have bY5 := Blk.chg bY g5 (by simp)
          have HI2 := Lib.hid (u64s_info y2 hy2.1)
          have HS2 := Lib.hid (HYS.out y2 hy2)
          have HO2 := Lib.hid (u64s_one y2)
          have hvv : val y2 = X ^ (j + 1) := by rw [hv2, HYV.out, HDV.out, ← Nat.pow_succ]; exact Nat.mod_eq_of_lt (pow_small hX2 (by omega))
          have HVV := Lib.hid hvv
          clear hy2 hv2 hvv rY rD HTM
          go_wp2_with (refine wpList_store_row rfl 93 _ _ rfl pY (u64s y2).toArray rfl rfl 93 _ bY5 HI2.out HS2.out HO2.out ?_)
          have bY6 : BlkL (w5.setRow pY (u64s y2).toArray) pY (u64s y2) 93 := setRow_heap _ _ _ _ _ _ bY5
          have g6 : Chg none w (w5.setRow pY (u64s y2).toArray) := Chg.own (b := pY) (gj.trans g5) (chg_setRow _ _ _) zY
          have bD6 : BlkL (w5.setRow pY (u64s y2).toArray) pD (u64s d) 93 := Blk.chg (Blk.chg bD g5 (by simp)) (chg_setRow _ pY _) (by simpa using hDY)
          have bM6 : BlkL (w5.setRow pY (u64s y2).toArray) pM (u64s (mostN p power)) 93 := Blk.chg (Blk.chg bM g5 (by simp)) (chg_setRow _ pY _) (by simpa using hMY)
          go_roundw
          case rel => exact ⟨j + 1, y2, by omega, by omega, by go_num, HY2, HVV, bY6, bD6, bM6, g6⟩
          case measure => first | (simp [intOf]; done) | (simp [intOf]; omega)
        · have hjp : j = power := by omega
          subst hjp
          have HAB0 := above_any y (mostN p j) HYD.out HMD.out
          rw [HMV.out, HYV.out] at HAB0
          have HAB := Lib.hid HAB0
          have rY := Lib.hid (show wr.rangeAt pY 0 (u64s y) from Blk.range bY)
          have rM := Lib.hid (show wr.rangeAt pM 0 (u64s (mostN p j)) from Blk.range bM)
          have HILy := Lib.hid (u64s_infoL y HYD.out.1)
          have HILm := Lib.hid (u64s_infoL (mostN p j) HMD.out.1)
          have hbh : ((bt / 2 : Nat) : Int) = (bt : Int) / 2 := by omega
          have HBH := Lib.hid hbh
          clear HAB0 hbh
          by_cases hab : p * 65536 ^ (2 * j) < X ^ j
          · have hd1 : decide (p * 65536 ^ (2 * j) < X ^ j) = true := by simpa using hab
            have hr := HRX.out
            rw [if_pos hab] at hr
            rw [hd1] at HAB
            have HR := Lib.hid hr
            clear hr hd1 hab HRX
            go_wp2_with (first
              | (refine wpList_load_mid rfl 93 (.tmp 9) rfl pY 0 rfl (u64s y) _ rY.out Tryd.underlying93 rfl HILy.out ?_)
              | (refine wpList_load_mid rfl 93 (.tmp 5) rfl pM 0 rfl (u64s (mostN p j)) _ rM.out Tryd.underlying93 rfl HILm.out ?_))
            refine (HAB.out _).mono ?_
            rintro e w5 ⟨rfl, g5⟩
            have bM5 := Blk.chg bM g5 (by simp)
            have g05 := gj.trans g5
            go_wp2_with fail
            go_roundw
            case rel => exact ⟨k + 1, by omega, by rw [HR.out], by rw [← HHALF.out, HBH.out], bM5, g05⟩
            case measure => simp only [intOf]; omega
          · have hd1 : decide (p * 65536 ^ (2 * j) < X ^ j) = false := by simpa using hab
            have hr := HRX.out
            rw [if_neg hab] at hr
            rw [hd1] at HAB
            have HR := Lib.hid hr
            have hXi : (x : Int) + (bt : Int) = (X : Int) := by have := HX.out; omega
            clear hr hd1 hab HRX
            go_wp2_with (first
              | (refine wpList_load_mid rfl 93 (.tmp 9) rfl pY 0 rfl (u64s y) _ rY.out Tryd.underlying93 rfl HILy.out ?_)
              | (refine wpList_load_mid rfl 93 (.tmp 5) rfl pM 0 rfl (u64s (mostN p j)) _ rM.out Tryd.underlying93 rfl HILm.out ?_))
            refine (HAB.out _).mono ?_
            rintro e w5 ⟨rfl, g5⟩
            have bM5 := Blk.chg bM g5 (by simp)
            have g05 := gj.trans g5
            go_wp2_with fail
            go_roundw
            case rel => exact ⟨k + 1, by omega, by rw [HR.out], by rw [← HHALF.out, HBH.out], bM5, g05⟩
            case measure => simp only [intOf]; omega
    · have hk38 : k = 38 := by omega
      subst hk38
      have hb0 := bit_end
      rw [hb0]
      have hr : ((rootV p power : Nat) : Int) = (rootX p power 38 : Int) % 4294967296 := by unfold rootV; omega
      have HR := Lib.hid hr
      have hrl : rootX p power 38 < 4294967296 * 64 := by have := rootX_le p power 38 (Nat.le_refl _); omega
      clear hb0 hr
      generalize rootX p power 38 = x at *
      have hrm : (0 : Int) ≤ (x : Int) % 4294967296 ∧ (x : Int) % 4294967296 < 4294967296 := by omega
      have hm1 := hrm.1
      have hm2 := hrm.2
      clear hrm
      go_wp2_with fail
      go_ret
      exact ⟨by rw [HR.out]; rfl, gk⟩

end Go.Proofs.YtdkgecphkppglaaDoor
