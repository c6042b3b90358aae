/-
  Package merkle: Root.
-/
import Derived.Test.YtdkgecphkppglaaDoorM8
namespace Go.Proofs.YtdkgecphkppglaaDoor
open Go.RowKit

/-- The digest at the top of a row. -/
def topB (L : List Dg) : Dg := if _h : 1 < L.length then topB (nextB L) else L.getD 0 zeroDg
termination_by L.length
decreasing_by exact next_shorter L (by assumption)
theorem topB_end (L : List Dg) (h : L.length ≤ 1) : topB L = L.getD 0 zeroDg := by rw [topB, dif_neg (by omega)]
theorem topB_step (L : List Dg) (h : 1 < L.length) : topB L = topB (nextB L) := by
  conv => lhs; rw [topB]
  rw [dif_pos h]
/-- The root of the blob x. -/
def rootB (x : List UInt8) : List UInt8 := rootOfB x.length (topB (leavesB x)).1
theorem rootB_len (x : List UInt8) : (rootB x).length = 32 := dig_len _

set_option maxRecDepth 100000 in
set_option maxHeartbeats 8000000 in
theorem rootf_any (p : Prt) (w : World) (hp : p.ok w) (hn : p.x.length ≤ 1000000) (hT : Tabs w) :
    Calls Tryd.prog 28 #[.slice p.A p.x.length p.c] w fun e w' => e = .returned (.agg (byteVals (rootB p.x)).toArray) ∧ Chg none w w' := by
  obtain ⟨W1, hW1⟩ : ∃ W1, W1 = w.alloc (.cells zero32 30) := ⟨_, rfl⟩
  have HW1 : Hid (w.alloc (.cells #[Value.int IntKind.u8 0, Value.int IntKind.u8 0, Value.int IntKind.u8 0, Value.int IntKind.u8 0, Value.int IntKind.u8 0, Value.int IntKind.u8 0, Value.int IntKind.u8 0, Value.int IntKind.u8 0, Value.int IntKind.u8 0, Value.int IntKind.u8 0, Value.int IntKind.u8 0, Value.int IntKind.u8 0, Value.int IntKind.u8 0, Value.int IntKind.u8 0, Value.int IntKind.u8 0, Value.int IntKind.u8 0, Value.int IntKind.u8 0, Value.int IntKind.u8 0, Value.int IntKind.u8 0, Value.int IntKind.u8 0, Value.int IntKind.u8 0, Value.int IntKind.u8 0, Value.int IntKind.u8 0, Value.int IntKind.u8 0, Value.int IntKind.u8 0, Value.int IntKind.u8 0, Value.int IntKind.u8 0, Value.int IntKind.u8 0, Value.int IntKind.u8 0, Value.int IntKind.u8 0, Value.int IntKind.u8 0, Value.int IntKind.u8 0] 30) = W1) := hW1.symm
  have g1 : Chg none w W1 := by rw [hW1]; exact (Chg.refl _ _).alloc _
  have bR1 : Blk W1 w.heap.size zero32 30 := by rw [hW1]; exact Blk.new _ _ _
  clear hW1
  have HL := Lib.hid (leaves_any p W1 (hp.chg g1) hn (hT.chg g1 (by simp)))
  have hl1 : 1 ≤ (leavesB p.x).length := by rw [leavesB_len]; unfold cntN; omega
  have hl2 : (leavesB p.x).length ≤ 1000000 := by rw [leavesB_len]; unfold cntN; omega
  obtain ⟨R, hR⟩ : ∃ R, R = rootB p.x := ⟨_, rfl⟩
  have hRl : R.length = 32 := by rw [hR, rootB_len]
  have HR : Hid (rootOfB p.x.length (topB (leavesB p.x)).1 = R) := hR.symm
  rw [← hR]
  obtain ⟨L0, hL0⟩ : ∃ L0, L0 = leavesB p.x := ⟨_, rfl⟩
  rw [← hL0] at HL hl1 hl2 HR
  have hRge : w.heap.size ≤ w.heap.size := Nat.le_refl _
  clear hR hL0 hp
  go_enter Tryd.func28, Tryd.ntmps28
  go_upto_region 1 with (fail)
  rw [HW1.out]
  clear HW1
  generalize hpR : w.heap.size = pR at *
  have HPR := Lib.hid hpR
  clear hpR
  go_wp2_with fail
  refine HL.out.mono ?_
  rintro e w2 ⟨b1, rfl, hb1, hge1, g2⟩
  have g02 := g1.trans g2
  have bR2 := bR1.chg g2 (by simp)
  clear g1 g2 bR1 HL
  go_wp2_with fail
  go_loopw [3] (fun s3 wr => ∃ (L : List Dg) (b : Nat), s3 = .slice (some ⟨b, 0, none⟩) L.length L.length ∧ BlkL wr b (flat L) 30 ∧ Blk wr pR zero32 30 ∧ 1 ≤ L.length ∧ L.length ≤ 1000000 ∧ Hid (rootOfB p.x.length (topB L).1 = R) ∧ Chg none w wr) (fun s3 _ => sliceLen s3)
  case atStart => exact ⟨L0, b1, rfl, hb1, bR2, hl1, hl2, HR, g02⟩
  case round =>
    obtain ⟨L, b, rfl, hb, bRj, h1, h2, HRj, gj⟩ := hrel
    clear hb1 HR g02 bR2
    by_cases hlt : 1 < L.length
    · have hst := topB_step L hlt
      have hsh := next_shorter L hlt
      have hnl := nextB_len L
      have HNX := Lib.hid (next_any L b L.length wr hb h2 (Nat.le_refl _) (hT.chg gj (by simp)))
      have HST := Lib.hid hst
      have HSH := Lib.hid hsh
      have HNL := Lib.hid hnl
      clear hst hsh hnl
      go_wp2_with fail
      refine HNX.out.mono ?_
      rintro e w3 ⟨b3, rfl, hb3, hge3, g3⟩
      have bR3 := bRj.chg g3 (by simp)
      have g03 := gj.trans g3
      clear HNX g3
      go_wp2_with fail
      go_roundw
      case rel => exact ⟨nextB L, b3, rfl, hb3, bR3, by have := HNL.out; omega, by have := HSH.out; omega, by rw [← HST.out]; exact HRj.out, g03⟩
      case measure => simp only [sliceLen]; exact HSH.out
    · have hl : L.length = 1 := by omega
      have hend := topB_end L (by omega)
      have hr0 := flat_range hb 0 (by omega)
      have hgd : L.getD 0 zeroDg = L[0] := by rw [List.getD_eq_getElem?_getD, List.getElem?_eq_getElem (by omega)]; rfl
      have hfin := HRj.out
      rw [hend, hgd] at hfin
      generalize L[0] = D at *
      unfold dgCells at hr0
      have HR0 := Lib.hid hr0
      have HIl : Hid ((Tryd.prog.info? 30).map (·.size) = some (byteVals D.1).length) := by rw [byteVals_len, D.2]; show _ = _; kernel_rfl
      have HRT := Lib.hid (root_any p.x.length D.1 (by omega) D.2 wr (hT.chg gj (by simp)))
      rw [hfin] at HRT
      have hnl : decide ((1 : Int) < (L.length : Int)) = false := by simp; omega
      have hi0 : (0 : Int) < (L.length : Int) := by omega
      have hi1 : 0 < L.length := by omega
      obtain ⟨hds, hdo⟩ := row_facts R 32 hRl
      have HI : Hid ((Tryd.prog.info? 30).map (·.size) = some (byteVals R).toArray.size) := by rw [hds]; show _ = _; kernel_rfl
      have HZ : Hid (zero32.size = (byteVals R).toArray.size) := by rw [hds]; rfl
      have HO := Lib.hid hdo
      clear hds hdo hr0 hgd hfin hend hb HRj hl
      go_wp2_with (refine wpList_load_mid rfl 30 _ rfl b 0 rfl (byteVals D.1) _ (by have h := HR0.out; simpa using h) Tryd.underlying30 rfl HIl.out ?_)
      refine HRT.out.mono ?_
      rintro e w4 ⟨rfl, g4⟩
      have bR4 := bRj.chg g4 (by simp)
      have g04 := gj.trans g4
      clear bRj g4 HRT
      go_wp2_with (refine wpList_store_row rfl 30 _ _ rfl pR (byteVals R).toArray rfl rfl 30 _ bR4 HI.out HZ.out HO.out ?_)
      refine bodyPost_ret (results_cell_row (p := 2) (ty := 30) Tryd.results28 _ _ pR 30 (byteVals R).toArray (0, 0) _ rfl (setRow_heap _ _ _ _ _ _ bR4) Tryd.underlying30 rfl HI.out) rfl ⟨rfl, ?_⟩
      exact Chg.own (b := pR) g04 (chg_setRow _ _ _) (by rw [HPR.out]; exact Nat.le_refl _)

end Go.Proofs.YtdkgecphkppglaaDoor
