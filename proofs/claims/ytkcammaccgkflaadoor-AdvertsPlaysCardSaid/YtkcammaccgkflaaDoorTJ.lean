/-
  Package adverts, the document's: Sum.
-/
import Derived.Test.YtkcammaccgkflaaDoorTI
import Derived.Test.YtkcammaccgkflaaDoorHK
namespace Go.Proofs.YtkcammaccgkflaaDoor
open Go.RowKit

set_option maxRecDepth 100000 in
set_option maxHeartbeats 16000000 in
theorem refsum_any (L : List Att) (B : Nat) (A : Option Addr) (c : Nat) (px : Nat) (pr : List UInt8) (Ap : Option Addr) (cp : Nat) (w : World) (h : w.ownsRow B 46 97 (.slice A L.length c) L.length (L.flatMap attCells)) (hl : L.length ≤ 1000) (hh : HashAt w px) (hT : Txt w Ap pr) (hpl : pr.length ≤ 1000) :
    Calls Tryd.prog 50 #[.slice A L.length c, .pointer (some ⟨px, 0, none⟩), .slice Ap pr.length cp] w (SumTold w L pr) := by
  obtain ⟨W, hW⟩ : ∃ W, W = w.alloc (.cells zero32 30) := ⟨_, rfl⟩
  have g0 : Chg none w W := by rw [hW]; exact (Chg.refl _ _).alloc _
  have hbz : Blk W w.heap.size zero32 30 := by rw [hW]; exact Blk.new _ _ _
  have HP := Lib.hid (refprefix_any pr Ap cp W (hT.chg g0) hpl)
  have HBZ := Lib.hid hbz
  have HW : Hid (w.alloc (.cells zero32 30) = W) := hW.symm
  have HG0 := Lib.hid g0
  unfold SumTold sumD
  cases hp : prefB pr with
  | false =>
    rw [hp] at HP
    have HE : Hid (belowA L pr = []) := Lib.hid (by unfold belowA; rw [if_neg (by rw [hp]; decide)])
    have HI30 : Hid ((Tryd.prog.info? 30).map (·.size) = some zero32.size) := by show _ = _; kernel_rfl
    have HO : Hid (zero32.all (·.oneCell') = true) := by show _ = _; kernel_rfl
    have HBN := Lib.hid built30n
    obtain ⟨WS, hWS⟩ : ∃ WS, WS = W.setRow w.heap.size zero32 := ⟨_, rfl⟩
    have HGS : Hid (Chg none w WS) := Lib.hid (by rw [hWS]; exact Chg.own g0 (chg_setRow _ _ _) (Nat.le_refl _))
    have HBS : Hid (Blk WS w.heap.size zero32 30) := Lib.hid (by rw [hWS]; exact setRow_heap _ _ _ _ 30 _ hbz)
    have HWS := Lib.hid hWS
    have HZD := Lib.hid zeroD_cells
    clear hW hWS g0 hbz hT hpl h hh hp
    unfold zero32 at HW
    rw [HE.out, if_neg (show ¬ (false = true) by decide)]
    go_enter Tryd.func50, Tryd.ntmps50
    go_upto_region 1 with fail
    rw [HW.out]
    go_wp2_with fail
    refine HP.out.mono ?_
    rintro e w1 ⟨rfl, rfl⟩
    go_wp2_with (first
      | (refine wpList_build_is rfl 30 _ rfl zero32 (by simp only [List.map_toArray, List.map_nil]; exact HBN.out) ?_)
      | (refine wpList_store_row rfl 30 _ _ rfl w.heap.size zero32 rfl rfl 30 _ HBZ.out HI30.out rfl HO.out ?_; rw [← HWS.out]))
    refine bodyPost_ret (results_cell_tmp (p := 6) (q := 7) (ty := 30) Tryd.results50 _ _ w.heap.size 30 zero32 (0, 0) _ rfl HBS.out Tryd.underlying30 rfl HI30.out) rfl ⟨?_, HGS.out⟩
    rw [HZD.out]; rfl
  | true =>
    rw [hp] at HP
    have HBL := Lib.hid (refbelow_any L B A c pr Ap cp W (World.ownsRow.kept h g0 (by cases (Value.slice A L.length c).ownBlock <;> simp)) hl (hT.chg g0) hpl)
    have hm : (belowA L pr).length ≤ 1000 := Nat.le_trans (belowA_len L pr) hl
    have HH : Hid (∀ v, Chg none W v → HashAt v px) := Lib.hid fun v g => hh.chg (g0.trans g) (by simp)
    unfold RBelow at HBL
    generalize belowA L pr = M at *
    have HML := Lib.hid (rowB_len M)
    clear hW g0 hT hpl h hh hp hl
    unfold zero32 at HW
    rw [if_pos (show true = true from rfl)]
    obtain ⟨DM, hDM⟩ : ∃ DM, DM = dig (rowB M) := ⟨_, rfl⟩
    rw [← hDM]
    have HDM := Lib.hid hDM
    clear hDM
    go_enter Tryd.func50, Tryd.ntmps50
    go_upto_region 1 with fail
    rw [HW.out]
    go_wp2_with fail
    refine HP.out.mono ?_
    rintro e w1 ⟨rfl, rfl⟩
    go_wp2_with fail
    refine HBL.out.mono ?_
    rintro e w2 ⟨A2, c2, rfl, hown2, g2⟩
    have HRW := Lib.hid (row57_any M _ A2 c2 w2 hown2 hm)
    have HG2 := Lib.hid g2
    clear hown2 g2 HBL HP
    go_wp2_with fail
    refine HRW.out.mono ?_
    rintro e w3 ⟨A3, c3, rfl, hown3, g3⟩
    have ht := own_txt hown3
    have hsm := hsum_any px ⟨A3, rowB M, c3⟩ w3 (HH.out w3 (HG2.out.trans g3)) ⟨ht.1, ht.2.2⟩ (by show (rowB M).length ≤ 1000000; have := HML.out; omega)
    dsimp only at hsm
    rw [← HDM.out] at hsm
    have HSM := Lib.hid hsm
    clear hsm
    have HG3 := Lib.hid (HG2.out.trans g3)
    clear hown3 g3 ht HRW
    go_wp2_with fail
    refine HSM.out.mono ?_
    rintro e w4 ⟨rfl, g4⟩
    have HG4 := Lib.hid (HG3.out.trans g4)
    obtain ⟨CC, hCC⟩ : ∃ CC, CC = (byteVals DM).toArray := ⟨_, rfl⟩
    have hlc : CC.size = 32 := by rw [hCC, List.size_toArray, byteVals_len, HDM.out, dig_len]
    have HI30 : Hid ((Tryd.prog.info? 30).map (·.size) = some CC.size) := by rw [hlc]; show _ = _; kernel_rfl
    have HZS : Hid (zero32.size = CC.size) := Lib.hid (by rw [hlc]; rfl)
    have HO30 : Hid (CC.all (·.oneCell') = true) := Lib.hid (by rw [hCC]; exact Array.all_eq_true_iff_forall_mem.2 (fun v hv => byteVals_one _ v (by simpa using hv)))
    have hbz4 : Blk w4 w.heap.size zero32 30 := HBZ.out.chg HG4.out (by simp)
    have HBZ4 := Lib.hid hbz4
    obtain ⟨WS, hWS⟩ : ∃ WS, WS = w4.setRow w.heap.size CC := ⟨_, rfl⟩
    have HGS : Hid (Chg none w WS) := Lib.hid (by rw [hWS]; exact Chg.own (HG0.out.trans HG4.out) (chg_setRow _ _ _) (Nat.le_refl _))
    have HBS : Hid (Blk WS w.heap.size CC 30) := Lib.hid (by rw [hWS]; exact setRow_heap _ _ _ _ 30 _ hbz4)
    have HWS := Lib.hid hWS
    rw [← hCC]
    have HCC := Lib.hid hCC
    clear hCC hlc hbz4 hWS g4 HSM
    go_wp2_with (refine wpList_store_row rfl 30 _ _ rfl w.heap.size CC rfl rfl 30 _ HBZ4.out HI30.out HZS.out HO30.out ?_; rw [← HWS.out])
    refine bodyPost_ret (results_cell_tmp (p := 6) (q := 7) (ty := 30) Tryd.results50 _ _ w.heap.size 30 CC (0, 0) _ rfl HBS.out Tryd.underlying30 rfl HI30.out) rfl ⟨?_, HGS.out⟩
    rw [HCC.out]; rfl

end Go.Proofs.YtkcammaccgkflaaDoor
