/-
  ActionKeys, walked (AC7 and AC8 in one, by p_ak.py).
-/
import Derived.Test.YtglfakglcoffkaaDoorAC5
import Derived.Test.YtglfakglcoffkaaDoorCP
import Derived.Test.YtglfakglcoffkaaDoorPG
namespace Go.Proofs.YtglfakglcoffkaaDoor
open Go.RowKit

set_option maxRecDepth 100000 in
set_option maxHeartbeats 8000000 in
theorem refactmay_any (a : Actn) (w : World) (ha : ActAt w a) :
    Calls Tryd.prog 47 #[.agg (actCells a).toArray] w fun e w' => e = .returned (.bool (mayA a)) ∧ Chg none w w' := by
  obtain ⟨A, L, c, B, N, d, F⟩ := a
  obtain ⟨h1, h2, h3, h4, h5, h6⟩ := ha
  dsimp only at h1 h2 h3 h4 h5 h6
  have HM := Lib.hid (fun v (g : Chg none w v) => refmay_any L A c v (h1.chg g) h2 h3)
  have HT := Lib.hid (fun v (g : Chg none w v) => t_refmay_any N B d v (h4.chg g) h5)
  have HG0 : Hid (Chg none w (w.alloc (.cells #[.slice A L.length c, .slice B N.length d, .int .i64 F] 64))) := (Chg.refl _ _).alloc _
  have HB0 : Hid (Blk (w.alloc (.cells #[.slice A L.length c, .slice B N.length d, .int .i64 F] 64)) w.heap.size #[.slice A L.length c, .slice B N.length d, .int .i64 F] 64) := Blk.new _ _ _
  clear h1 h2 h3 h4 h5
  unfold actCells mayA fuelB
  dsimp only
  generalize mayB L = p at *
  generalize mayT N = t at *
  cases p
  · go_enter Tryd.func47, Tryd.ntmps47
    go_wp2_with fail
    refine (HM.out _ HG0.out).mono ?_
    rintro e w1 ⟨rfl, g1⟩
    have G1 := Lib.hid (HG0.out.trans g1)
    clear g1
    go_wp2_with fail
    go_ret
    exact ⟨rfl, G1.out⟩
  cases t
  · go_enter Tryd.func47, Tryd.ntmps47
    go_wp2_with fail
    refine (HM.out _ HG0.out).mono ?_
    rintro e w1 ⟨rfl, g1⟩
    have y1 : w1.cell? ⟨w.heap.size, 1, none⟩ = some (.slice B N.length d) := (HB0.out.chg g1 (by simp)).cell 1
    have G1 := Lib.hid (HG0.out.trans g1)
    have HT1 := Lib.hid (HT.out w1 G1.out)
    clear g1
    go_wp2_with fail
    refine HT1.out.mono ?_
    rintro e w2 ⟨rfl, g2⟩
    have G2 := Lib.hid (G1.out.trans g2)
    clear g2
    go_wp2_with fail
    go_ret
    exact ⟨rfl, G2.out⟩
  by_cases f1 : 0 ≤ F
  rotate_left
  · have d1 : decide (0 ≤ F) = false := by rw [decide_eq_false_iff_not]; exact f1
    rw [d1]
    go_enter Tryd.func47, Tryd.ntmps47
    go_wp2_with fail
    refine (HM.out _ HG0.out).mono ?_
    rintro e w1 ⟨rfl, g1⟩
    have y1 : w1.cell? ⟨w.heap.size, 1, none⟩ = some (.slice B N.length d) := (HB0.out.chg g1 (by simp)).cell 1
    have G1 := Lib.hid (HG0.out.trans g1)
    have HB1 := Lib.hid (HB0.out.chg g1 (by simp))
    have HT1 := Lib.hid (HT.out w1 G1.out)
    clear g1
    go_wp2_with fail
    refine HT1.out.mono ?_
    rintro e w2 ⟨rfl, g2⟩
    have y2 : w2.cell? ⟨w.heap.size, 2, none⟩ = some (.int .i64 F) := (HB1.out.chg g2 (by simp)).cell 2
    have G2 := Lib.hid (G1.out.trans g2)
    clear g2
    go_wp2_with fail
    go_ret
    exact ⟨by first | rfl | simp, G2.out⟩
  have d1 : decide (0 ≤ F) = true := by rw [decide_eq_true_eq]; exact f1
  have d2 : decide (F ≤ 20000) = decide (F ≤ 20000) := rfl
  rw [d1]
  go_enter Tryd.func47, Tryd.ntmps47
  go_wp2_with fail
  refine (HM.out _ HG0.out).mono ?_
  rintro e w1 ⟨rfl, g1⟩
  have y1 : w1.cell? ⟨w.heap.size, 1, none⟩ = some (.slice B N.length d) := (HB0.out.chg g1 (by simp)).cell 1
  have G1 := Lib.hid (HG0.out.trans g1)
  have HB1 := Lib.hid (HB0.out.chg g1 (by simp))
  have HT1 := Lib.hid (HT.out w1 G1.out)
  clear g1
  go_wp2_with fail
  refine HT1.out.mono ?_
  rintro e w2 ⟨rfl, g2⟩
  have y2 : w2.cell? ⟨w.heap.size, 2, none⟩ = some (.int .i64 F) := (HB1.out.chg g2 (by simp)).cell 2
  have G2 := Lib.hid (G1.out.trans g2)
  clear g2
  go_wp2_with fail
  go_ret
  exact ⟨by first | rfl | simp, G2.out⟩



/-- Bytes, in whatever case, whole. -/
def ToldX9 (w : World) (a : Actn) (e : Ending) (w' : World) : Prop :=
  ∃ (A : Option Addr) (n c : Nat) (k : Int), e = .returned (.tuple #[.slice A n c, .int .i64 k]) ∧ Chg none w w' ∧
    (mayA a = true → k = 0 ∧ w'.ownsRow w.heap.size 5 1 (.slice A n c) n (byteVals (bytesA a))) ∧ (mayA a = false → k = 2 ∧ n = 0)
theorem actbytes_all9 (a : Actn) (w : World) (ha : ActAt w a) (hF : Flds w) (hTb : Tabs w) : Calls Tryd.prog 44 #[.agg (actCells a).toArray] w (ToldX9 w a) := by
  by_cases hm : mayA a = true
  · refine (actbytes_yes a w ha hF hTb hm).mono fun e w' h => ?_
    obtain ⟨A, n, c, he, hb⟩ := h
    exact ⟨A, n, c, 0, he, hb.2.2, fun _ => ⟨rfl, hb.2.1⟩, fun h => by rw [hm] at h; cases h⟩
  · have hm' : mayA a = false := by simpa using hm
    exact (actbytes_no a w ha hF hm').mono fun e w' h => ⟨none, 0, 0, 2, h.1, h.2, fun h => absurd h hm, fun _ => ⟨rfl, rfl⟩⟩
/-- Key, in whatever case, whole. -/
def ToldK9 (w : World) (a : Actn) (e : Ending) (w' : World) : Prop :=
  ∃ (M : List Value) (D : List UInt8) (n : Int), M = byteVals D ∧ D.length = 32 ∧ e = .returned (.tuple #[.agg M.toArray, .int .i64 n]) ∧ Chg none w w' ∧ (mayA a = true → D = keyA a ∧ n = 0) ∧ (mayA a = false → D = zeros 32 ∧ n = 2)
theorem actkey_all9 (a : Actn) (w : World) (ha : ActAt w a) (hF : Flds w) (hTb : Tabs w) : Calls Tryd.prog 45 #[.agg (actCells a).toArray] w (ToldK9 w a) := by
  by_cases hm : mayA a = true
  · exact (actkey_yes a w ha hF hTb hm).mono fun e w' h => ⟨_, keyA a, 0, rfl, dig_len _, h.1, h.2, fun _ => ⟨rfl, rfl⟩, fun h => by rw [hm] at h; cases h⟩
  · have hm' : mayA a = false := by simpa using hm
    refine (actkey_no a w ha hF hm').mono fun e w' h => ⟨_, zeros 32, 2, rfl, by decide, ?_, h.2, fun h => absurd h hm, fun _ => ⟨rfl, rfl⟩⟩
    rw [h.1]
    rfl

set_option maxRecDepth 100000 in
set_option maxHeartbeats 64000000 in
theorem akeys_law (a : Actn) (w : World) (ha : ActAt w a) (hF : Flds w) (hTb : Tabs w) (hnl : a.N.length * 40 ≤ 140737488355328) (hnx : ∀ f ∈ a.N, f.x.length ≤ 140737488355328) :
    Calls Tryd.prog 12 #[.agg (actCells a).toArray] w fun e w' => e = .returned (.bool true) ∧ Chg none w w' := by
  have HK : Hid (∀ v, Chg none w v → Calls Tryd.prog 43 #[] v fun e w' => e = .returned (.bool true) ∧ Chg none v w') := fun v g => known8_any v (hF.chg g) (hTb.chg g (by simp))
  have HGA := Lib.hid (fun v (g : Chg none w v) => great8_any a v (ha.chg g))
  have HBA := Lib.hid (fun v (g : Chg none w v) => actbytes_all9 a v (ha.chg g) (hF.chg g) (hTb.chg g (by simp)))
  have HKA := Lib.hid (fun v (g : Chg none w v) => actkey_all9 a v (ha.chg g) (hF.chg g) (hTb.chg g (by simp)))
  have HM := Lib.hid (fun v (g : Chg none w v) => actmay_any a v (ha.chg g) (hF.chg g))
  have HRM := Lib.hid (fun v (g : Chg none w v) => refactmay_any a v (ha.chg g))
  have HRX := Lib.hid (fun v px (g : Chg none w v) (h : HashAt v px) (hm : mayA a = true) => rbytes8_any a px v h (ha.chg g) hm)
  have HRA := Lib.hid (fun v px (g : Chg none w v) (h : HashAt v px) (hm : mayA a = true) => rkey8_any a px v h (ha.chg g) hm)
  have HCP := Lib.hid (fun v (g : Chg none w v) => tcopy_any a.N a.B a.d v (ha.chg g).tree hnl hnx)
  have HTA := Lib.hid (fun v (g : Chg none w v) => (ha.chg g).tree)
  have HNL := Lib.hid hnl
  have HNP := Lib.hid (fun f (h : f ∈ a.N) => (ha.tree.2 f h).p)
  have HNW := Lib.hid (fun v => newr_any v)
  have hZ30 : ∀ W : World, (W.alloc (.cells #[Value.int IntKind.u8 0, Value.int IntKind.u8 0, Value.int IntKind.u8 0, Value.int IntKind.u8 0, Value.int IntKind.u8 0, Value.int IntKind.u8 0, Value.int IntKind.u8 0, Value.int IntKind.u8 0, Value.int IntKind.u8 0, Value.int IntKind.u8 0, Value.int IntKind.u8 0, Value.int IntKind.u8 0, Value.int IntKind.u8 0, Value.int IntKind.u8 0, Value.int IntKind.u8 0, Value.int IntKind.u8 0, Value.int IntKind.u8 0, Value.int IntKind.u8 0, Value.int IntKind.u8 0, Value.int IntKind.u8 0, Value.int IntKind.u8 0, Value.int IntKind.u8 0, Value.int IntKind.u8 0, Value.int IntKind.u8 0, Value.int IntKind.u8 0, Value.int IntKind.u8 0, Value.int IntKind.u8 0, Value.int IntKind.u8 0, Value.int IntKind.u8 0, Value.int IntKind.u8 0, Value.int IntKind.u8 0, Value.int IntKind.u8 0] 30)).heap[W.heap.size]? = some (.cells zero32 30 (0, 0)) := fun W => heap_alloc_new W _
  have HZ30 := Lib.hid hZ30
  have hg30 := guard30
  obtain ⟨A, L, c, B, N, d, F⟩ := a
  unfold actCells at *
  dsimp only at HGA HBA HKA HM HRM HRX HRA HCP HTA HNL HNP ⊢
  obtain ⟨W1, hW1⟩ : ∃ W1, W1 = w.alloc (.cells #[.slice A L.length c, .slice B N.length d, .int .i64 F] 64) := ⟨_, rfl⟩
  have HW1 : Hid (w.alloc (.cells #[.slice A L.length c, .slice B N.length d, .int .i64 F] 64) = W1) := hW1.symm
  have G0 : Hid (Chg none w W1) := by show Chg _ _ _; rw [hW1]; exact (Chg.refl _ _).alloc _
  have HA0 : Hid (Blk W1 w.heap.size #[.slice A L.length c, .slice B N.length d, .int .i64 F] 64) := by show Blk _ _ _ _; rw [hW1]; exact Blk.new _ _ _
  clear ha hF hTb hZ30 hW1 hnl hnx
  go_enter Tryd.func12, Tryd.ntmps12
  go_upto_region 1 with fail
  rw [HW1.out]
  clear HW1
  generalize w.heap.size = pA at *
  have HXA : Hid (∀ v, Chg none W1 v → v.cell? ⟨pA, 0, none⟩ = some (.slice A L.length c) ∧ v.cell? ⟨pA, 1, none⟩ = some (.slice B N.length d) ∧ v.cell? ⟨pA, 2, none⟩ = some (.int .i64 F)) := fun v g => ⟨(HA0.out.chg g (by simp)).cell 0, (HA0.out.chg g (by simp)).cell 1, (HA0.out.chg g (by simp)).cell 2⟩
  clear HA0
  obtain ⟨x0, x1, x2⟩ := HXA.out W1 (Chg.refl _ _)
  have HG1 := Lib.hid (HGA.out W1 G0.out)
  clear HGA
  go_wp2_with fail
  refine HG1.out.mono ?_
  rintro e w1 ⟨b, rfl, g1⟩
  have K1 := Lib.hid g1
  have G1 := Lib.hid (G0.out.trans g1)
  clear g1 HG1 x0 x1 x2
  obtain ⟨x0, x1, x2⟩ := HXA.out w1 K1.out
  cases b
  rotate_left
  · clear HBA HKA HM HRM HRX HRA HCP HTA
    as_aux_lemma =>
      go_wp2_with fail
      refine (HK.out _ G1.out).mono ?_
      rintro e wk ⟨rfl, gk⟩
      go_wp2_with fail
      go_ret
      exact ⟨rfl, G1.out.trans gk⟩
  have HC1 := Lib.hid (HCP.out w1 G1.out)
  clear HCP
  go_wp2_with fail
  refine HC1.out.mono ?_
  rintro e w2 ⟨A2, c2, M, rfl, ho2, hk2, hm2⟩
  have K2 := Lib.hid (K1.out.trans ho2.chg)
  have G2 := Lib.hid (G1.out.trans ho2.chg)
  have hkp : ∀ m ∈ M, m.p.length ≤ 9223372036854775807 := fun m hm => by
    have h1 : keyF m ∈ keys N := by rw [← hk2]; exact List.mem_map_of_mem hm
    obtain ⟨f, hf, hfe⟩ := List.mem_map.1 h1
    have h2 := HNP.out f hf
    have h3 : f.p = m.p := congrArg Prod.fst hfe
    rw [← h3]; exact h2
  have ht2 := ho2.tree hkp
  have HSA : Hid (∀ v, Chg none w2 v → Calls Tryd.prog 27 #[.slice A2 N.length c2, .slice B N.length d] v fun e w' => e = .returned (.bool true) ∧ Chg none v w') := fun v g => by
    have h := t_refsame_any M N A2 B c2 d v (ht2.chg g) (HTA.out v (G2.out.trans g)) (by have := HNL.out; omega)
    rw [decide_eq_true hk2, hm2] at h
    exact h
  clear ho2 hk2 hm2 hkp ht2 HC1 x0 x1 x2 HTA HNP HNL
  obtain ⟨x0, x1, x2⟩ := HXA.out w2 K2.out
  have HB2 := Lib.hid (HBA.out w2 G2.out)
  clear HBA
  go_wp2_with fail
  refine HB2.out.mono ?_
  rintro e w3 ⟨XA, xn, xc, k1, rfl, g3, hca⟩
  have K23 := Lib.hid g3
  have K3 := Lib.hid (K2.out.trans g3)
  have G3 := Lib.hid (G2.out.trans g3)
  have HCA := Lib.hid hca
  clear g3 HB2 x0 x1 x2 hca
  obtain ⟨x0, x1, x2⟩ := HXA.out w3 K3.out
  have HK4 := Lib.hid (HKA.out w3 G3.out)
  clear HKA
  go_wp2_with fail
  refine HK4.out.mono ?_
  rintro e w5 ⟨M1, D1, n1, hM1, hD1, rfl, g5, hy1⟩
  have K5 := Lib.hid (K3.out.trans g5)
  have K35 := Lib.hid g5
  have G5 := Lib.hid (G3.out.trans g5)
  have HI1 : Hid ((Tryd.prog.info? 30).map (·.size) = some M1.toArray.size) := by rw [hM1]; exact byD_info D1 hD1
  have HJ1 : Hid ((Tryd.prog.info? 30).map (·.size) = some M1.length) := by have h := HI1.out; rw [List.size_toArray] at h; exact h
  have HO1 : Hid (M1.toArray.all (·.oneCell') = true) := by rw [hM1]; exact byD_one D1
  have HS1 : Hid (zero32.size = M1.toArray.size) := by rw [hM1, byD_size D1 hD1]; rfl
  have HM1 := Lib.hid hM1
  have HD1 := Lib.hid hD1
  have HY1 := Lib.hid hy1
  clear g5 HK4 x0 x1 x2 hM1 hD1 hy1
  go_upto_region 6 with (refine wpList_store_row rfl 30 _ _ rfl w5.heap.size M1.toArray rfl rfl 30 _ (HZ30.out w5) HI1.out HS1.out HO1.out ?_)
  have k56 : Chg none w5 ((w5.alloc (.cells #[Value.int IntKind.u8 0, Value.int IntKind.u8 0, Value.int IntKind.u8 0, Value.int IntKind.u8 0, Value.int IntKind.u8 0, Value.int IntKind.u8 0, Value.int IntKind.u8 0, Value.int IntKind.u8 0, Value.int IntKind.u8 0, Value.int IntKind.u8 0, Value.int IntKind.u8 0, Value.int IntKind.u8 0, Value.int IntKind.u8 0, Value.int IntKind.u8 0, Value.int IntKind.u8 0, Value.int IntKind.u8 0, Value.int IntKind.u8 0, Value.int IntKind.u8 0, Value.int IntKind.u8 0, Value.int IntKind.u8 0, Value.int IntKind.u8 0, Value.int IntKind.u8 0, Value.int IntKind.u8 0, Value.int IntKind.u8 0, Value.int IntKind.u8 0, Value.int IntKind.u8 0, Value.int IntKind.u8 0, Value.int IntKind.u8 0, Value.int IntKind.u8 0, Value.int IntKind.u8 0, Value.int IntKind.u8 0, Value.int IntKind.u8 0] 30)).setRow w5.heap.size M1.toArray) := Chg.own (b := w5.heap.size) ((Chg.refl none w5).alloc _) (chg_setRow _ _ _) (Nat.le_refl _)
  have HU6 : Hid (Blk ((w5.alloc (.cells #[Value.int IntKind.u8 0, Value.int IntKind.u8 0, Value.int IntKind.u8 0, Value.int IntKind.u8 0, Value.int IntKind.u8 0, Value.int IntKind.u8 0, Value.int IntKind.u8 0, Value.int IntKind.u8 0, Value.int IntKind.u8 0, Value.int IntKind.u8 0, Value.int IntKind.u8 0, Value.int IntKind.u8 0, Value.int IntKind.u8 0, Value.int IntKind.u8 0, Value.int IntKind.u8 0, Value.int IntKind.u8 0, Value.int IntKind.u8 0, Value.int IntKind.u8 0, Value.int IntKind.u8 0, Value.int IntKind.u8 0, Value.int IntKind.u8 0, Value.int IntKind.u8 0, Value.int IntKind.u8 0, Value.int IntKind.u8 0, Value.int IntKind.u8 0, Value.int IntKind.u8 0, Value.int IntKind.u8 0, Value.int IntKind.u8 0, Value.int IntKind.u8 0, Value.int IntKind.u8 0, Value.int IntKind.u8 0, Value.int IntKind.u8 0] 30)).setRow w5.heap.size M1.toArray) w5.heap.size M1.toArray 30) := setRow_heap _ _ _ _ _ _ (HZ30.out w5)
  have K6 := Lib.hid (K5.out.trans k56)
  have K36 := Lib.hid (K35.out.trans k56)
  have G6 := Lib.hid (G5.out.trans k56)
  clear k56 G5 K5 K35 HO1 HS1 HI1 HZ30
  generalize (w5.alloc (.cells #[Value.int IntKind.u8 0, Value.int IntKind.u8 0, Value.int IntKind.u8 0, Value.int IntKind.u8 0, Value.int IntKind.u8 0, Value.int IntKind.u8 0, Value.int IntKind.u8 0, Value.int IntKind.u8 0, Value.int IntKind.u8 0, Value.int IntKind.u8 0, Value.int IntKind.u8 0, Value.int IntKind.u8 0, Value.int IntKind.u8 0, Value.int IntKind.u8 0, Value.int IntKind.u8 0, Value.int IntKind.u8 0, Value.int IntKind.u8 0, Value.int IntKind.u8 0, Value.int IntKind.u8 0, Value.int IntKind.u8 0, Value.int IntKind.u8 0, Value.int IntKind.u8 0, Value.int IntKind.u8 0, Value.int IntKind.u8 0, Value.int IntKind.u8 0, Value.int IntKind.u8 0, Value.int IntKind.u8 0, Value.int IntKind.u8 0, Value.int IntKind.u8 0, Value.int IntKind.u8 0, Value.int IntKind.u8 0, Value.int IntKind.u8 0] 30)).setRow w5.heap.size M1.toArray = w6 at *
  generalize w5.heap.size = pX at *
  have HS0 : Hid (∀ v, Chg none w6.drew v → Chg none w6 v) := fun v g => (Chg.refl none w6).drew.trans g
  have HXA6 : Hid (∀ v, Chg none w6.drew v → v.cell? ⟨pA, 0, none⟩ = some (.slice A L.length c) ∧ v.cell? ⟨pA, 1, none⟩ = some (.slice B N.length d) ∧ v.cell? ⟨pA, 2, none⟩ = some (.int .i64 F)) := fun v g => HXA.out v (K6.out.trans (HS0.out v g))
  have HM6 : Hid (∀ v, Chg none w6.drew v → Calls Tryd.prog 46 #[.agg #[.slice A L.length c, .slice B N.length d, .int .i64 F]] v fun e w' => e = .returned (.bool (mayA ⟨A, L, c, B, N, d, F⟩)) ∧ Chg none v w') := fun v g => HM.out v (G6.out.trans (HS0.out v g))
  have HR6 : Hid (∀ v, Chg none w6.drew v → Calls Tryd.prog 47 #[.agg #[.slice A L.length c, .slice B N.length d, .int .i64 F]] v fun e w' => e = .returned (.bool (mayA ⟨A, L, c, B, N, d, F⟩)) ∧ Chg none v w') := fun v g => HRM.out v (G6.out.trans (HS0.out v g))
  have HS6 : Hid (∀ v, Chg none w6.drew v → Calls Tryd.prog 27 #[.slice A2 N.length c2, .slice B N.length d] v fun e w' => e = .returned (.bool true) ∧ Chg none v w') := fun v g => HSA.out v (((K23.out.trans K36.out)).trans (HS0.out v g))
  have hbb : (mayA ⟨A, L, c, B, N, d, F⟩ != mayA ⟨A, L, c, B, N, d, F⟩) = false := by simp
  refine wp_region_held_drew (S := fun v => Chg none w6.drew v) (by kernel_rfl) (Chg.refl _ _) (fun _ => ?_)
  have hS : Chg none w6.drew w6.drew := Chg.refl _ _
  generalize hmm : mayA ⟨A, L, c, B, N, d, F⟩ = mm at *
  refine wpAnyH_take (i := 0) (oi := ⟨some 25, _, _, _, _, _⟩) (v := .agg #[.slice A L.length c, .slice B N.length d, .int .i64 F]) rfl (by kernel_rfl) (by kernel_rfl) (by kernel_rfl) (fun _ _ _ h => h) (Or.inl ⟨by rfl, ?_⟩) (by assumption) ?_
  · intro v hSv; obtain ⟨z0, z1, z2⟩ := HXA6.out v hSv; go_simp
  try simp only [Act.put, List.setIfInBounds_toArray, List.set_cons_zero, List.set_cons_succ]
  refine wpAnyH_take (i := 2) (oi := ⟨some 27, _, _, _, _, _⟩) (v := .agg #[.slice A L.length c, .slice B N.length d, .int .i64 F]) rfl (by kernel_rfl) (by kernel_rfl) (by kernel_rfl) (fun _ _ _ h => h) (Or.inl ⟨by rfl, ?_⟩) (by assumption) ?_
  · intro v hSv; obtain ⟨z0, z1, z2⟩ := HXA6.out v hSv; go_simp
  try simp only [Act.put, List.setIfInBounds_toArray, List.set_cons_zero, List.set_cons_succ]
  refine wpAnyH_ready (rs := [1]) (by kernel_rfl) (by simp) ?_
  refine AllReadyH.cons (o := ⟨some 26, _, _, _, _, _⟩) rfl (fun K hK => ?_) (AllReadyH.nil)
  go_simp
  go_at_call 46
  refine (HM6.out _ hS).mono ?_
  rintro e v1 ⟨rfl, kv1⟩
  have hS1 := Chg.trans hS kv1
  clear kv1
  go_wp2_with fail
  refine hK.out _ _ hS1 (fun _ => ?_)
  clear hK K
  try simp only [Act.put, List.setIfInBounds_toArray, List.set_cons_zero, List.set_cons_succ]
  refine wpAnyH_ready (rs := [3]) (by kernel_rfl) (by simp) ?_
  refine AllReadyH.cons (o := ⟨some 28, _, _, _, _, _⟩) rfl (fun K hK => ?_) (AllReadyH.nil)
  go_simp
  go_at_call 47
  refine (HR6.out _ hS1).mono ?_
  rintro e v2 ⟨rfl, kv2⟩
  have hS2 := Chg.trans hS1 kv2
  clear kv2
  go_wp2_with fail
  refine hK.out _ _ hS2 (fun _ => ?_)
  clear hK K
  try simp only [Act.put, List.setIfInBounds_toArray, List.set_cons_zero, List.set_cons_succ]
  refine wpAnyH_take (i := 4) (oi := ⟨some 29, _, _, _, _, _⟩) (v := ?_) rfl (by kernel_rfl) (by kernel_rfl) (by kernel_rfl) (fun _ _ _ h => h) (Or.inl ⟨by rfl, ?_⟩) (by assumption) ?_
  rotate_left
  · intro w hSw; (try dsimp only at hSw); go_simp; (try with_reducible rfl)
  try simp only [Act.put, List.setIfInBounds_toArray, List.set_cons_zero, List.set_cons_succ]
  refine wpAnyH_take (i := 5) (oi := ⟨some 30, _, _, _, _, _⟩) (v := ?_) rfl (by kernel_rfl) (by kernel_rfl) (by kernel_rfl) (fun _ _ _ h => h) (Or.inl ⟨by rfl, ?_⟩) (by assumption) ?_
  rotate_left
  · intro w hSw; (try dsimp only at hSw); go_simp; (try with_reducible rfl)
  try simp only [Act.put, List.setIfInBounds_toArray, List.set_cons_zero, List.set_cons_succ]
  refine wpAnyH_take (i := 6) (oi := ⟨some 31, _, _, _, _, _⟩) (v := ?_) rfl (by kernel_rfl) (by kernel_rfl) (by kernel_rfl) (fun _ _ _ h => h) (Or.inl ⟨by rfl, ?_⟩) (by assumption) ?_
  rotate_left
  · intro w hSw; (try dsimp only at hSw); go_simp; (try with_reducible rfl)
  try simp only [Act.put, List.setIfInBounds_toArray, List.set_cons_zero, List.set_cons_succ]
  refine wpAnyH_take (i := 7) (oi := ⟨some 32, _, _, _, _, _⟩) (v := ?_) rfl (by kernel_rfl) (by kernel_rfl) (by kernel_rfl) (fun _ _ _ h => h) (Or.inl ⟨by rfl, ?_⟩) (by assumption) ?_
  rotate_left
  · intro w hSw; (try dsimp only at hSw); go_simp; (try with_reducible rfl)
  try simp only [Act.put, List.setIfInBounds_toArray, List.set_cons_zero, List.set_cons_succ]
  refine wpAnyH_take (i := 8) (oi := ⟨some 33, _, _, _, _, _⟩) (v := .slice B N.length d) rfl (by kernel_rfl) (by kernel_rfl) (by kernel_rfl) (fun _ _ _ h => h) (Or.inl ⟨by rfl, ?_⟩) (by assumption) ?_
  · intro v hSv; obtain ⟨z0, z1, z2⟩ := HXA6.out v hSv; go_simp
  try simp only [Act.put, List.setIfInBounds_toArray, List.set_cons_zero, List.set_cons_succ]
  refine wpAnyH_ready (rs := [9]) (by kernel_rfl) (by simp) ?_
  refine AllReadyH.cons (o := ⟨some 34, _, _, _, _, _⟩) rfl (fun K hK => ?_) (AllReadyH.nil)
  go_simp
  go_at_call 27
  refine (HS6.out _ hS2).mono ?_
  rintro e v3 ⟨rfl, kv3⟩
  have hS3 := Chg.trans hS2 kv3
  clear kv3
  go_wp2_with fail
  refine hK.out _ _ hS3 (fun _ => ?_)
  clear hK K
  try simp only [Act.put, List.setIfInBounds_toArray, List.set_cons_zero, List.set_cons_succ]
  refine wpAnyH_take (i := 10) (oi := ⟨some 35, _, _, _, _, _⟩) (v := ?_) rfl (by kernel_rfl) (by kernel_rfl) (by kernel_rfl) (fun _ _ _ h => h) (Or.inl ⟨by rfl, ?_⟩) (by assumption) ?_
  rotate_left
  · intro w hSw; (try dsimp only at hSw); go_simp; (try with_reducible rfl)
  try simp only [Act.put, List.setIfInBounds_toArray, List.set_cons_zero, List.set_cons_succ]
  refine wpAnyH_take (i := 11) (oi := ⟨some 36, _, _, _, _, _⟩) (v := ?_) rfl (by kernel_rfl) (by kernel_rfl) (by kernel_rfl) (fun _ _ _ h => h) (Or.inl ⟨by rfl, ?_⟩) (by assumption) ?_
  rotate_left
  · intro w hSw; (try dsimp only at hSw); go_simp; (try with_reducible rfl)
  try simp only [Act.put, List.setIfInBounds_toArray, List.set_cons_zero, List.set_cons_succ]
  refine wpAnyH_done (by kernel_rfl) ?_ _
  try simp only [Act.put]
  have HU9 := Lib.hid (HU6.out.chg (HS0.out _ hS3) (by simp))
  have HR9 := Lib.hid (HR6.out _ hS3)
  have G9 := Lib.hid (G6.out.trans (HS0.out _ hS3))
  have K9 := Lib.hid (K6.out.trans (HS0.out _ hS3))
  have K39 := Lib.hid (K36.out.trans (HS0.out _ hS3))
  clear HU6 HR6 HM6 HS6 HXA6 HS0 hbb hS hS1 hS2 hS3 G6 K6 K36 HSA HM HRM K1 K2 K3 K23 G1 G2 G3 G0
  cases mm
  · obtain ⟨rfl, rfl⟩ := HCA.out.2 rfl
    obtain ⟨hd0, rfl⟩ := HY1.out.2 rfl
    have hqq : ∀ v : World, (binOp .eql 30 (.agg M1.toArray) (.agg #[Value.int IntKind.u8 0, Value.int IntKind.u8 0, Value.int IntKind.u8 0, Value.int IntKind.u8 0, Value.int IntKind.u8 0, Value.int IntKind.u8 0, Value.int IntKind.u8 0, Value.int IntKind.u8 0, Value.int IntKind.u8 0, Value.int IntKind.u8 0, Value.int IntKind.u8 0, Value.int IntKind.u8 0, Value.int IntKind.u8 0, Value.int IntKind.u8 0, Value.int IntKind.u8 0, Value.int IntKind.u8 0, Value.int IntKind.u8 0, Value.int IntKind.u8 0, Value.int IntKind.u8 0, Value.int IntKind.u8 0, Value.int IntKind.u8 0, Value.int IntKind.u8 0, Value.int IntKind.u8 0, Value.int IntKind.u8 0, Value.int IntKind.u8 0, Value.int IntKind.u8 0, Value.int IntKind.u8 0, Value.int IntKind.u8 0, Value.int IntKind.u8 0, Value.int IntKind.u8 0, Value.int IntKind.u8 0, Value.int IntKind.u8 0])).run Tryd.prog v = .ok (.bool true) v := fun v => by
      rw [HM1.out, hd0]
      exact (eql30 (zeros 32) (zeros 32) (by decide) (by decide) v).trans (by simp)
    clear hd0 HCA HY1 HRX HRA HNW
    obtain ⟨x0, x1, x2⟩ := HXA.out _ K9.out
    go_wp2_with fail
    refine HR9.out.mono ?_
    rintro e v4 ⟨rfl, g4⟩
    have G10 := Lib.hid (G9.out.trans g4)
    have HRXX : Hid (v4.rangeAt pX 0 M1) := Blk.range (show BlkL v4 pX M1 30 from (HU9.out.chg g4 (by simp)))
    clear g4 HR9 HU9 x0 x1 x2
    go_wp2_with (refine wpList_load_want (by rfl) 30 (.tmp 6) rfl pX 0 rfl M1 _ HRXX.out Tryd.underlying30 rfl HJ1.out ?_)
    refine (HK.out _ G10.out).mono ?_
    rintro e wk ⟨rfl, gk⟩
    go_wp2_with fail
    go_ret
    exact ⟨rfl, G10.out.trans gk⟩
  · obtain ⟨rfl, hob⟩ := HCA.out.1 rfl
    obtain ⟨hd1, rfl⟩ := HY1.out.1 rfl
    have HE1 := Lib.hid hd1
    have HOB := Lib.hid hob
    clear hob hd1 HCA HY1
    obtain ⟨x0, x1, x2⟩ := HXA.out _ K9.out
    go_wp2_with fail
    refine HR9.out.mono ?_
    rintro e v4 ⟨rfl, g4⟩
    have G10 := Lib.hid (G9.out.trans g4)
    have K10 := Lib.hid (K9.out.trans g4)
    have K310 := Lib.hid (K39.out.trans g4)
    have HU10 := Lib.hid (HU9.out.chg g4 (by simp))
    clear g4 HR9 HU9 x0 x1 x2 G9 K9 K39
    go_wp2_with fail
    refine (HNW.out _).mono ?_
    rintro e v5 ⟨px, rfl, hh, g5⟩
    have G11 := Lib.hid (G10.out.trans g5)
    have K11 := Lib.hid (K10.out.trans g5)
    have K311 := Lib.hid (K310.out.trans g5)
    have HU11 := Lib.hid (HU10.out.chg g5 (by simp))
    have HH := Lib.hid hh
    clear g5 hh HU10 G10 K10 K310 HNW
    go_upto_region 11 with fail
    have HS0 : Hid (∀ v, Chg none v5.drew v → Chg none v5 v) := fun v g => (Chg.refl none v5).drew.trans g
    have HXA7 : Hid (∀ v, Chg none v5.drew v → v.cell? ⟨pA, 0, none⟩ = some (.slice A L.length c) ∧ v.cell? ⟨pA, 1, none⟩ = some (.slice B N.length d) ∧ v.cell? ⟨pA, 2, none⟩ = some (.int .i64 F)) := fun v g => HXA.out v (K11.out.trans (HS0.out v g))
    have HXR : Hid (∀ v, Chg none v5.drew v → Calls Tryd.prog 49 #[.pointer (some ⟨px, 0, none⟩), .agg #[.slice A L.length c, .slice B N.length d, .int .i64 F]] v fun e w' => ∃ A' n c', e = .returned (.slice A' n c') ∧ ByAt v w' A' n c' (bytesA ⟨A, L, c, B, N, d, F⟩)) := fun v g => HRX.out v px (G11.out.trans (HS0.out v g)) (HH.out.chg (HS0.out v g) (by simp)) trivial
    have HKR : Hid (∀ v, Chg none v5.drew v → Calls Tryd.prog 50 #[.pointer (some ⟨px, 0, none⟩), .agg #[.slice A L.length c, .slice B N.length d, .int .i64 F]] v fun e w' => e = .returned (.agg M1.toArray) ∧ Chg none v w') := fun v g => by
      have h := HRA.out v px (G11.out.trans (HS0.out v g)) (HH.out.chg (HS0.out v g) (by simp)) trivial
      rw [HM1.out, HE1.out]
      exact h
    have HCV : Hid (∀ v, Chg none v5.drew v → (convert 22 9 (.slice XA xn xc)).run Tryd.prog v = .ok (.string ⟨(bytesA ⟨A, L, c, B, N, d, F⟩).toArray⟩) v) := fun v g => conv_reads v (Reads.of_own (own_chgW HOB.out (K311.out.trans (HS0.out v g))))
    have HKW : Hid (∀ v, Chg none v5.drew v → Calls Tryd.prog 43 #[] v fun e w' => e = .returned (.bool true) ∧ Chg none v w') := fun v g => HK.out v (G11.out.trans (HS0.out v g))
    have HRG : Hid (∀ v, Chg none v5.drew v → v.rangeAt pX 0 M1) := fun v g => Blk.range (show BlkL v pX M1 30 from (HU11.out.chg (HS0.out v g) (by simp)))
    have hqc : ∀ v : World, (binOp .eql 30 (.agg M1.toArray) (.agg M1.toArray)).run Tryd.prog v = .ok (.bool true) v := fun v => by rw [HM1.out, eql30 D1 D1 HD1.out HD1.out v]; simp
    have HGW : Hid (Chg none w v5.drew) := G11.out.drew
    have hS : Chg none v5.drew v5.drew := Chg.refl _ _
    refine wp_region_held_drew (S := fun v => Chg none v5.drew v) (by kernel_rfl) hS (fun _ => ?_)
    clear HS0 HXA HRX HRA HK HU11 G11 K11 K311 HH HOB HM1 HD1 HE1
    generalize bytesA ⟨A, L, c, B, N, d, F⟩ = X at *
    generalize v5.drew = v0 at *
    refine wpAnyH_take (i := 0) (oi := ⟨some 60, _, _, _, _, _⟩) (v := ?_) rfl (by kernel_rfl) (by kernel_rfl) (by kernel_rfl) (fun _ _ _ h => h) (Or.inl ⟨by rfl, ?_⟩) (by assumption) ?_
    rotate_left
    · intro w hSw; (try dsimp only at hSw); go_simp; (try with_reducible rfl)
    try simp only [Act.put, List.setIfInBounds_toArray, List.set_cons_zero, List.set_cons_succ]
    refine wpAnyH_take (i := 1) (oi := ⟨some 61, _, _, _, _, _⟩) (v := ?_) rfl (by kernel_rfl) (by kernel_rfl) (by kernel_rfl) (fun _ _ _ h => h) (Or.inl ⟨by rfl, ?_⟩) (by assumption) ?_
    rotate_left
    · intro w hSw; (try dsimp only at hSw); go_simp; (try with_reducible rfl)
    try simp only [Act.put, List.setIfInBounds_toArray, List.set_cons_zero, List.set_cons_succ]
    refine wpAnyH_take (i := 2) (oi := ⟨some 62, _, _, _, _, _⟩) (v := ?_) rfl (by kernel_rfl) (by kernel_rfl) (by kernel_rfl) (fun _ _ _ h => h) (Or.inl ⟨by rfl, ?_⟩) (by assumption) ?_
    rotate_left
    · intro w hSw; (try dsimp only at hSw); go_simp; (try with_reducible rfl)
    try simp only [Act.put, List.setIfInBounds_toArray, List.set_cons_zero, List.set_cons_succ]
    refine wpAnyH_take (i := 3) (oi := ⟨some 63, _, _, _, _, _⟩) (v := ?_) rfl (by kernel_rfl) (by kernel_rfl) (by kernel_rfl) (fun _ _ _ h => h) (Or.inl ⟨by rfl, ?_⟩) (by assumption) ?_
    rotate_left
    · intro w hSw; (try dsimp only at hSw); go_simp; (try with_reducible rfl)
    try simp only [Act.put, List.setIfInBounds_toArray, List.set_cons_zero, List.set_cons_succ]
    refine wpAnyH_take (i := 4) (oi := ⟨some 64, _, _, _, _, _⟩) (v := ?_) rfl (by kernel_rfl) (by kernel_rfl) (by kernel_rfl) (fun _ _ _ h => h) (Or.inl ⟨by rfl, ?_⟩) (by assumption) ?_
    rotate_left
    · intro w hSw; (try dsimp only at hSw); go_simp; (try with_reducible rfl)
    try simp only [Act.put, List.setIfInBounds_toArray, List.set_cons_zero, List.set_cons_succ]
    refine wpAnyH_take (i := 5) (oi := ⟨some 65, _, _, _, _, _⟩) (v := ?_) rfl (by kernel_rfl) (by kernel_rfl) (by kernel_rfl) (fun _ _ _ h => h) (Or.inl ⟨by rfl, ?_⟩) (by assumption) ?_
    rotate_left
    · intro w hSw; (try dsimp only at hSw); go_simp; (try with_reducible rfl)
    try simp only [Act.put, List.setIfInBounds_toArray, List.set_cons_zero, List.set_cons_succ]
    refine wpAnyH_take (i := 6) (oi := ⟨some 66, _, _, _, _, _⟩) (v := ?_) rfl (by kernel_rfl) (by kernel_rfl) (by kernel_rfl) (fun _ _ _ h => h) (Or.inl ⟨by rfl, ?_⟩) (by assumption) ?_
    rotate_left
    · intro w hSw; (try dsimp only at hSw); go_simp; (try with_reducible rfl)
    try simp only [Act.put, List.setIfInBounds_toArray, List.set_cons_zero, List.set_cons_succ]
    refine wpAnyH_take (i := 7) (oi := ⟨some 67, _, _, _, _, _⟩) (v := ?_) rfl (by kernel_rfl) (by kernel_rfl) (by kernel_rfl) (fun _ _ _ h => h) (Or.inl ⟨by rfl, ?_⟩) (by assumption) ?_
    rotate_left
    · intro w hSw; (try dsimp only at hSw); go_simp; (try with_reducible rfl)
    try simp only [Act.put, List.setIfInBounds_toArray, List.set_cons_zero, List.set_cons_succ]
    refine wpAnyH_take (i := 8) (oi := ⟨some 68, _, _, _, _, _⟩) (v := .string ⟨X.toArray⟩) rfl (by kernel_rfl) (by kernel_rfl) (by kernel_rfl) (fun _ _ _ h => h) (Or.inl ⟨by rfl, ?_⟩) (by assumption) ?_
    · intro v hSv; have hc := HCV.out v hSv; go_simp
    try simp only [Act.put, List.setIfInBounds_toArray, List.set_cons_zero, List.set_cons_succ]
    refine wpAnyH_take (i := 9) (oi := ⟨some 69, _, _, _, _, _⟩) (v := ?_) rfl (by kernel_rfl) (by kernel_rfl) (by kernel_rfl) (fun _ _ _ h => h) (Or.inl ⟨by rfl, ?_⟩) (by assumption) ?_
    rotate_left
    · intro w hSw; (try dsimp only at hSw); go_simp; (try with_reducible rfl)
    try simp only [Act.put, List.setIfInBounds_toArray, List.set_cons_zero, List.set_cons_succ]
    refine wpAnyH_take (i := 10) (oi := ⟨some 70, _, _, _, _, _⟩) (v := .agg #[.slice A L.length c, .slice B N.length d, .int .i64 F]) rfl (by kernel_rfl) (by kernel_rfl) (by kernel_rfl) (fun _ _ _ h => h) (Or.inl ⟨by rfl, ?_⟩) (by assumption) ?_
    · intro v hSv; obtain ⟨z0, z1, z2⟩ := HXA7.out v hSv; go_simp
    try simp only [Act.put, List.setIfInBounds_toArray, List.set_cons_zero, List.set_cons_succ]
    refine wpAnyH_ready (rs := [11]) (by kernel_rfl) (by simp) ?_
    refine AllReadyH.cons (o := ⟨some 71, _, _, _, _, _⟩) rfl (fun K hK => ?_) (AllReadyH.nil)
    go_simp
    go_at_call 49
    refine (HXR.out _ hS).mono ?_
    rintro e v1 ⟨PA, pn, pc, rfl, hb1⟩
    have hS1 := Chg.trans hS hb1.2.2
    have HC2 : Hid (∀ v, Chg none v1 v → (convert 22 9 (.slice PA pn pc)).run Tryd.prog v = .ok (.string ⟨X.toArray⟩) v) := fun v g => conv_reads v (Reads.of_own (own_chgW hb1.2.1 g))
    clear hb1
    go_wp2_with fail
    refine hK.out _ _ hS1 (fun _ => ?_)
    clear hK K
    try simp only [Act.put, List.setIfInBounds_toArray, List.set_cons_zero, List.set_cons_succ]
    refine wpAnyH_to (S2 := fun v => Chg none v1 v) (fun v h => hS1.trans h) ?_
    have E1 := Chg.refl none v1
    refine wpAnyH_take (i := 12) (oi := ⟨some 72, _, _, _, _, _⟩) (v := .string ⟨X.toArray⟩) rfl (by kernel_rfl) (by kernel_rfl) (by kernel_rfl) (fun _ _ _ h => h) (Or.inl ⟨by rfl, ?_⟩) (by assumption) ?_
    · intro v hSv; have hc := HC2.out v hSv; go_simp
    try simp only [Act.put, List.setIfInBounds_toArray, List.set_cons_zero, List.set_cons_succ]
    refine wpAnyH_take (i := 13) (oi := ⟨some 73, _, _, _, _, _⟩) (v := .bool true) rfl (by kernel_rfl) (by kernel_rfl) (by kernel_rfl) (fun _ _ _ h => h) (Or.inl ⟨by rfl, ?_⟩) (by assumption) ?_
    · intro v hSv; have hc := hSv; go_simp
    try simp only [Act.put, List.setIfInBounds_toArray, List.set_cons_zero, List.set_cons_succ]
    refine wpAnyH_take (i := 14) (oi := ⟨some 74, _, _, _, _, _⟩) (v := ?_) rfl (by kernel_rfl) (by kernel_rfl) (by kernel_rfl) (fun _ _ _ h => h) (Or.inl ⟨by rfl, ?_⟩) (by assumption) ?_
    rotate_left
    · intro w hSw; (try dsimp only at hSw); go_simp; (try with_reducible rfl)
    try simp only [Act.put, List.setIfInBounds_toArray, List.set_cons_zero, List.set_cons_succ]
    refine wpAnyH_take (i := 15) (oi := ⟨some 75, _, _, _, _, _⟩) (v := ?_) rfl (by kernel_rfl) (by kernel_rfl) (by kernel_rfl) (fun _ _ _ h => h) (Or.inl ⟨by rfl, ?_⟩) (by assumption) ?_
    rotate_left
    · intro w hSw; (try dsimp only at hSw); go_simp; (try with_reducible rfl)
    try simp only [Act.put, List.setIfInBounds_toArray, List.set_cons_zero, List.set_cons_succ]
    refine wpAnyH_take (i := 16) (oi := ⟨some 76, _, _, _, _, _⟩) (v := .agg M1.toArray) rfl (by kernel_rfl) (by kernel_rfl) (by kernel_rfl) (fun _ _ _ h => h) (yieldsIf_load_mid (by rfl) 30 _ rfl pX 0 rfl M1 _ (fun v h => HRG.out v (hS1.trans h)) Tryd.underlying30 rfl HJ1.out) (by assumption) ?_
    try simp only [Act.put, List.setIfInBounds_toArray, List.set_cons_zero, List.set_cons_succ]
    refine wpAnyH_take (i := 17) (oi := ⟨some 77, _, _, _, _, _⟩) (v := ?_) rfl (by kernel_rfl) (by kernel_rfl) (by kernel_rfl) (fun _ _ _ h => h) (Or.inl ⟨by rfl, ?_⟩) (by assumption) ?_
    rotate_left
    · intro w hSw; (try dsimp only at hSw); go_simp; (try with_reducible rfl)
    try simp only [Act.put, List.setIfInBounds_toArray, List.set_cons_zero, List.set_cons_succ]
    refine wpAnyH_take (i := 18) (oi := ⟨some 78, _, _, _, _, _⟩) (v := .agg #[.slice A L.length c, .slice B N.length d, .int .i64 F]) rfl (by kernel_rfl) (by kernel_rfl) (by kernel_rfl) (fun _ _ _ h => h) (Or.inl ⟨by rfl, ?_⟩) (by assumption) ?_
    · intro v hSv; obtain ⟨z0, z1, z2⟩ := HXA7.out v (hS1.trans hSv); go_simp
    try simp only [Act.put, List.setIfInBounds_toArray, List.set_cons_zero, List.set_cons_succ]
    refine wpAnyH_ready (rs := [19]) (by kernel_rfl) (by simp) ?_
    refine AllReadyH.cons (o := ⟨some 79, _, _, _, _, _⟩) rfl (fun K hK => ?_) (AllReadyH.nil)
    go_simp
    go_at_call 50
    refine (HKR.out _ (hS1.trans E1)).mono ?_
    rintro e v2 ⟨rfl, k2⟩
    have E2 := Chg.trans E1 k2
    clear k2
    go_wp2_with fail
    refine hK.out _ _ E2 (fun _ => ?_)
    clear hK K
    try simp only [Act.put, List.setIfInBounds_toArray, List.set_cons_zero, List.set_cons_succ]
    refine wpAnyH_take (i := 20) (oi := ⟨some 80, _, _, _, _, _⟩) (v := .bool true) rfl (by kernel_rfl) (by kernel_rfl) (by kernel_rfl) (fun _ _ _ h => h) (Or.inl ⟨by rfl, ?_⟩) (by assumption) ?_
    · intro v hSv; have hq := hqc v; go_simp
    try simp only [Act.put, List.setIfInBounds_toArray, List.set_cons_zero, List.set_cons_succ]
    refine wpAnyH_take (i := 21) (oi := ⟨some 81, _, _, _, _, _⟩) (v := ?_) rfl (by kernel_rfl) (by kernel_rfl) (by kernel_rfl) (fun _ _ _ h => h) (Or.inl ⟨by rfl, ?_⟩) (by assumption) ?_
    rotate_left
    · intro w hSw; (try dsimp only at hSw); go_simp; (try with_reducible rfl)
    try simp only [Act.put, List.setIfInBounds_toArray, List.set_cons_zero, List.set_cons_succ]
    refine wpAnyH_take (i := 22) (oi := ⟨some 82, _, _, _, _, _⟩) (v := ?_) rfl (by kernel_rfl) (by kernel_rfl) (by kernel_rfl) (fun _ _ _ h => h) (Or.inl ⟨by rfl, ?_⟩) (by assumption) ?_
    rotate_left
    · intro w hSw; (try dsimp only at hSw); go_simp; (try with_reducible rfl)
    try simp only [Act.put, List.setIfInBounds_toArray, List.set_cons_zero, List.set_cons_succ]
    refine wpAnyH_ready (rs := [23]) (by kernel_rfl) (by simp) ?_
    refine AllReadyH.cons (o := ⟨some 83, _, _, _, _, _⟩) rfl (fun K hK => ?_) (AllReadyH.nil)
    go_simp
    go_at_call 43
    refine (HKW.out _ (hS1.trans E2)).mono ?_
    rintro e v3 ⟨rfl, k3⟩
    have E3 := Chg.trans E2 k3
    clear k3
    go_wp2_with fail
    refine hK.out _ _ E3 (fun _ => ?_)
    clear hK K
    try simp only [Act.put, List.setIfInBounds_toArray, List.set_cons_zero, List.set_cons_succ]
    refine wpAnyH_take (i := 24) (oi := ⟨some 84, _, _, _, _, _⟩) (v := ?_) rfl (by kernel_rfl) (by kernel_rfl) (by kernel_rfl) (fun _ _ _ h => h) (Or.inl ⟨by rfl, ?_⟩) (by assumption) ?_
    rotate_left
    · intro w hSw; (try dsimp only at hSw); go_simp; (try with_reducible rfl)
    try simp only [Act.put, List.setIfInBounds_toArray, List.set_cons_zero, List.set_cons_succ]
    refine wpAnyH_take (i := 25) (oi := ⟨some 2, _, _, _, _, _⟩) (v := ?_) rfl (by kernel_rfl) (by kernel_rfl) (by kernel_rfl) (fun _ _ _ h => h) (Or.inl ⟨by rfl, ?_⟩) (by assumption) ?_
    rotate_left
    · intro w hSw; (try dsimp only at hSw); go_simp; (try with_reducible rfl)
    try simp only [Act.put, List.setIfInBounds_toArray, List.set_cons_zero, List.set_cons_succ]
    refine wpAnyH_done (by kernel_rfl) ?_ _
    try simp only [Act.put]
    go_wp2_with fail
    go_ret
    exact ⟨rfl, HGW.out.trans (hS1.trans E3)⟩

end Go.Proofs.YtglfakglcoffkaaDoor
