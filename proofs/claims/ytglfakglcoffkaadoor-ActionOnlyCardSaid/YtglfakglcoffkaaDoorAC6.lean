/-
  ActionOnly, walked.
-/
import Derived.Test.YtglfakglcoffkaaDoorAC5
namespace Go.Proofs.YtglfakglcoffkaaDoor
open Go.RowKit

/-- Bytes, in whatever case. -/
def ToldX8 (w : World) (a : Actn) (e : Ending) (w' : World) : Prop :=
  ∃ (A : Option Addr) (n c : Nat) (k : Int), e = .returned (.tuple #[.slice A n c, .int .i64 k]) ∧ Chg none w w' ∧
    ((mayA a = true ∧ k = 0 ∧ w'.ownsRow w.heap.size 5 1 (.slice A n c) n (byteVals (bytesA a))) ∨ (mayA a = false ∧ k = 2))
theorem actbytes_all (a : Actn) (w : World) (ha : ActAt w a) (hF : Flds w) (hTb : Tabs w) : Calls Tryd.prog 44 #[.agg (actCells a).toArray] w (ToldX8 w a) := by
  by_cases hm : mayA a = true
  · refine (actbytes_yes a w ha hF hTb hm).mono fun e w' h => ?_
    obtain ⟨A, n, c, he, hb⟩ := h
    exact ⟨A, n, c, 0, he, hb.2.2, .inl ⟨hm, rfl, hb.2.1⟩⟩
  · have hm' : mayA a = false := by simpa using hm
    exact (actbytes_no a w ha hF hm').mono fun e w' h => ⟨none, 0, 0, 2, h.1, h.2, .inr ⟨hm', rfl⟩⟩
/-- Key, in whatever case. -/
def ToldK8 (w : World) (a : Actn) (e : Ending) (w' : World) : Prop :=
  ∃ (M : List Value) (D : List UInt8) (n : Int), M = byteVals D ∧ D.length = 32 ∧ e = .returned (.tuple #[.agg M.toArray, .int .i64 n]) ∧ Chg none w w' ∧ (mayA a = true → D = keyA a ∧ n = 0)
theorem actkey_all (a : Actn) (w : World) (ha : ActAt w a) (hF : Flds w) (hTb : Tabs w) : Calls Tryd.prog 45 #[.agg (actCells a).toArray] w (ToldK8 w a) := by
  by_cases hm : mayA a = true
  · exact (actkey_yes a w ha hF hTb hm).mono fun e w' h => ⟨_, keyA a, 0, rfl, dig_len _, h.1, h.2, fun _ => ⟨rfl, rfl⟩⟩
  · have hm' : mayA a = false := by simpa using hm
    refine (actkey_no a w ha hF hm').mono fun e w' h => ⟨_, zeros 32, 2, rfl, by decide, ?_, h.2, fun h => absurd h hm⟩
    rw [h.1]
    rfl

set_option maxRecDepth 100000 in
set_option maxHeartbeats 64000000 in
theorem aonly_law (a b : Actn) (w : World) (ha : ActAt w a) (hb : ActAt w b) (hF : Flds w) (hTb : Tabs w) :
    Calls Tryd.prog 13 #[.agg (actCells a).toArray, .agg (actCells b).toArray] w fun e w' => e = .returned (.bool true) ∧ Chg none w w' := by
  have HK : Hid (∀ v, Chg none w v → Calls Tryd.prog 43 #[] v fun e w' => e = .returned (.bool true) ∧ Chg none v w') := fun v g => known8_any v (hF.chg g) (hTb.chg g (by simp))
  have HGA := Lib.hid (fun v (g : Chg none w v) => great8_any a v (ha.chg g))
  have HGB := Lib.hid (fun v (g : Chg none w v) => great8_any b v (hb.chg g))
  have HBA := Lib.hid (fun v (g : Chg none w v) => actbytes_all a v (ha.chg g) (hF.chg g) (hTb.chg g (by simp)))
  have HBB := Lib.hid (fun v (g : Chg none w v) => actbytes_all b v (hb.chg g) (hF.chg g) (hTb.chg g (by simp)))
  have HKA := Lib.hid (fun v (g : Chg none w v) => actkey_all a v (ha.chg g) (hF.chg g) (hTb.chg g (by simp)))
  have HKB := Lib.hid (fun v (g : Chg none w v) => actkey_all b v (hb.chg g) (hF.chg g) (hTb.chg g (by simp)))
  have HRA := Lib.hid (fun v px (g : Chg none w v) (h : HashAt v px) (hm : mayA a = true) => rkey8_any a px v h (ha.chg g) hm)
  have HRB := Lib.hid (fun v px (g : Chg none w v) (h : HashAt v px) (hm : mayA b = true) => rkey8_any b px v h (hb.chg g) hm)
  have HSP := Lib.hid (fun v (g : Chg none w v) => same_any a.L b.L a.A b.A a.c b.c v (ha.chg g).prog (hb.chg g).prog ha.pl hb.pl)
  have HTA := Lib.hid (fun v (g : Chg none w v) => (ha.chg g).tree)
  have HTB := Lib.hid (fun v (g : Chg none w v) => (hb.chg g).tree)
  have HNW := Lib.hid (fun v => newr_any v)
  have hZ30 : ∀ W : World, (W.alloc (.cells #[Value.int IntKind.u8 0, Value.int IntKind.u8 0, Value.int IntKind.u8 0, Value.int IntKind.u8 0, Value.int IntKind.u8 0, Value.int IntKind.u8 0, Value.int IntKind.u8 0, Value.int IntKind.u8 0, Value.int IntKind.u8 0, Value.int IntKind.u8 0, Value.int IntKind.u8 0, Value.int IntKind.u8 0, Value.int IntKind.u8 0, Value.int IntKind.u8 0, Value.int IntKind.u8 0, Value.int IntKind.u8 0, Value.int IntKind.u8 0, Value.int IntKind.u8 0, Value.int IntKind.u8 0, Value.int IntKind.u8 0, Value.int IntKind.u8 0, Value.int IntKind.u8 0, Value.int IntKind.u8 0, Value.int IntKind.u8 0, Value.int IntKind.u8 0, Value.int IntKind.u8 0, Value.int IntKind.u8 0, Value.int IntKind.u8 0, Value.int IntKind.u8 0, Value.int IntKind.u8 0, Value.int IntKind.u8 0, Value.int IntKind.u8 0] 30)).heap[W.heap.size]? = some (.cells zero32 30 (0, 0)) := fun W => heap_alloc_new W _
  have HZ30 := Lib.hid hZ30
  have hg30 := guard30
  obtain ⟨A, L, c, B, N, d, F⟩ := a
  obtain ⟨A', L', c', B', N', d', F'⟩ := b
  unfold actCells at *
  dsimp only at HGA HGB HBA HBB HKA HKB HRA HRB HSP HTA HTB ⊢
  obtain ⟨W1, hW1⟩ : ∃ W1, W1 = (w.alloc (.cells #[.slice A L.length c, .slice B N.length d, .int .i64 F] 64)).alloc (.cells #[.slice A' L'.length c', .slice B' N'.length d', .int .i64 F'] 64) := ⟨_, rfl⟩
  have HW1 : Hid ((w.alloc (.cells #[.slice A L.length c, .slice B N.length d, .int .i64 F] 64)).alloc (.cells #[.slice A' L'.length c', .slice B' N'.length d', .int .i64 F'] 64) = W1) := hW1.symm
  have G0 : Hid (Chg none w W1) := by show Chg _ _ _; rw [hW1]; exact ((Chg.refl _ _).alloc _).alloc _
  have HA0 : Hid (Blk W1 w.heap.size #[.slice A L.length c, .slice B N.length d, .int .i64 F] 64) := by show Blk _ _ _ _; rw [hW1]; exact (Blk.new _ _ _).alloc _
  have HB0 : Hid (Blk W1 (w.heap.size + 1) #[.slice A' L'.length c', .slice B' N'.length d', .int .i64 F'] 64) := by
    have h := Blk.new (w.alloc (.cells #[.slice A L.length c, .slice B N.length d, .int .i64 F] 64)) #[.slice A' L'.length c', .slice B' N'.length d', .int .i64 F'] 64
    rw [show (w.alloc (.cells #[.slice A L.length c, .slice B N.length d, .int .i64 F] 64)).heap.size = w.heap.size + 1 by simp] at h
    show Blk _ _ _ _
    rw [hW1]; exact h
  clear ha hb hF hTb hZ30 hW1
  go_enter Tryd.func13, Tryd.ntmps13
  go_upto_region 1 with fail
  rw [HW1.out]
  clear HW1
  generalize w.heap.size + 1 = pB at *
  generalize w.heap.size = pA at *
  have HXA : Hid (∀ v, Chg none W1 v → v.cell? ⟨pA, 0, none⟩ = some (.slice A L.length c) ∧ v.cell? ⟨pA, 1, none⟩ = some (.slice B N.length d) ∧ v.cell? ⟨pA, 2, none⟩ = some (.int .i64 F)) := fun v g => ⟨(HA0.out.chg g (by simp)).cell 0, (HA0.out.chg g (by simp)).cell 1, (HA0.out.chg g (by simp)).cell 2⟩
  have HXB : Hid (∀ v, Chg none W1 v → v.cell? ⟨pB, 0, none⟩ = some (.slice A' L'.length c') ∧ v.cell? ⟨pB, 1, none⟩ = some (.slice B' N'.length d') ∧ v.cell? ⟨pB, 2, none⟩ = some (.int .i64 F')) := fun v g => ⟨(HB0.out.chg g (by simp)).cell 0, (HB0.out.chg g (by simp)).cell 1, (HB0.out.chg g (by simp)).cell 2⟩
  clear HA0 HB0
  obtain ⟨x0, x1, x2⟩ := HXA.out W1 (Chg.refl _ _)
  have HG1 := Lib.hid (HGA.out W1 G0.out)
  clear HGA
  go_wp2_with fail
  refine HG1.out.mono ?_
  rintro e w1 ⟨b, rfl, g1⟩
  have K1 := Lib.hid g1
  have G1 := Lib.hid (G0.out.trans g1)
  clear g1 HG1 x0 x1 x2
  cases b
  rotate_left
  · clear HGB HBA HBB HKA HKB HRA HRB HSP HTA HTB
    as_aux_lemma =>
      go_wp2_with fail
      refine (HK.out _ G1.out).mono ?_
      rintro e wk ⟨rfl, gk⟩
      go_wp2_with fail
      go_ret
      exact ⟨rfl, G1.out.trans gk⟩
  obtain ⟨x0, x1, x2⟩ := HXB.out w1 K1.out
  have HG2 := Lib.hid (HGB.out w1 G1.out)
  clear HGB
  go_wp2_with fail
  refine HG2.out.mono ?_
  rintro e w2 ⟨b, rfl, g2⟩
  have K2 := Lib.hid (K1.out.trans g2)
  have G2 := Lib.hid (G1.out.trans g2)
  clear g2 HG2 x0 x1 x2
  cases b
  rotate_left
  · clear HBA HBB HKA HKB HRA HRB HSP HTA HTB
    as_aux_lemma =>
      go_wp2_with fail
      refine (HK.out _ G2.out).mono ?_
      rintro e wk ⟨rfl, gk⟩
      go_wp2_with fail
      go_ret
      exact ⟨rfl, G2.out.trans gk⟩
  obtain ⟨x0, x1, x2⟩ := HXA.out w2 K2.out
  have HB2 := Lib.hid (HBA.out w2 G2.out)
  clear HBA
  go_wp2_with fail
  refine HB2.out.mono ?_
  rintro e w3 ⟨XA, xn, xc, k1, rfl, g3, hca⟩
  have K3 := Lib.hid (K2.out.trans g3)
  have G3 := Lib.hid (G2.out.trans g3)
  have HCA := Lib.hid hca
  clear g3 HB2 x0 x1 x2 hca
  obtain ⟨x0, x1, x2⟩ := HXB.out w3 K3.out
  have HB3 := Lib.hid (HBB.out w3 G3.out)
  clear HBB
  go_wp2_with fail
  refine HB3.out.mono ?_
  rintro e w4 ⟨YA, yn, yc, k2, rfl, g4, hcb⟩
  have K34 := Lib.hid g4
  have K4 := Lib.hid (K3.out.trans g4)
  have G4 := Lib.hid (G3.out.trans g4)
  have HCB := Lib.hid hcb
  clear g4 HB3 x0 x1 x2 hcb
  obtain ⟨x0, x1, x2⟩ := HXA.out w4 K4.out
  have HK4 := Lib.hid (HKA.out w4 G4.out)
  clear HKA
  go_wp2_with fail
  refine HK4.out.mono ?_
  rintro e w5 ⟨M1, D1, n1, hM1, hD1, rfl, g5, hy1⟩
  have K5 := Lib.hid (K4.out.trans g5)
  have K45 := Lib.hid g5
  have G5 := Lib.hid (G4.out.trans g5)
  have HI1 : Hid ((Tryd.prog.info? 30).map (·.size) = some M1.toArray.size) := by rw [hM1]; exact byD_info D1 hD1
  have HJ1 : Hid ((Tryd.prog.info? 30).map (·.size) = some M1.length) := by have h := HI1.out; rw [List.size_toArray] at h; exact h
  have HO1 : Hid (M1.toArray.all (·.oneCell') = true) := by rw [hM1]; exact byD_one D1
  have HS1 : Hid (zero32.size = M1.toArray.size) := by rw [hM1, byD_size D1 hD1]; rfl
  have HM1 := Lib.hid hM1
  have HD1 := Lib.hid hD1
  have HY1 := Lib.hid hy1
  clear g5 HK4 x0 x1 x2 hM1 hD1 hy1
  go_upto_region 6 with (refine wpList_store_row rfl 30 _ _ rfl w5.heap.size M1.toArray rfl rfl 30 _ (HZ30.out w5) HI1.out HS1.out HO1.out ?_)
  have k56 : Chg none w5 ((w5.alloc (.cells #[Value.int IntKind.u8 0, Value.int IntKind.u8 0, Value.int IntKind.u8 0, Value.int IntKind.u8 0, Value.int IntKind.u8 0, Value.int IntKind.u8 0, Value.int IntKind.u8 0, Value.int IntKind.u8 0, Value.int IntKind.u8 0, Value.int IntKind.u8 0, Value.int IntKind.u8 0, Value.int IntKind.u8 0, Value.int IntKind.u8 0, Value.int IntKind.u8 0, Value.int IntKind.u8 0, Value.int IntKind.u8 0, Value.int IntKind.u8 0, Value.int IntKind.u8 0, Value.int IntKind.u8 0, Value.int IntKind.u8 0, Value.int IntKind.u8 0, Value.int IntKind.u8 0, Value.int IntKind.u8 0, Value.int IntKind.u8 0, Value.int IntKind.u8 0, Value.int IntKind.u8 0, Value.int IntKind.u8 0, Value.int IntKind.u8 0, Value.int IntKind.u8 0, Value.int IntKind.u8 0, Value.int IntKind.u8 0, Value.int IntKind.u8 0] 30)).setRow w5.heap.size M1.toArray) := Chg.own (b := w5.heap.size) ((Chg.refl none w5).alloc _) (chg_setRow _ _ _) (Nat.le_refl _)
  have HU6 : Hid (Blk ((w5.alloc (.cells #[Value.int IntKind.u8 0, Value.int IntKind.u8 0, Value.int IntKind.u8 0, Value.int IntKind.u8 0, Value.int IntKind.u8 0, Value.int IntKind.u8 0, Value.int IntKind.u8 0, Value.int IntKind.u8 0, Value.int IntKind.u8 0, Value.int IntKind.u8 0, Value.int IntKind.u8 0, Value.int IntKind.u8 0, Value.int IntKind.u8 0, Value.int IntKind.u8 0, Value.int IntKind.u8 0, Value.int IntKind.u8 0, Value.int IntKind.u8 0, Value.int IntKind.u8 0, Value.int IntKind.u8 0, Value.int IntKind.u8 0, Value.int IntKind.u8 0, Value.int IntKind.u8 0, Value.int IntKind.u8 0, Value.int IntKind.u8 0, Value.int IntKind.u8 0, Value.int IntKind.u8 0, Value.int IntKind.u8 0, Value.int IntKind.u8 0, Value.int IntKind.u8 0, Value.int IntKind.u8 0, Value.int IntKind.u8 0, Value.int IntKind.u8 0] 30)).setRow w5.heap.size M1.toArray) w5.heap.size M1.toArray 30) := setRow_heap _ _ _ _ _ _ (HZ30.out w5)
  have K6 := Lib.hid (K5.out.trans k56)
  have K46 := Lib.hid (K45.out.trans k56)
  have G6 := Lib.hid (G5.out.trans k56)
  clear k56 G5 K5 K45
  generalize (w5.alloc (.cells #[Value.int IntKind.u8 0, Value.int IntKind.u8 0, Value.int IntKind.u8 0, Value.int IntKind.u8 0, Value.int IntKind.u8 0, Value.int IntKind.u8 0, Value.int IntKind.u8 0, Value.int IntKind.u8 0, Value.int IntKind.u8 0, Value.int IntKind.u8 0, Value.int IntKind.u8 0, Value.int IntKind.u8 0, Value.int IntKind.u8 0, Value.int IntKind.u8 0, Value.int IntKind.u8 0, Value.int IntKind.u8 0, Value.int IntKind.u8 0, Value.int IntKind.u8 0, Value.int IntKind.u8 0, Value.int IntKind.u8 0, Value.int IntKind.u8 0, Value.int IntKind.u8 0, Value.int IntKind.u8 0, Value.int IntKind.u8 0, Value.int IntKind.u8 0, Value.int IntKind.u8 0, Value.int IntKind.u8 0, Value.int IntKind.u8 0, Value.int IntKind.u8 0, Value.int IntKind.u8 0, Value.int IntKind.u8 0, Value.int IntKind.u8 0] 30)).setRow w5.heap.size M1.toArray = w6 at *
  generalize w5.heap.size = pX at *
  obtain ⟨x0, x1, x2⟩ := HXB.out w6 K6.out
  have HK6 := Lib.hid (HKB.out w6 G6.out)
  clear HKB
  go_wp2_with fail
  refine HK6.out.mono ?_
  rintro e w7 ⟨M2, D2, n2, hM2, hD2, rfl, g7, hy2⟩
  have K7 := Lib.hid (K6.out.trans g7)
  have K47 := Lib.hid (K46.out.trans g7)
  have G7 := Lib.hid (G6.out.trans g7)
  have HU7 := Lib.hid (HU6.out.chg g7 (by simp))
  have HI2 : Hid ((Tryd.prog.info? 30).map (·.size) = some M2.toArray.size) := by rw [hM2]; exact byD_info D2 hD2
  have HJ2 : Hid ((Tryd.prog.info? 30).map (·.size) = some M2.length) := by have h := HI2.out; rw [List.size_toArray] at h; exact h
  have HO2 : Hid (M2.toArray.all (·.oneCell') = true) := by rw [hM2]; exact byD_one D2
  have HS2 : Hid (zero32.size = M2.toArray.size) := by rw [hM2, byD_size D2 hD2]; rfl
  have HM2 := Lib.hid hM2
  have HD2 := Lib.hid hD2
  have HY2 := Lib.hid hy2
  clear g7 HK6 x0 x1 x2 hM2 hD2 hy2 HU6
  go_upto_region 7 with (refine wpList_store_row rfl 30 _ _ rfl w7.heap.size M2.toArray rfl rfl 30 _ (HZ30.out w7) HI2.out HS2.out HO2.out ?_)
  have k78 : Chg none w7 ((w7.alloc (.cells #[Value.int IntKind.u8 0, Value.int IntKind.u8 0, Value.int IntKind.u8 0, Value.int IntKind.u8 0, Value.int IntKind.u8 0, Value.int IntKind.u8 0, Value.int IntKind.u8 0, Value.int IntKind.u8 0, Value.int IntKind.u8 0, Value.int IntKind.u8 0, Value.int IntKind.u8 0, Value.int IntKind.u8 0, Value.int IntKind.u8 0, Value.int IntKind.u8 0, Value.int IntKind.u8 0, Value.int IntKind.u8 0, Value.int IntKind.u8 0, Value.int IntKind.u8 0, Value.int IntKind.u8 0, Value.int IntKind.u8 0, Value.int IntKind.u8 0, Value.int IntKind.u8 0, Value.int IntKind.u8 0, Value.int IntKind.u8 0, Value.int IntKind.u8 0, Value.int IntKind.u8 0, Value.int IntKind.u8 0, Value.int IntKind.u8 0, Value.int IntKind.u8 0, Value.int IntKind.u8 0, Value.int IntKind.u8 0, Value.int IntKind.u8 0] 30)).setRow w7.heap.size M2.toArray) := Chg.own (b := w7.heap.size) ((Chg.refl none w7).alloc _) (chg_setRow _ _ _) (Nat.le_refl _)
  have HV8 : Hid (Blk ((w7.alloc (.cells #[Value.int IntKind.u8 0, Value.int IntKind.u8 0, Value.int IntKind.u8 0, Value.int IntKind.u8 0, Value.int IntKind.u8 0, Value.int IntKind.u8 0, Value.int IntKind.u8 0, Value.int IntKind.u8 0, Value.int IntKind.u8 0, Value.int IntKind.u8 0, Value.int IntKind.u8 0, Value.int IntKind.u8 0, Value.int IntKind.u8 0, Value.int IntKind.u8 0, Value.int IntKind.u8 0, Value.int IntKind.u8 0, Value.int IntKind.u8 0, Value.int IntKind.u8 0, Value.int IntKind.u8 0, Value.int IntKind.u8 0, Value.int IntKind.u8 0, Value.int IntKind.u8 0, Value.int IntKind.u8 0, Value.int IntKind.u8 0, Value.int IntKind.u8 0, Value.int IntKind.u8 0, Value.int IntKind.u8 0, Value.int IntKind.u8 0, Value.int IntKind.u8 0, Value.int IntKind.u8 0, Value.int IntKind.u8 0, Value.int IntKind.u8 0] 30)).setRow w7.heap.size M2.toArray) w7.heap.size M2.toArray 30) := setRow_heap _ _ _ _ _ _ (HZ30.out w7)
  have HU8 := Lib.hid (HU7.out.chg k78 (by simp))
  have K8 := Lib.hid (K7.out.trans k78)
  have K48 := Lib.hid (K47.out.trans k78)
  have G8 := Lib.hid (G7.out.trans k78)
  clear k78 G6 G7 K6 K46 K7 K47 HU7 HZ30 HO1 HO2 HS1 HS2 HI1 HI2
  generalize (w7.alloc (.cells #[Value.int IntKind.u8 0, Value.int IntKind.u8 0, Value.int IntKind.u8 0, Value.int IntKind.u8 0, Value.int IntKind.u8 0, Value.int IntKind.u8 0, Value.int IntKind.u8 0, Value.int IntKind.u8 0, Value.int IntKind.u8 0, Value.int IntKind.u8 0, Value.int IntKind.u8 0, Value.int IntKind.u8 0, Value.int IntKind.u8 0, Value.int IntKind.u8 0, Value.int IntKind.u8 0, Value.int IntKind.u8 0, Value.int IntKind.u8 0, Value.int IntKind.u8 0, Value.int IntKind.u8 0, Value.int IntKind.u8 0, Value.int IntKind.u8 0, Value.int IntKind.u8 0, Value.int IntKind.u8 0, Value.int IntKind.u8 0, Value.int IntKind.u8 0, Value.int IntKind.u8 0, Value.int IntKind.u8 0, Value.int IntKind.u8 0, Value.int IntKind.u8 0, Value.int IntKind.u8 0, Value.int IntKind.u8 0, Value.int IntKind.u8 0] 30)).setRow w7.heap.size M2.toArray = w8 at *
  generalize w7.heap.size = pY at *
  rcases HCA.out with ⟨hma, hk, hoa⟩ | ⟨hma, hk⟩
  rotate_left
  · subst hk
    clear hma HRA HRB HSP HTA HTB HCA HCB
    as_aux_lemma =>
      go_wp2_with fail
      refine (HK.out _ G8.out).mono ?_
      rintro e wk ⟨rfl, gk⟩
      go_wp2_with fail
      go_ret
      exact ⟨rfl, G8.out.trans gk⟩
  subst hk
  rcases HCB.out with ⟨hmb, hk, hob⟩ | ⟨hmb, hk⟩
  rotate_left
  · subst hk
    clear hma hmb hoa HRA HRB HSP HTA HTB HCA HCB
    as_aux_lemma =>
      go_wp2_with fail
      refine (HK.out _ G8.out).mono ?_
      rintro e wk ⟨rfl, gk⟩
      go_wp2_with fail
      go_ret
      exact ⟨rfl, G8.out.trans gk⟩
  subst hk
  obtain ⟨hd1, hn1⟩ := HY1.out hma
  obtain ⟨hd2, hn2⟩ := HY2.out hmb
  subst hn1 hn2
  have HE1 := Lib.hid hd1
  have HE2 := Lib.hid hd2
  have HMA := Lib.hid hma
  have HMB := Lib.hid hmb
  have HRA' := Lib.hid (fun v px g h => HRA.out v px g h hma)
  have HRB' := Lib.hid (fun v px g h => HRB.out v px g h hmb)
  have hcx : ∀ v, Chg none w8 v → (convert 22 9 (.slice XA xn xc)).run Tryd.prog v = .ok (.string ⟨(bytesA ⟨A, L, c, B, N, d, F⟩).toArray⟩) v := fun v g => conv_reads v (Reads.of_own (own_chgW hoa ((K34.out.trans K48.out).trans g)))
  have hcy : ∀ v, Chg none w8 v → (convert 22 9 (.slice YA yn yc)).run Tryd.prog v = .ok (.string ⟨(bytesA ⟨A', L', c', B', N', d', F'⟩).toArray⟩) v := fun v g => conv_reads v (Reads.of_own (own_chgW hob (K48.out.trans g)))
  have HCX := Lib.hid hcx
  have HCY := Lib.hid hcy
  have HRX : Hid (w8.rangeAt pX 0 M1) := Blk.range (show BlkL w8 pX M1 30 from HU8.out)
  have HRY : Hid (w8.rangeAt pY 0 M2) := Blk.range (show BlkL w8 pY M2 30 from HV8.out)
  have c1 := hcx w8 (Chg.refl _ _)
  have c2 := hcy w8 (Chg.refl _ _)
  clear hma hmb hoa hob hd1 hd2 HY1 HY2 HCA HCB HRA HRB hcx hcy K34 K48 HU8 HV8 K1 K2 K3 K4 G0 G1 G2 G3 G4
  by_cases hXY : bytesA ⟨A, L, c, B, N, d, F⟩ = bytesA ⟨A', L', c', B', N', d', F'⟩
  rotate_left
  · -- the bytes are unlike
    have HNE := Lib.hid hXY
    have hqq : ∀ v : World, (binOp .eql 30 (.agg M1.toArray) (.agg M2.toArray)).run Tryd.prog v = .ok (.bool (D1 == D2)) v := fun v => by rw [HM1.out, HM2.out]; exact eql30 D1 D2 HD1.out HD2.out v
    have HDD : Hid (D1 = D2 → keyA ⟨A, L, c, B, N, d, F⟩ = D1 ∧ keyA ⟨A', L', c', B', N', d', F'⟩ = D1) := fun h => ⟨HE1.out.symm, by rw [h]; exact HE2.out.symm⟩
    clear HSP HTA HTB hXY HCX HCY
    generalize bytesA ⟨A, L, c, B, N, d, F⟩ = X at *
    generalize bytesA ⟨A', L', c', B', N', d', F'⟩ = Y at *
    have hb1 : (X == Y) = false := by rw [beq_eq_false_iff_ne]; exact HNE.out
    have hb2 : ¬ X = Y := HNE.out
    by_cases hdd : D1 = D2
    · have hdb : (D1 == D2) = true := by rw [beq_iff_eq]; exact hdd
      rw [hdb] at hqq
      obtain ⟨hka, hkb⟩ := HDD.out hdd
      have HKA2 : Hid (∀ v px, Chg none w v → HashAt v px → Calls Tryd.prog 50 #[.pointer (some ⟨px, 0, none⟩), .agg #[.slice A L.length c, .slice B N.length d, .int .i64 F]] v fun e w' => e = .returned (.agg M1.toArray) ∧ Chg none v w') := fun v px g h => by
        have h2 := HRA'.out v px g h
        rw [hka, ← HM1.out] at h2
        exact h2
      have HKB2 : Hid (∀ v px, Chg none w v → HashAt v px → Calls Tryd.prog 50 #[.pointer (some ⟨px, 0, none⟩), .agg #[.slice A' L'.length c', .slice B' N'.length d', .int .i64 F']] v fun e w' => e = .returned (.agg M1.toArray) ∧ Chg none v w') := fun v px g h => by
        have h2 := HRB'.out v px g h
        rw [hkb, ← HM1.out] at h2
        exact h2
      have hqc : ∀ v : World, (binOp .eql 30 (.agg M1.toArray) (.agg M1.toArray)).run Tryd.prog v = .ok (.bool true) v := fun v => by rw [HM1.out, eql30 D1 D1 HD1.out HD1.out v]; simp
      clear hdd hdb hka hkb HDD HRA' HRB'
      go_wp2_with (first
        | (refine wpList_load_want (by rfl) 30 (.tmp 9) rfl pX 0 rfl M1 _ HRX.out Tryd.underlying30 rfl HJ1.out ?_)
        | (refine wpList_load_want (by rfl) 30 (.tmp 11) rfl pY 0 rfl M2 _ HRY.out Tryd.underlying30 rfl HJ2.out ?_))
      refine (HNW.out _).mono ?_
      rintro e w9 ⟨px, rfl, hh, g9⟩
      have G9 := Lib.hid (G8.out.trans g9)
      have K9 := Lib.hid (K8.out.trans g9)
      have HH9 := Lib.hid hh
      clear hh g9 c1 c2 hqq
      go_upto_region 13 with fail
      have hS : Chg none w9.drew w9.drew := Chg.refl _ _
      have HS0 : Hid (∀ v, Chg none w9.drew v → Chg none w9 v) := fun v g => (Chg.refl none w9).drew.trans g
      have HC1 : Hid (∀ v, Chg none w9.drew v → Calls Tryd.prog 50 #[.pointer (some ⟨px, 0, none⟩), .agg #[.slice A L.length c, .slice B N.length d, .int .i64 F]] v fun e w' => e = .returned (.agg M1.toArray) ∧ Chg none v w') := fun v g => HKA2.out v px (G9.out.trans (HS0.out v g)) (HH9.out.chg (HS0.out v g) (by simp))
      have HC2 : Hid (∀ v, Chg none w9.drew v → Calls Tryd.prog 50 #[.pointer (some ⟨px, 0, none⟩), .agg #[.slice A' L'.length c', .slice B' N'.length d', .int .i64 F']] v fun e w' => e = .returned (.agg M1.toArray) ∧ Chg none v w') := fun v g => HKB2.out v px (G9.out.trans (HS0.out v g)) (HH9.out.chg (HS0.out v g) (by simp))
      have HKV : Hid (∀ v, Chg none w9.drew v → Calls Tryd.prog 43 #[] v fun e w' => e = .returned (.bool true) ∧ Chg none v w') := fun v g => HK.out v (G9.out.trans (HS0.out v g))
      have HXA9 : Hid (∀ v, Chg none w9.drew v → v.cell? ⟨pA, 0, none⟩ = some (.slice A L.length c) ∧ v.cell? ⟨pA, 1, none⟩ = some (.slice B N.length d) ∧ v.cell? ⟨pA, 2, none⟩ = some (.int .i64 F)) := fun v g => HXA.out v (K9.out.trans (HS0.out v g))
      have HXB9 : Hid (∀ v, Chg none w9.drew v → v.cell? ⟨pB, 0, none⟩ = some (.slice A' L'.length c') ∧ v.cell? ⟨pB, 1, none⟩ = some (.slice B' N'.length d') ∧ v.cell? ⟨pB, 2, none⟩ = some (.int .i64 F')) := fun v g => HXB.out v (K9.out.trans (HS0.out v g))
      have HGW : Hid (Chg none w w9.drew) := G9.out.drew
      refine wp_region_held_drew (S := fun v => Chg none w9.drew v) (by kernel_rfl) hS (fun _ => ?_)
      clear HS0 HKA2 HKB2 HH9 G9 K9
      generalize w9.drew = v0 at *
      refine wpAnyH_take (i := 0) (oi := ⟨some 80, _, _, _, _, _⟩) (v := ?_) rfl (by kernel_rfl) (by kernel_rfl) (by kernel_rfl) (fun _ _ _ h => h) (Or.inl ⟨by rfl, ?_⟩) (by assumption) ?_
      rotate_left
      · intro w hSw; (try dsimp only at hSw); go_simp; (try with_reducible rfl)
      try simp only [Act.put, List.setIfInBounds_toArray, List.set_cons_zero, List.set_cons_succ]
      refine wpAnyH_take (i := 1) (oi := ⟨some 81, _, _, _, _, _⟩) (v := .agg #[.slice A L.length c, .slice B N.length d, .int .i64 F]) rfl (by kernel_rfl) (by kernel_rfl) (by kernel_rfl) (fun _ _ _ h => h) (Or.inl ⟨by rfl, ?_⟩) (by assumption) ?_
      · intro v hSv; obtain ⟨z0, z1, z2⟩ := HXA9.out v hSv; go_simp
      try simp only [Act.put, List.setIfInBounds_toArray, List.set_cons_zero, List.set_cons_succ]
      refine wpAnyH_take (i := 3) (oi := ⟨some 83, _, _, _, _, _⟩) (v := ?_) rfl (by kernel_rfl) (by kernel_rfl) (by kernel_rfl) (fun _ _ _ h => h) (Or.inl ⟨by rfl, ?_⟩) (by assumption) ?_
      rotate_left
      · intro w hSw; (try dsimp only at hSw); go_simp; (try with_reducible rfl)
      try simp only [Act.put, List.setIfInBounds_toArray, List.set_cons_zero, List.set_cons_succ]
      refine wpAnyH_take (i := 4) (oi := ⟨some 84, _, _, _, _, _⟩) (v := .agg #[.slice A' L'.length c', .slice B' N'.length d', .int .i64 F']) rfl (by kernel_rfl) (by kernel_rfl) (by kernel_rfl) (fun _ _ _ h => h) (Or.inl ⟨by rfl, ?_⟩) (by assumption) ?_
      · intro v hSv; obtain ⟨z0, z1, z2⟩ := HXB9.out v hSv; go_simp
      try simp only [Act.put, List.setIfInBounds_toArray, List.set_cons_zero, List.set_cons_succ]
      refine wpAnyH_ready (rs := [2]) (by kernel_rfl) (by simp) ?_
      refine AllReadyH.cons (o := ⟨some 82, _, _, _, _, _⟩) rfl (fun K hK => ?_) (AllReadyH.nil)
      go_simp
      go_at_call 50
      refine (HC1.out _ hS).mono ?_
      rintro e v1 ⟨rfl, kv1⟩
      have hS1 := Chg.trans hS kv1
      clear kv1
      go_wp2_with fail
      refine hK.out _ _ hS1 (fun _ => ?_)
      clear hK K
      try simp only [Act.put, List.setIfInBounds_toArray, List.set_cons_zero, List.set_cons_succ]
      refine wpAnyH_ready (rs := [5]) (by kernel_rfl) (by simp) ?_
      refine AllReadyH.cons (o := ⟨some 85, _, _, _, _, _⟩) rfl (fun K hK => ?_) (AllReadyH.nil)
      go_simp
      go_at_call 50
      refine (HC2.out _ hS1).mono ?_
      rintro e v2 ⟨rfl, kv2⟩
      have hS2 := Chg.trans hS1 kv2
      clear kv2
      go_wp2_with fail
      refine hK.out _ _ hS2 (fun _ => ?_)
      clear hK K
      try simp only [Act.put, List.setIfInBounds_toArray, List.set_cons_zero, List.set_cons_succ]
      refine wpAnyH_take (i := 6) (oi := ⟨some 86, _, _, _, _, _⟩) (v := ?_) rfl (by kernel_rfl) (by kernel_rfl) (by kernel_rfl) (fun _ _ _ h => h) (Or.inl ⟨by rfl, ?_⟩) (by assumption) ?_
      rotate_left
      · intro w hSw; (try dsimp only at hSw); go_simp; (try with_reducible rfl)
      try simp only [Act.put, List.setIfInBounds_toArray, List.set_cons_zero, List.set_cons_succ]
      refine wpAnyH_take (i := 7) (oi := ⟨some 87, _, _, _, _, _⟩) (v := ?_) rfl (by kernel_rfl) (by kernel_rfl) (by kernel_rfl) (fun _ _ _ h => h) (Or.inl ⟨by rfl, ?_⟩) (by assumption) ?_
      rotate_left
      · intro w hSw; (try dsimp only at hSw); go_simp; (try with_reducible rfl)
      try simp only [Act.put, List.setIfInBounds_toArray, List.set_cons_zero, List.set_cons_succ]
      refine wpAnyH_ready (rs := [8]) (by kernel_rfl) (by simp) ?_
      refine AllReadyH.cons (o := ⟨some 88, _, _, _, _, _⟩) rfl (fun K hK => ?_) (AllReadyH.nil)
      go_simp
      go_at_call 43
      refine (HKV.out _ hS2).mono ?_
      rintro e v3 ⟨rfl, kv3⟩
      have hS3 := Chg.trans hS2 kv3
      clear kv3
      go_wp2_with fail
      refine hK.out _ _ hS3 (fun _ => ?_)
      clear hK K
      try simp only [Act.put, List.setIfInBounds_toArray, List.set_cons_zero, List.set_cons_succ]
      refine wpAnyH_take (i := 9) (oi := ⟨some 89, _, _, _, _, _⟩) (v := ?_) rfl (by kernel_rfl) (by kernel_rfl) (by kernel_rfl) (fun _ _ _ h => h) (Or.inl ⟨by rfl, ?_⟩) (by assumption) ?_
      rotate_left
      · intro w hSw; (try dsimp only at hSw); go_simp; (try with_reducible rfl)
      try simp only [Act.put, List.setIfInBounds_toArray, List.set_cons_zero, List.set_cons_succ]
      refine wpAnyH_take (i := 10) (oi := ⟨some 4, _, _, _, _, _⟩) (v := ?_) rfl (by kernel_rfl) (by kernel_rfl) (by kernel_rfl) (fun _ _ _ h => h) (Or.inl ⟨by rfl, ?_⟩) (by assumption) ?_
      rotate_left
      · intro w hSw; (try dsimp only at hSw); go_simp; (try with_reducible rfl)
      try simp only [Act.put, List.setIfInBounds_toArray, List.set_cons_zero, List.set_cons_succ]
      refine wpAnyH_done (by kernel_rfl) ?_ _
      try simp only [Act.put]
      go_wp2_with fail
      go_ret
      exact ⟨rfl, HGW.out.trans hS3⟩
    · have hdb : (D1 == D2) = false := by rw [beq_eq_false_iff_ne]; exact hdd
      rw [hdb] at hqq
      clear hdd hdb HDD HRA' HRB'
      go_wp2_with (first
        | (refine wpList_load_want (by rfl) 30 (.tmp 9) rfl pX 0 rfl M1 _ HRX.out Tryd.underlying30 rfl HJ1.out ?_)
        | (refine wpList_load_want (by rfl) 30 (.tmp 11) rfl pY 0 rfl M2 _ HRY.out Tryd.underlying30 rfl HJ2.out ?_))
      refine (HK.out _ G8.out).mono ?_
      rintro e wk ⟨rfl, gk⟩
      go_wp2_with fail
      go_ret
      exact ⟨rfl, G8.out.trans gk⟩
  -- the bytes are alike
  have hdq : D1 = D2 := by rw [HE1.out, HE2.out]; unfold keyA; rw [hXY]
  have hee : (D1 == D2) = true := by rw [beq_iff_eq]; exact hdq
  have hqe : ∀ v : World, (binOp .eql 30 (.agg M1.toArray) (.agg M2.toArray)).run Tryd.prog v = .ok (.bool true) v := fun v => by rw [HM1.out, HM2.out, eql30 D1 D2 HD1.out HD2.out v, hee]
  have hqn : ∀ v : World, (binOp .neq 30 (.agg M1.toArray) (.agg M2.toArray)).run Tryd.prog v = .ok (.bool false) v := fun v => by rw [HM1.out, HM2.out, neq30 D1 D2 HD1.out HD2.out v, hee]; rfl
  obtain ⟨hpB, hpT, hf0, hf1⟩ := mayA_parts HMA.out
  obtain ⟨hqB, hqT, hg0, hg1⟩ := mayA_parts HMB.out
  have hsp := hXY
  unfold bytesA actB at hsp
  dsimp only at hsp hpB hpT hf0 hf1 hqB hqT hg0 hg1
  have hpl : (progB L).length ≤ 10000 := by
    have h := partB_len hpB L.length
    rw [partB_all (Nat.le_refl _)] at h
    exact h
  have hql : (progB L').length ≤ 10000 := by
    have h := partB_len hqB L'.length
    rw [partB_all (Nat.le_refl _)] at h
    exact h
  obtain ⟨h1, h2⟩ := row_split (by omega) (by omega) hsp
  have hLL : L = L' := (prog_inj hpB hqB).mp h1
  obtain ⟨hRR, h4⟩ := List.append_inj h2 (by rw [rootB_len, rootB_len])
  have hFF : F = F' := by
    have h5 := (form_split (r := []) (s := []) (n := F.toNat) (m := F'.toNat) (by omega) (by omega) (by rw [List.append_nil, List.append_nil]; exact h4)).1
    omega
  have HRR := Lib.hid hRR
  have HPT := Lib.hid hpT
  have HQT := Lib.hid hqT
  rw [← hXY] at HCY c2
  generalize bytesA ⟨A, L, c, B, N, d, F⟩ = X at HCX HCY c1 c2
  clear hsp h1 h2 h4 hRR hpB hqB hpT hqT hf0 hf1 hg0 hg1 hpl hql hXY HRA' HRB' HE1 HE2 HMA HMB hee hdq HCX HCY
  have HSP1 : Hid (∀ v, Chg none w v → Calls Tryd.prog 37 #[.slice A L.length c, .slice A' L'.length c'] v fun e w' => e = .returned (.bool true) ∧ Chg none v w') := fun v g => by
    have h := HSP.out v g
    rw [decide_eq_true hLL] at h
    exact h
  have hfb : (F == F') = true := by rw [beq_iff_eq]; exact hFF
  have hfn : (F != F') = false := by rw [bne_eq_false_iff_eq]; exact hFF
  clear HSP hLL hFF
  obtain ⟨x0, x1, x2⟩ := HXA.out w8 K8.out
  obtain ⟨y0, y1, y2⟩ := HXB.out w8 K8.out
  have HS8 := Lib.hid (HSP1.out w8 G8.out)
  clear HSP1
  go_wp2_with (first
    | (refine wpList_load_want (by rfl) 30 (.tmp 9) rfl pX 0 rfl M1 _ HRX.out Tryd.underlying30 rfl HJ1.out ?_)
    | (refine wpList_load_want (by rfl) 30 (.tmp 11) rfl pY 0 rfl M2 _ HRY.out Tryd.underlying30 rfl HJ2.out ?_))
  refine HS8.out.mono ?_
  rintro e w9 ⟨rfl, g9⟩
  have G9 := Lib.hid (G8.out.trans g9)
  have K9 := Lib.hid (K8.out.trans g9)
  clear HS8 g9 x0 x1 x2 y0 y1 y2 c1 c2 hqe hqn HRX HRY
  obtain ⟨x0, x1, x2⟩ := HXA.out w9 K9.out
  obtain ⟨y0, y1, y2⟩ := HXB.out w9 K9.out
  have HSM := Lib.hid (t_refsame_any N N' B B' d d' w9 (HTA.out w9 G9.out) (HTB.out w9 G9.out) (by have := (mayT_parts HPT.out).1; omega))
  by_cases hkk : keys N = keys N'
  · rw [decide_eq_true hkk] at HSM
    clear hkk HTA HTB HNW HRR HPT HQT
    go_wp2_with fail
    refine HSM.out.mono ?_
    rintro e w10 ⟨rfl, g10⟩
    have G10 := Lib.hid (G9.out.trans g10)
    clear HSM g10 x0 x1 x2 y0 y1 y2
    as_aux_lemma =>
      go_wp2_with fail
      refine (HK.out _ G10.out).mono ?_
      rintro e wk ⟨rfl, gk⟩
      go_wp2_with fail
      go_ret
      exact ⟨rfl, G10.out.trans gk⟩
  · rw [decide_eq_false hkk] at HSM
    have hne : treeB N ≠ treeB N' := by
      rw [treeB_keys, treeB_keys]
      intro e
      exact hkk ((tree_inj (by rw [← mayT_keys]; exact HPT.out) (by rw [← mayT_keys]; exact HQT.out)).1 e)
    have hPl : (treeB N).length ≤ 33000 := by rw [← partT_all (Nat.le_refl _)]; exact partT_len HPT.out _
    have hQl : (treeB N').length ≤ 33000 := by rw [← partT_all (Nat.le_refl _)]; exact partT_len HQT.out _
    have HQA : Hid (∀ v, Chg none w v → Calls Tryd.prog 29 #[.slice B N.length d] v fun e w' => ∃ A' n c', e = .returned (.slice A' n c') ∧ ByAt v w' A' n c' (treeB N)) := fun v g => refbytes37 N B d v (HTA.out v g) HPT.out
    have HQB : Hid (∀ v, Chg none w v → Calls Tryd.prog 29 #[.slice B' N'.length d'] v fun e w' => ∃ A' n c', e = .returned (.slice A' n c') ∧ ByAt v w' A' n c' (treeB N')) := fun v g => refbytes37 N' B' d' v (HTB.out v g) HQT.out
    generalize treeB N = P at *
    generalize treeB N' = R at *
    have HNE := Lib.hid hne
    have HPL := Lib.hid hPl
    have HQL := Lib.hid hQl
    clear hkk HTA HTB HPT HQT hne hPl hQl
    go_wp2_with fail
    refine HSM.out.mono ?_
    rintro e w10 ⟨rfl, g10⟩
    have G10 := Lib.hid (G9.out.trans g10)
    have K10 := Lib.hid (K9.out.trans g10)
    clear HSM g10 x0 x1 x2 y0 y1 y2
    go_upto_region 19 with fail
    have HS0 : Hid (∀ v, Chg none w10.drew v → Chg none w10 v) := fun v g => (Chg.refl none w10).drew.trans g
    have HXA1 : Hid (∀ v, Chg none w10.drew v → v.cell? ⟨pA, 0, none⟩ = some (.slice A L.length c) ∧ v.cell? ⟨pA, 1, none⟩ = some (.slice B N.length d) ∧ v.cell? ⟨pA, 2, none⟩ = some (.int .i64 F)) := fun v g => HXA.out v (K10.out.trans (HS0.out v g))
    have HXB1 : Hid (∀ v, Chg none w10.drew v → v.cell? ⟨pB, 0, none⟩ = some (.slice A' L'.length c') ∧ v.cell? ⟨pB, 1, none⟩ = some (.slice B' N'.length d') ∧ v.cell? ⟨pB, 2, none⟩ = some (.int .i64 F')) := fun v g => HXB.out v (K10.out.trans (HS0.out v g))
    have HQA1 : Hid (∀ v, Chg none w10.drew v → Calls Tryd.prog 29 #[.slice B N.length d] v fun e w' => ∃ A' n c', e = .returned (.slice A' n c') ∧ ByAt v w' A' n c' P) := fun v g => HQA.out v (G10.out.trans (HS0.out v g))
    have HQB1 : Hid (∀ v, Chg none w10.drew v → Calls Tryd.prog 29 #[.slice B' N'.length d'] v fun e w' => ∃ A' n c', e = .returned (.slice A' n c') ∧ ByAt v w' A' n c' R) := fun v g => HQB.out v (G10.out.trans (HS0.out v g))
    have HGW : Hid (Chg none w w10.drew) := G10.out.drew
    have HKW : Hid (∀ v, Chg none w10.drew v → Calls Tryd.prog 43 #[] v fun e w' => e = .returned (.bool true) ∧ Chg none v w') := fun v g => HK.out v (G10.out.trans (HS0.out v g))
    refine wp_region_held_drew (S := fun v => Chg none w10.drew v) (by kernel_rfl) (Chg.refl _ _) (fun _ => ?_)
    have hS : Chg none w10.drew w10.drew := Chg.refl _ _
    clear HS0 HXA HXB HQA HQB G8 G9 G10 K8 K9 K10 HK
    generalize w10.drew = v0 at *
    refine wpAnyH_take (i := 0) (oi := ⟨some 115, _, _, _, _, _⟩) (v := ?_) rfl (by kernel_rfl) (by kernel_rfl) (by kernel_rfl) (fun _ _ _ h => h) (Or.inl ⟨by rfl, ?_⟩) (by assumption) ?_
    rotate_left
    · intro w hSw; (try dsimp only at hSw); go_simp; (try with_reducible rfl)
    try simp only [Act.put, List.setIfInBounds_toArray, List.set_cons_zero, List.set_cons_succ]
    refine wpAnyH_take (i := 1) (oi := ⟨some 116, _, _, _, _, _⟩) (v := .slice B N.length d) rfl (by kernel_rfl) (by kernel_rfl) (by kernel_rfl) (fun _ _ _ h => h) (Or.inl ⟨by rfl, ?_⟩) (by assumption) ?_
    · intro v hSv; obtain ⟨z0, z1, z2⟩ := HXA1.out v hSv; go_simp
    try simp only [Act.put, List.setIfInBounds_toArray, List.set_cons_zero, List.set_cons_succ]
    refine wpAnyH_take (i := 3) (oi := ⟨some 118, _, _, _, _, _⟩) (v := ?_) rfl (by kernel_rfl) (by kernel_rfl) (by kernel_rfl) (fun _ _ _ h => h) (Or.inl ⟨by rfl, ?_⟩) (by assumption) ?_
    rotate_left
    · intro w hSw; (try dsimp only at hSw); go_simp; (try with_reducible rfl)
    try simp only [Act.put, List.setIfInBounds_toArray, List.set_cons_zero, List.set_cons_succ]
    refine wpAnyH_take (i := 4) (oi := ⟨some 119, _, _, _, _, _⟩) (v := .slice B' N'.length d') rfl (by kernel_rfl) (by kernel_rfl) (by kernel_rfl) (fun _ _ _ h => h) (Or.inl ⟨by rfl, ?_⟩) (by assumption) ?_
    · intro v hSv; obtain ⟨z0, z1, z2⟩ := HXB1.out v hSv; go_simp
    try simp only [Act.put, List.setIfInBounds_toArray, List.set_cons_zero, List.set_cons_succ]
    refine wpAnyH_ready (rs := [2]) (by kernel_rfl) (by simp) ?_
    refine AllReadyH.cons (o := ⟨some 117, _, _, _, _, _⟩) rfl (fun K hK => ?_) (AllReadyH.nil)
    go_simp
    go_at_call 29
    refine (HQA1.out _ hS).mono ?_
    rintro e v1 ⟨PA, pn, pc, rfl, hb1⟩
    have hS1 := Chg.trans hS hb1.2.2
    have HB1 := Lib.hid hb1
    clear hb1
    go_wp2_with fail
    refine hK.out _ _ hS1 (fun _ => ?_)
    clear hK K
    try simp only [Act.put, List.setIfInBounds_toArray, List.set_cons_zero, List.set_cons_succ]
    refine wpAnyH_ready (rs := [5]) (by kernel_rfl) (by simp) ?_
    refine AllReadyH.cons (o := ⟨some 120, _, _, _, _, _⟩) rfl (fun K hK => ?_) (AllReadyH.nil)
    go_simp
    go_at_call 29
    refine (HQB1.out _ hS1).mono ?_
    rintro e v2 ⟨QA, qn, qc, rfl, hb2⟩
    have hS2 := Chg.trans hS1 hb2.2.2
    have HB2 := Lib.hid hb2
    have g12 := Lib.hid hb2.2.2
    clear hb2
    go_wp2_with fail
    refine hK.out _ _ hS2 (fun _ => ?_)
    clear hK K
    try simp only [Act.put, List.setIfInBounds_toArray, List.set_cons_zero, List.set_cons_succ]
    refine wpAnyH_take (i := 6) (oi := ⟨some 14, _, _, _, _, _⟩) (v := ?_) rfl (by kernel_rfl) (by kernel_rfl) (by kernel_rfl) (fun _ _ _ h => h) (Or.inl ⟨by rfl, ?_⟩) (by assumption) ?_
    rotate_left
    · intro w hSw; (try dsimp only at hSw); go_simp; (try with_reducible rfl)
    try simp only [Act.put, List.setIfInBounds_toArray, List.set_cons_zero, List.set_cons_succ]
    refine wpAnyH_take (i := 7) (oi := ⟨some 15, _, _, _, _, _⟩) (v := ?_) rfl (by kernel_rfl) (by kernel_rfl) (by kernel_rfl) (fun _ _ _ h => h) (Or.inl ⟨by rfl, ?_⟩) (by assumption) ?_
    rotate_left
    · intro w hSw; (try dsimp only at hSw); go_simp; (try with_reducible rfl)
    try simp only [Act.put, List.setIfInBounds_toArray, List.set_cons_zero, List.set_cons_succ]
    refine wpAnyH_done (by kernel_rfl) ?_ _
    try simp only [Act.put]
    have hpr : (P == R) = false := by rw [beq_eq_false_iff_ne]; exact HNE.out
    have hpn : ¬ P = R := HNE.out
    go_wp2_with fail
    refine (HNW.out _).mono ?_
    rintro e v3 ⟨px, rfl, hh, g3⟩
    have hS3 := Chg.trans hS2 g3
    have hcp := conv_reads (c := pc) v3 (Reads.of_own (own_chgW HB1.out.2.1 (g12.out.trans g3)))
    have hcr := conv_reads (c := qc) v3 (Reads.of_own (own_chgW HB2.out.2.1 g3))
    have HD3 : Hid (∀ v, Chg none v3 v → Calls Tryd.prog 51 #[.pointer (some ⟨px, 0, none⟩), .slice PA pn pc] v fun e w' => e = .returned (.agg (byteVals (rootB P)).toArray) ∧ Chg none v w') := fun v g => by
      have h := HB1.out
      obtain ⟨rfl, h2, -⟩ := h
      have ht := own_txt (own_chgW h2 (g12.out.trans (g3.trans g)))
      exact rootr_any px ⟨PA, P, pc⟩ v (hh.chg g (by simp)) ⟨ht.1, ht.2.2⟩ (by have := HPL.out; show P.length ≤ _; omega)
    have HD4 : Hid (∀ v, Chg none v3 v → Calls Tryd.prog 51 #[.pointer (some ⟨px, 0, none⟩), .slice QA qn qc] v fun e w' => e = .returned (.agg (byteVals (rootB P)).toArray) ∧ Chg none v w') := fun v g => by
      have h := HB2.out
      obtain ⟨rfl, h2, -⟩ := h
      have ht := own_txt (own_chgW h2 (g3.trans g))
      rw [HRR.out]
      exact rootr_any px ⟨QA, R, qc⟩ v (hh.chg g (by simp)) ⟨ht.1, ht.2.2⟩ (by have := HQL.out; show R.length ≤ _; omega)
    have hqc : ∀ v : World, (binOp .eql 30 (.agg (byteVals (rootB P)).toArray) (.agg (byteVals (rootB P)).toArray)).run Tryd.prog v = .ok (.bool true) v := fun v => by rw [eql30 _ _ (rootB_len _) (rootB_len _) v]; simp
    generalize (byteVals (rootB P)).toArray = CC at HD3 HD4 hqc
    clear HB1 HB2 HRR g12 hh g3 hS hS1 hS2
    go_wp2_with fail
    refine (HD3.out v3 (Chg.refl _ _)).mono ?_
    rintro e v4 ⟨rfl, g4⟩
    have HD4' := Lib.hid (HD4.out v4 g4)
    have hS4 := Chg.trans hS3 g4
    clear g4 HD3 HD4 hcp hcr
    go_wp2_with fail
    refine HD4'.out.mono ?_
    rintro e v5 ⟨rfl, g5⟩
    have hS5 := Chg.trans hS4 g5
    clear g5 HD4'
    go_wp2_with fail
    refine (HKW.out _ hS5).mono ?_
    rintro e wk ⟨rfl, gk⟩
    go_wp2_with fail
    go_ret
    exact ⟨rfl, HGW.out.trans (hS5.trans gk)⟩

end Go.Proofs.YtglfakglcoffkaaDoor
