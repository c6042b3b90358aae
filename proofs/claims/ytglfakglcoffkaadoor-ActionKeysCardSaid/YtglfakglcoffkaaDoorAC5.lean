/-
  The document's action: Bytes, Key.
-/
import Derived.Test.YtglfakglcoffkaaDoorAC
import Derived.Test.YtglfakglcoffkaaDoorPB3
namespace Go.Proofs.YtglfakglcoffkaaDoor
open Go.RowKit

set_option maxRecDepth 100000 in
set_option maxHeartbeats 16000000 in
theorem rbytes8_any (a : Actn) (px : Nat) (w : World) (hh : HashAt w px) (ha : ActAt w a) (hm : mayA a = true) :
    Calls Tryd.prog 49 #[.pointer (some ⟨px, 0, none⟩), .agg (actCells a).toArray] w fun e w' => ∃ A' n c', e = .returned (.slice A' n c') ∧ ByAt w w' A' n c' (bytesA a) := by
  obtain ⟨i0, hi0, hz0, hz1, hz2⟩ := info_parts Tryd.info5
  obtain ⟨hmB, hmT, hf0, hf1⟩ := mayA_parts hm
  have HPB := Lib.hid (fun v (g : Chg none w v) => refbytes_any a.L a.A a.c v (ha.chg g).prog hmB)
  have HTB := Lib.hid (fun v (g : Chg none w v) => refbytes37 a.N a.B a.d v (ha.chg g).tree hmT)
  have HRT : Hid (∀ v (p : Prt), Chg none w v → p.ok v → p.x = treeB a.N → Calls Tryd.prog 51 #[.pointer (some ⟨px, 0, none⟩), .slice p.A p.x.length p.c] v fun e w' => e = .returned (.agg (byteVals (rootB (treeB a.N))).toArray) ∧ Chg none v w') := fun v p g hp he => by
    rw [← he]
    exact rootr_any px p v (hh.chg g (by simp)) hp (by rw [he, ← partT_all (Nat.le_refl _)]; have := partT_len hmT a.N.length; omega)
  have HPL : Hid ((progB a.L).length ≤ 10000) := by
    have h := partB_len hmB a.L.length
    rw [partB_all (Nat.le_refl _)] at h
    exact h
  have HFO : Hid (∀ (m : Nat) (v : World), Chg none w v → m < 18446744073709551616 → Calls Tryd.prog 67 #[.int .u64 m] v fun e w' => ∃ A n c, e = .returned (.slice A n c) ∧ ByAt w w' A n c (form m) ∧ Chg none v w') := fun m v g h => (refForm_any m v h).mono fun e w' hp => ByAt.of_post hp g
  clear hm hmB hmT hh ha
  unfold bytesA
  obtain ⟨A, L, c, B, N, d, F⟩ := a
  unfold actCells at *
  dsimp only at HPB HTB HRT HPL hf0 hf1 ⊢
  obtain ⟨f, rfl⟩ := Int.eq_ofNat_of_zero_le hf0
  rw [Int.toNat_natCast]
  obtain ⟨P, hP⟩ : ∃ P, P = progB L := ⟨_, rfl⟩
  obtain ⟨R, hR⟩ : ∃ R, R = treeB N := ⟨_, rfl⟩
  obtain ⟨D, hD⟩ : ∃ D, D = rootB R := ⟨_, rfl⟩
  have hDl : D.length = 32 := by rw [hD, rootB_len]
  rw [← hP] at HPB HPL ⊢
  rw [← hR] at HTB HRT ⊢
  rw [← hD] at HRT ⊢
  obtain ⟨C, hC⟩ : ∃ C, C = (byteVals D).toArray := ⟨_, rfl⟩
  have HC := Lib.hid hC
  have HIC : Hid ((Tryd.prog.info? 30).map (·.size) = some C.size) := by rw [hC]; exact byD_info D hDl
  have HOC : Hid (C.all (·.oneCell') = true) := by rw [hC]; exact byD_one D
  have HSC : Hid (zero32.size = C.size) := by rw [hC, byD_size D hDl]; rfl
  have HDL := Lib.hid hDl
  rw [← hC] at HRT
  have hZ30 : ∀ W : World, (W.alloc (.cells #[Value.int IntKind.u8 0, Value.int IntKind.u8 0, Value.int IntKind.u8 0, Value.int IntKind.u8 0, Value.int IntKind.u8 0, Value.int IntKind.u8 0, Value.int IntKind.u8 0, Value.int IntKind.u8 0, Value.int IntKind.u8 0, Value.int IntKind.u8 0, Value.int IntKind.u8 0, Value.int IntKind.u8 0, Value.int IntKind.u8 0, Value.int IntKind.u8 0, Value.int IntKind.u8 0, Value.int IntKind.u8 0, Value.int IntKind.u8 0, Value.int IntKind.u8 0, Value.int IntKind.u8 0, Value.int IntKind.u8 0, Value.int IntKind.u8 0, Value.int IntKind.u8 0, Value.int IntKind.u8 0, Value.int IntKind.u8 0, Value.int IntKind.u8 0, Value.int IntKind.u8 0, Value.int IntKind.u8 0, Value.int IntKind.u8 0, Value.int IntKind.u8 0, Value.int IntKind.u8 0, Value.int IntKind.u8 0, Value.int IntKind.u8 0] 30)).heap[W.heap.size]? = some (.cells zero32 30 (0, 0)) := fun W => heap_alloc_new W _
  have HZ30 := Lib.hid hZ30
  have HG0 : Hid (Chg none w (w.alloc (.cells #[.slice A L.length c, .slice B N.length d, .int .i64 (f : Int)] 64))) := (Chg.refl _ _).alloc _
  have HB0 : Hid (Blk (w.alloc (.cells #[.slice A L.length c, .slice B N.length d, .int .i64 (f : Int)] 64)) w.heap.size #[.slice A L.length c, .slice B N.length d, .int .i64 (f : Int)] 64) := Blk.new _ _ _
  have HFB : Hid (f ≤ 20000) := by show f ≤ 20000; omega
  have HP1 := Lib.hid (HPB.out _ HG0.out)
  clear hZ30 hC hDl hP hR hD hf0 hf1 HPB
  go_enter Tryd.func49, Tryd.ntmps49
  go_wp2_with fail
  refine HP1.out.mono ?_
  rintro e w1 ⟨A1, n1, c1, rfl, hb1⟩
  have HB1 := Lib.hid (HB0.out.chg hb1.2.2 (by simp))
  have G1 := Lib.hid (HG0.out.trans hb1.2.2)
  have HR1 : Hid (∀ v, Chg none w1 v → Reads v v.heap.size 1 A1 P.length (byteVals P)) := fun v g => by
    obtain ⟨h1, h2, -⟩ := hb1
    have h := Reads.of_own (own_chgW h2 g)
    rwa [h1] at h
  have hn1 : n1 = P.length := hb1.1
  have hPb : (P.length : Int) ≤ 10000 := by have := HPL.out; omega
  have hwl : IntKind.u64.wrap (P.length : Int) = (P.length : Int) := by rw [IntKind.wrap_u64]; omega
  have HF1 := Lib.hid (HFO.out P.length w1 G1.out (by omega))
  subst hn1
  clear hb1 HP1 HB0 HG0
  go_wp2_with fail
  refine HF1.out.mono ?_
  rintro e w2 ⟨A2, n2, c2, rfl, hb2, g2⟩
  have HB2 := Lib.hid (HB1.out.chg g2 (by simp))
  have HH2 := Lib.hid hb2
  have HR2 := Lib.hid (HR1.out w2 g2)
  have HO2 := Lib.hid (byteVals_one P)
  have HL2 : Hid (n2 ≤ 9) := by show n2 ≤ 9; rw [hb2.1]; exact form_small _ (by omega)
  clear hb2 g2 HR1 HF1 HB1 G1 hwl
  go_wp2_with (at_builtin; refine wpList_append_any _ rfl (.tmp 14) (.tmp 15) 22 rfl w.heap.size 5 i0 (.int .u8 0) 1 1 Tryd.underlying22 hi0 hz0 hz1 hz2 rfl (by decide) _ n2 (byteVals (form P.length)) rfl HH2.out.2.1 _ A1 P.length c1 (byteVals P) rfl HR2.out HO2.out (by have h1 := HPL.out; have h2 := HL2.out; unfold maxLen; omega) (by have h1 := HPL.out; have h2 := HL2.out; omega) HH2.out.2.2.size ?_)
  intro v3 w3 hown3 hgr3 _
  obtain ⟨A3, c3, rfl⟩ := own_slice hown3
  have HH3 : Hid (ByAt w w3 A3 (n2 + P.length) c3 (row P)) := HH2.out.app rfl hown3 hgr3
  have HB3 := Lib.hid (HB2.out.past (by decide) HH2.out.2.1 hgr3)
  have y1 : w3.cell? ⟨w.heap.size, 1, none⟩ = some (.slice B N.length d) := HB3.out.cell 1
  have HT3 := Lib.hid (HTB.out w3 HH3.out.2.2)
  clear hown3 hgr3 HH2 HB2 HR2 HO2 HTB
  go_wp2_with fail
  refine HT3.out.mono ?_
  rintro e w4 ⟨A4, n4, c4, rfl, hb4⟩
  have HB4 := Lib.hid (HB3.out.chg hb4.2.2 (by simp))
  have HH4 := Lib.hid (HH3.out.chg hb4.2.2)
  have ht4 := own_txt hb4.2.1
  have hn4 : n4 = R.length := hb4.1
  have hr4 := HRT.out w4 ⟨A4, R, c4⟩ HH4.out.2.2 ⟨ht4.1, by show R.length ≤ c4; rw [← hn4]; exact ht4.2.2⟩ rfl
  dsimp only at hr4
  rw [← hn4] at hr4
  have HR4 := Lib.hid hr4
  clear hb4 ht4 hn4 hr4 HRT HT3 HB3 HH3 y1
  go_wp2_with fail
  refine HR4.out.mono ?_
  rintro e w5 ⟨rfl, g5⟩
  have HB5 := Lib.hid (HB4.out.chg g5 (by simp))
  have HH5 := Lib.hid (HH4.out.chg g5)
  clear g5 HR4 HB4 HH4
  go_upto_region 4 with (refine wpList_store_row rfl 30 _ _ rfl w5.heap.size C rfl rfl 30 _ (HZ30.out w5) HIC.out HSC.out HOC.out ?_)
  have k56 : Chg none w5 ((w5.alloc (.cells #[Value.int IntKind.u8 0, Value.int IntKind.u8 0, Value.int IntKind.u8 0, Value.int IntKind.u8 0, Value.int IntKind.u8 0, Value.int IntKind.u8 0, Value.int IntKind.u8 0, Value.int IntKind.u8 0, Value.int IntKind.u8 0, Value.int IntKind.u8 0, Value.int IntKind.u8 0, Value.int IntKind.u8 0, Value.int IntKind.u8 0, Value.int IntKind.u8 0, Value.int IntKind.u8 0, Value.int IntKind.u8 0, Value.int IntKind.u8 0, Value.int IntKind.u8 0, Value.int IntKind.u8 0, Value.int IntKind.u8 0, Value.int IntKind.u8 0, Value.int IntKind.u8 0, Value.int IntKind.u8 0, Value.int IntKind.u8 0, Value.int IntKind.u8 0, Value.int IntKind.u8 0, Value.int IntKind.u8 0, Value.int IntKind.u8 0, Value.int IntKind.u8 0, Value.int IntKind.u8 0, Value.int IntKind.u8 0, Value.int IntKind.u8 0] 30)).setRow w5.heap.size C) := Chg.own (b := w5.heap.size) ((Chg.refl none w5).alloc _) (chg_setRow _ _ _) (Nat.le_refl _)
  have HX6 : Hid (Blk ((w5.alloc (.cells #[Value.int IntKind.u8 0, Value.int IntKind.u8 0, Value.int IntKind.u8 0, Value.int IntKind.u8 0, Value.int IntKind.u8 0, Value.int IntKind.u8 0, Value.int IntKind.u8 0, Value.int IntKind.u8 0, Value.int IntKind.u8 0, Value.int IntKind.u8 0, Value.int IntKind.u8 0, Value.int IntKind.u8 0, Value.int IntKind.u8 0, Value.int IntKind.u8 0, Value.int IntKind.u8 0, Value.int IntKind.u8 0, Value.int IntKind.u8 0, Value.int IntKind.u8 0, Value.int IntKind.u8 0, Value.int IntKind.u8 0, Value.int IntKind.u8 0, Value.int IntKind.u8 0, Value.int IntKind.u8 0, Value.int IntKind.u8 0, Value.int IntKind.u8 0, Value.int IntKind.u8 0, Value.int IntKind.u8 0, Value.int IntKind.u8 0, Value.int IntKind.u8 0, Value.int IntKind.u8 0, Value.int IntKind.u8 0, Value.int IntKind.u8 0] 30)).setRow w5.heap.size C) w5.heap.size C 30) := setRow_heap _ _ _ _ _ _ (HZ30.out w5)
  have HB6 := Lib.hid (HB5.out.chg k56 (by simp))
  have HH6 := Lib.hid (HH5.out.chg k56)
  clear k56 HB5 HH5 HZ30 HSC HOC HIC
  generalize (w5.alloc (.cells #[Value.int IntKind.u8 0, Value.int IntKind.u8 0, Value.int IntKind.u8 0, Value.int IntKind.u8 0, Value.int IntKind.u8 0, Value.int IntKind.u8 0, Value.int IntKind.u8 0, Value.int IntKind.u8 0, Value.int IntKind.u8 0, Value.int IntKind.u8 0, Value.int IntKind.u8 0, Value.int IntKind.u8 0, Value.int IntKind.u8 0, Value.int IntKind.u8 0, Value.int IntKind.u8 0, Value.int IntKind.u8 0, Value.int IntKind.u8 0, Value.int IntKind.u8 0, Value.int IntKind.u8 0, Value.int IntKind.u8 0, Value.int IntKind.u8 0, Value.int IntKind.u8 0, Value.int IntKind.u8 0, Value.int IntKind.u8 0, Value.int IntKind.u8 0, Value.int IntKind.u8 0, Value.int IntKind.u8 0, Value.int IntKind.u8 0, Value.int IntKind.u8 0, Value.int IntKind.u8 0, Value.int IntKind.u8 0, Value.int IntKind.u8 0] 30)).setRow w5.heap.size C = w6 at *
  generalize w5.heap.size = pX at *
  have HRD : Hid (Reads w6 w6.heap.size 1 (some ⟨pX, 0, none⟩) 32 (byteVals D)) := ⟨by rw [byteVals_len, HDL.out], fun _ => ⟨_, rfl, HX6.out.lt, fun j v hj => by
    rw [Go.WideShapes.add_plain, Nat.zero_add, HX6.out.cell, HC.out]
    simpa using hj⟩⟩
  have HOD := Lib.hid (byteVals_one D)
  have hq2 := fun v => cut30 v pX
  have HN3 : Hid (n2 + P.length ≤ 10009) := by have h1 := HPL.out; have h2 := HL2.out; show _ ≤ _; omega
  obtain ⟨n3, hn3⟩ : ∃ n3, n3 = n2 + P.length := ⟨_, rfl⟩
  rw [← hn3] at HH6 HN3 ⊢
  clear hn3 HL2 HPL hPb
  go_wp2_with (at_builtin; refine wpList_append_any _ rfl (.tmp 22) (.tmp 23) 22 rfl w.heap.size 5 i0 (.int .u8 0) 1 1 Tryd.underlying22 hi0 hz0 hz1 hz2 rfl (by decide) _ n3 (byteVals (row P)) rfl HH6.out.2.1 _ (some ⟨pX, 0, none⟩) 32 32 (byteVals D) rfl HRD.out HOD.out (by have h1 := HN3.out; unfold maxLen; omega) (by have h1 := HN3.out; omega) HH6.out.2.2.size ?_)
  intro v7 w7 hown7 hgr7 _
  obtain ⟨A7, c7, rfl⟩ := own_slice hown7
  have HH7 : Hid (ByAt w w7 A7 (n3 + 32) c7 (row P ++ D)) := HH6.out.app HDL.out.symm hown7 hgr7
  have HB7 := Lib.hid (HB6.out.past (by decide) HH6.out.2.1 hgr7)
  have y2 : w7.cell? ⟨w.heap.size, 2, none⟩ = some (.int .i64 (f : Int)) := HB7.out.cell 2
  have hfb : f ≤ 20000 := HFB.out
  have hwf : IntKind.u64.wrap (f : Int) = (f : Int) := by rw [IntKind.wrap_u64]; omega
  have HF7 := Lib.hid (HFO.out f w7 HH7.out.2.2 (by omega))
  clear hown7 hgr7 HH6 HB6 HRD HOD hq2 HFO HX6
  go_wp2_with fail
  refine HF7.out.mono ?_
  rintro e w8 ⟨A8, n8, c8, rfl, hb8, g8⟩
  have HH8 := Lib.hid (HH7.out.chg g8)
  have hn8 : n8 = (form f).length := hb8.1
  have HR8 : Hid (Reads w8 w8.heap.size 1 A8 n8 (byteVals (form f))) := Reads.of_own hb8.2.1
  have HO8 := Lib.hid (byteVals_one (form f))
  have HL8 : Hid (n8 ≤ 9 ∧ n8 = (form f).length) := ⟨by rw [hn8]; exact form_small _ (by omega), hn8⟩
  clear hb8 g8 hn8 HF7 HH7 HB7 y2 hwf
  go_wp2_with (at_builtin; refine wpList_append_any _ rfl (.tmp 25) (.tmp 29) 22 rfl w.heap.size 5 i0 (.int .u8 0) 1 1 Tryd.underlying22 hi0 hz0 hz1 hz2 rfl (by decide) _ (n3 + 32) (byteVals (row P ++ D)) rfl HH8.out.2.1 _ A8 n8 c8 (byteVals (form f)) rfl HR8.out HO8.out (by have h1 := HN3.out; have h2 := HL8.out.1; unfold maxLen; omega) (by have h1 := HN3.out; have h2 := HL8.out.1; omega) HH8.out.2.2.size ?_)
  intro v9 w9 hown9 hgr9 _
  obtain ⟨A9, c9, rfl⟩ := own_slice hown9
  have HH9 : Hid (ByAt w w9 A9 (n3 + 32 + n8) c9 (actB P D f)) := by
    have h := HH8.out.app HL8.out.2 hown9 hgr9
    show ByAt _ _ _ _ _ _
    unfold actB
    rw [← List.append_assoc]
    exact h
  clear hown9 hgr9 HH8 HR8 HO8
  go_wp2_with fail
  go_ret
  exact ⟨A9, _, c9, rfl, HH9.out⟩

set_option maxRecDepth 100000 in
set_option maxHeartbeats 16000000 in
theorem rkey8_any (a : Actn) (px : Nat) (w : World) (hh : HashAt w px) (ha : ActAt w a) (hm : mayA a = true) :
    Calls Tryd.prog 50 #[.pointer (some ⟨px, 0, none⟩), .agg (actCells a).toArray] w fun e w' => e = .returned (.agg (byteVals (keyA a)).toArray) ∧ Chg none w w' := by
  obtain ⟨i0, hi0, hz0, hz1, hz2⟩ := info_parts Tryd.info5
  have HBN := Lib.hid (fun v (g : Chg none w v) => rbytes8_any a px v (hh.chg g (by simp)) (ha.chg g) hm)
  have hbl := bytesA_len hm
  unfold keyA
  obtain ⟨X, hX⟩ : ∃ X, X = bytesA a := ⟨_, rfl⟩
  rw [← hX] at HBN hbl ⊢
  obtain ⟨D, hD⟩ : ∃ D, D = dig (16 :: X) := ⟨_, rfl⟩
  have hDl : D.length = 32 := by rw [hD, dig_len]
  have HSM : Hid (∀ v (A : Option Addr) (n c : Nat), Chg none w v → n = X.length + 1 → Txt v A (16 :: X) → n ≤ c → Calls Tryd.prog 78 #[.pointer (some ⟨px, 0, none⟩), .slice A n c] v fun e w' => e = .returned (.agg (byteVals D).toArray) ∧ Chg none v w') := fun v A n c g hn ht hc => by
    subst hn
    rw [hD]
    exact hsum_any px ⟨A, 16 :: X, c⟩ v (hh.chg g (by simp)) ⟨ht, hc⟩ (by simp only [List.length_cons]; omega)
  rw [← hD]
  clear hX hD hh ha hm
  obtain ⟨A, L, c, B, N, d, F⟩ := a
  unfold actCells at *
  dsimp only at HBN ⊢
  obtain ⟨W1, hW1⟩ : ∃ W1, W1 = (w.alloc (.cells #[.slice A L.length c, .slice B N.length d, .int .i64 F] 64)).alloc (.cells zero32 30) := ⟨_, rfl⟩
  have HW1 : Hid ((w.alloc (.cells #[.slice A L.length c, .slice B N.length d, .int .i64 F] 64)).alloc (.cells #[Value.int IntKind.u8 0, Value.int IntKind.u8 0, Value.int IntKind.u8 0, Value.int IntKind.u8 0, Value.int IntKind.u8 0, Value.int IntKind.u8 0, Value.int IntKind.u8 0, Value.int IntKind.u8 0, Value.int IntKind.u8 0, Value.int IntKind.u8 0, Value.int IntKind.u8 0, Value.int IntKind.u8 0, Value.int IntKind.u8 0, Value.int IntKind.u8 0, Value.int IntKind.u8 0, Value.int IntKind.u8 0, Value.int IntKind.u8 0, Value.int IntKind.u8 0, Value.int IntKind.u8 0, Value.int IntKind.u8 0, Value.int IntKind.u8 0, Value.int IntKind.u8 0, Value.int IntKind.u8 0, Value.int IntKind.u8 0, Value.int IntKind.u8 0, Value.int IntKind.u8 0, Value.int IntKind.u8 0, Value.int IntKind.u8 0, Value.int IntKind.u8 0, Value.int IntKind.u8 0, Value.int IntKind.u8 0, Value.int IntKind.u8 0] 30) = W1) := hW1.symm
  have g1 : Chg none w W1 := by rw [hW1]; exact ((Chg.refl _ _).alloc _).alloc _
  have bR1 : Blk W1 (w.heap.size + 1) zero32 30 := by
    have h := Blk.new (w.alloc (.cells #[.slice A L.length c, .slice B N.length d, .int .i64 F] 64)) zero32 30
    rw [show (w.alloc (.cells #[.slice A L.length c, .slice B N.length d, .int .i64 F] 64)).heap.size = w.heap.size + 1 by simp] at h
    rw [hW1]; exact h
  have bA1 : Blk W1 w.heap.size #[.slice A L.length c, .slice B N.length d, .int .i64 F] 64 := by rw [hW1]; exact (Blk.new _ _ _).alloc _
  obtain ⟨Z, hZ⟩ : ∃ Z, Z = (byteVals D).toArray := ⟨_, rfl⟩
  have HIZ : Hid ((Tryd.prog.info? 30).map (·.size) = some Z.size) := by rw [hZ]; exact byD_info D hDl
  have HOZ : Hid (Z.all (·.oneCell') = true) := by rw [hZ]; exact byD_one D
  have HSZ : Hid (zero32.size = Z.size) := by rw [hZ, byD_size D hDl]; rfl
  rw [← hZ] at HSM ⊢
  have k2 : Chg none W1 (W1.alloc (.cells #[.int .u8 16] 5)) := (Chg.refl _ _).alloc _
  have bA2 := bA1.chg k2 (by simp)
  have x0 : (W1.alloc (.cells #[.int .u8 16] 5)).cell? ⟨w.heap.size, 0, none⟩ = some (.slice A L.length c) := bA2.cell 0
  have x1 : (W1.alloc (.cells #[.int .u8 16] 5)).cell? ⟨w.heap.size, 1, none⟩ = some (.slice B N.length d) := bA2.cell 1
  have x2 : (W1.alloc (.cells #[.int .u8 16] 5)).cell? ⟨w.heap.size, 2, none⟩ = some (.int .i64 F) := bA2.cell 2
  have HR2 := Lib.hid (bR1.chg k2 (by simp))
  have HY2 : Hid (ByAt w (W1.alloc (.cells #[.int .u8 16] 5)) (some ⟨W1.heap.size, 0, none⟩) 1 1 [16]) := ⟨rfl, own_oneB W1 w.heap.size g1.size 16, g1.trans k2⟩
  have HB2 := Lib.hid (HBN.out _ (g1.trans k2))
  have HGE : Hid (w.heap.size ≤ w.heap.size + 1) := Nat.le_succ _
  have HBL := Lib.hid hbl
  clear hW1 hZ bR1 bA1 bA2 k2 HBN hDl hbl g1
  go_enter Tryd.func50, Tryd.ntmps50
  go_upto_region 1 with fail
  rw [HW1.out]
  clear HW1
  generalize hpR : w.heap.size + 1 = pR at *
  clear hpR
  go_wp2_with fail
  refine HB2.out.mono ?_
  rintro e w3 ⟨A3, n3, c3, rfl, hb3⟩
  have HR3 := Lib.hid (HR2.out.chg hb3.2.2 (by simp))
  have HY3 := Lib.hid (HY2.out.chg hb3.2.2)
  have hn3 : n3 = X.length := hb3.1
  have HRX : Hid (Reads w3 w3.heap.size 1 A3 n3 (byteVals X)) := Reads.of_own hb3.2.1
  have HOX := Lib.hid (byteVals_one X)
  have HN3 : Hid (n3 ≤ 20000 ∧ n3 = X.length) := ⟨by rw [hn3]; exact HBL.out, hn3⟩
  clear hb3 hn3 HB2 HR2 HY2 x0 x1 x2
  go_wp2_with (at_builtin; refine wpList_append_any _ rfl (.tmp 6) (.tmp 9) 22 rfl w.heap.size 5 i0 (.int .u8 0) 1 1 Tryd.underlying22 hi0 hz0 hz1 hz2 rfl (by decide) _ 1 (byteVals [16]) rfl HY3.out.2.1 _ A3 n3 c3 (byteVals X) rfl HRX.out HOX.out (by have h1 := HN3.out.1; unfold maxLen; omega) (by have h1 := HN3.out.1; omega) HY3.out.2.2.size ?_)
  intro v4 w4 hown4 hgr4 _
  obtain ⟨A4, c4, rfl⟩ := own_slice hown4
  have hy4 : ByAt w w4 A4 (1 + n3) c4 ([16] ++ X) := HY3.out.app HN3.out.2 hown4 hgr4
  have HR4 := Lib.hid (HR3.out.past (by decide) HY3.out.2.1 hgr4)
  have ht4 := own_txt hy4.2.1
  have HS4 := Lib.hid (HSM.out w4 A4 (1 + n3) c4 hy4.2.2 (by have := HN3.out.2; omega) ht4.1 ht4.2.2)
  have G4 := Lib.hid hy4.2.2
  clear hown4 hgr4 hy4 ht4 HY3 HR3 HRX HOX HSM
  go_wp2_with fail
  refine HS4.out.mono ?_
  rintro e w5 ⟨rfl, g5⟩
  have G5 := Lib.hid (G4.out.trans g5)
  have HR5 : Hid (w5.heap[pR]? = some (.cells zero32 30 (0, 0))) := HR4.out.chg g5 (by simp)
  clear g5 HS4
  go_wp2_with (refine wpList_store_row rfl 30 _ _ rfl pR Z rfl rfl 30 _ HR5.out HIZ.out HSZ.out HOZ.out ?_)
  refine bodyPost_ret (results_cell_row (p := 4) (ty := 30) Tryd.results50 _ _ pR 30 Z (0, 0) _ rfl (setRow_heap _ _ _ _ _ _ HR5.out) Tryd.underlying30 rfl HIZ.out) rfl ⟨rfl, ?_⟩
  exact Chg.own (b := pR) G5.out (chg_setRow _ _ _) HGE.out

end Go.Proofs.YtglfakglcoffkaaDoor
