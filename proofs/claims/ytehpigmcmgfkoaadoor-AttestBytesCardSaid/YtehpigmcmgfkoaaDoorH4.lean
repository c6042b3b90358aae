/-
  Package hmac: Tag.
-/
import Derived.Test.YtehpigmcmgfkoaaDoorH3
namespace Go.Proofs.YtehpigmcmgfkoaaDoor
open Go.RowKit

set_option maxRecDepth 100000 in
set_option maxHeartbeats 4000000 in
theorem tag_any (A : Option Addr) (s : List UInt8) (c : Nat) (PA : Option Addr) (L : List Prt) (pc : Nat) (w : World) (hA : Txt w A s) (hc : s.length ≤ c) (hs : s.length < 1000000000) (hP : PartsAt w PA L) (hx : (joined L).length < 100000000) (hL : L.length ≤ 1000000) (hT : Tabs w) :
    Calls Tryd.prog 21 #[.slice A s.length c, .slice PA L.length pc] w fun e w' => e = .returned (.agg (byteVals (tagB s (joined L))).toArray) ∧ Chg none w w' := by
  obtain ⟨W1, hW1⟩ : ∃ W1, W1 = w.alloc (.cells zero32 30) := ⟨_, rfl⟩
  have HW1 : Hid (w.alloc (.cells #[Value.int IntKind.u8 0, Value.int IntKind.u8 0, Value.int IntKind.u8 0, Value.int IntKind.u8 0, Value.int IntKind.u8 0, Value.int IntKind.u8 0, Value.int IntKind.u8 0, Value.int IntKind.u8 0, Value.int IntKind.u8 0, Value.int IntKind.u8 0, Value.int IntKind.u8 0, Value.int IntKind.u8 0, Value.int IntKind.u8 0, Value.int IntKind.u8 0, Value.int IntKind.u8 0, Value.int IntKind.u8 0, Value.int IntKind.u8 0, Value.int IntKind.u8 0, Value.int IntKind.u8 0, Value.int IntKind.u8 0, Value.int IntKind.u8 0, Value.int IntKind.u8 0, Value.int IntKind.u8 0, Value.int IntKind.u8 0, Value.int IntKind.u8 0, Value.int IntKind.u8 0, Value.int IntKind.u8 0, Value.int IntKind.u8 0, Value.int IntKind.u8 0, Value.int IntKind.u8 0, Value.int IntKind.u8 0, Value.int IntKind.u8 0] 30) = W1) := hW1.symm
  have g1 : Chg none w W1 := by rw [hW1]; exact (Chg.refl _ _).alloc _
  have bR1 : Blk W1 w.heap.size zero32 30 := by rw [hW1]; exact Blk.new _ _ _
  clear hW1
  have HK := Lib.hid (key_any A s c W1 (hA.chg g1) hc hs (hT.chg g1 (by simp)))
  obtain ⟨hks, hko⟩ := row_facts (keyB s) 64 (keyB_len s)
  have HKI : Hid ((Tryd.prog.info? 67).map (·.size) = some (byteVals (keyB s)).toArray.size) := by rw [hks]; show _ = _; kernel_rfl
  have HIK : Hid ((Tryd.prog.info? 67).map (·.size) = some (byteVals (keyB s)).length) := by rw [byteVals_len, keyB_len]; show _ = _; kernel_rfl
  have HKO := Lib.hid hko
  have HKZ : Hid (zero64.size = (byteVals (keyB s)).toArray.size) := by rw [hks]; rfl
  have HNW := Lib.hid (fun (W : World) => heap_alloc_new W (.cells zero32 30))
  have HNK := Lib.hid (fun (W : World) => heap_alloc_new W (.cells zero64 67))
  clear hks hko
  go_enter Tryd.func21, Tryd.ntmps21
  go_upto_region 1 with (fail)
  have e1 := HW1.out
  rw [e1]
  clear e1
  generalize hpR : w.heap.size = pR at *
  have HPR := Lib.hid hpR
  clear hpR
  go_wp2_with fail
  refine HK.out.mono ?_
  rintro e w2 ⟨rfl, g2⟩
  have g02 := g1.trans g2
  have bR2 := bR1.chg g2 (by simp)
  clear HK bR1
  obtain ⟨W3, hW3⟩ : ∃ W3, W3 = (w2.alloc (.cells zero64 67)).setRow w2.heap.size (byteVals (keyB s)).toArray := ⟨_, rfl⟩
  have HW3 : Hid ((w2.alloc (.cells #[Value.int IntKind.u8 0, Value.int IntKind.u8 0, Value.int IntKind.u8 0, Value.int IntKind.u8 0, Value.int IntKind.u8 0, Value.int IntKind.u8 0, Value.int IntKind.u8 0, Value.int IntKind.u8 0, Value.int IntKind.u8 0, Value.int IntKind.u8 0, Value.int IntKind.u8 0, Value.int IntKind.u8 0, Value.int IntKind.u8 0, Value.int IntKind.u8 0, Value.int IntKind.u8 0, Value.int IntKind.u8 0, Value.int IntKind.u8 0, Value.int IntKind.u8 0, Value.int IntKind.u8 0, Value.int IntKind.u8 0, Value.int IntKind.u8 0, Value.int IntKind.u8 0, Value.int IntKind.u8 0, Value.int IntKind.u8 0, Value.int IntKind.u8 0, Value.int IntKind.u8 0, Value.int IntKind.u8 0, Value.int IntKind.u8 0, Value.int IntKind.u8 0, Value.int IntKind.u8 0, Value.int IntKind.u8 0, Value.int IntKind.u8 0, Value.int IntKind.u8 0, Value.int IntKind.u8 0, Value.int IntKind.u8 0, Value.int IntKind.u8 0, Value.int IntKind.u8 0, Value.int IntKind.u8 0, Value.int IntKind.u8 0, Value.int IntKind.u8 0, Value.int IntKind.u8 0, Value.int IntKind.u8 0, Value.int IntKind.u8 0, Value.int IntKind.u8 0, Value.int IntKind.u8 0, Value.int IntKind.u8 0, Value.int IntKind.u8 0, Value.int IntKind.u8 0, Value.int IntKind.u8 0, Value.int IntKind.u8 0, Value.int IntKind.u8 0, Value.int IntKind.u8 0, Value.int IntKind.u8 0, Value.int IntKind.u8 0, Value.int IntKind.u8 0, Value.int IntKind.u8 0, Value.int IntKind.u8 0, Value.int IntKind.u8 0, Value.int IntKind.u8 0, Value.int IntKind.u8 0, Value.int IntKind.u8 0, Value.int IntKind.u8 0, Value.int IntKind.u8 0, Value.int IntKind.u8 0] 67)).setRow w2.heap.size (byteVals (keyB s)).toArray = W3) := hW3.symm
  have g3 : Chg none w2 W3 := by rw [hW3]; exact Chg.own (b := w2.heap.size) ((Chg.refl none w2).alloc _) (chg_setRow _ _ _) (Nat.le_refl _)
  have bK3 : Blk W3 w2.heap.size (byteVals (keyB s)).toArray 67 := by rw [hW3]; exact setRow_heap _ _ _ _ _ _ (heap_alloc_new _ _)
  clear hW3
  go_upto_region 2 with (refine wpList_store_row rfl 67 _ _ rfl w2.heap.size (byteVals (keyB s)).toArray rfl rfl 67 _ (HNK.out w2) HKI.out HKZ.out HKO.out ?_)
  have e1 := HW3.out
  rw [e1]
  clear e1
  have hKR : pR ≠ w2.heap.size := by have := bR2.lt; omega
  have bR3 := bR2.chg g3 (by simp)
  have g03 := g02.trans g3
  generalize w2.heap.size = pK at *
  have HTU := Lib.hid (turned_any (keyB s) 54 (keyB_len s) W3)
  clear bR2 g02 g3
  go_wp2_with (refine wpList_load_row rfl 67 _ rfl pK rfl 67 _ (0, 0) _ bK3 Tryd.underlying67 rfl HKI.out ?_)
  refine HTU.out.mono ?_
  rintro e w4 ⟨rfl, g4⟩
  have g04 := g03.trans g4
  have HHD := Lib.hid (hdig_any (turnB (keyB s) 54) (by rw [turnB_len, keyB_len]) PA L pc w4 (hP.chg g04) hx hL (hT.chg g04 (by simp)))
  have bR4 := bR3.chg g4 (by simp)
  have bK4 := bK3.chg g4 (by simp)
  clear HTU bR3 bK3 g03 g4
  go_wp2_with fail
  refine HHD.out.mono ?_
  rintro e w5 ⟨rfl, g5⟩
  obtain ⟨I, hI⟩ : ∃ I, I = dig (turnB (keyB s) 54 ++ joined L) := ⟨_, rfl⟩
  have hIl : I.length = 32 := by rw [hI, dig_len]
  rw [← hI]
  have HIN := Lib.hid hI
  have g05 := g04.trans g5
  have bR5 := bR4.chg g5 (by simp)
  have bK5 := bK4.chg g5 (by simp)
  clear HHD bR4 bK4 g04 g5 hI
  obtain ⟨his, hio⟩ := row_facts I 32 hIl
  have HII : Hid ((Tryd.prog.info? 30).map (·.size) = some (byteVals I).toArray.size) := by rw [his]; show _ = _; kernel_rfl
  have HIZ : Hid (zero32.size = (byteVals I).toArray.size) := by rw [his]; rfl
  have HIO := Lib.hid hio
  clear his hio
  obtain ⟨W6, hW6⟩ : ∃ W6, W6 = (w5.alloc (.cells zero32 30)).setRow w5.heap.size (byteVals I).toArray := ⟨_, rfl⟩
  have HW6 : Hid ((w5.alloc (.cells #[Value.int IntKind.u8 0, Value.int IntKind.u8 0, Value.int IntKind.u8 0, Value.int IntKind.u8 0, Value.int IntKind.u8 0, Value.int IntKind.u8 0, Value.int IntKind.u8 0, Value.int IntKind.u8 0, Value.int IntKind.u8 0, Value.int IntKind.u8 0, Value.int IntKind.u8 0, Value.int IntKind.u8 0, Value.int IntKind.u8 0, Value.int IntKind.u8 0, Value.int IntKind.u8 0, Value.int IntKind.u8 0, Value.int IntKind.u8 0, Value.int IntKind.u8 0, Value.int IntKind.u8 0, Value.int IntKind.u8 0, Value.int IntKind.u8 0, Value.int IntKind.u8 0, Value.int IntKind.u8 0, Value.int IntKind.u8 0, Value.int IntKind.u8 0, Value.int IntKind.u8 0, Value.int IntKind.u8 0, Value.int IntKind.u8 0, Value.int IntKind.u8 0, Value.int IntKind.u8 0, Value.int IntKind.u8 0, Value.int IntKind.u8 0] 30)).setRow w5.heap.size (byteVals I).toArray = W6) := hW6.symm
  obtain ⟨g6, bI6⟩ := new_row w5 (byteVals I).toArray
  rw [← hW6] at g6 bI6
  clear hW6
  go_upto_region 3 with (refine wpList_store_row rfl 30 _ _ rfl w5.heap.size (byteVals I).toArray rfl rfl 30 _ (HNW.out w5) HII.out HIZ.out HIO.out ?_)
  have e1 := HW6.out
  rw [e1]
  clear e1
  have bR0 := (bR5.chg g6 (by simp)).drew
  have hS0 : W6.drew.rangeAt pK 0 (byteVals (keyB s)) := Blk.range (show BlkL W6.drew pK (byteVals (keyB s)) 67 from (bK5.chg g6 (by simp)).drew)
  have gw : Chg none w W6.drew := (g05.trans g6).drew
  have bI0 := bI6.drew
  have hT6 := hT.chg gw (by simp)
  obtain ⟨DG, hDG⟩ : ∃ DG, DG = (byteVals (tagB s (joined L))).toArray := ⟨_, rfl⟩
  obtain ⟨hds, hdo⟩ := row_facts (tagB s (joined L)) 32 (tagB_len _ _)
  rw [← hDG] at hds hdo
  have HI : Hid ((Tryd.prog.info? 30).map (·.size) = some DG.size) := by rw [hds]; show _ = _; kernel_rfl
  have HZ : Hid (zero32.size = DG.size) := by rw [hds]; rfl
  have HO := Lib.hid hdo
  have HDG := Lib.hid hDG
  generalize w5.heap.size = pI at *
  have HD2 : Hid (∀ (v : World) (Q : Nat), Chg none W6.drew v → Blk v Q #[.slice (some ⟨pI, 0, none⟩) 32 32] 22 → Calls Tryd.prog 42 #[.agg (byteVals (turnB (keyB s) 92)).toArray, .slice (some ⟨Q, 0, none⟩) 1 1] v fun e w' => e = .returned (.agg DG) ∧ Chg none v w') := fun v Q g hQ => by
    have hok : (⟨some ⟨pI, 0, none⟩, I, 32⟩ : Prt).ok v := ⟨fun _ => ⟨pI, 0, rfl, Nat.lt_of_lt_of_le bI0.lt g.size, fun j x hj => by
      rw [Nat.zero_add, BlkL.cell (show BlkL v pI (byteVals I) 30 from bI0.chg g (by simp))]; exact byteVals_get hj⟩, by show I.length ≤ 32; omega⟩
    have hQ' : Blk v Q #[(⟨some ⟨pI, 0, none⟩, I, 32⟩ : Prt).val] 22 := by
      show Blk v Q #[.slice (some ⟨pI, 0, none⟩) I.length 32] 22
      rw [hIl]; exact hQ
    have hj : joined [(⟨some ⟨pI, 0, none⟩, I, 32⟩ : Prt)] = I := List.append_nil I
    have := hdig_any (turnB (keyB s) 92) (by rw [turnB_len, keyB_len]) (some ⟨Q, 0, none⟩) [⟨some ⟨pI, 0, none⟩, I, 32⟩] 1 v (parts_one hQ' hok) (by rw [hj]; omega) (by simp) (hT6.chg g (by simp))
    rw [hj] at this
    exact this.mono fun e w' ⟨he, h⟩ => ⟨by rw [he, hDG, HIN.out]; rfl, h⟩
  have E0 : Chg none W6.drew W6.drew := Chg.refl _ _
  clear hds hdo hDG bR5 bK5 g6 bI6 g05 hT6 bI0
  refine wp_region_held_drew (S := fun w' => w'.rangeAt pK 0 (byteVals (keyB s))) (by kernel_rfl) hS0 (fun _ => ?_)
  generalize W6.drew = v0 at *
  refine wpAnyH_take (i := 0) (oi := ⟨some 13, _, _, _, _, _⟩) (v := .agg (byteVals (keyB s)).toArray) rfl (by kernel_rfl) (by kernel_rfl) (by kernel_rfl) (fun _ _ _ h => h) (yieldsIf_load_mid (by rfl) 67 _ rfl pK 0 rfl (byteVals (keyB s)) _ (fun _ h => h) Tryd.underlying67 rfl HIK.out) (by assumption) ?_
  try simp only [Act.put, List.setIfInBounds_toArray, List.set_cons_zero, List.set_cons_succ]
  refine wpAnyH_take (i := 2) (oi := ⟨some 15, _, _, _, _, _⟩) (v := ?_) rfl (by kernel_rfl) (by kernel_rfl) (by kernel_rfl) (fun _ _ _ h => h) (Or.inl ⟨by rfl, ?_⟩) (by assumption) ?_
  rotate_left
  · intro w hSw; (try dsimp only at hSw); go_simp; (try with_reducible rfl)
  try simp only [Act.put, List.setIfInBounds_toArray, List.set_cons_zero, List.set_cons_succ]
  refine wpAnyH_ready (rs := [1, 3]) (by kernel_rfl) (by simp) ?_
  refine AllReadyH.cons (o := ⟨some 14, _, _, _, _, _⟩) rfl (fun K hK => ?_) (AllReadyH.cons (o := ⟨some 16, _, _, _, _, _⟩) rfl (fun K hK => ?_) (AllReadyH.nil))
  · as_aux_lemma =>
      go_simp
      go_at_call 43
      refine (turned_any (keyB s) 92 (keyB_len s) _).mono ?_
      rintro e v1 ⟨rfl, g1⟩
      have E1 := E0.trans g1
      have hS1 := range_chg hS0 g1
      go_wp2_with fail
      refine hK.out _ _ hS1 (fun _ => ?_)
      clear hK K
      try simp only [Act.put, List.setIfInBounds_toArray, List.set_cons_zero, List.set_cons_succ]
      refine wpAnyH_ready (rs := [3]) (by kernel_rfl) (by simp) ?_
      refine AllReadyH.cons (o := ⟨some 16, _, _, _, _, _⟩) rfl (fun K hK => ?_) (AllReadyH.nil)
      have hSA2 : (World.alloc v1 (Obj.cells #[Value.slice (some ⟨pI, 0, none⟩) 32 32] 22)).rangeAt pK 0 (byteVals (keyB s)) := range_chg hS1 ((Chg.refl _ _).alloc _)
      go_simp
      refine hK.out _ _ hSA2 (fun _ => ?_)
      clear hK K
      try simp only [Act.put, List.setIfInBounds_toArray, List.set_cons_zero, List.set_cons_succ]
      generalize hx2 : World.alloc v1 (Obj.cells #[Value.slice (some ⟨pI, 0, none⟩) 32 32] 22) = v2
      have N2 : Blk v2 v1.heap.size #[Value.slice (some ⟨pI, 0, none⟩) 32 32] 22 := by rw [← hx2]; exact Blk.new _ _ _
      have g2 : Chg none v1 v2 := by rw [← hx2]; exact (Chg.refl _ _).alloc _
      have E2 := E1.trans g2
      have hS2 := range_chg hS1 g2
      clear hx2
      generalize v1.heap.size = Q2 at *
      refine wpAnyH_ready (rs := [4]) (by kernel_rfl) (by simp) ?_
      refine AllReadyH.cons (o := ⟨some 17, _, _, _, _, _⟩) rfl (fun K hK => ?_) (AllReadyH.nil)
      go_simp
      go_at_call 42
      refine (HD2.out _ Q2 E2 N2).mono ?_
      rintro e v3 ⟨rfl, g3⟩
      have E3 := E2.trans g3
      have hS3 := range_chg hS2 g3
      go_wp2_with fail
      refine hK.out _ _ hS3 (fun _ => ?_)
      clear hK K
      try simp only [Act.put, List.setIfInBounds_toArray, List.set_cons_zero, List.set_cons_succ]
      refine wpAnyH_ready (rs := [5]) (by kernel_rfl) (by simp) ?_
      refine AllReadyH.cons (o := ⟨none, _, _, _, _, _⟩) rfl (fun K hK => ?_) (AllReadyH.nil)
      rw [if_pos (by rfl)]
      have bR4 := Blk.chg bR0 E3 (by simp)
      have hSZ : (World.setRow v3 pR DG).rangeAt pK 0 (byteVals (keyB s)) := fun j x hx => (World.cell?_of_block (setRow_other v3 pR pK _ hKR.symm)).trans (hS3 j x hx)
      refine wp_store_row 30 (.tmp 4) (.tmp 17) (by rfl) pR DG (by rfl) (by rfl) 30 zero32 bR4 HI.out HZ.out HO.out ?_
      refine hK.out _ _ hSZ (fun _ => ?_)
      clear hK K
      refine wpAnyH_done (by kernel_rfl) ?_ _
      try simp only [Act.put]
      go_wp2_with fail
      refine bodyPost_ret (results_cell_row (p := 4) (ty := 30) Tryd.results21 _ _ pR 30 DG (0, 0) _ rfl (setRow_heap _ _ _ _ _ _ bR4) Tryd.underlying30 rfl HI.out) rfl ⟨by rw [HDG.out], ?_⟩
      exact Chg.own (b := pR) (gw.trans E3) (chg_setRow _ _ _) (by rw [HPR.out]; exact Nat.le_refl _)
  · as_aux_lemma =>
      have hSA5 : (World.alloc v0 (Obj.cells #[Value.slice (some ⟨pI, 0, none⟩) 32 32] 22)).rangeAt pK 0 (byteVals (keyB s)) := range_chg hS0 ((Chg.refl _ _).alloc _)
      go_simp
      refine hK.out _ _ hSA5 (fun _ => ?_)
      clear hK K
      try simp only [Act.put, List.setIfInBounds_toArray, List.set_cons_zero, List.set_cons_succ]
      generalize hx5 : World.alloc v0 (Obj.cells #[Value.slice (some ⟨pI, 0, none⟩) 32 32] 22) = v5
      have N5 : Blk v5 v0.heap.size #[Value.slice (some ⟨pI, 0, none⟩) 32 32] 22 := by rw [← hx5]; exact Blk.new _ _ _
      have g5 : Chg none v0 v5 := by rw [← hx5]; exact (Chg.refl _ _).alloc _
      have E5 := E0.trans g5
      have hS5 := range_chg hS0 g5
      clear hx5
      generalize v0.heap.size = Q5 at *
      refine wpAnyH_ready (rs := [1]) (by kernel_rfl) (by simp) ?_
      refine AllReadyH.cons (o := ⟨some 14, _, _, _, _, _⟩) rfl (fun K hK => ?_) (AllReadyH.nil)
      go_simp
      go_at_call 43
      refine (turned_any (keyB s) 92 (keyB_len s) _).mono ?_
      rintro e v6 ⟨rfl, g6⟩
      have E6 := E5.trans g6
      have hS6 := range_chg hS5 g6
      have NQ6 := Blk.chg N5 g6 (by simp)
      go_wp2_with fail
      refine hK.out _ _ hS6 (fun _ => ?_)
      clear hK K
      try simp only [Act.put, List.setIfInBounds_toArray, List.set_cons_zero, List.set_cons_succ]
      refine wpAnyH_ready (rs := [4]) (by kernel_rfl) (by simp) ?_
      refine AllReadyH.cons (o := ⟨some 17, _, _, _, _, _⟩) rfl (fun K hK => ?_) (AllReadyH.nil)
      go_simp
      go_at_call 42
      refine (HD2.out _ Q5 E6 NQ6).mono ?_
      rintro e v7 ⟨rfl, g7⟩
      have E7 := E6.trans g7
      have hS7 := range_chg hS6 g7
      go_wp2_with fail
      refine hK.out _ _ hS7 (fun _ => ?_)
      clear hK K
      try simp only [Act.put, List.setIfInBounds_toArray, List.set_cons_zero, List.set_cons_succ]
      refine wpAnyH_ready (rs := [5]) (by kernel_rfl) (by simp) ?_
      refine AllReadyH.cons (o := ⟨none, _, _, _, _, _⟩) rfl (fun K hK => ?_) (AllReadyH.nil)
      rw [if_pos (by rfl)]
      have bR8 := Blk.chg bR0 E7 (by simp)
      have hSZ : (World.setRow v7 pR DG).rangeAt pK 0 (byteVals (keyB s)) := fun j x hx => (World.cell?_of_block (setRow_other v7 pR pK _ hKR.symm)).trans (hS7 j x hx)
      refine wp_store_row 30 (.tmp 4) (.tmp 17) (by rfl) pR DG (by rfl) (by rfl) 30 zero32 bR8 HI.out HZ.out HO.out ?_
      refine hK.out _ _ hSZ (fun _ => ?_)
      clear hK K
      refine wpAnyH_done (by kernel_rfl) ?_ _
      try simp only [Act.put]
      go_wp2_with fail
      refine bodyPost_ret (results_cell_row (p := 4) (ty := 30) Tryd.results21 _ _ pR 30 DG (0, 0) _ rfl (setRow_heap _ _ _ _ _ _ bR8) Tryd.underlying30 rfl HI.out) rfl ⟨by rw [HDG.out], ?_⟩
      exact Chg.own (b := pR) (gw.trans E7) (chg_setRow _ _ _) (by rw [HPR.out]; exact Nat.le_refl _)

end Go.Proofs.YtehpigmcmgfkoaaDoor
