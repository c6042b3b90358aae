/-
  Package attest: what is read of noughts; known of the laws of layer 9.
-/
import Derived.Test.YtehpigmcmgfkoaaDoorA4
namespace Go.Proofs.YtehpigmcmgfkoaaDoor
open Go.RowKit

set_option maxRecDepth 100000 in
set_option maxHeartbeats 4000000 in
theorem read_zero (b : Nat) (w : World) (hb : BlkL w b (byteVals (zeros 104)) 5) :
    Calls Tryd.prog 32 #[.slice (some ⟨b, 0, none⟩) 104 104] w fun e w' => e = .returned (.tuple #[.agg (attCells zeroAtt).toArray, .int .i64 5]) ∧ Chg none w w' := by
  obtain ⟨W1, hW1⟩ : ∃ W1, W1 = w.alloc (.cells Tryd.zeroCells46 46) := ⟨_, rfl⟩
  have HW1 : Hid (w.alloc (.cells Tryd.zeroCells46 46) = W1) := hW1.symm
  have g0 : Chg none w W1 := by rw [hW1]; exact (Chg.refl _ _).alloc _
  obtain ⟨CZ, hCZ⟩ : ∃ CZ, CZ = (attCells zeroAtt).toArray := ⟨_, rfl⟩
  have bS : Blk W1 w.heap.size CZ 46 := by rw [hW1, zero46, hCZ]; exact Blk.new _ _ _
  have HBZ : Hid (Tryd.prog.built 46 [] = some CZ) := by rw [hCZ]; exact built46_0
  have HOZ : Hid (CZ.all (·.oneCell') = true) := by rw [hCZ]; exact attCells_one zeroAtt
  have HIZ : Hid ((Tryd.prog.info? 46).map (·.size) = some CZ.size) := by rw [hCZ]; exact info46a zeroAtt
  rw [← hCZ]
  have HBS : Hid (∀ v, Chg none W1 v → v.heap[w.heap.size]? = some (.cells CZ 46 (0, 0))) := fun v g => Blk.chg bS g (by simp)
  have HC : Hid (∀ v, Chg none W1 v → ∀ j, j < 8 → v.cell? ⟨b, 64 + j, none⟩ = some (.int .u8 0)) := fun v g j hj => by
    have h1 := Blk.chg (Blk.chg hb g0 (by simp)) g (by simp)
    have h2 := (BlkL.cell h1 (64 + j)).trans (byte_at (a := zeros 104) (by simp [zeros]; omega))
    rw [h2]
    have h3 : (zeros 104).getD (64 + j) 0 = 0 := by
      unfold zeros
      rw [List.getD_eq_getElem?_getD, List.getElem?_replicate]
      split <;> rfl
    rw [h3]; rfl
  have hcut : ∀ v : World, (Instr.sliceAt 22 (.slice (some ⟨b, 0, none⟩) 104 104) (some (.int .i64 64)) (some (.int .i64 72)) (some (.int .i64 72))).run Tryd.prog v = .ok (.slice (some ⟨b, 64, none⟩) 8 8) v := fun v => by
    have u22 := Tryd.underlying22
    have z5 := Tryd.sizeOf5
    go_simp
  have hbo : bits .or .u64 0 0 = 0 := by decide
  clear hW1 hCZ bS hb
  go_enter Tryd.func32, Tryd.ntmps32
  go_upto_region 1 with fail
  rw [HW1.out]
  clear HW1
  generalize hpS : w.heap.size = pS at *
  have HPS := Lib.hid hpS
  clear hpS
  go_wp2_with fail
  go_loopw [4, 14] (fun s4 s14 wr => ∃ j : Nat, j ≤ 8 ∧ s14 = .int .i64 j ∧ s4 = .int .u64 0 ∧ Chg none W1 wr) (fun _ s14 _ => 8 - (intOf s14).toNat)
  case atStart => exact ⟨0, by omega, rfl, rfl, Chg.refl _ _⟩
  case round =>
    obtain ⟨j, hj, rfl, rfl, gk⟩ := hrel
    by_cases hlt : j < 8
    · have hc := HC.out wr gk j hlt
      go_wp2_with fail
      go_roundw
      case rel => exact ⟨j + 1, by omega, by go_num, by congr 1, gk⟩
      case measure => first | (simp [intOf]; done) | (simp [intOf]; omega)
    · have hj8 : j = 8 := by omega
      have dd : decide ((j : Int) < 8) = false := by simp; omega
      have HRS := Lib.hid (HBS.out wr gk)
      have g02 := g0.trans gk
      clear hj8 HBS HC
      go_wp2_with (first
        | (refine wpList_buildTo rfl 46 _ rfl (some 30) rfl CZ (by simp only [List.map_toArray, List.map_nil]; exact HBZ.out) ?_)
        | (refine wpList_store_row rfl 46 _ _ rfl pS CZ rfl rfl 46 _ HRS.out HIZ.out rfl HOZ.out ?_))
      refine bodyPost_ret (results_cell_tmp (p := 2) (q := 3) (ty := 46) Tryd.results32 _ _ pS 46 CZ (0, 0) _ rfl (setRow_heap _ _ _ _ _ _ HRS.out) Tryd.underlying46 rfl HIZ.out) rfl ⟨rfl, ?_⟩
      exact Chg.own (b := pS) g02 (chg_setRow _ _ _) (by rw [HPS.out]; exact Nat.le_refl _)

def dgOne (x : UInt8) : Dg := ⟨x :: zeros 31, by simp [zeros]⟩
theorem built30_1 : Tryd.prog.built 30 [(0, .int .u8 1)] = some (byteVals (dgOne 1).1).toArray := by kernel_rfl
theorem built30_2 : Tryd.prog.built 30 [(0, .int .u8 2)] = some (byteVals (dgOne 2).1).toArray := by kernel_rfl
theorem new_att (w : World) (a : Att) : Chg none w ((w.alloc (.cells Tryd.zeroCells46 46)).setRow w.heap.size (attCells a).toArray) ∧ BlkL ((w.alloc (.cells Tryd.zeroCells46 46)).setRow w.heap.size (attCells a).toArray) w.heap.size (attCells a) 46 :=
  ⟨Chg.own (b := w.heap.size) ((Chg.refl none w).alloc _) (chg_setRow _ _ _) (Nat.le_refl _), setRow_heap _ _ _ _ _ _ (heap_alloc_new w _)⟩

set_option maxRecDepth 100000 in
set_option maxHeartbeats 16000000 in
theorem known9_any (w : World) (hT : Tabs w) : Calls Tryd.prog 24 #[] w fun e w' => e = .returned (.bool true) ∧ Chg none w w' := by
  obtain ⟨D1, hD1⟩ : ∃ D1, D1 = (byteVals (dgOne 1).1).toArray := ⟨_, rfl⟩
  obtain ⟨D2, hD2⟩ : ∃ D2, D2 = (byteVals (dgOne 2).1).toArray := ⟨_, rfl⟩
  have HB1 : Hid (Tryd.prog.built 30 [(0, .int .u8 1)] = some D1) := by rw [hD1]; exact built30_1
  have HB2 : Hid (Tryd.prog.built 30 [(0, .int .u8 2)] = some D2) := by rw [hD2]; exact built30_2
  obtain ⟨a, ha⟩ : ∃ a : Att, a = ⟨dgOne 1, dgOne 2, ((3 : Nat) : Int), tagDg [115] (dgOne 1) (dgOne 2) 3⟩ := ⟨_, rfl⟩
  obtain ⟨CA, hCA⟩ : ∃ CA, CA = (attCells a).toArray := ⟨_, rfl⟩
  obtain ⟨CZ, hCZ⟩ : ∃ CZ, CZ = (attCells zeroAtt).toArray := ⟨_, rfl⟩
  have hok : ∀ v : World, (⟨some ⟨v.heap.size, 0, none⟩, [115], 1⟩ : Prt).ok (v.alloc (.cells #[.int .u8 115] 5 (1, 2))) := fun v => ⟨fun _ => ⟨v.heap.size, 0, rfl, by simp, fun j c hj => by
    match j, hj with
    | 0, hj =>
      simp only [List.getElem?_cons_zero, Option.some.injEq] at hj
      subst hj
      unfold World.cell?
      rw [heap_alloc_new v (.cells #[.int .u8 115] 5 (1, 2))]
      rfl⟩, Nat.le_refl _⟩
  have gOk : ∀ v : World, Chg none v (v.alloc (.cells #[.int .u8 115] 5 (1, 2))) := fun v => (Chg.refl _ _).alloc _
  have HMY : Hid (∀ v, Chg none w v → Calls Tryd.prog 25 #[.slice (some ⟨v.heap.size, 0, none⟩) 1 1, .agg D1, .agg D2, .int .i64 3] (v.alloc (.cells #[.int .u8 115] 5 (1, 2))) fun e w' => e = .returned (.tuple #[.agg CA, .int .i64 0]) ∧ Chg none v w') := fun v g => by
    have := make_yes (dgOne 1) (dgOne 2) 3 ⟨some ⟨v.heap.size, 0, none⟩, [115], 1⟩ _ (by decide) (by decide) (hok v) (by show (1 : Nat) ≤ 900000; decide) (hT.chg (g.trans (gOk v)) (by simp))
    rw [hD1, hD2, hCA, ha]
    exact this.mono fun e w' ⟨h1, h2⟩ => ⟨h1, (gOk v).trans h2⟩
  have HMN : Hid (∀ v : World, Calls Tryd.prog 25 #[.slice (some ⟨v.heap.size, 0, none⟩) 1 1, .agg D1, .agg D2, .int .i64 0] (v.alloc (.cells #[.int .u8 115] 5 (1, 2))) fun e w' => e = .returned (.tuple #[.agg CZ, .int .i64 2]) ∧ Chg none v w') := fun v => by
    have := make_no (dgOne 1) (dgOne 2) 0 (some ⟨v.heap.size, 0, none⟩) 1 1 (v.alloc (.cells #[.int .u8 115] 5 (1, 2))) rfl
    rw [hD1, hD2, hCZ]
    exact this.mono fun e w' ⟨h1, h2⟩ => ⟨h1, (gOk v).trans h2⟩
  have HRT : Hid (∀ v, Chg none w v → Calls Tryd.prog 27 #[.slice (some ⟨v.heap.size, 0, none⟩) 1 1, .agg CA] (v.alloc (.cells #[.int .u8 115] 5 (1, 2))) fun e w' => e = .returned (.bool true) ∧ Chg none v w') := fun v g => by
    have := right_any a ⟨some ⟨v.heap.size, 0, none⟩, [115], 1⟩ _ (hok v) (by show (1 : Nat) ≤ 900000; decide) (hT.chg (g.trans (gOk v)) (by simp))
    have hr : rightB [115] a = true := by
      rw [ha]
      unfold rightB
      simp only [Int.toNat_natCast, beq_self_eq_true, Bool.and_true]
      rfl
    dsimp only at this
    rw [hr] at this
    rw [hCA]
    exact this.mono fun e w' ⟨h1, h2⟩ => ⟨h1, (gOk v).trans h2⟩
  obtain ⟨ZZ, hZZ⟩ : ∃ ZZ, ZZ = (byteVals (zeros 104)).toArray := ⟨_, rfl⟩
  have hmk : ∀ W : World, (Instr.makeSlice 22 (.int .i64 104) (.int .i64 104)).run Tryd.prog W = .ok (.slice (some ⟨W.heap.size, 0, none⟩) 104 104) (W.alloc (.cells ZZ 5)) := fun W => by rw [hZZ]; exact make_n 104 (by decide) W
  have HRD : Hid (∀ v : World, Calls Tryd.prog 32 #[.slice (some ⟨v.heap.size, 0, none⟩) 104 104] (v.alloc (.cells ZZ 5)) fun e w' => e = .returned (.tuple #[.agg CZ, .int .i64 5]) ∧ Chg none v w') := fun v => by
    have := read_zero v.heap.size (v.alloc (.cells ZZ 5)) (by rw [hZZ]; exact Blk.new _ _ _)
    rw [hCZ]
    exact this.mono fun e w' ⟨h1, h2⟩ => ⟨h1, ((Chg.refl none v).alloc _).trans h2⟩
  have HIA : Hid ((Tryd.prog.info? 46).map (·.size) = some CA.size) := by rw [hCA]; exact info46a a
  have HIAl := Lib.hid (info46 a)
  have HIZ : Hid ((Tryd.prog.info? 46).map (·.size) = some CZ.size) := by rw [hCZ]; exact info46a zeroAtt
  have HOA : Hid (CA.all (·.oneCell') = true) := by rw [hCA]; exact attCells_one a
  have HOZ : Hid (CZ.all (·.oneCell') = true) := by rw [hCZ]; exact attCells_one zeroAtt
  have HZA : Hid (Tryd.zeroCells46.size = CA.size) := by rw [hCA, zero46, List.size_toArray, List.size_toArray, attCells_len, attCells_len]; rfl
  have HZZ : Hid (Tryd.zeroCells46.size = CZ.size) := by rw [hCZ, zero46]; rfl
  have HNW : Hid (∀ v : World, (v.alloc (.cells Tryd.zeroCells46 46)).heap[v.heap.size]? = some (.cells Tryd.zeroCells46 46 (0, 0))) := fun v => heap_alloc_new v _
  have HNA : Hid (∀ v : World, Chg none v ((v.alloc (.cells Tryd.zeroCells46 46)).setRow v.heap.size CA) ∧ BlkL ((v.alloc (.cells Tryd.zeroCells46 46)).setRow v.heap.size CA) v.heap.size (attCells a) 46) := fun v => by rw [hCA]; exact new_att v a
  have HNZ : Hid (∀ v : World, Chg none v ((v.alloc (.cells Tryd.zeroCells46 46)).setRow v.heap.size CZ)) := fun v => by rw [hCZ]; exact (new_att v zeroAtt).1
  have HCA := Lib.hid hCA
  have HM0 := Lib.hid (HMY.out w (Chg.refl _ _))
  clear hD1 hD2 ha hCA hCZ hok gOk hZZ hT
  have kc := fun (w : World) (C : Array Value) (n c : Nat) => Lib.run_convert_bytes_const (P := Tryd.prog) w 22 5 C n c Tryd.underlying22 Tryd.underlying5
  go_enter Tryd.func24, Tryd.ntmps24
  go_wp2_with (first
    | (refine wpList_buildTo rfl 30 _ rfl (some 10) rfl D1 (by simp only [List.map_toArray, List.map_cons, List.map_nil]; exact HB1.out) ?_)
    | (refine wpList_buildTo rfl 30 _ rfl (some 11) rfl D2 (by simp only [List.map_toArray, List.map_cons, List.map_nil]; exact HB2.out) ?_))
  refine HM0.out.mono ?_
  rintro e w1 ⟨rfl, g1⟩
  obtain ⟨gn1, bn1⟩ := HNA.out w1
  obtain ⟨W2, hW2⟩ : ∃ W2, W2 = (w1.alloc (.cells Tryd.zeroCells46 46)).setRow w1.heap.size CA := ⟨_, rfl⟩
  have HW2 : Hid ((w1.alloc (.cells Tryd.zeroCells46 46)).setRow w1.heap.size CA = W2) := hW2.symm
  rw [← hW2] at gn1 bn1
  have g2 := g1.trans gn1
  have HNW1 := Lib.hid (HNW.out w1)
  clear hW2 HM0 gn1 g1
  go_upto_region 2 with (refine wpList_store_row rfl 46 _ _ rfl w1.heap.size CA rfl rfl 46 _ HNW1.out HIA.out HZA.out HOA.out ?_)
  rw [HW2.out]
  clear HW2 HNW1
  generalize w1.heap.size = pA at *
  have HM2 := Lib.hid (HMN.out W2)
  go_wp2_with (first
    | (refine wpList_buildTo rfl 30 _ rfl (some 18) rfl D1 (by simp only [List.map_toArray, List.map_cons, List.map_nil]; exact HB1.out) ?_)
    | (refine wpList_buildTo rfl 30 _ rfl (some 19) rfl D2 (by simp only [List.map_toArray, List.map_cons, List.map_nil]; exact HB2.out) ?_))
  refine HM2.out.mono ?_
  rintro e w3 ⟨rfl, g3⟩
  have gn3 := HNZ.out w3
  obtain ⟨W4, hW4⟩ : ∃ W4, W4 = (w3.alloc (.cells Tryd.zeroCells46 46)).setRow w3.heap.size CZ := ⟨_, rfl⟩
  have HW4 : Hid ((w3.alloc (.cells Tryd.zeroCells46 46)).setRow w3.heap.size CZ = W4) := hW4.symm
  rw [← hW4] at gn3
  have bA4 := Blk.chg (Blk.chg bn1 g3 (by simp)) gn3 (by simp)
  have g4 := (g2.trans g3).trans gn3
  have HNW3 := Lib.hid (HNW.out w3)
  clear hW4 HM2 gn3 g3 g2 bn1
  go_upto_region 3 with (refine wpList_store_row rfl 46 _ _ rfl w3.heap.size CZ rfl rfl 46 _ HNW3.out HIZ.out HZZ.out HOZ.out ?_)
  rw [HW4.out]
  clear HW4 HNW3
  generalize w3.heap.size = p3 at *
  have HR4 := Lib.hid (HRD.out W4)
  go_wp2_with fail
  refine HR4.out.mono ?_
  rintro e w5 ⟨rfl, g5⟩
  have gn5 := HNZ.out w5
  obtain ⟨W6, hW6⟩ : ∃ W6, W6 = (w5.alloc (.cells Tryd.zeroCells46 46)).setRow w5.heap.size CZ := ⟨_, rfl⟩
  have HW6 : Hid ((w5.alloc (.cells Tryd.zeroCells46 46)).setRow w5.heap.size CZ = W6) := hW6.symm
  rw [← hW6] at gn5
  have bA6 := Blk.chg (Blk.chg bA4 g5 (by simp)) gn5 (by simp)
  have g6 := (g4.trans g5).trans gn5
  have HNW5 := Lib.hid (HNW.out w5)
  clear hW6 HR4 gn5 g5 g4 bA4
  go_upto_region 4 with (refine wpList_store_row rfl 46 _ _ rfl w5.heap.size CZ rfl rfl 46 _ HNW5.out HIZ.out HZZ.out HOZ.out ?_)
  rw [HW6.out]
  clear HW6 HNW5
  generalize w5.heap.size = p5 at *
  have HR6 := Lib.hid (HRT.out W6 g6)
  have HLA := Lib.hid (Blk.range (Blk.chg bA6 ((Chg.refl none W6).alloc (.cells #[.int .u8 115] 5 (1, 2))) (by simp)))
  clear HMY HMN HRT HRD HNW HNA HNZ bA6
  go_wp2_with (refine BigFrame.wpList_want rfl fun _ hK => wp_load_mid 46 _ rfl pA 0 rfl (attCells a) _ HLA.out Tryd.underlying46 rfl HIAl.out (hK _ _ ?_))
  rw [← HCA.out]
  refine HR6.out.mono ?_
  rintro e w7 ⟨rfl, g7⟩
  go_wp2_with fail
  go_ret
  exact ⟨rfl, g6.trans g7⟩

end Go.Proofs.YtehpigmcmgfkoaaDoor
