/-
  AttestOnly: the walk.
-/
import Derived.Test.YtehpigmcmgfkoaaDoorA9
namespace Go.Proofs.YtehpigmcmgfkoaaDoor
open Go.RowKit

theorem be8_inj (m n : Nat) (hm : m ≤ 5000) (hn : n ≤ 5000) (h : be 8 m = be 8 n) : m = n := by
  have h6 : (be 8 m)[6]? = (be 8 n)[6]? := by rw [h]
  have h7 : (be 8 m)[7]? = (be 8 n)[7]? := by rw [h]
  rw [be_get 8 m 6 (by decide), be_get 8 n 6 (by decide)] at h6
  rw [be_get 8 m 7 (by decide), be_get 8 n 7 (by decide)] at h7
  injection h6 with h6
  injection h7 with h7
  have a6 := congrArg UInt8.toNat h6
  have a7 := congrArg UInt8.toNat h7
  simp only [UInt8.toNat_ofNat'] at a6 a7
  omega
theorem body_inj (k r k' r' : Dg) (m n : Nat) (hm : m ≤ 5000) (hn : n ≤ 5000) (h : bodyB k r m = bodyB k' r' n) : k = k' ∧ r = r' ∧ m = n := by
  unfold bodyB at h
  injection h with _ h
  obtain ⟨h1, h⟩ := List.append_inj h (by rw [k.2, k'.2])
  obtain ⟨h2, h3⟩ := List.append_inj h (by rw [r.2, r'.2])
  exact ⟨Subtype.ext h1, Subtype.ext h2, be8_inj m n hm hn h3⟩

set_option maxRecDepth 100000 in
set_option maxHeartbeats 16000000 in
theorem only_law (p : Prt) (a b : Att) (w : World) (hp : p.ok w) (hpm : p.c ≤ 9223372036854775807) (hT : Tabs w) :
    Calls Tryd.prog 12 #[.slice p.A p.x.length p.c, .agg (attCells a).toArray, .agg (attCells b).toArray] w fun e w' => e = .returned (.bool true) ∧ Chg none w w' := by
  have hpl : p.x.length ≤ 9223372036854775807 := by have := hp.2; omega
  obtain ⟨CA, hCA⟩ : ∃ CA, CA = (attCells a).toArray := ⟨_, rfl⟩
  obtain ⟨CB, hCB⟩ : ∃ CB, CB = (attCells b).toArray := ⟨_, rfl⟩
  have HCA := Lib.hid hCA
  have HCB := Lib.hid hCB
  obtain ⟨W2, hW2⟩ : ∃ W2, W2 = (w.alloc (.cells CA 46)).alloc (.cells CB 46) := ⟨_, rfl⟩
  have HW2 : Hid ((w.alloc (.cells CA 46)).alloc (.cells CB 46) = W2) := hW2.symm
  have gR : Chg none w W2 := by rw [hW2]; exact ((Chg.refl _ _).alloc _).alloc _
  have bA : BlkL W2 w.heap.size (attCells a) 46 := by rw [hW2, hCA]; exact Blk.alloc (Blk.new _ _ _) _
  have bB : BlkL W2 (w.heap.size + 1) (attCells b) 46 := by rw [hW2, hCB]; exact Blk.newAt _ _ (by simp)
  have HKR := Lib.hid (known9_any W2 (hT.chg gR (by simp)))
  have HIA := Lib.hid (info46 a)
  have HIB := Lib.hid (info46 b)
  have HMA := Lib.hid (fun v => mayr_any a v)
  have HMB := Lib.hid (fun v => mayr_any b v)
  have HKN : Hid (∀ v, Chg none w v → Calls Tryd.prog 24 #[] v fun e w' => e = .returned (.bool true) ∧ Chg none v w') := fun v g => known9_any v (hT.chg g (by simp))
  have HAR : Hid (∀ v, Chg none W2 v → v.rangeAt w.heap.size 0 (attCells a)) := fun v g => Blk.range (Blk.chg bA g (by simp))
  have HBR : Hid (∀ v, Chg none W2 v → v.rangeAt (w.heap.size + 1) 0 (attCells b)) := fun v g => Blk.range (Blk.chg bB g (by simp))
  rw [← hCA] at HMA ⊢
  rw [← hCB] at HMB ⊢
  clear hW2 bA bB
  by_cases h1 : 300 < p.x.length
  · have d1 : decide ((300 : Int) < (p.x.length : Int)) = true := by simp <;> omega
    clear hCA hCB
    go_enter Tryd.func12, Tryd.ntmps12
    go_upto_region 1 with fail
    rw [HW2.out]
    clear HW2
    go_wp2_with fail
    refine HKR.out.mono ?_
    rintro e u1 ⟨rfl, e1⟩
    go_wp2_with fail
    go_ret
    exact ⟨rfl, gR.trans e1⟩
  have d1 : decide ((300 : Int) < (p.x.length : Int)) = false := by simp <;> omega
  have HA2 := Lib.hid (HAR.out W2 (Chg.refl _ _))
  by_cases hm : mayB a.n = true
  rotate_left
  · have hm' : mayB a.n = false := by simpa using hm
    rw [hm'] at HMA
    clear hCA hCB hm hm' hp hT h1
    go_enter Tryd.func12, Tryd.ntmps12
    go_upto_region 1 with fail
    rw [HW2.out]
    clear HW2
    generalize w.heap.size + 1 = pB at *
    generalize w.heap.size = pA at *
    go_wp2_with (refine BigFrame.wpList_want rfl fun _ hK => wp_load_mid 46 _ rfl pA 0 rfl (attCells a) _ HA2.out Tryd.underlying46 rfl HIA.out (hK _ _ ?_); rw [← HCA.out])
    refine (HMA.out _).mono ?_
    rintro e w1 ⟨rfl, g1⟩
    have HK1 := Lib.hid (HKN.out w1 (gR.trans g1))
    have g01 := gR.trans g1
    go_wp2_with fail
    refine HK1.out.mono ?_
    rintro e u1 ⟨rfl, e1⟩
    go_wp2_with fail
    go_ret
    exact ⟨rfl, g01.trans e1⟩
  rw [hm] at HMA
  by_cases hn : mayB b.n = true
  rotate_left
  · have hn' : mayB b.n = false := by simpa using hn
    rw [hn'] at HMB
    clear hCA hCB hm hn hn' hp hT h1
    go_enter Tryd.func12, Tryd.ntmps12
    go_upto_region 1 with fail
    rw [HW2.out]
    clear HW2
    generalize w.heap.size + 1 = pB at *
    generalize w.heap.size = pA at *
    go_wp2_with (refine BigFrame.wpList_want rfl fun _ hK => wp_load_mid 46 _ rfl pA 0 rfl (attCells a) _ HA2.out Tryd.underlying46 rfl HIA.out (hK _ _ ?_); rw [← HCA.out])
    refine (HMA.out _).mono ?_
    rintro e w1 ⟨rfl, g1⟩
    have g01 := gR.trans g1
    have HB1 := Lib.hid (HBR.out w1 g1)
    clear HMA HA2
    go_wp2_with (refine BigFrame.wpList_want rfl fun _ hK => wp_load_mid 46 _ rfl pB 0 rfl (attCells b) _ HB1.out Tryd.underlying46 rfl HIB.out (hK _ _ ?_); rw [← HCB.out])
    refine (HMB.out _).mono ?_
    rintro e w2 ⟨rfl, g2⟩
    have g02 := g01.trans g2
    have HK1 := Lib.hid (HKN.out w2 g02)
    go_wp2_with fail
    refine HK1.out.mono ?_
    rintro e u1 ⟨rfl, e1⟩
    go_wp2_with fail
    go_ret
    exact ⟨rfl, g02.trans e1⟩
  rw [hn] at HMB
  have h2 : 1 ≤ a.n ∧ a.n ≤ 5000 := by unfold mayB at hm; simpa using hm
  have h3 : 1 ≤ b.n ∧ b.n ≤ 5000 := by unfold mayB at hn; simpa using hn
  obtain ⟨m, hma⟩ : ∃ m : Nat, a.n = m := ⟨a.n.toNat, by omega⟩
  obtain ⟨n, hnb⟩ : ∃ n : Nat, b.n = n := ⟨b.n.toNat, by omega⟩
  obtain ⟨T1, hT1⟩ : ∃ T1, T1 = tagDg p.x a.k a.r m := ⟨_, rfl⟩
  obtain ⟨T2, hT2⟩ : ∃ T2, T2 = tagDg p.x b.k b.r n := ⟨_, rfl⟩
  obtain ⟨x, hx⟩ : ∃ x : Att, x = ⟨a.k, a.r, m, T1⟩ := ⟨_, rfl⟩
  obtain ⟨y, hy⟩ : ∃ y : Att, y = ⟨b.k, b.r, n, T1⟩ := ⟨_, rfl⟩
  obtain ⟨CX, hCX⟩ : ∃ CX, CX = (attCells x).toArray := ⟨_, rfl⟩
  obtain ⟨CY, hCY⟩ : ∃ CY, CY = (attCells y).toArray := ⟨_, rfl⟩
  obtain ⟨BX, hBX⟩ : ∃ BX, BX = bodyB a.k a.r m := ⟨_, rfl⟩
  obtain ⟨BY, hBY⟩ : ∃ BY, BY = bodyB b.k b.r n := ⟨_, rfl⟩
  obtain ⟨EQ, hEQ⟩ : ∃ EQ : Bool, EQ = sameAtt x y := ⟨_, rfl⟩
  obtain ⟨RT, hRT⟩ : ∃ RT : Bool, RT = (T1.1 == T2.1) := ⟨_, rfl⟩
  have HNE : Hid (EQ = false → BX ≠ BY) := fun h e => by
    rw [hBX, hBY] at e
    obtain ⟨e1, e2, e3⟩ := body_inj _ _ _ _ _ _ (by omega) (by omega) e
    have : x = y := by rw [hx, hy, e1, e2, e3]
    rw [hEQ, (sameAtt_iff x y).2 this] at h
    cases h
  have HMK : Hid (∀ v, Chg none w v → Calls Tryd.prog 25 #[.slice p.A p.x.length p.c, .agg (byteVals a.k.1).toArray, .agg (byteVals a.r.1).toArray, .int .i64 m] v fun e w' => e = .returned (.tuple #[.agg CX, .int .i64 0]) ∧ Chg none v w') := fun v g => by
    have := make_yes a.k a.r m p v (by omega) (by omega) (hp.chg g) (by omega) (hT.chg g (by simp))
    rw [← hT1, ← hx] at this
    unfold MakeYes at this
    rw [← hCX] at this
    exact this
  have HRT : Hid (∀ v, Chg none w v → Calls Tryd.prog 27 #[.slice p.A p.x.length p.c, .agg CY] v fun e w' => e = .returned (.bool RT) ∧ Chg none v w') := fun v g => by
    have := right_any y p v (hp.chg g) (by omega) (hT.chg g (by simp))
    have hr : rightB p.x y = RT := by
      rw [hy, hRT, hT2]
      unfold rightB
      dsimp only
      rw [show mayB ((n : Nat) : Int) = true by rw [← hnb]; exact hn, Bool.true_and, Int.toNat_natCast]
    rw [hr] at this
    rw [hCY]; exact this
  have HBX : Hid (∀ v, Calls Tryd.prog 34 #[.agg (byteVals a.k.1).toArray, .agg (byteVals a.r.1).toArray, .int .i64 m] v fun e w' => ∃ A c, e = .returned (.slice A 73 c) ∧ w'.ownsRow v.heap.size 5 1 (.slice A 73 c) 73 (byteVals BX) ∧ Chg none v w') := fun v => by rw [hBX]; exact bodyr_any a.k a.r m (by omega) v
  have HBY : Hid (∀ v, Calls Tryd.prog 34 #[.agg (byteVals b.k.1).toArray, .agg (byteVals b.r.1).toArray, .int .i64 n] v fun e w' => ∃ A c, e = .returned (.slice A 73 c) ∧ w'.ownsRow v.heap.size 5 1 (.slice A 73 c) 73 (byteVals BY) ∧ Chg none v w') := fun v => by rw [hBY]; exact bodyr_any b.k b.r n (by omega) v
  have hBXl : 73 = BX.length := by rw [hBX, body_len]
  have hBYl : 73 = BY.length := by rw [hBY, body_len]
  have HTX : Hid (∀ v A c, Chg none w v → Txt v A BX → 73 ≤ c → Calls Tryd.prog 22 #[.slice p.A p.x.length p.c, .slice A 73 c] v fun e w' => e = .returned (.agg (byteVals T1.1).toArray) ∧ Chg none v w') := fun v A c g h1 h2 => by
    have := tagr_any p ⟨A, BX, c⟩ v (hp.chg g) ⟨h1, by show BX.length ≤ c; omega⟩ (by omega) (by show BX.length ≤ 900000; omega)
    dsimp only at this
    rw [← hBXl] at this
    have e : (tagDg p.x a.k a.r m).1 = tagB p.x BX := by rw [hBX]; rfl
    rw [hT1, e]; exact this
  have HTY : Hid (∀ v A c, Chg none w v → Txt v A BY → 73 ≤ c → Calls Tryd.prog 22 #[.slice p.A p.x.length p.c, .slice A 73 c] v fun e w' => e = .returned (.agg (byteVals T2.1).toArray) ∧ Chg none v w') := fun v A c g h1 h2 => by
    have := tagr_any p ⟨A, BY, c⟩ v (hp.chg g) ⟨h1, by show BY.length ≤ c; omega⟩ (by omega) (by show BY.length ≤ 900000; omega)
    dsimp only at this
    rw [← hBYl] at this
    have e : (tagDg p.x b.k b.r n).1 = tagB p.x BY := by rw [hBY]; rfl
    rw [hT2, e]; exact this
  have HQ46 : Hid (∀ v : World, (binOp .eql 46 (.agg CX) (.agg CY)).run Tryd.prog v = .ok (.bool EQ) v) := fun v => by rw [hCX, hCY, hEQ]; exact eql46 x y v
  have HQ30 : Hid (∀ v : World, (binOp .eql 30 (.agg (byteVals T1.1).toArray) (.agg (byteVals T2.1).toArray)).run Tryd.prog v = .ok (.bool RT) v) := fun v => by rw [hRT]; exact eql30 T1.1 T2.1 T1.2 T2.2 v
  have HCV : Hid (∀ v A j c (z : List UInt8), Txt v A z → j = z.length → (convert 22 9 (.slice A j c)).run Tryd.prog v = .ok (.string ⟨z.toArray⟩) v) := fun v A j c z h e => by subst e; exact conv_reads v (txt_reads h)
  have HBXl := Lib.hid hBXl
  have HBYl := Lib.hid hBYl
  have hg46 := guard46
  have hg30 := guard30
  have HIAK : Hid ((Tryd.prog.info? 30).map (·.size) = some (byteVals a.k.1).length) := by rw [byteVals_len, a.k.2]; show _ = _; kernel_rfl
  have HIAR : Hid ((Tryd.prog.info? 30).map (·.size) = some (byteVals a.r.1).length) := by rw [byteVals_len, a.r.2]; show _ = _; kernel_rfl
  have HIBK : Hid ((Tryd.prog.info? 30).map (·.size) = some (byteVals b.k.1).length) := by rw [byteVals_len, b.k.2]; show _ = _; kernel_rfl
  have HIBR : Hid ((Tryd.prog.info? 30).map (·.size) = some (byteVals b.r.1).length) := by rw [byteVals_len, b.r.2]; show _ = _; kernel_rfl
  have HIXT : Hid ((Tryd.prog.info? 30).map (·.size) = some (byteVals T1.1).length) := by rw [byteVals_len, T1.2]; show _ = _; kernel_rfl
  have HIX : Hid ((Tryd.prog.info? 46).map (·.size) = some CX.size) := by rw [hCX]; exact info46a x
  have HIY : Hid ((Tryd.prog.info? 46).map (·.size) = some CY.size) := by rw [hCY]; exact info46a y
  have HIXl := Lib.hid (info46 x)
  have HIYl := Lib.hid (info46 y)
  have HOX : Hid (CX.all (·.oneCell') = true) := by rw [hCX]; exact attCells_one x
  have HOY : Hid (CY.all (·.oneCell') = true) := by rw [hCY]; exact attCells_one y
  have HZX : Hid (Tryd.zeroCells46.size = CX.size) := by rw [hCX, zero46, List.size_toArray, List.size_toArray, attCells_len, attCells_len]; rfl
  have HZY : Hid (Tryd.zeroCells46.size = CY.size) := by rw [hCY, zero46, List.size_toArray, List.size_toArray, attCells_len, attCells_len]; rfl
  have HNX : Hid (∀ v : World, Chg none v ((v.alloc (.cells Tryd.zeroCells46 46)).setRow v.heap.size CX) ∧ BlkL ((v.alloc (.cells Tryd.zeroCells46 46)).setRow v.heap.size CX) v.heap.size (attCells x) 46) := fun v => by rw [hCX]; exact new_att v x
  have HNY : Hid (∀ v : World, Chg none v ((v.alloc (.cells Tryd.zeroCells46 46)).setRow v.heap.size CY) ∧ BlkL ((v.alloc (.cells Tryd.zeroCells46 46)).setRow v.heap.size CY) v.heap.size (attCells y) 46) := fun v => by rw [hCY]; exact new_att v y
  have HNW : Hid (∀ v : World, (v.alloc (.cells Tryd.zeroCells46 46)).heap[v.heap.size]? = some (.cells Tryd.zeroCells46 46 (0, 0))) := fun v => heap_alloc_new v _
  have HXT : Hid (∀ (v : World) (q : Nat), v.rangeAt q 0 (attCells x) → v.rangeAt q 65 (byteVals T1.1)) := fun v q h => by
    have := att_tag h
    rw [hx] at this
    exact this
  have HBU : Hid (Tryd.prog.built 46 [(0, .agg (byteVals b.k.1).toArray), (1, .agg (byteVals b.r.1).toArray), (2, .int .i64 n), (3, .agg (byteVals T1.1).toArray)] = some CY) := by rw [hCY, hy]; exact built46_4 b.k b.r T1 n
  have HNA : Hid (∀ (v : World) (q : Nat), v.rangeAt q 0 (attCells a) → v.cell? ⟨q, 64, none⟩ = some (.int .i64 m)) := fun v q h => by
    have := att_num h
    rwa [hma] at this
  have HNB : Hid (∀ (v : World) (q : Nat), v.rangeAt q 0 (attCells b) → v.cell? ⟨q, 64, none⟩ = some (.int .i64 n)) := fun v q h => by
    have := att_num h
    rwa [hnb] at this
  have HCX := Lib.hid hCX
  have HCY := Lib.hid hCY
  clear hCA hCB hCX hCY hBX hBY hEQ hRT hT1 hT2 hx hy hm hn hma hnb hp hT h1 h2 h3 hBXl hBYl HKR
  go_enter Tryd.func12, Tryd.ntmps12
  go_upto_region 1 with fail
  rw [HW2.out]
  clear HW2
  generalize w.heap.size + 1 = pB at *
  generalize w.heap.size = pA at *
  go_wp2_with (refine BigFrame.wpList_want rfl fun _ hK => wp_load_mid 46 _ rfl pA 0 rfl (attCells a) _ HA2.out Tryd.underlying46 rfl HIA.out (hK _ _ ?_); rw [← HCA.out])
  refine (HMA.out _).mono ?_
  rintro e w1 ⟨rfl, g1⟩
  have HB1 := Lib.hid (HBR.out w1 g1)
  clear HMA HA2
  go_wp2_with (refine BigFrame.wpList_want rfl fun _ hK => wp_load_mid 46 _ rfl pB 0 rfl (attCells b) _ HB1.out Tryd.underlying46 rfl HIB.out (hK _ _ ?_); rw [← HCB.out])
  refine (HMB.out _).mono ?_
  rintro e w2 ⟨rfl, g2⟩
  have g12 := g1.trans g2
  have g02 := gR.trans g12
  have HKA := Lib.hid (att_key (HAR.out w2 g12))
  have HRA := Lib.hid (att_root (HAR.out w2 g12))
  have hc64 := HNA.out w2 pA (HAR.out w2 g12)
  have HMK2 := Lib.hid (HMK.out w2 g02)
  clear HMB HB1 HMK g1 g2 HIA HIB HCA HCB
  go_wp2_with (first
    | (refine wpList_load_mid rfl 30 _ rfl pA 0 rfl (byteVals a.k.1) _ HKA.out Tryd.underlying30 rfl HIAK.out ?_)
    | (refine wpList_load_mid rfl 30 _ rfl pA 32 rfl (byteVals a.r.1) _ HRA.out Tryd.underlying30 rfl HIAR.out ?_))
  refine HMK2.out.mono ?_
  rintro e w3 ⟨rfl, g3⟩
  obtain ⟨gn, bX⟩ := HNX.out w3
  obtain ⟨W4, hW4⟩ : ∃ W4, W4 = (w3.alloc (.cells Tryd.zeroCells46 46)).setRow w3.heap.size CX := ⟨_, rfl⟩
  have HW4 : Hid ((w3.alloc (.cells Tryd.zeroCells46 46)).setRow w3.heap.size CX = W4) := hW4.symm
  rw [← hW4] at gn bX
  have HNW3 := Lib.hid (HNW.out w3)
  have g14 : Chg none W2 W4 := (g12.trans g3).trans gn
  clear hW4 gn HNX HMK2 HKA HRA hc64 g12 g02 g3
  go_upto_region 4 with (refine wpList_store_row rfl 46 _ _ rfl w3.heap.size CX rfl rfl 46 _ HNW3.out HIX.out HZX.out HOX.out ?_)
  rw [HW4.out]
  clear HW4 HNW3
  generalize w3.heap.size = pX at *
  have HKB := Lib.hid (att_key (HBR.out W4 g14))
  have HRB := Lib.hid (att_root (HBR.out W4 g14))
  have hc64 := HNB.out W4 pB (HBR.out W4 g14)
  have HXT4 := Lib.hid (HXT.out W4 pX (Blk.range bX))
  obtain ⟨gn, bY⟩ := HNY.out W4
  obtain ⟨W5, hW5⟩ : ∃ W5, W5 = (W4.alloc (.cells Tryd.zeroCells46 46)).setRow W4.heap.size CY := ⟨_, rfl⟩
  have HW5 : Hid ((W4.alloc (.cells Tryd.zeroCells46 46)).setRow W4.heap.size CY = W5) := hW5.symm
  rw [← hW5] at gn bY
  have HNW4 := Lib.hid (HNW.out W4)
  have g15 : Chg none W2 W5 := g14.trans gn
  have HX5 := Lib.hid (Blk.range (Blk.chg bX gn (by simp)))
  have HY5 := Lib.hid (Blk.range bY)
  clear hW5 HNY gn bX bY HXT HNW
  go_upto_region 7 with (first
    | (refine wpList_load_mid rfl 30 _ rfl pB 0 rfl (byteVals b.k.1) _ HKB.out Tryd.underlying30 rfl HIBK.out ?_)
    | (refine wpList_load_mid rfl 30 _ rfl pB 32 rfl (byteVals b.r.1) _ HRB.out Tryd.underlying30 rfl HIBR.out ?_)
    | (refine wpList_load_mid rfl 30 _ rfl pX 65 rfl (byteVals T1.1) _ HXT4.out Tryd.underlying30 rfl HIXT.out ?_)
    | (refine wpList_buildTo rfl 46 _ rfl (some 47) rfl CY (by simp only [List.map_toArray, List.map_cons, List.map_nil]; exact HBU.out) ?_)
    | (refine wpList_store_row rfl 46 _ _ rfl W4.heap.size CY rfl rfl 46 _ HNW4.out HIY.out HZY.out HOY.out ?_))
  rw [HW5.out]
  clear HW5 HNW4 HKB HRB hc64 HXT4 g14 HBU
  generalize W4.heap.size = pY at *
  have g05 := gR.trans g15
  have hqe := HQ46.out
  have HK5 := Lib.hid (HKN.out W5 g05)
  have HRT5 := Lib.hid (HRT.out W5 g05)
  clear HQ46 HRT
  cases EQ
  rotate_left
  · go_wp2_with (first
      | (refine wpList_load_mid rfl 46 _ rfl pX 0 rfl (attCells x) _ HX5.out Tryd.underlying46 rfl HIXl.out ?_; rw [← HCX.out])
      | (refine wpList_load_mid rfl 46 _ rfl pY 0 rfl (attCells y) _ HY5.out Tryd.underlying46 rfl HIYl.out ?_; rw [← HCY.out]))
    refine HK5.out.mono ?_
    rintro e u1 ⟨rfl, e1⟩
    go_wp2_with fail
    go_ret
    exact ⟨rfl, g05.trans e1⟩
  have hne := HNE.out rfl
  clear HK5 HNE
  go_wp2_with (first
      | (refine wpList_load_mid rfl 46 _ rfl pX 0 rfl (attCells x) _ HX5.out Tryd.underlying46 rfl HIXl.out ?_; rw [← HCX.out])
      | (refine wpList_load_mid rfl 46 _ rfl pY 0 rfl (attCells y) _ HY5.out Tryd.underlying46 rfl HIYl.out ?_; rw [← HCY.out])
      | (refine BigFrame.wpList_want rfl fun _ hK => wp_load_mid 46 _ rfl pY 0 rfl (attCells y) _ HY5.out Tryd.underlying46 rfl HIYl.out (hK _ _ ?_); rw [← HCY.out]))
  refine HRT5.out.mono ?_
  rintro e w6 ⟨rfl, g6⟩
  have g16 := g15.trans g6
  have g06 := g05.trans g6
  have HK6 := Lib.hid (HKN.out w6 g06)
  clear HRT5 HX5 HY5 hqe g15 g05 g6
  cases RT
  · go_wp2_with fail
    refine HK6.out.mono ?_
    rintro e u1 ⟨rfl, e1⟩
    go_wp2_with fail
    go_ret
    exact ⟨rfl, g06.trans e1⟩
  clear HK6
  go_upto_region 9 with fail
  have E0 := g06.drew
  have hS0 : w6.drew.rangeAt pA 0 (attCells a) ∧ w6.drew.rangeAt pB 0 (attCells b) := ⟨HAR.out _ g16.drew, HBR.out _ g16.drew⟩
  clear g16 g06 HAR HBR gR
  refine wp_region_held_drew (S := fun w' => w'.rangeAt pA 0 (attCells a) ∧ w'.rangeAt pB 0 (attCells b)) (by kernel_rfl) hS0 (fun _ => ?_)
  generalize w6.drew = v0 at *
  refine wpAnyH_take (i := 0) (oi := ⟨some 58, _, _, _, _, _⟩) (v := ?_) rfl (by kernel_rfl) (by kernel_rfl) (by kernel_rfl) (fun _ _ _ h => h) (Or.inl ⟨by rfl, ?_⟩) (by assumption) ?_
  rotate_left
  · intro w hSw; (try dsimp only at hSw); go_simp; (try with_reducible rfl)
  try simp only [Act.put, List.setIfInBounds_toArray, List.set_cons_zero, List.set_cons_succ]
  refine wpAnyH_take (i := 1) (oi := ⟨some 59, _, _, _, _, _⟩) (v := .agg (byteVals a.k.1).toArray) rfl (by kernel_rfl) (by kernel_rfl) (by kernel_rfl) (fun _ _ _ h => h) (yieldsIf_load_mid (by rfl) 30 _ rfl pA 0 rfl (byteVals a.k.1) _ (fun _ h => att_key h.1) Tryd.underlying30 rfl HIAK.out) (by assumption) ?_
  try simp only [Act.put, List.setIfInBounds_toArray, List.set_cons_zero, List.set_cons_succ]
  refine wpAnyH_take (i := 2) (oi := ⟨some 60, _, _, _, _, _⟩) (v := ?_) rfl (by kernel_rfl) (by kernel_rfl) (by kernel_rfl) (fun _ _ _ h => h) (Or.inl ⟨by rfl, ?_⟩) (by assumption) ?_
  rotate_left
  · intro w hSw; (try dsimp only at hSw); go_simp; (try with_reducible rfl)
  try simp only [Act.put, List.setIfInBounds_toArray, List.set_cons_zero, List.set_cons_succ]
  refine wpAnyH_take (i := 3) (oi := ⟨some 61, _, _, _, _, _⟩) (v := .agg (byteVals a.r.1).toArray) rfl (by kernel_rfl) (by kernel_rfl) (by kernel_rfl) (fun _ _ _ h => h) (yieldsIf_load_mid (by rfl) 30 _ rfl pA 32 rfl (byteVals a.r.1) _ (fun _ h => att_root h.1) Tryd.underlying30 rfl HIAR.out) (by assumption) ?_
  try simp only [Act.put, List.setIfInBounds_toArray, List.set_cons_zero, List.set_cons_succ]
  refine wpAnyH_take (i := 4) (oi := ⟨some 62, _, _, _, _, _⟩) (v := ?_) rfl (by kernel_rfl) (by kernel_rfl) (by kernel_rfl) (fun _ _ _ h => h) (Or.inl ⟨by rfl, ?_⟩) (by assumption) ?_
  rotate_left
  · intro w hSw; (try dsimp only at hSw); go_simp; (try with_reducible rfl)
  try simp only [Act.put, List.setIfInBounds_toArray, List.set_cons_zero, List.set_cons_succ]
  refine wpAnyH_take (i := 5) (oi := ⟨some 63, _, _, _, _, _⟩) (v := .int .i64 m) rfl (by kernel_rfl) (by kernel_rfl) (by kernel_rfl) (fun _ _ _ h => h) (Or.inl ⟨by rfl, ?_⟩) (by assumption) ?_
  · intro w hSw; have hc := HNA.out w pA hSw.1; go_simp
  try simp only [Act.put, List.setIfInBounds_toArray, List.set_cons_zero, List.set_cons_succ]
  refine wpAnyH_take (i := 7) (oi := ⟨some 65, _, _, _, _, _⟩) (v := ?_) rfl (by kernel_rfl) (by kernel_rfl) (by kernel_rfl) (fun _ _ _ h => h) (Or.inl ⟨by rfl, ?_⟩) (by assumption) ?_
  rotate_left
  · intro w hSw; (try dsimp only at hSw); go_simp; (try with_reducible rfl)
  try simp only [Act.put, List.setIfInBounds_toArray, List.set_cons_zero, List.set_cons_succ]
  refine wpAnyH_take (i := 8) (oi := ⟨some 66, _, _, _, _, _⟩) (v := .agg (byteVals b.k.1).toArray) rfl (by kernel_rfl) (by kernel_rfl) (by kernel_rfl) (fun _ _ _ h => h) (yieldsIf_load_mid (by rfl) 30 _ rfl pB 0 rfl (byteVals b.k.1) _ (fun _ h => att_key h.2) Tryd.underlying30 rfl HIBK.out) (by assumption) ?_
  try simp only [Act.put, List.setIfInBounds_toArray, List.set_cons_zero, List.set_cons_succ]
  refine wpAnyH_take (i := 9) (oi := ⟨some 67, _, _, _, _, _⟩) (v := ?_) rfl (by kernel_rfl) (by kernel_rfl) (by kernel_rfl) (fun _ _ _ h => h) (Or.inl ⟨by rfl, ?_⟩) (by assumption) ?_
  rotate_left
  · intro w hSw; (try dsimp only at hSw); go_simp; (try with_reducible rfl)
  try simp only [Act.put, List.setIfInBounds_toArray, List.set_cons_zero, List.set_cons_succ]
  refine wpAnyH_take (i := 10) (oi := ⟨some 68, _, _, _, _, _⟩) (v := .agg (byteVals b.r.1).toArray) rfl (by kernel_rfl) (by kernel_rfl) (by kernel_rfl) (fun _ _ _ h => h) (yieldsIf_load_mid (by rfl) 30 _ rfl pB 32 rfl (byteVals b.r.1) _ (fun _ h => att_root h.2) Tryd.underlying30 rfl HIBR.out) (by assumption) ?_
  try simp only [Act.put, List.setIfInBounds_toArray, List.set_cons_zero, List.set_cons_succ]
  refine wpAnyH_take (i := 11) (oi := ⟨some 69, _, _, _, _, _⟩) (v := ?_) rfl (by kernel_rfl) (by kernel_rfl) (by kernel_rfl) (fun _ _ _ h => h) (Or.inl ⟨by rfl, ?_⟩) (by assumption) ?_
  rotate_left
  · intro w hSw; (try dsimp only at hSw); go_simp; (try with_reducible rfl)
  try simp only [Act.put, List.setIfInBounds_toArray, List.set_cons_zero, List.set_cons_succ]
  refine wpAnyH_take (i := 12) (oi := ⟨some 70, _, _, _, _, _⟩) (v := .int .i64 n) rfl (by kernel_rfl) (by kernel_rfl) (by kernel_rfl) (fun _ _ _ h => h) (Or.inl ⟨by rfl, ?_⟩) (by assumption) ?_
  · intro w hSw; have hc := HNB.out w pB hSw.2; go_simp
  try simp only [Act.put, List.setIfInBounds_toArray, List.set_cons_zero, List.set_cons_succ]
  refine wpAnyH_ready (rs := [6]) (by kernel_rfl) (by simp) ?_
  refine AllReadyH.cons (o := ⟨some 64, _, _, _, _, _⟩) rfl (fun K hK => ?_) (AllReadyH.nil)
  go_simp
  go_at_call 34
  refine (HBX.out _).mono ?_
  rintro e v1 ⟨A1, c1, rfl, hown1, f1⟩
  obtain ⟨hX1, -, hc1⟩ := own_txt hown1
  have E1 := E0.trans f1
  have hS1 : v1.rangeAt pA 0 (attCells a) ∧ v1.rangeAt pB 0 (attCells b) := ⟨rangeAt_chg hS0.1 f1 (by simp), rangeAt_chg hS0.2 f1 (by simp)⟩
  clear hown1
  go_wp2_with fail
  refine hK.out _ _ hS1 (fun _ => ?_)
  clear hK K
  try simp only [Act.put, List.setIfInBounds_toArray, List.set_cons_zero, List.set_cons_succ]
  refine wpAnyH_ready (rs := [13]) (by kernel_rfl) (by simp) ?_
  refine AllReadyH.cons (o := ⟨some 71, _, _, _, _, _⟩) rfl (fun K hK => ?_) (AllReadyH.nil)
  go_simp
  go_at_call 34
  refine (HBY.out _).mono ?_
  rintro e v2 ⟨A2, c2, rfl, hown2, f2⟩
  obtain ⟨hY2, -, hc2⟩ := own_txt hown2
  have E2 := E1.trans f2
  have HX2 := Lib.hid (hX1.chg f2)
  have HY2 := Lib.hid hY2
  have hS2 : v2.rangeAt pA 0 (attCells a) ∧ v2.rangeAt pB 0 (attCells b) := ⟨rangeAt_chg hS1.1 f2 (by simp), rangeAt_chg hS1.2 f2 (by simp)⟩
  clear hown2 hX1 hY2
  go_wp2_with fail
  refine hK.out _ _ hS2 (fun _ => ?_)
  clear hK K
  try simp only [Act.put, List.setIfInBounds_toArray, List.set_cons_zero, List.set_cons_succ]
  refine wpAnyH_take (i := 14) (oi := ⟨some 10, _, _, _, _, _⟩) (v := ?_) rfl (by kernel_rfl) (by kernel_rfl) (by kernel_rfl) (fun _ _ _ h => h) (Or.inl ⟨by rfl, ?_⟩) (by assumption) ?_
  rotate_left
  · intro w hSw; (try dsimp only at hSw); go_simp; (try with_reducible rfl)
  try simp only [Act.put, List.setIfInBounds_toArray, List.set_cons_zero, List.set_cons_succ]
  refine wpAnyH_take (i := 15) (oi := ⟨some 11, _, _, _, _, _⟩) (v := ?_) rfl (by kernel_rfl) (by kernel_rfl) (by kernel_rfl) (fun _ _ _ h => h) (Or.inl ⟨by rfl, ?_⟩) (by assumption) ?_
  rotate_left
  · intro w hSw; (try dsimp only at hSw); go_simp; (try with_reducible rfl)
  try simp only [Act.put, List.setIfInBounds_toArray, List.set_cons_zero, List.set_cons_succ]
  refine wpAnyH_done (by kernel_rfl) ?_ _
  try simp only [Act.put]
  have hcv1 := HCV.out v2 A1 73 c1 BX HX2.out HBXl.out
  have hcv2 := HCV.out v2 A2 73 c2 BY HY2.out HBYl.out
  have hne2 : (BX == BY) = false := by simpa using hne
  have HT3 := Lib.hid (HTX.out v2 A1 c1 E2 HX2.out hc1)
  go_wp2_with fail
  refine HT3.out.mono ?_
  rintro e v3 ⟨rfl, f3⟩
  have E3 := E2.trans f3
  have HT4 := Lib.hid (HTY.out v3 A2 c2 E3 (HY2.out.chg f3) hc2)
  clear HT3 hcv1 hcv2
  go_wp2_with fail
  refine HT4.out.mono ?_
  rintro e v4 ⟨rfl, f4⟩
  have E4 := E3.trans f4
  have HK4 := Lib.hid (HKN.out v4 E4)
  have hqe := HQ30.out
  go_wp2_with fail
  refine HK4.out.mono ?_
  rintro e v5 ⟨rfl, f5⟩
  go_wp2_with fail
  go_ret
  exact ⟨rfl, E4.trans f5⟩

end Go.Proofs.YtehpigmcmgfkoaaDoor
