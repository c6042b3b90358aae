/-
  AttestBytes: the walk.
-/
import Derived.Test.YtehpigmcmgfkoaaDoorBN
namespace Go.Proofs.YtehpigmcmgfkoaaDoor
open Go.RowKit

set_option maxRecDepth 100000 in
set_option maxHeartbeats 16000000 in
theorem bytes_law (a q : Att) (p : Prt) (w : World) (ha : -9223372036854775808 ≤ a.n ∧ a.n ≤ 9223372036854775807) (hb : -9223372036854775808 ≤ q.n ∧ q.n ≤ 9223372036854775807) (hp : p.ok w) (hpm : p.c ≤ 9223372036854775807) (hT : Tabs w) :
    Calls Tryd.prog 11 #[.agg (attCells a).toArray, .agg (attCells q).toArray, .slice p.A p.x.length p.c] w fun e w' => e = .returned (.bool true) ∧ Chg none w w' := by
  have hpl : p.x.length ≤ 9223372036854775807 := by have := hp.2; omega
  obtain ⟨CA, hCA⟩ : ∃ CA, CA = (attCells a).toArray := ⟨_, rfl⟩
  obtain ⟨CB, hCB⟩ : ∃ CB, CB = (attCells q).toArray := ⟨_, rfl⟩
  have HCA := Lib.hid hCA
  have HCB := Lib.hid hCB
  obtain ⟨W2, hW2⟩ : ∃ W2, W2 = (w.alloc (.cells CA 46)).alloc (.cells CB 46) := ⟨_, rfl⟩
  have HW2 : Hid ((w.alloc (.cells CA 46)).alloc (.cells CB 46) = W2) := hW2.symm
  have gR : Chg none w W2 := by rw [hW2]; exact ((Chg.refl _ _).alloc _).alloc _
  have bA : BlkL W2 w.heap.size (attCells a) 46 := by rw [hW2, hCA]; exact Blk.alloc (Blk.new _ _ _) _
  have bB : BlkL W2 (w.heap.size + 1) (attCells q) 46 := by rw [hW2, hCB]; exact Blk.newAt _ _ (by simp)
  have HKR := Lib.hid (known9_any W2 (hT.chg gR (by simp)))
  have HIA := Lib.hid (info46 a)
  have HIB := Lib.hid (info46 q)
  have HMA := Lib.hid (fun v => mayr_any a v)
  have HLS := Lib.hid (fun v => less_any a q v ha hb)
  have HQA := Lib.hid (fun v => bytesq_any a v)
  have HQB := Lib.hid (fun v => bytesq_any q v)
  have HKN : Hid (∀ v, Chg none w v → Calls Tryd.prog 24 #[] v fun e w' => e = .returned (.bool true) ∧ Chg none v w') := fun v g => known9_any v (hT.chg g (by simp))
  have HAR : Hid (∀ v, Chg none W2 v → v.rangeAt w.heap.size 0 (attCells a)) := fun v g => Blk.range (Blk.chg bA g (by simp))
  have HBR : Hid (∀ v, Chg none W2 v → v.rangeAt (w.heap.size + 1) 0 (attCells q)) := fun v g => Blk.range (Blk.chg bB g (by simp))
  have HCV : Hid (∀ v A j c (z : List UInt8), Txt v A z → j = z.length → (convert 22 9 (.slice A j c)).run Tryd.prog v = .ok (.string ⟨z.toArray⟩) v) := fun v A j c z h e => by subst e; exact conv_reads v (txt_reads h)
  have HCV8 := HCV
  have HSL : Hid (Op.bytesLess (attBytes a (u64n a.n)) (attBytes q (u64n q.n)) = lessB a q) := less_cmp _ _
  have HL1 : Hid (104 = (attBytes a (u64n a.n)).length) := (attBytes_len _ _).symm
  have HL2 : Hid (104 = (attBytes q (u64n q.n)).length) := (attBytes_len _ _).symm
  have HRDB : Hid (∀ v, Chg none w v → Calls Tryd.prog 32 #[.slice p.A p.x.length p.c] v fun e w' => ∃ z n, e = .returned (.tuple #[.agg (attCells z).toArray, .int .i64 n]) ∧ Chg none v w' ∧ ReadB p z n) := fun v g => readb_any p v (hp.chg g)
  have HLG : Hid (∀ v, Chg none w v → p.x.length = 104 → mayB (valL ((p.x.drop 64).take 8) : Nat) = false → Calls Tryd.prog 33 #[.slice p.A p.x.length p.c] v fun e w' => e = .returned (.bool false) ∧ Chg none v w') := fun v g => lengthyb_no p v (hp.chg g)
  have HTP : Hid (∀ v, Chg none w v → Txt v p.A p.x) := fun v g => hp.1.chg g
  have HQ9 := Lib.hid (fun (x : ByteArray) (v : World) => eq9_same x v)
  rw [← hCA] at HMA HLS HQA ⊢
  rw [← hCB] at HLS HQB ⊢
  clear hW2 bA bB
  by_cases h1 : 300 < p.x.length
  · have d1 : decide ((300 : Int) < (p.x.length : Int)) = true := by simp <;> omega
    clear hCA hCB
    go_enter Tryd.func11, Tryd.ntmps11
    go_upto_region 1 with fail
    rw [HW2.out]
    clear HW2
    go_wp2_with fail
    refine HKR.out.mono ?_
    rintro e u1 ⟨rfl, e1⟩
    go_wp2_with fail
    go_ret
    exact ⟨rfl, gR.trans e1⟩
  have d1 : decide ((300 : Int) < (p.x.length : Int)) = false := by simp <;> omega
  have HA2 := Lib.hid (HAR.out W2 (Chg.refl _ _))
  by_cases hm : mayB a.n = true
  · have h2 : 1 ≤ a.n ∧ a.n ≤ 5000 := by unfold mayB at hm; simpa using hm
    obtain ⟨m, hma⟩ : ∃ m : Nat, a.n = m := ⟨a.n.toNat, by omega⟩
    have hum : u64n a.n = m := by unfold u64n; omega
    have HBY : Hid (∀ v, Calls Tryd.prog 29 #[.agg (attCells a).toArray] v fun e w' => ∃ A c, e = .returned (.tuple #[.slice A 104 c, .int .i64 0]) ∧ w'.ownsRow v.heap.size 5 1 (.slice A 104 c) 104 (byteVals (attBytes a (u64n a.n))) ∧ Chg none v w') := fun v => by rw [hum]; exact bytes_yes a m v hma hm
    have HRO : Hid (∀ v A c, Txt v A (attBytes a (u64n a.n)) → 104 ≤ c → Calls Tryd.prog 32 #[.slice A 104 c] v fun e w' => e = .returned (.tuple #[.agg (attCells a).toArray, .int .i64 0]) ∧ Chg none v w') := fun v A c h hc => by
      have := read_own a ⟨A, attBytes a (u64n a.n), c⟩ v ha hm ⟨h, by show (attBytes a (u64n a.n)).length ≤ c; rw [attBytes_len]; exact hc⟩ rfl
      dsimp only at this
      rwa [attBytes_len] at this
    have HN46 : Hid (∀ v : World, (binOp .neq 46 (.agg (attCells a).toArray) (.agg (attCells a).toArray)).run Tryd.prog v = .ok (.bool false) v) := fun v => by rw [neq46, sameAtt_self]; rfl
    have HXA := Lib.hid (info46a a)
    have HXO := Lib.hid (attCells_one a)
    have HXZ : Hid (Tryd.zeroCells46.size = (attCells a).toArray.size) := by show _ = _; rw [zero46, List.size_toArray, List.size_toArray, attCells_len, attCells_len]
    have HXN := Lib.hid (fun v => new_att v a)
    rw [hm] at HMA
    rw [← hCA] at HBY HRO HN46 HXA HXO HXZ HXN
    obtain ⟨AX, hAX⟩ : ∃ AX, AX = attBytes a (u64n a.n) := ⟨_, rfl⟩
    obtain ⟨QX, hQX⟩ : ∃ QX, QX = attBytes q (u64n q.n) := ⟨_, rfl⟩
    rw [← hAX] at HQA HSL HL1 HBY HRO
    rw [← hQX] at HQB HSL HL2
    have HBL := Lib.hid HSL.out
    generalize lessB a q = LB at *
    clear hCA hCB hm hp hT h1 HKR HSL hAX hQX ha hb hum hma h2
    go_enter Tryd.func11, Tryd.ntmps11
    go_upto_region 1 with fail
    rw [HW2.out]
    clear HW2
    generalize w.heap.size + 1 = pB at *
    generalize w.heap.size = pA at *
    go_upto_region 3 with fail
    go_wp2_with (refine wpList_load_mid rfl 46 _ rfl pA 0 rfl (attCells a) _ HA2.out Tryd.underlying46 rfl HIA.out ?_; rw [← HCA.out])
    refine (HBY.out _).mono ?_
    rintro e w1 ⟨A1, c1, rfl, hown, g1⟩
    have HT1 := Lib.hid ((own_txt hown).1)
    have hc1 := (own_txt hown).2.2
    go_upto_region 4 with fail
    have E0 := (gR.trans g1).drew
    have G0 := g1.drew
    have X0 : Txt w1.drew A1 AX := HT1.out.chg (Chg.refl none w1).drew
    have hS0 : w1.drew.rangeAt pA 0 (attCells a) ∧ w1.drew.rangeAt pB 0 (attCells q) := ⟨HAR.out _ g1.drew, HBR.out _ g1.drew⟩
    clear HA2 HBY gR g1 hown HT1
    refine wp_region_held_drew (S := fun w' => w'.rangeAt pA 0 (attCells a) ∧ w'.rangeAt pB 0 (attCells q)) (by kernel_rfl) hS0 (fun _ => ?_)
    generalize w1.drew = v0 at *
    refine wpAnyH_take (i := 0) (oi := ⟨some 22, _, _, _, _, _⟩) (v := ?_) rfl (by kernel_rfl) (by kernel_rfl) (by kernel_rfl) (fun _ _ _ h => h) (Or.inl ⟨by rfl, ?_⟩) (by assumption) ?_
    rotate_left
    · intro w hSw; (try dsimp only at hSw); go_simp; (try with_reducible rfl)
    try simp only [Act.put, List.setIfInBounds_toArray, List.set_cons_zero, List.set_cons_succ]
    refine wpAnyH_take (i := 1) (oi := ⟨some 23, _, _, _, _, _⟩) (v := ?_) rfl (by kernel_rfl) (by kernel_rfl) (by kernel_rfl) (fun _ _ _ h => h) (Or.inl ⟨by rfl, ?_⟩) (by assumption) ?_
    rotate_left
    · intro w hSw; (try dsimp only at hSw); go_simp; (try with_reducible rfl)
    try simp only [Act.put, List.setIfInBounds_toArray, List.set_cons_zero, List.set_cons_succ]
    refine wpAnyH_take (i := 2) (oi := ⟨some 24, _, _, _, _, _⟩) (v := .agg CA) rfl (by kernel_rfl) (by kernel_rfl) (by kernel_rfl) (fun _ _ _ h => h) (by rw [HCA.out]; exact yieldsIf_load_mid (by rfl) 46 _ rfl pA 0 rfl (attCells a) _ (fun _ h => h.1) Tryd.underlying46 rfl HIA.out) (by assumption) ?_
    try simp only [Act.put, List.setIfInBounds_toArray, List.set_cons_zero, List.set_cons_succ]
    refine wpAnyH_ready (rs := [3]) (by kernel_rfl) (by simp) ?_
    refine AllReadyH.cons (o := ⟨some 25, _, _, _, _, _⟩) rfl (fun K hK => ?_) (AllReadyH.nil)
    go_simp
    go_at_call 28
    refine (HMA.out _).mono ?_
    rintro e v1 ⟨rfl, g1⟩
    have hS1 : v1.rangeAt pA 0 (attCells a) ∧ v1.rangeAt pB 0 (attCells q) := ⟨rangeAt_chg hS0.1 g1 (by simp), rangeAt_chg hS0.2 g1 (by simp)⟩
    have E1 := E0.trans g1
    have G1 := G0.trans g1
    have X1 := X0.chg g1
    go_wp2_with fail
    refine hK.out _ _ hS1 (fun _ => ?_)
    clear hK K
    try simp only [Act.put, List.setIfInBounds_toArray, List.set_cons_zero, List.set_cons_succ]
    refine wpAnyH_take (i := 4) (oi := ⟨some 26, _, _, _, _, _⟩) (v := ?_) rfl (by kernel_rfl) (by kernel_rfl) (by kernel_rfl) (fun _ _ _ h => h) (Or.inl ⟨by rfl, ?_⟩) (by assumption) ?_
    rotate_left
    · intro w hSw; (try dsimp only at hSw); go_simp; (try with_reducible rfl)
    try simp only [Act.put, List.setIfInBounds_toArray, List.set_cons_zero, List.set_cons_succ]
    refine wpAnyH_take (i := 5) (oi := ⟨some 27, _, _, _, _, _⟩) (v := ?_) rfl (by kernel_rfl) (by kernel_rfl) (by kernel_rfl) (fun _ _ _ h => h) (Or.inl ⟨by rfl, ?_⟩) (by assumption) ?_
    rotate_left
    · intro w hSw; (try dsimp only at hSw); go_simp; (try with_reducible rfl)
    try simp only [Act.put, List.setIfInBounds_toArray, List.set_cons_zero, List.set_cons_succ]
    refine wpAnyH_take (i := 6) (oi := ⟨some 28, _, _, _, _, _⟩) (v := ?_) rfl (by kernel_rfl) (by kernel_rfl) (by kernel_rfl) (fun _ _ _ h => h) (Or.inl ⟨by rfl, ?_⟩) (by assumption) ?_
    rotate_left
    · intro w hSw; (try dsimp only at hSw); go_simp; (try with_reducible rfl)
    try simp only [Act.put, List.setIfInBounds_toArray, List.set_cons_zero, List.set_cons_succ]
    refine wpAnyH_take (i := 7) (oi := ⟨some 29, _, _, _, _, _⟩) (v := ?_) rfl (by kernel_rfl) (by kernel_rfl) (by kernel_rfl) (fun _ _ _ h => h) (Or.inl ⟨by rfl, ?_⟩) (by assumption) ?_
    rotate_left
    · intro w hSw; (try dsimp only at hSw); go_simp; (try with_reducible rfl)
    try simp only [Act.put, List.setIfInBounds_toArray, List.set_cons_zero, List.set_cons_succ]
    refine wpAnyH_take (i := 8) (oi := ⟨some 30, _, _, _, _, _⟩) (v := ?_) rfl (by kernel_rfl) (by kernel_rfl) (by kernel_rfl) (fun _ _ _ h => h) (Or.inl ⟨by rfl, ?_⟩) (by assumption) ?_
    rotate_left
    · intro w hSw; (try dsimp only at hSw); go_simp; (try with_reducible rfl)
    try simp only [Act.put, List.setIfInBounds_toArray, List.set_cons_zero, List.set_cons_succ]
    refine wpAnyH_take (i := 9) (oi := ⟨some 31, _, _, _, _, _⟩) (v := undef) rfl (by kernel_rfl) (by kernel_rfl) (by kernel_rfl) (fun _ _ _ h => h) (Or.inr ⟨by rfl, rfl⟩) (by assumption) ?_
    try simp only [Act.put, List.setIfInBounds_toArray, List.set_cons_zero, List.set_cons_succ]
    refine wpAnyH_take (i := 10) (oi := ⟨some 32, _, _, _, _, _⟩) (v := undef) rfl (by kernel_rfl) (by kernel_rfl) (by kernel_rfl) (fun _ _ _ h => h) (Or.inr ⟨by rfl, rfl⟩) (by assumption) ?_
    try simp only [Act.put, List.setIfInBounds_toArray, List.set_cons_zero, List.set_cons_succ]
    refine wpAnyH_take (i := 11) (oi := ⟨some 33, _, _, _, _, _⟩) (v := undef) rfl (by kernel_rfl) (by kernel_rfl) (by kernel_rfl) (fun _ _ _ h => h) (Or.inr ⟨by rfl, rfl⟩) (by assumption) ?_
    try simp only [Act.put, List.setIfInBounds_toArray, List.set_cons_zero, List.set_cons_succ]
    refine wpAnyH_take (i := 12) (oi := ⟨some 34, _, _, _, _, _⟩) (v := undef) rfl (by kernel_rfl) (by kernel_rfl) (by kernel_rfl) (fun _ _ _ h => h) (Or.inr ⟨by rfl, rfl⟩) (by assumption) ?_
    try simp only [Act.put, List.setIfInBounds_toArray, List.set_cons_zero, List.set_cons_succ]
    refine wpAnyH_take (i := 13) (oi := ⟨some 35, _, _, _, _, _⟩) (v := undef) rfl (by kernel_rfl) (by kernel_rfl) (by kernel_rfl) (fun _ _ _ h => h) (Or.inr ⟨by rfl, rfl⟩) (by assumption) ?_
    try simp only [Act.put, List.setIfInBounds_toArray, List.set_cons_zero, List.set_cons_succ]
    refine wpAnyH_take (i := 14) (oi := ⟨some 36, _, _, _, _, _⟩) (v := undef) rfl (by kernel_rfl) (by kernel_rfl) (by kernel_rfl) (fun _ _ _ h => h) (Or.inr ⟨by rfl, rfl⟩) (by assumption) ?_
    try simp only [Act.put, List.setIfInBounds_toArray, List.set_cons_zero, List.set_cons_succ]
    refine wpAnyH_take (i := 15) (oi := ⟨some 37, _, _, _, _, _⟩) (v := undef) rfl (by kernel_rfl) (by kernel_rfl) (by kernel_rfl) (fun _ _ _ h => h) (Or.inr ⟨by rfl, rfl⟩) (by assumption) ?_
    try simp only [Act.put, List.setIfInBounds_toArray, List.set_cons_zero, List.set_cons_succ]
    refine wpAnyH_take (i := 16) (oi := ⟨some 38, _, _, _, _, _⟩) (v := ?_) rfl (by kernel_rfl) (by kernel_rfl) (by kernel_rfl) (fun _ _ _ h => h) (Or.inl ⟨by rfl, ?_⟩) (by assumption) ?_
    rotate_left
    · intro w hSw; (try dsimp only at hSw); go_simp; (try with_reducible rfl)
    try simp only [Act.put, List.setIfInBounds_toArray, List.set_cons_zero, List.set_cons_succ]
    refine wpAnyH_take (i := 17) (oi := ⟨some 39, _, _, _, _, _⟩) (v := ?_) rfl (by kernel_rfl) (by kernel_rfl) (by kernel_rfl) (fun _ _ _ h => h) (Or.inl ⟨by rfl, ?_⟩) (by assumption) ?_
    rotate_left
    · intro w hSw; (try dsimp only at hSw); go_simp; (try with_reducible rfl)
    try simp only [Act.put, List.setIfInBounds_toArray, List.set_cons_zero, List.set_cons_succ]
    refine wpAnyH_take (i := 18) (oi := ⟨some 40, _, _, _, _, _⟩) (v := ?_) rfl (by kernel_rfl) (by kernel_rfl) (by kernel_rfl) (fun _ _ _ h => h) (Or.inl ⟨by rfl, ?_⟩) (by assumption) ?_
    rotate_left
    · intro w hSw; (try dsimp only at hSw); go_simp; (try with_reducible rfl)
    try simp only [Act.put, List.setIfInBounds_toArray, List.set_cons_zero, List.set_cons_succ]
    refine wpAnyH_take (i := 19) (oi := ⟨some 41, _, _, _, _, _⟩) (v := .agg CA) rfl (by kernel_rfl) (by kernel_rfl) (by kernel_rfl) (fun _ _ _ h => h) (by rw [HCA.out]; exact yieldsIf_load_mid (by rfl) 46 _ rfl pA 0 rfl (attCells a) _ (fun _ h => h.1) Tryd.underlying46 rfl HIA.out) (by assumption) ?_
    try simp only [Act.put, List.setIfInBounds_toArray, List.set_cons_zero, List.set_cons_succ]
    refine wpAnyH_take (i := 20) (oi := ⟨some 42, _, _, _, _, _⟩) (v := .agg CB) rfl (by kernel_rfl) (by kernel_rfl) (by kernel_rfl) (fun _ _ _ h => h) (by rw [HCB.out]; exact yieldsIf_load_mid (by rfl) 46 _ rfl pB 0 rfl (attCells q) _ (fun _ h => h.2) Tryd.underlying46 rfl HIB.out) (by assumption) ?_
    try simp only [Act.put, List.setIfInBounds_toArray, List.set_cons_zero, List.set_cons_succ]
    refine wpAnyH_take (i := 22) (oi := ⟨some 44, _, _, _, _, _⟩) (v := .agg CA) rfl (by kernel_rfl) (by kernel_rfl) (by kernel_rfl) (fun _ _ _ h => h) (by rw [HCA.out]; exact yieldsIf_load_mid (by rfl) 46 _ rfl pA 0 rfl (attCells a) _ (fun _ h => h.1) Tryd.underlying46 rfl HIA.out) (by assumption) ?_
    try simp only [Act.put, List.setIfInBounds_toArray, List.set_cons_zero, List.set_cons_succ]
    refine wpAnyH_take (i := 25) (oi := ⟨some 47, _, _, _, _, _⟩) (v := .agg CB) rfl (by kernel_rfl) (by kernel_rfl) (by kernel_rfl) (fun _ _ _ h => h) (by rw [HCB.out]; exact yieldsIf_load_mid (by rfl) 46 _ rfl pB 0 rfl (attCells q) _ (fun _ h => h.2) Tryd.underlying46 rfl HIB.out) (by assumption) ?_
    try simp only [Act.put, List.setIfInBounds_toArray, List.set_cons_zero, List.set_cons_succ]
    refine wpAnyH_ready (rs := [21]) (by kernel_rfl) (by simp) ?_
    refine AllReadyH.cons (o := ⟨some 43, _, _, _, _, _⟩) rfl (fun K hK => ?_) (AllReadyH.nil)
    go_simp
    go_at_call 30
    refine (HLS.out _).mono ?_
    rintro e v2 ⟨rfl, g2⟩
    have hS2 : v2.rangeAt pA 0 (attCells a) ∧ v2.rangeAt pB 0 (attCells q) := ⟨rangeAt_chg hS1.1 g2 (by simp), rangeAt_chg hS1.2 g2 (by simp)⟩
    have E2 := E1.trans g2
    have G2 := G1.trans g2
    have X2 := X1.chg g2
    go_wp2_with fail
    refine hK.out _ _ hS2 (fun _ => ?_)
    clear hK K
    try simp only [Act.put, List.setIfInBounds_toArray, List.set_cons_zero, List.set_cons_succ]
    refine wpAnyH_ready (rs := [23]) (by kernel_rfl) (by simp) ?_
    refine AllReadyH.cons (o := ⟨some 45, _, _, _, _, _⟩) rfl (fun K hK => ?_) (AllReadyH.nil)
    go_simp
    go_at_call 31
    refine (HQA.out _).mono ?_
    rintro e v3 ⟨A3, c3, rfl, hown3, g3⟩
    have hta3 := (own_txt hown3).1
    have hS3 : v3.rangeAt pA 0 (attCells a) ∧ v3.rangeAt pB 0 (attCells q) := ⟨rangeAt_chg hS2.1 g3 (by simp), rangeAt_chg hS2.2 g3 (by simp)⟩
    have E3 := E2.trans g3
    have G3 := G2.trans g3
    have X3 := X2.chg g3
    clear hown3
    go_wp2_with fail
    refine hK.out _ _ hS3 (fun _ => ?_)
    clear hK K
    try simp only [Act.put, List.setIfInBounds_toArray, List.set_cons_zero, List.set_cons_succ]
    refine wpAnyH_ready (rs := [24, 26]) (by kernel_rfl) (by simp) ?_
    refine AllReadyH.cons (o := ⟨some 46, _, _, _, _, _⟩) rfl (fun K hK => ?_) (AllReadyH.cons (o := ⟨some 48, _, _, _, _, _⟩) rfl (fun K hK => ?_) (AllReadyH.nil))
    · as_aux_lemma =>
        have hcv24 := HCV.out v3 A3 104 c3 _ hta3 HL1.out
        go_simp
        refine hK.out _ _ hS3 (fun _ => ?_)
        clear hK K
        try simp only [Act.put, List.setIfInBounds_toArray, List.set_cons_zero, List.set_cons_succ]
        refine wpAnyH_ready (rs := [26]) (by kernel_rfl) (by simp) ?_
        refine AllReadyH.cons (o := ⟨some 48, _, _, _, _, _⟩) rfl (fun K hK => ?_) (AllReadyH.nil)
        go_simp
        go_at_call 31
        refine (HQB.out _).mono ?_
        rintro e v4 ⟨A5, c5, rfl, hown4, g4⟩
        have htq4 := (own_txt hown4).1
        have hta4 := hta3.chg g4
        have hS4 : v4.rangeAt pA 0 (attCells a) ∧ v4.rangeAt pB 0 (attCells q) := ⟨rangeAt_chg hS3.1 g4 (by simp), rangeAt_chg hS3.2 g4 (by simp)⟩
        have E4 := E3.trans g4
        have G4 := G3.trans g4
        have X4 := X3.chg g4
        clear hown4
        go_wp2_with fail
        refine hK.out _ _ hS4 (fun _ => ?_)
        clear hK K
        try simp only [Act.put, List.setIfInBounds_toArray, List.set_cons_zero, List.set_cons_succ]
        refine wpAnyH_ready (rs := [27]) (by kernel_rfl) (by simp) ?_
        refine AllReadyH.cons (o := ⟨some 49, _, _, _, _, _⟩) rfl (fun K hK => ?_) (AllReadyH.nil)
        have hcv27 := HCV.out v4 A5 104 c5 _ htq4 HL2.out
        go_simp
        refine hK.out _ _ hS4 (fun _ => ?_)
        clear hK K
        try simp only [Act.put, List.setIfInBounds_toArray, List.set_cons_zero, List.set_cons_succ]
        refine wpAnyH_take (i := 28) (oi := ⟨some 50, _, _, _, _, _⟩) (v := .bool LB) rfl (by kernel_rfl) (by kernel_rfl) (by kernel_rfl) (fun _ _ _ h => h) (Or.inl ⟨by rfl, ?_⟩) (by assumption) ?_
        · intro w _; have hb := HBL.out; go_simp
        try simp only [Act.put, List.setIfInBounds_toArray, List.set_cons_zero, List.set_cons_succ]
        refine wpAnyH_take (i := 29) (oi := ⟨some 51, _, _, _, _, _⟩) (v := .bool false) rfl (by kernel_rfl) (by kernel_rfl) (by kernel_rfl) (fun _ _ _ h => h) (Or.inl ⟨by rfl, ?_⟩) (by assumption) ?_
        · intro w _; cases LB <;> go_simp
        try simp only [Act.put, List.setIfInBounds_toArray, List.set_cons_zero, List.set_cons_succ]
        refine wpAnyH_take (i := 30) (oi := ⟨some 52, _, _, _, _, _⟩) (v := ?_) rfl (by kernel_rfl) (by kernel_rfl) (by kernel_rfl) (fun _ _ _ h => h) (Or.inl ⟨by rfl, ?_⟩) (by assumption) ?_
        rotate_left
        · intro w hSw; (try dsimp only at hSw); go_simp; (try with_reducible rfl)
        try simp only [Act.put, List.setIfInBounds_toArray, List.set_cons_zero, List.set_cons_succ]
        refine wpAnyH_done (by kernel_rfl) ?_ _
        try simp only [Act.put]
        have HRO7 := Lib.hid (HRO.out v4 A1 c1 X4 hc1)
        have hA7 := Lib.hid hS4.1
        have X7 := Lib.hid X4
        have E7 := E4
        clear HMA HLS HQB HBR HRO HCV
        go_wp2_with fail
        refine HRO7.out.mono ?_
        rintro e w5 ⟨rfl, g5⟩
        obtain ⟨gn, bX⟩ := HXN.out w5
        obtain ⟨U, hU⟩ : ∃ U, U = (w5.alloc (.cells Tryd.zeroCells46 46)).setRow w5.heap.size CA := ⟨_, rfl⟩
        have HU : Hid ((w5.alloc (.cells Tryd.zeroCells46 46)).setRow w5.heap.size CA = U) := hU.symm
        rw [← hU] at gn bX
        have HNW := Lib.hid (heap_alloc_new w5 (.cells Tryd.zeroCells46 46))
        have gU : Chg none v4 U := g5.trans gn
        have EU : Chg none w U := E7.trans gU
        clear hU HXN E7
        go_upto_region 8 with (refine wpList_store_row rfl 46 _ _ rfl w5.heap.size CA rfl rfl 46 _ HNW.out HXA.out HXZ.out HXO.out ?_)
        rw [HU.out]
        clear HU HNW HRO7
        generalize w5.heap.size = pX at *
        have hS6 : U.drew.rangeAt pA 0 (attCells a) ∧ U.drew.rangeAt pX 0 (attCells a) ∧ Txt U.drew A1 AX := ⟨rangeAt_chg hA7.out gU.drew (by simp), Blk.range (w := U.drew) (T := 46) bX, X7.out.chg gU.drew⟩
        have E6 := EU.drew
        clear gU EU bX hA7 X7
        refine wp_region_held_drew (S := fun w' => w'.rangeAt pA 0 (attCells a) ∧ w'.rangeAt pX 0 (attCells a) ∧ Txt w' A1 AX) (by kernel_rfl) hS6 (fun _ => ?_)
        generalize U.drew = v6 at *
        refine wpAnyH_take (i := 0) (oi := ⟨some 60, _, _, _, _, _⟩) (v := ?_) rfl (by kernel_rfl) (by kernel_rfl) (by kernel_rfl) (fun _ _ _ h => h) (Or.inl ⟨by rfl, ?_⟩) (by assumption) ?_
        rotate_left
        · intro w hSw; (try dsimp only at hSw); go_simp; (try with_reducible rfl)
        try simp only [Act.put, List.setIfInBounds_toArray, List.set_cons_zero, List.set_cons_succ]
        refine wpAnyH_take (i := 1) (oi := ⟨some 61, _, _, _, _, _⟩) (v := .string ⟨AX.toArray⟩) rfl (by kernel_rfl) (by kernel_rfl) (by kernel_rfl) (fun _ _ _ h => h) (Or.inl ⟨by rfl, ?_⟩) (by assumption) ?_
        · intro w hSw; have hcv := HCV8.out w A1 104 c1 AX hSw.2.2 HL1.out; go_simp
        try simp only [Act.put, List.setIfInBounds_toArray, List.set_cons_zero, List.set_cons_succ]
        refine wpAnyH_take (i := 2) (oi := ⟨some 62, _, _, _, _, _⟩) (v := .agg CA) rfl (by kernel_rfl) (by kernel_rfl) (by kernel_rfl) (fun _ _ _ h => h) (by rw [HCA.out]; exact yieldsIf_load_mid (by rfl) 46 _ rfl pA 0 rfl (attCells a) _ (fun _ h => h.1) Tryd.underlying46 rfl HIA.out) (by assumption) ?_
        try simp only [Act.put, List.setIfInBounds_toArray, List.set_cons_zero, List.set_cons_succ]
        refine wpAnyH_ready (rs := [3]) (by kernel_rfl) (by simp) ?_
        refine AllReadyH.cons (o := ⟨some 63, _, _, _, _, _⟩) rfl (fun K hK => ?_) (AllReadyH.nil)
        go_simp
        go_at_call 31
        refine (HQA.out _).mono ?_
        rintro e v7 ⟨A7, c7, rfl, hown7, g7⟩
        have hta7 := (own_txt hown7).1
        have hS7 : v7.rangeAt pA 0 (attCells a) ∧ v7.rangeAt pX 0 (attCells a) ∧ Txt v7 A1 AX := ⟨rangeAt_chg hS6.1 g7 (by simp), rangeAt_chg hS6.2.1 g7 (by simp), hS6.2.2.chg g7⟩
        have E7 := E6.trans g7
        clear hown7
        go_wp2_with fail
        refine hK.out _ _ hS7 (fun _ => ?_)
        clear hK K
        try simp only [Act.put, List.setIfInBounds_toArray, List.set_cons_zero, List.set_cons_succ]
        refine wpAnyH_ready (rs := [4]) (by kernel_rfl) (by simp) ?_
        refine AllReadyH.cons (o := ⟨some 64, _, _, _, _, _⟩) rfl (fun K hK => ?_) (AllReadyH.nil)
        have hcv4 := HCV8.out v7 A7 104 c7 _ hta7 HL1.out
        go_simp
        refine hK.out _ _ hS7 (fun _ => ?_)
        clear hK K
        try simp only [Act.put, List.setIfInBounds_toArray, List.set_cons_zero, List.set_cons_succ]
        refine wpAnyH_take (i := 5) (oi := ⟨some 65, _, _, _, _, _⟩) (v := .bool false) rfl (by kernel_rfl) (by kernel_rfl) (by kernel_rfl) (fun _ _ _ h => h) (Or.inl ⟨by rfl, ?_⟩) (by assumption) ?_
        · intro w _; have hq := ne9_same ⟨AX.toArray⟩ w; go_simp
        try simp only [Act.put, List.setIfInBounds_toArray, List.set_cons_zero, List.set_cons_succ]
        refine wpAnyH_take (i := 6) (oi := ⟨some 66, _, _, _, _, _⟩) (v := ?_) rfl (by kernel_rfl) (by kernel_rfl) (by kernel_rfl) (fun _ _ _ h => h) (Or.inl ⟨by rfl, ?_⟩) (by assumption) ?_
        rotate_left
        · intro w hSw; (try dsimp only at hSw); go_simp; (try with_reducible rfl)
        try simp only [Act.put, List.setIfInBounds_toArray, List.set_cons_zero, List.set_cons_succ]
        refine wpAnyH_take (i := 7) (oi := ⟨some 67, _, _, _, _, _⟩) (v := .agg CA) rfl (by kernel_rfl) (by kernel_rfl) (by kernel_rfl) (fun _ _ _ h => h) (by rw [HCA.out]; exact yieldsIf_load_mid (by rfl) 46 _ rfl pX 0 rfl (attCells a) _ (fun _ h => h.2.1) Tryd.underlying46 rfl HIA.out) (by assumption) ?_
        try simp only [Act.put, List.setIfInBounds_toArray, List.set_cons_zero, List.set_cons_succ]
        refine wpAnyH_take (i := 8) (oi := ⟨some 68, _, _, _, _, _⟩) (v := .agg CA) rfl (by kernel_rfl) (by kernel_rfl) (by kernel_rfl) (fun _ _ _ h => h) (by rw [HCA.out]; exact yieldsIf_load_mid (by rfl) 46 _ rfl pA 0 rfl (attCells a) _ (fun _ h => h.1) Tryd.underlying46 rfl HIA.out) (by assumption) ?_
        try simp only [Act.put, List.setIfInBounds_toArray, List.set_cons_zero, List.set_cons_succ]
        refine wpAnyH_take (i := 9) (oi := ⟨some 69, _, _, _, _, _⟩) (v := .bool false) rfl (by kernel_rfl) (by kernel_rfl) (by kernel_rfl) (fun _ _ _ h => h) (Or.inl ⟨by rfl, ?_⟩) (by assumption) ?_
        · intro w _; exact exec_neq46 _ _ (.tmp 67) (.tmp 68) CA rfl (by rfl) (by rfl) HN46.out w
        try simp only [Act.put, List.setIfInBounds_toArray, List.set_cons_zero, List.set_cons_succ]
        refine wpAnyH_take (i := 10) (oi := ⟨some 70, _, _, _, _, _⟩) (v := ?_) rfl (by kernel_rfl) (by kernel_rfl) (by kernel_rfl) (fun _ _ _ h => h) (Or.inl ⟨by rfl, ?_⟩) (by assumption) ?_
        rotate_left
        · intro w hSw; (try dsimp only at hSw); go_simp; (try with_reducible rfl)
        try simp only [Act.put, List.setIfInBounds_toArray, List.set_cons_zero, List.set_cons_succ]
        refine wpAnyH_take (i := 11) (oi := ⟨some 71, _, _, _, _, _⟩) (v := ?_) rfl (by kernel_rfl) (by kernel_rfl) (by kernel_rfl) (fun _ _ _ h => h) (Or.inl ⟨by rfl, ?_⟩) (by assumption) ?_
        rotate_left
        · intro w hSw; (try dsimp only at hSw); go_simp; (try with_reducible rfl)
        try simp only [Act.put, List.setIfInBounds_toArray, List.set_cons_zero, List.set_cons_succ]
        refine wpAnyH_take (i := 12) (oi := ⟨some 72, _, _, _, _, _⟩) (v := ?_) rfl (by kernel_rfl) (by kernel_rfl) (by kernel_rfl) (fun _ _ _ h => h) (Or.inl ⟨by rfl, ?_⟩) (by assumption) ?_
        rotate_left
        · intro w hSw; (try dsimp only at hSw); go_simp; (try with_reducible rfl)
        try simp only [Act.put, List.setIfInBounds_toArray, List.set_cons_zero, List.set_cons_succ]
        refine wpAnyH_take (i := 13) (oi := ⟨some 73, _, _, _, _, _⟩) (v := ?_) rfl (by kernel_rfl) (by kernel_rfl) (by kernel_rfl) (fun _ _ _ h => h) (Or.inl ⟨by rfl, ?_⟩) (by assumption) ?_
        rotate_left
        · intro w hSw; (try dsimp only at hSw); go_simp; (try with_reducible rfl)
        try simp only [Act.put, List.setIfInBounds_toArray, List.set_cons_zero, List.set_cons_succ]
        refine wpAnyH_take (i := 14) (oi := ⟨some 74, _, _, _, _, _⟩) (v := ?_) rfl (by kernel_rfl) (by kernel_rfl) (by kernel_rfl) (fun _ _ _ h => h) (Or.inl ⟨by rfl, ?_⟩) (by assumption) ?_
        rotate_left
        · intro w hSw; (try dsimp only at hSw); go_simp; (try with_reducible rfl)
        try simp only [Act.put, List.setIfInBounds_toArray, List.set_cons_zero, List.set_cons_succ]
        refine wpAnyH_done (by kernel_rfl) ?_ _
        try simp only [Act.put]
        have HRB := Lib.hid (HRDB.out v7 E7)
        have EB := E7
        clear HRDB HAR HL2
        go_wp2_with fail
        refine HRB.out.mono ?_
        rintro e w8 ⟨z, n, rfl, g8, hz⟩
        obtain ⟨CY, hCY⟩ : ∃ CY, CY = (attCells z).toArray := ⟨_, rfl⟩
        have HCY := Lib.hid hCY
        obtain ⟨gn, bY⟩ := new_att w8 z
        have HIY : Hid ((Tryd.prog.info? 46).map (·.size) = some CY.size) := by rw [hCY]; exact info46a z
        have HIZ := Lib.hid (info46 z)
        have HOY : Hid (CY.all (·.oneCell') = true) := by rw [hCY]; exact attCells_one z
        have HZY : Hid (Tryd.zeroCells46.size = CY.size) := by show _ = _; rw [hCY, zero46, List.size_toArray, List.size_toArray, attCells_len, attCells_len]
        obtain ⟨U9, hU⟩ : ∃ U9, U9 = (w8.alloc (.cells Tryd.zeroCells46 46)).setRow w8.heap.size CY := ⟨_, rfl⟩
        have HU : Hid ((w8.alloc (.cells Tryd.zeroCells46 46)).setRow w8.heap.size CY = U9) := hU.symm
        rw [← hCY, ← hU] at gn
        rw [← hCY, ← hU] at bY
        have HNW := Lib.hid (heap_alloc_new w8 (.cells Tryd.zeroCells46 46))
        have EU : Chg none w U9 := (EB.trans g8).trans gn
        rw [← hCY]
        clear hU gn hCY
        go_upto_region 11 with (refine wpList_store_row rfl 46 _ _ rfl w8.heap.size CY rfl rfl 46 _ HNW.out HIY.out HZY.out HOY.out ?_)
        rw [HU.out]
        clear HU HNW HRB EB
        generalize w8.heap.size = pY at *
        have HYR := Lib.hid (Blk.range bY)
        have HKE := Lib.hid (HKN.out U9 EU)
        rcases hz with ⟨rfl, rfl, hz⟩ | ⟨rfl, hz1, hz2⟩
        · have HQ46 : Hid (∀ v : World, (binOp .eql 46 (.agg CY) (.agg Tryd.zeroCells46)).run Tryd.prog v = .ok (.bool true) v) := fun v => by rw [HCY.out, zero46, eql46, sameAtt_self]
          have hqe := HQ46.out
          have hg46 := guard46
          by_cases hl : p.x.length = 104
          · as_aux_lemma =>
            have HLE := Lib.hid (HLG.out U9 EU hl (hz hl))
            rw [hl] at HLE
            clear HLG HTP HCV8 HQA hz
            go_wp2_with (refine BigFrame.wpList_want rfl fun _ hK => wp_load_mid 46 _ rfl pY 0 rfl (attCells zeroAtt) _ HYR.out Tryd.underlying46 rfl HIZ.out (hK _ _ ?_); rw [← HCY.out])
            refine HLE.out.mono ?_
            rintro e u1 ⟨rfl, g1⟩
            have HKF := Lib.hid (HKN.out u1 (EU.trans g1))
            have EV := EU.trans g1
            go_wp2_with fail
            refine HKF.out.mono ?_
            rintro e u2 ⟨rfl, g2⟩
            go_wp2_with fail
            go_ret
            exact ⟨rfl, EV.trans g2⟩
          · as_aux_lemma =>
            have d2 : ((p.x.length : Int) == 104) = false := by simp; omega
            clear HLG HTP HCV8 HQA hz
            go_wp2_with (refine BigFrame.wpList_want rfl fun _ hK => wp_load_mid 46 _ rfl pY 0 rfl (attCells zeroAtt) _ HYR.out Tryd.underlying46 rfl HIZ.out (hK _ _ ?_); rw [← HCY.out])
            refine HKE.out.mono ?_
            rintro e u1 ⟨rfl, g1⟩
            go_wp2_with fail
            go_ret
            exact ⟨rfl, EU.trans g1⟩
        · as_aux_lemma =>
          have HMZ : Hid (∀ v, Calls Tryd.prog 28 #[.agg CY] v fun e w' => e = .returned (.bool true) ∧ Chg none v w') := fun v => by
            have := mayr_any z v
            rw [hz1] at this
            rw [HCY.out]; exact this
          have HQZ : Hid (∀ v, Calls Tryd.prog 31 #[.agg CY] v fun e w' => ∃ A c, e = .returned (.slice A 104 c) ∧ w'.ownsRow v.heap.size 5 1 (.slice A 104 c) 104 (byteVals p.x) ∧ Chg none v w') := fun v => by
            have := bytesq_any z v
            rw [hz2] at this
            rw [HCY.out]; exact this
          have HLX : Hid (104 = p.x.length) := by show _ = _; rw [← hz2, attBytes_len]
          obtain ⟨PX, hPX⟩ : ∃ PX, PX = p.x := ⟨_, rfl⟩
          have HPX := Lib.hid hPX
          rw [← hPX] at HQZ HLX
          have hS100 : U9.drew.rangeAt pY 0 (attCells z) ∧ Txt U9.drew p.A PX := ⟨Blk.range (w := U9.drew) (T := 46) bY, by rw [hPX]; exact HTP.out _ EU.drew⟩
          have E100 := EU.drew
          clear HLG HTP HQA hz1 hz2 HYR HKE bY hPX
          go_upto_region 13 with fail
          refine wp_region_held_drew (S := fun w' => w'.rangeAt pY 0 (attCells z) ∧ Txt w' p.A PX) (by kernel_rfl) hS100 (fun _ => ?_)
          clear EU
          generalize U9.drew = v100 at *
          refine wpAnyH_take (i := 0) (oi := ⟨some 102, _, _, _, _, _⟩) (v := .agg CY) rfl (by kernel_rfl) (by kernel_rfl) (by kernel_rfl) (fun _ _ _ h => h) (by rw [HCY.out]; exact yieldsIf_load_mid (by rfl) 46 _ rfl pY 0 rfl (attCells z) _ (fun _ h => h.1) Tryd.underlying46 rfl HIZ.out) (by assumption) ?_
          try simp only [Act.put, List.setIfInBounds_toArray, List.set_cons_zero, List.set_cons_succ]
          refine wpAnyH_ready (rs := [1]) (by kernel_rfl) (by simp) ?_
          refine AllReadyH.cons (o := ⟨some 103, _, _, _, _, _⟩) rfl (fun K hK => ?_) (AllReadyH.nil)
          go_simp
          go_at_call 28
          refine (HMZ.out _).mono ?_
          rintro e v101 ⟨rfl, g101⟩
          have hS101 : v101.rangeAt pY 0 (attCells z) ∧ Txt v101 p.A PX := ⟨rangeAt_chg hS100.1 g101 (by simp), hS100.2.chg g101⟩
          have E101 := E100.trans g101
          go_wp2_with fail
          refine hK.out _ _ hS101 (fun _ => ?_)
          clear hK K
          try simp only [Act.put, List.setIfInBounds_toArray, List.set_cons_zero, List.set_cons_succ]
          refine wpAnyH_take (i := 2) (oi := ⟨some 104, _, _, _, _, _⟩) (v := ?_) rfl (by kernel_rfl) (by kernel_rfl) (by kernel_rfl) (fun _ _ _ h => h) (Or.inl ⟨by rfl, ?_⟩) (by assumption) ?_
          rotate_left
          · intro w hSw; (try dsimp only at hSw); go_simp; (try with_reducible rfl)
          try simp only [Act.put, List.setIfInBounds_toArray, List.set_cons_zero, List.set_cons_succ]
          refine wpAnyH_take (i := 3) (oi := ⟨some 105, _, _, _, _, _⟩) (v := .agg CY) rfl (by kernel_rfl) (by kernel_rfl) (by kernel_rfl) (fun _ _ _ h => h) (by rw [HCY.out]; exact yieldsIf_load_mid (by rfl) 46 _ rfl pY 0 rfl (attCells z) _ (fun _ h => h.1) Tryd.underlying46 rfl HIZ.out) (by assumption) ?_
          try simp only [Act.put, List.setIfInBounds_toArray, List.set_cons_zero, List.set_cons_succ]
          refine wpAnyH_take (i := 6) (oi := ⟨some 108, _, _, _, _, _⟩) (v := ?_) rfl (by kernel_rfl) (by kernel_rfl) (by kernel_rfl) (fun _ _ _ h => h) (Or.inl ⟨by rfl, ?_⟩) (by assumption) ?_
          rotate_left
          · intro w hSw; (try dsimp only at hSw); go_simp; (try with_reducible rfl)
          try simp only [Act.put, List.setIfInBounds_toArray, List.set_cons_zero, List.set_cons_succ]
          refine wpAnyH_take (i := 7) (oi := ⟨some 109, _, _, _, _, _⟩) (v := .string ⟨PX.toArray⟩) rfl (by kernel_rfl) (by kernel_rfl) (by kernel_rfl) (fun _ _ _ h => h) (Or.inl ⟨by rfl, ?_⟩) (by assumption) ?_
          · intro w hSw; have hcv := HCV8.out w p.A p.x.length p.c PX hSw.2 (by rw [HPX.out]); go_simp
          try simp only [Act.put, List.setIfInBounds_toArray, List.set_cons_zero, List.set_cons_succ]
          refine wpAnyH_ready (rs := [4]) (by kernel_rfl) (by simp) ?_
          refine AllReadyH.cons (o := ⟨some 106, _, _, _, _, _⟩) rfl (fun K hK => ?_) (AllReadyH.nil)
          go_simp
          go_at_call 31
          refine (HQZ.out _).mono ?_
          rintro e v102 ⟨A9, c9, rfl, hown102, g102⟩
          have hta102 := (own_txt hown102).1
          have hS102 : v102.rangeAt pY 0 (attCells z) ∧ Txt v102 p.A PX := ⟨rangeAt_chg hS101.1 g102 (by simp), hS101.2.chg g102⟩
          have E102 := E101.trans g102
          clear hown102
          go_wp2_with fail
          refine hK.out _ _ hS102 (fun _ => ?_)
          clear hK K
          try simp only [Act.put, List.setIfInBounds_toArray, List.set_cons_zero, List.set_cons_succ]
          refine wpAnyH_ready (rs := [5]) (by kernel_rfl) (by simp) ?_
          refine AllReadyH.cons (o := ⟨some 107, _, _, _, _, _⟩) rfl (fun K hK => ?_) (AllReadyH.nil)
          have hcv5 := HCV8.out v102 A9 104 c9 _ hta102 HLX.out
          go_simp
          refine hK.out _ _ hS102 (fun _ => ?_)
          clear hK K
          try simp only [Act.put, List.setIfInBounds_toArray, List.set_cons_zero, List.set_cons_succ]
          refine wpAnyH_take (i := 8) (oi := ⟨some 110, _, _, _, _, _⟩) (v := .bool true) rfl (by kernel_rfl) (by kernel_rfl) (by kernel_rfl) (fun _ _ _ h => h) (Or.inl ⟨by rfl, ?_⟩) (by assumption) ?_
          · intro w _; have hq := HQ9.out ⟨PX.toArray⟩ w; go_simp
          try simp only [Act.put, List.setIfInBounds_toArray, List.set_cons_zero, List.set_cons_succ]
          refine wpAnyH_take (i := 9) (oi := ⟨some 111, _, _, _, _, _⟩) (v := ?_) rfl (by kernel_rfl) (by kernel_rfl) (by kernel_rfl) (fun _ _ _ h => h) (Or.inl ⟨by rfl, ?_⟩) (by assumption) ?_
          rotate_left
          · intro w hSw; (try dsimp only at hSw); go_simp; (try with_reducible rfl)
          try simp only [Act.put, List.setIfInBounds_toArray, List.set_cons_zero, List.set_cons_succ]
          refine wpAnyH_take (i := 10) (oi := ⟨some 112, _, _, _, _, _⟩) (v := ?_) rfl (by kernel_rfl) (by kernel_rfl) (by kernel_rfl) (fun _ _ _ h => h) (Or.inl ⟨by rfl, ?_⟩) (by assumption) ?_
          rotate_left
          · intro w hSw; (try dsimp only at hSw); go_simp; (try with_reducible rfl)
          try simp only [Act.put, List.setIfInBounds_toArray, List.set_cons_zero, List.set_cons_succ]
          refine wpAnyH_ready (rs := [11]) (by kernel_rfl) (by simp) ?_
          refine AllReadyH.cons (o := ⟨some 113, _, _, _, _, _⟩) rfl (fun K hK => ?_) (AllReadyH.nil)
          go_simp
          go_at_call 24
          refine (HKN.out _ E102).mono ?_
          rintro e v103 ⟨rfl, g103⟩
          have hS103 : v103.rangeAt pY 0 (attCells z) ∧ Txt v103 p.A PX := ⟨rangeAt_chg hS102.1 g103 (by simp), hS102.2.chg g103⟩
          have E103 := E102.trans g103
          go_wp2_with fail
          refine hK.out _ _ hS103 (fun _ => ?_)
          clear hK K
          try simp only [Act.put, List.setIfInBounds_toArray, List.set_cons_zero, List.set_cons_succ]
          refine wpAnyH_take (i := 12) (oi := ⟨some 114, _, _, _, _, _⟩) (v := ?_) rfl (by kernel_rfl) (by kernel_rfl) (by kernel_rfl) (fun _ _ _ h => h) (Or.inl ⟨by rfl, ?_⟩) (by assumption) ?_
          rotate_left
          · intro w hSw; (try dsimp only at hSw); go_simp; (try with_reducible rfl)
          try simp only [Act.put, List.setIfInBounds_toArray, List.set_cons_zero, List.set_cons_succ]
          refine wpAnyH_take (i := 13) (oi := ⟨some 6, _, _, _, _, _⟩) (v := ?_) rfl (by kernel_rfl) (by kernel_rfl) (by kernel_rfl) (fun _ _ _ h => h) (Or.inl ⟨by rfl, ?_⟩) (by assumption) ?_
          rotate_left
          · intro w hSw; (try dsimp only at hSw); go_simp; (try with_reducible rfl)
          try simp only [Act.put, List.setIfInBounds_toArray, List.set_cons_zero, List.set_cons_succ]
          refine wpAnyH_done (by kernel_rfl) ?_ _
          try simp only [Act.put]
          go_wp2_with fail
          go_ret
          exact ⟨rfl, E103⟩
    · as_aux_lemma =>
        go_simp
        go_at_call 31
        refine (HQB.out _).mono ?_
        rintro e v9 ⟨A5, c5, rfl, hown9, g9⟩
        have htq9 := (own_txt hown9).1
        have hta9 := hta3.chg g9
        have hS9 : v9.rangeAt pA 0 (attCells a) ∧ v9.rangeAt pB 0 (attCells q) := ⟨rangeAt_chg hS3.1 g9 (by simp), rangeAt_chg hS3.2 g9 (by simp)⟩
        have E9 := E3.trans g9
        have G9 := G3.trans g9
        have X9 := X3.chg g9
        clear hown9
        go_wp2_with fail
        refine hK.out _ _ hS9 (fun _ => ?_)
        clear hK K
        try simp only [Act.put, List.setIfInBounds_toArray, List.set_cons_zero, List.set_cons_succ]
        refine wpAnyH_ready (rs := [24, 27]) (by kernel_rfl) (by simp) ?_
        refine AllReadyH.cons (o := ⟨some 46, _, _, _, _, _⟩) rfl (fun K hK => ?_) (AllReadyH.cons (o := ⟨some 49, _, _, _, _, _⟩) rfl (fun K hK => ?_) (AllReadyH.nil))
        · as_aux_lemma =>
            have hcv24 := HCV.out v9 A3 104 c3 _ hta9 HL1.out
            go_simp
            refine hK.out _ _ hS9 (fun _ => ?_)
            clear hK K
            try simp only [Act.put, List.setIfInBounds_toArray, List.set_cons_zero, List.set_cons_succ]
            refine wpAnyH_ready (rs := [27]) (by kernel_rfl) (by simp) ?_
            refine AllReadyH.cons (o := ⟨some 49, _, _, _, _, _⟩) rfl (fun K hK => ?_) (AllReadyH.nil)
            have hcv27 := HCV.out v9 A5 104 c5 _ htq9 HL2.out
            go_simp
            refine hK.out _ _ hS9 (fun _ => ?_)
            clear hK K
            try simp only [Act.put, List.setIfInBounds_toArray, List.set_cons_zero, List.set_cons_succ]
            refine wpAnyH_take (i := 28) (oi := ⟨some 50, _, _, _, _, _⟩) (v := .bool LB) rfl (by kernel_rfl) (by kernel_rfl) (by kernel_rfl) (fun _ _ _ h => h) (Or.inl ⟨by rfl, ?_⟩) (by assumption) ?_
            · intro w _; have hb := HBL.out; go_simp
            try simp only [Act.put, List.setIfInBounds_toArray, List.set_cons_zero, List.set_cons_succ]
            refine wpAnyH_take (i := 29) (oi := ⟨some 51, _, _, _, _, _⟩) (v := .bool false) rfl (by kernel_rfl) (by kernel_rfl) (by kernel_rfl) (fun _ _ _ h => h) (Or.inl ⟨by rfl, ?_⟩) (by assumption) ?_
            · intro w _; cases LB <;> go_simp
            try simp only [Act.put, List.setIfInBounds_toArray, List.set_cons_zero, List.set_cons_succ]
            refine wpAnyH_take (i := 30) (oi := ⟨some 52, _, _, _, _, _⟩) (v := ?_) rfl (by kernel_rfl) (by kernel_rfl) (by kernel_rfl) (fun _ _ _ h => h) (Or.inl ⟨by rfl, ?_⟩) (by assumption) ?_
            rotate_left
            · intro w hSw; (try dsimp only at hSw); go_simp; (try with_reducible rfl)
            try simp only [Act.put, List.setIfInBounds_toArray, List.set_cons_zero, List.set_cons_succ]
            refine wpAnyH_done (by kernel_rfl) ?_ _
            try simp only [Act.put]
            have HRO7 := Lib.hid (HRO.out v9 A1 c1 X9 hc1)
            have hA7 := Lib.hid hS9.1
            have X7 := Lib.hid X9
            have E7 := E9
            clear HMA HLS HQB HBR HRO HCV
            go_wp2_with fail
            refine HRO7.out.mono ?_
            rintro e w10 ⟨rfl, g10⟩
            obtain ⟨gn, bX⟩ := HXN.out w10
            obtain ⟨U, hU⟩ : ∃ U, U = (w10.alloc (.cells Tryd.zeroCells46 46)).setRow w10.heap.size CA := ⟨_, rfl⟩
            have HU : Hid ((w10.alloc (.cells Tryd.zeroCells46 46)).setRow w10.heap.size CA = U) := hU.symm
            rw [← hU] at gn bX
            have HNW := Lib.hid (heap_alloc_new w10 (.cells Tryd.zeroCells46 46))
            have gU : Chg none v9 U := g10.trans gn
            have EU : Chg none w U := E7.trans gU
            clear hU HXN E7
            go_upto_region 8 with (refine wpList_store_row rfl 46 _ _ rfl w10.heap.size CA rfl rfl 46 _ HNW.out HXA.out HXZ.out HXO.out ?_)
            rw [HU.out]
            clear HU HNW HRO7
            generalize w10.heap.size = pX at *
            have hS11 : U.drew.rangeAt pA 0 (attCells a) ∧ U.drew.rangeAt pX 0 (attCells a) ∧ Txt U.drew A1 AX := ⟨rangeAt_chg hA7.out gU.drew (by simp), Blk.range (w := U.drew) (T := 46) bX, X7.out.chg gU.drew⟩
            have E11 := EU.drew
            clear gU EU bX hA7 X7
            refine wp_region_held_drew (S := fun w' => w'.rangeAt pA 0 (attCells a) ∧ w'.rangeAt pX 0 (attCells a) ∧ Txt w' A1 AX) (by kernel_rfl) hS11 (fun _ => ?_)
            generalize U.drew = v11 at *
            refine wpAnyH_take (i := 0) (oi := ⟨some 60, _, _, _, _, _⟩) (v := ?_) rfl (by kernel_rfl) (by kernel_rfl) (by kernel_rfl) (fun _ _ _ h => h) (Or.inl ⟨by rfl, ?_⟩) (by assumption) ?_
            rotate_left
            · intro w hSw; (try dsimp only at hSw); go_simp; (try with_reducible rfl)
            try simp only [Act.put, List.setIfInBounds_toArray, List.set_cons_zero, List.set_cons_succ]
            refine wpAnyH_take (i := 1) (oi := ⟨some 61, _, _, _, _, _⟩) (v := .string ⟨AX.toArray⟩) rfl (by kernel_rfl) (by kernel_rfl) (by kernel_rfl) (fun _ _ _ h => h) (Or.inl ⟨by rfl, ?_⟩) (by assumption) ?_
            · intro w hSw; have hcv := HCV8.out w A1 104 c1 AX hSw.2.2 HL1.out; go_simp
            try simp only [Act.put, List.setIfInBounds_toArray, List.set_cons_zero, List.set_cons_succ]
            refine wpAnyH_take (i := 2) (oi := ⟨some 62, _, _, _, _, _⟩) (v := .agg CA) rfl (by kernel_rfl) (by kernel_rfl) (by kernel_rfl) (fun _ _ _ h => h) (by rw [HCA.out]; exact yieldsIf_load_mid (by rfl) 46 _ rfl pA 0 rfl (attCells a) _ (fun _ h => h.1) Tryd.underlying46 rfl HIA.out) (by assumption) ?_
            try simp only [Act.put, List.setIfInBounds_toArray, List.set_cons_zero, List.set_cons_succ]
            refine wpAnyH_ready (rs := [3]) (by kernel_rfl) (by simp) ?_
            refine AllReadyH.cons (o := ⟨some 63, _, _, _, _, _⟩) rfl (fun K hK => ?_) (AllReadyH.nil)
            go_simp
            go_at_call 31
            refine (HQA.out _).mono ?_
            rintro e v12 ⟨A7, c7, rfl, hown12, g12⟩
            have hta12 := (own_txt hown12).1
            have hS12 : v12.rangeAt pA 0 (attCells a) ∧ v12.rangeAt pX 0 (attCells a) ∧ Txt v12 A1 AX := ⟨rangeAt_chg hS11.1 g12 (by simp), rangeAt_chg hS11.2.1 g12 (by simp), hS11.2.2.chg g12⟩
            have E12 := E11.trans g12
            clear hown12
            go_wp2_with fail
            refine hK.out _ _ hS12 (fun _ => ?_)
            clear hK K
            try simp only [Act.put, List.setIfInBounds_toArray, List.set_cons_zero, List.set_cons_succ]
            refine wpAnyH_ready (rs := [4]) (by kernel_rfl) (by simp) ?_
            refine AllReadyH.cons (o := ⟨some 64, _, _, _, _, _⟩) rfl (fun K hK => ?_) (AllReadyH.nil)
            have hcv4 := HCV8.out v12 A7 104 c7 _ hta12 HL1.out
            go_simp
            refine hK.out _ _ hS12 (fun _ => ?_)
            clear hK K
            try simp only [Act.put, List.setIfInBounds_toArray, List.set_cons_zero, List.set_cons_succ]
            refine wpAnyH_take (i := 5) (oi := ⟨some 65, _, _, _, _, _⟩) (v := .bool false) rfl (by kernel_rfl) (by kernel_rfl) (by kernel_rfl) (fun _ _ _ h => h) (Or.inl ⟨by rfl, ?_⟩) (by assumption) ?_
            · intro w _; have hq := ne9_same ⟨AX.toArray⟩ w; go_simp
            try simp only [Act.put, List.setIfInBounds_toArray, List.set_cons_zero, List.set_cons_succ]
            refine wpAnyH_take (i := 6) (oi := ⟨some 66, _, _, _, _, _⟩) (v := ?_) rfl (by kernel_rfl) (by kernel_rfl) (by kernel_rfl) (fun _ _ _ h => h) (Or.inl ⟨by rfl, ?_⟩) (by assumption) ?_
            rotate_left
            · intro w hSw; (try dsimp only at hSw); go_simp; (try with_reducible rfl)
            try simp only [Act.put, List.setIfInBounds_toArray, List.set_cons_zero, List.set_cons_succ]
            refine wpAnyH_take (i := 7) (oi := ⟨some 67, _, _, _, _, _⟩) (v := .agg CA) rfl (by kernel_rfl) (by kernel_rfl) (by kernel_rfl) (fun _ _ _ h => h) (by rw [HCA.out]; exact yieldsIf_load_mid (by rfl) 46 _ rfl pX 0 rfl (attCells a) _ (fun _ h => h.2.1) Tryd.underlying46 rfl HIA.out) (by assumption) ?_
            try simp only [Act.put, List.setIfInBounds_toArray, List.set_cons_zero, List.set_cons_succ]
            refine wpAnyH_take (i := 8) (oi := ⟨some 68, _, _, _, _, _⟩) (v := .agg CA) rfl (by kernel_rfl) (by kernel_rfl) (by kernel_rfl) (fun _ _ _ h => h) (by rw [HCA.out]; exact yieldsIf_load_mid (by rfl) 46 _ rfl pA 0 rfl (attCells a) _ (fun _ h => h.1) Tryd.underlying46 rfl HIA.out) (by assumption) ?_
            try simp only [Act.put, List.setIfInBounds_toArray, List.set_cons_zero, List.set_cons_succ]
            refine wpAnyH_take (i := 9) (oi := ⟨some 69, _, _, _, _, _⟩) (v := .bool false) rfl (by kernel_rfl) (by kernel_rfl) (by kernel_rfl) (fun _ _ _ h => h) (Or.inl ⟨by rfl, ?_⟩) (by assumption) ?_
            · intro w _; exact exec_neq46 _ _ (.tmp 67) (.tmp 68) CA rfl (by rfl) (by rfl) HN46.out w
            try simp only [Act.put, List.setIfInBounds_toArray, List.set_cons_zero, List.set_cons_succ]
            refine wpAnyH_take (i := 10) (oi := ⟨some 70, _, _, _, _, _⟩) (v := ?_) rfl (by kernel_rfl) (by kernel_rfl) (by kernel_rfl) (fun _ _ _ h => h) (Or.inl ⟨by rfl, ?_⟩) (by assumption) ?_
            rotate_left
            · intro w hSw; (try dsimp only at hSw); go_simp; (try with_reducible rfl)
            try simp only [Act.put, List.setIfInBounds_toArray, List.set_cons_zero, List.set_cons_succ]
            refine wpAnyH_take (i := 11) (oi := ⟨some 71, _, _, _, _, _⟩) (v := ?_) rfl (by kernel_rfl) (by kernel_rfl) (by kernel_rfl) (fun _ _ _ h => h) (Or.inl ⟨by rfl, ?_⟩) (by assumption) ?_
            rotate_left
            · intro w hSw; (try dsimp only at hSw); go_simp; (try with_reducible rfl)
            try simp only [Act.put, List.setIfInBounds_toArray, List.set_cons_zero, List.set_cons_succ]
            refine wpAnyH_take (i := 12) (oi := ⟨some 72, _, _, _, _, _⟩) (v := ?_) rfl (by kernel_rfl) (by kernel_rfl) (by kernel_rfl) (fun _ _ _ h => h) (Or.inl ⟨by rfl, ?_⟩) (by assumption) ?_
            rotate_left
            · intro w hSw; (try dsimp only at hSw); go_simp; (try with_reducible rfl)
            try simp only [Act.put, List.setIfInBounds_toArray, List.set_cons_zero, List.set_cons_succ]
            refine wpAnyH_take (i := 13) (oi := ⟨some 73, _, _, _, _, _⟩) (v := ?_) rfl (by kernel_rfl) (by kernel_rfl) (by kernel_rfl) (fun _ _ _ h => h) (Or.inl ⟨by rfl, ?_⟩) (by assumption) ?_
            rotate_left
            · intro w hSw; (try dsimp only at hSw); go_simp; (try with_reducible rfl)
            try simp only [Act.put, List.setIfInBounds_toArray, List.set_cons_zero, List.set_cons_succ]
            refine wpAnyH_take (i := 14) (oi := ⟨some 74, _, _, _, _, _⟩) (v := ?_) rfl (by kernel_rfl) (by kernel_rfl) (by kernel_rfl) (fun _ _ _ h => h) (Or.inl ⟨by rfl, ?_⟩) (by assumption) ?_
            rotate_left
            · intro w hSw; (try dsimp only at hSw); go_simp; (try with_reducible rfl)
            try simp only [Act.put, List.setIfInBounds_toArray, List.set_cons_zero, List.set_cons_succ]
            refine wpAnyH_done (by kernel_rfl) ?_ _
            try simp only [Act.put]
            have HRB := Lib.hid (HRDB.out v12 E12)
            have EB := E12
            clear HRDB HAR HL2
            go_wp2_with fail
            refine HRB.out.mono ?_
            rintro e w13 ⟨z, n, rfl, g13, hz⟩
            obtain ⟨CY, hCY⟩ : ∃ CY, CY = (attCells z).toArray := ⟨_, rfl⟩
            have HCY := Lib.hid hCY
            obtain ⟨gn, bY⟩ := new_att w13 z
            have HIY : Hid ((Tryd.prog.info? 46).map (·.size) = some CY.size) := by rw [hCY]; exact info46a z
            have HIZ := Lib.hid (info46 z)
            have HOY : Hid (CY.all (·.oneCell') = true) := by rw [hCY]; exact attCells_one z
            have HZY : Hid (Tryd.zeroCells46.size = CY.size) := by show _ = _; rw [hCY, zero46, List.size_toArray, List.size_toArray, attCells_len, attCells_len]
            obtain ⟨U9, hU⟩ : ∃ U9, U9 = (w13.alloc (.cells Tryd.zeroCells46 46)).setRow w13.heap.size CY := ⟨_, rfl⟩
            have HU : Hid ((w13.alloc (.cells Tryd.zeroCells46 46)).setRow w13.heap.size CY = U9) := hU.symm
            rw [← hCY, ← hU] at gn
            rw [← hCY, ← hU] at bY
            have HNW := Lib.hid (heap_alloc_new w13 (.cells Tryd.zeroCells46 46))
            have EU : Chg none w U9 := (EB.trans g13).trans gn
            rw [← hCY]
            clear hU gn hCY
            go_upto_region 11 with (refine wpList_store_row rfl 46 _ _ rfl w13.heap.size CY rfl rfl 46 _ HNW.out HIY.out HZY.out HOY.out ?_)
            rw [HU.out]
            clear HU HNW HRB EB
            generalize w13.heap.size = pY at *
            have HYR := Lib.hid (Blk.range bY)
            have HKE := Lib.hid (HKN.out U9 EU)
            rcases hz with ⟨rfl, rfl, hz⟩ | ⟨rfl, hz1, hz2⟩
            · have HQ46 : Hid (∀ v : World, (binOp .eql 46 (.agg CY) (.agg Tryd.zeroCells46)).run Tryd.prog v = .ok (.bool true) v) := fun v => by rw [HCY.out, zero46, eql46, sameAtt_self]
              have hqe := HQ46.out
              have hg46 := guard46
              by_cases hl : p.x.length = 104
              · as_aux_lemma =>
                have HLE := Lib.hid (HLG.out U9 EU hl (hz hl))
                rw [hl] at HLE
                clear HLG HTP HCV8 HQA hz
                go_wp2_with (refine BigFrame.wpList_want rfl fun _ hK => wp_load_mid 46 _ rfl pY 0 rfl (attCells zeroAtt) _ HYR.out Tryd.underlying46 rfl HIZ.out (hK _ _ ?_); rw [← HCY.out])
                refine HLE.out.mono ?_
                rintro e u1 ⟨rfl, g1⟩
                have HKF := Lib.hid (HKN.out u1 (EU.trans g1))
                have EV := EU.trans g1
                go_wp2_with fail
                refine HKF.out.mono ?_
                rintro e u2 ⟨rfl, g2⟩
                go_wp2_with fail
                go_ret
                exact ⟨rfl, EV.trans g2⟩
              · as_aux_lemma =>
                have d2 : ((p.x.length : Int) == 104) = false := by simp; omega
                clear HLG HTP HCV8 HQA hz
                go_wp2_with (refine BigFrame.wpList_want rfl fun _ hK => wp_load_mid 46 _ rfl pY 0 rfl (attCells zeroAtt) _ HYR.out Tryd.underlying46 rfl HIZ.out (hK _ _ ?_); rw [← HCY.out])
                refine HKE.out.mono ?_
                rintro e u1 ⟨rfl, g1⟩
                go_wp2_with fail
                go_ret
                exact ⟨rfl, EU.trans g1⟩
            · as_aux_lemma =>
              have HMZ : Hid (∀ v, Calls Tryd.prog 28 #[.agg CY] v fun e w' => e = .returned (.bool true) ∧ Chg none v w') := fun v => by
                have := mayr_any z v
                rw [hz1] at this
                rw [HCY.out]; exact this
              have HQZ : Hid (∀ v, Calls Tryd.prog 31 #[.agg CY] v fun e w' => ∃ A c, e = .returned (.slice A 104 c) ∧ w'.ownsRow v.heap.size 5 1 (.slice A 104 c) 104 (byteVals p.x) ∧ Chg none v w') := fun v => by
                have := bytesq_any z v
                rw [hz2] at this
                rw [HCY.out]; exact this
              have HLX : Hid (104 = p.x.length) := by show _ = _; rw [← hz2, attBytes_len]
              obtain ⟨PX, hPX⟩ : ∃ PX, PX = p.x := ⟨_, rfl⟩
              have HPX := Lib.hid hPX
              rw [← hPX] at HQZ HLX
              have hS100 : U9.drew.rangeAt pY 0 (attCells z) ∧ Txt U9.drew p.A PX := ⟨Blk.range (w := U9.drew) (T := 46) bY, by rw [hPX]; exact HTP.out _ EU.drew⟩
              have E100 := EU.drew
              clear HLG HTP HQA hz1 hz2 HYR HKE bY hPX
              go_upto_region 13 with fail
              refine wp_region_held_drew (S := fun w' => w'.rangeAt pY 0 (attCells z) ∧ Txt w' p.A PX) (by kernel_rfl) hS100 (fun _ => ?_)
              clear EU
              generalize U9.drew = v100 at *
              refine wpAnyH_take (i := 0) (oi := ⟨some 102, _, _, _, _, _⟩) (v := .agg CY) rfl (by kernel_rfl) (by kernel_rfl) (by kernel_rfl) (fun _ _ _ h => h) (by rw [HCY.out]; exact yieldsIf_load_mid (by rfl) 46 _ rfl pY 0 rfl (attCells z) _ (fun _ h => h.1) Tryd.underlying46 rfl HIZ.out) (by assumption) ?_
              try simp only [Act.put, List.setIfInBounds_toArray, List.set_cons_zero, List.set_cons_succ]
              refine wpAnyH_ready (rs := [1]) (by kernel_rfl) (by simp) ?_
              refine AllReadyH.cons (o := ⟨some 103, _, _, _, _, _⟩) rfl (fun K hK => ?_) (AllReadyH.nil)
              go_simp
              go_at_call 28
              refine (HMZ.out _).mono ?_
              rintro e v101 ⟨rfl, g101⟩
              have hS101 : v101.rangeAt pY 0 (attCells z) ∧ Txt v101 p.A PX := ⟨rangeAt_chg hS100.1 g101 (by simp), hS100.2.chg g101⟩
              have E101 := E100.trans g101
              go_wp2_with fail
              refine hK.out _ _ hS101 (fun _ => ?_)
              clear hK K
              try simp only [Act.put, List.setIfInBounds_toArray, List.set_cons_zero, List.set_cons_succ]
              refine wpAnyH_take (i := 2) (oi := ⟨some 104, _, _, _, _, _⟩) (v := ?_) rfl (by kernel_rfl) (by kernel_rfl) (by kernel_rfl) (fun _ _ _ h => h) (Or.inl ⟨by rfl, ?_⟩) (by assumption) ?_
              rotate_left
              · intro w hSw; (try dsimp only at hSw); go_simp; (try with_reducible rfl)
              try simp only [Act.put, List.setIfInBounds_toArray, List.set_cons_zero, List.set_cons_succ]
              refine wpAnyH_take (i := 3) (oi := ⟨some 105, _, _, _, _, _⟩) (v := .agg CY) rfl (by kernel_rfl) (by kernel_rfl) (by kernel_rfl) (fun _ _ _ h => h) (by rw [HCY.out]; exact yieldsIf_load_mid (by rfl) 46 _ rfl pY 0 rfl (attCells z) _ (fun _ h => h.1) Tryd.underlying46 rfl HIZ.out) (by assumption) ?_
              try simp only [Act.put, List.setIfInBounds_toArray, List.set_cons_zero, List.set_cons_succ]
              refine wpAnyH_take (i := 6) (oi := ⟨some 108, _, _, _, _, _⟩) (v := ?_) rfl (by kernel_rfl) (by kernel_rfl) (by kernel_rfl) (fun _ _ _ h => h) (Or.inl ⟨by rfl, ?_⟩) (by assumption) ?_
              rotate_left
              · intro w hSw; (try dsimp only at hSw); go_simp; (try with_reducible rfl)
              try simp only [Act.put, List.setIfInBounds_toArray, List.set_cons_zero, List.set_cons_succ]
              refine wpAnyH_take (i := 7) (oi := ⟨some 109, _, _, _, _, _⟩) (v := .string ⟨PX.toArray⟩) rfl (by kernel_rfl) (by kernel_rfl) (by kernel_rfl) (fun _ _ _ h => h) (Or.inl ⟨by rfl, ?_⟩) (by assumption) ?_
              · intro w hSw; have hcv := HCV8.out w p.A p.x.length p.c PX hSw.2 (by rw [HPX.out]); go_simp
              try simp only [Act.put, List.setIfInBounds_toArray, List.set_cons_zero, List.set_cons_succ]
              refine wpAnyH_ready (rs := [4]) (by kernel_rfl) (by simp) ?_
              refine AllReadyH.cons (o := ⟨some 106, _, _, _, _, _⟩) rfl (fun K hK => ?_) (AllReadyH.nil)
              go_simp
              go_at_call 31
              refine (HQZ.out _).mono ?_
              rintro e v102 ⟨A9, c9, rfl, hown102, g102⟩
              have hta102 := (own_txt hown102).1
              have hS102 : v102.rangeAt pY 0 (attCells z) ∧ Txt v102 p.A PX := ⟨rangeAt_chg hS101.1 g102 (by simp), hS101.2.chg g102⟩
              have E102 := E101.trans g102
              clear hown102
              go_wp2_with fail
              refine hK.out _ _ hS102 (fun _ => ?_)
              clear hK K
              try simp only [Act.put, List.setIfInBounds_toArray, List.set_cons_zero, List.set_cons_succ]
              refine wpAnyH_ready (rs := [5]) (by kernel_rfl) (by simp) ?_
              refine AllReadyH.cons (o := ⟨some 107, _, _, _, _, _⟩) rfl (fun K hK => ?_) (AllReadyH.nil)
              have hcv5 := HCV8.out v102 A9 104 c9 _ hta102 HLX.out
              go_simp
              refine hK.out _ _ hS102 (fun _ => ?_)
              clear hK K
              try simp only [Act.put, List.setIfInBounds_toArray, List.set_cons_zero, List.set_cons_succ]
              refine wpAnyH_take (i := 8) (oi := ⟨some 110, _, _, _, _, _⟩) (v := .bool true) rfl (by kernel_rfl) (by kernel_rfl) (by kernel_rfl) (fun _ _ _ h => h) (Or.inl ⟨by rfl, ?_⟩) (by assumption) ?_
              · intro w _; have hq := HQ9.out ⟨PX.toArray⟩ w; go_simp
              try simp only [Act.put, List.setIfInBounds_toArray, List.set_cons_zero, List.set_cons_succ]
              refine wpAnyH_take (i := 9) (oi := ⟨some 111, _, _, _, _, _⟩) (v := ?_) rfl (by kernel_rfl) (by kernel_rfl) (by kernel_rfl) (fun _ _ _ h => h) (Or.inl ⟨by rfl, ?_⟩) (by assumption) ?_
              rotate_left
              · intro w hSw; (try dsimp only at hSw); go_simp; (try with_reducible rfl)
              try simp only [Act.put, List.setIfInBounds_toArray, List.set_cons_zero, List.set_cons_succ]
              refine wpAnyH_take (i := 10) (oi := ⟨some 112, _, _, _, _, _⟩) (v := ?_) rfl (by kernel_rfl) (by kernel_rfl) (by kernel_rfl) (fun _ _ _ h => h) (Or.inl ⟨by rfl, ?_⟩) (by assumption) ?_
              rotate_left
              · intro w hSw; (try dsimp only at hSw); go_simp; (try with_reducible rfl)
              try simp only [Act.put, List.setIfInBounds_toArray, List.set_cons_zero, List.set_cons_succ]
              refine wpAnyH_ready (rs := [11]) (by kernel_rfl) (by simp) ?_
              refine AllReadyH.cons (o := ⟨some 113, _, _, _, _, _⟩) rfl (fun K hK => ?_) (AllReadyH.nil)
              go_simp
              go_at_call 24
              refine (HKN.out _ E102).mono ?_
              rintro e v103 ⟨rfl, g103⟩
              have hS103 : v103.rangeAt pY 0 (attCells z) ∧ Txt v103 p.A PX := ⟨rangeAt_chg hS102.1 g103 (by simp), hS102.2.chg g103⟩
              have E103 := E102.trans g103
              go_wp2_with fail
              refine hK.out _ _ hS103 (fun _ => ?_)
              clear hK K
              try simp only [Act.put, List.setIfInBounds_toArray, List.set_cons_zero, List.set_cons_succ]
              refine wpAnyH_take (i := 12) (oi := ⟨some 114, _, _, _, _, _⟩) (v := ?_) rfl (by kernel_rfl) (by kernel_rfl) (by kernel_rfl) (fun _ _ _ h => h) (Or.inl ⟨by rfl, ?_⟩) (by assumption) ?_
              rotate_left
              · intro w hSw; (try dsimp only at hSw); go_simp; (try with_reducible rfl)
              try simp only [Act.put, List.setIfInBounds_toArray, List.set_cons_zero, List.set_cons_succ]
              refine wpAnyH_take (i := 13) (oi := ⟨some 6, _, _, _, _, _⟩) (v := ?_) rfl (by kernel_rfl) (by kernel_rfl) (by kernel_rfl) (fun _ _ _ h => h) (Or.inl ⟨by rfl, ?_⟩) (by assumption) ?_
              rotate_left
              · intro w hSw; (try dsimp only at hSw); go_simp; (try with_reducible rfl)
              try simp only [Act.put, List.setIfInBounds_toArray, List.set_cons_zero, List.set_cons_succ]
              refine wpAnyH_done (by kernel_rfl) ?_ _
              try simp only [Act.put]
              go_wp2_with fail
              go_ret
              exact ⟨rfl, E103⟩
        · as_aux_lemma =>
            have hcv27 := HCV.out v9 A5 104 c5 _ htq9 HL2.out
            go_simp
            refine hK.out _ _ hS9 (fun _ => ?_)
            clear hK K
            try simp only [Act.put, List.setIfInBounds_toArray, List.set_cons_zero, List.set_cons_succ]
            refine wpAnyH_ready (rs := [24]) (by kernel_rfl) (by simp) ?_
            refine AllReadyH.cons (o := ⟨some 46, _, _, _, _, _⟩) rfl (fun K hK => ?_) (AllReadyH.nil)
            have hcv24 := HCV.out v9 A3 104 c3 _ hta9 HL1.out
            go_simp
            refine hK.out _ _ hS9 (fun _ => ?_)
            clear hK K
            try simp only [Act.put, List.setIfInBounds_toArray, List.set_cons_zero, List.set_cons_succ]
            refine wpAnyH_take (i := 28) (oi := ⟨some 50, _, _, _, _, _⟩) (v := .bool LB) rfl (by kernel_rfl) (by kernel_rfl) (by kernel_rfl) (fun _ _ _ h => h) (Or.inl ⟨by rfl, ?_⟩) (by assumption) ?_
            · intro w _; have hb := HBL.out; go_simp
            try simp only [Act.put, List.setIfInBounds_toArray, List.set_cons_zero, List.set_cons_succ]
            refine wpAnyH_take (i := 29) (oi := ⟨some 51, _, _, _, _, _⟩) (v := .bool false) rfl (by kernel_rfl) (by kernel_rfl) (by kernel_rfl) (fun _ _ _ h => h) (Or.inl ⟨by rfl, ?_⟩) (by assumption) ?_
            · intro w _; cases LB <;> go_simp
            try simp only [Act.put, List.setIfInBounds_toArray, List.set_cons_zero, List.set_cons_succ]
            refine wpAnyH_take (i := 30) (oi := ⟨some 52, _, _, _, _, _⟩) (v := ?_) rfl (by kernel_rfl) (by kernel_rfl) (by kernel_rfl) (fun _ _ _ h => h) (Or.inl ⟨by rfl, ?_⟩) (by assumption) ?_
            rotate_left
            · intro w hSw; (try dsimp only at hSw); go_simp; (try with_reducible rfl)
            try simp only [Act.put, List.setIfInBounds_toArray, List.set_cons_zero, List.set_cons_succ]
            refine wpAnyH_done (by kernel_rfl) ?_ _
            try simp only [Act.put]
            have HRO7 := Lib.hid (HRO.out v9 A1 c1 X9 hc1)
            have hA7 := Lib.hid hS9.1
            have X7 := Lib.hid X9
            have E7 := E9
            clear HMA HLS HQB HBR HRO HCV
            go_wp2_with fail
            refine HRO7.out.mono ?_
            rintro e w14 ⟨rfl, g14⟩
            obtain ⟨gn, bX⟩ := HXN.out w14
            obtain ⟨U, hU⟩ : ∃ U, U = (w14.alloc (.cells Tryd.zeroCells46 46)).setRow w14.heap.size CA := ⟨_, rfl⟩
            have HU : Hid ((w14.alloc (.cells Tryd.zeroCells46 46)).setRow w14.heap.size CA = U) := hU.symm
            rw [← hU] at gn bX
            have HNW := Lib.hid (heap_alloc_new w14 (.cells Tryd.zeroCells46 46))
            have gU : Chg none v9 U := g14.trans gn
            have EU : Chg none w U := E7.trans gU
            clear hU HXN E7
            go_upto_region 8 with (refine wpList_store_row rfl 46 _ _ rfl w14.heap.size CA rfl rfl 46 _ HNW.out HXA.out HXZ.out HXO.out ?_)
            rw [HU.out]
            clear HU HNW HRO7
            generalize w14.heap.size = pX at *
            have hS15 : U.drew.rangeAt pA 0 (attCells a) ∧ U.drew.rangeAt pX 0 (attCells a) ∧ Txt U.drew A1 AX := ⟨rangeAt_chg hA7.out gU.drew (by simp), Blk.range (w := U.drew) (T := 46) bX, X7.out.chg gU.drew⟩
            have E15 := EU.drew
            clear gU EU bX hA7 X7
            refine wp_region_held_drew (S := fun w' => w'.rangeAt pA 0 (attCells a) ∧ w'.rangeAt pX 0 (attCells a) ∧ Txt w' A1 AX) (by kernel_rfl) hS15 (fun _ => ?_)
            generalize U.drew = v15 at *
            refine wpAnyH_take (i := 0) (oi := ⟨some 60, _, _, _, _, _⟩) (v := ?_) rfl (by kernel_rfl) (by kernel_rfl) (by kernel_rfl) (fun _ _ _ h => h) (Or.inl ⟨by rfl, ?_⟩) (by assumption) ?_
            rotate_left
            · intro w hSw; (try dsimp only at hSw); go_simp; (try with_reducible rfl)
            try simp only [Act.put, List.setIfInBounds_toArray, List.set_cons_zero, List.set_cons_succ]
            refine wpAnyH_take (i := 1) (oi := ⟨some 61, _, _, _, _, _⟩) (v := .string ⟨AX.toArray⟩) rfl (by kernel_rfl) (by kernel_rfl) (by kernel_rfl) (fun _ _ _ h => h) (Or.inl ⟨by rfl, ?_⟩) (by assumption) ?_
            · intro w hSw; have hcv := HCV8.out w A1 104 c1 AX hSw.2.2 HL1.out; go_simp
            try simp only [Act.put, List.setIfInBounds_toArray, List.set_cons_zero, List.set_cons_succ]
            refine wpAnyH_take (i := 2) (oi := ⟨some 62, _, _, _, _, _⟩) (v := .agg CA) rfl (by kernel_rfl) (by kernel_rfl) (by kernel_rfl) (fun _ _ _ h => h) (by rw [HCA.out]; exact yieldsIf_load_mid (by rfl) 46 _ rfl pA 0 rfl (attCells a) _ (fun _ h => h.1) Tryd.underlying46 rfl HIA.out) (by assumption) ?_
            try simp only [Act.put, List.setIfInBounds_toArray, List.set_cons_zero, List.set_cons_succ]
            refine wpAnyH_ready (rs := [3]) (by kernel_rfl) (by simp) ?_
            refine AllReadyH.cons (o := ⟨some 63, _, _, _, _, _⟩) rfl (fun K hK => ?_) (AllReadyH.nil)
            go_simp
            go_at_call 31
            refine (HQA.out _).mono ?_
            rintro e v16 ⟨A7, c7, rfl, hown16, g16⟩
            have hta16 := (own_txt hown16).1
            have hS16 : v16.rangeAt pA 0 (attCells a) ∧ v16.rangeAt pX 0 (attCells a) ∧ Txt v16 A1 AX := ⟨rangeAt_chg hS15.1 g16 (by simp), rangeAt_chg hS15.2.1 g16 (by simp), hS15.2.2.chg g16⟩
            have E16 := E15.trans g16
            clear hown16
            go_wp2_with fail
            refine hK.out _ _ hS16 (fun _ => ?_)
            clear hK K
            try simp only [Act.put, List.setIfInBounds_toArray, List.set_cons_zero, List.set_cons_succ]
            refine wpAnyH_ready (rs := [4]) (by kernel_rfl) (by simp) ?_
            refine AllReadyH.cons (o := ⟨some 64, _, _, _, _, _⟩) rfl (fun K hK => ?_) (AllReadyH.nil)
            have hcv4 := HCV8.out v16 A7 104 c7 _ hta16 HL1.out
            go_simp
            refine hK.out _ _ hS16 (fun _ => ?_)
            clear hK K
            try simp only [Act.put, List.setIfInBounds_toArray, List.set_cons_zero, List.set_cons_succ]
            refine wpAnyH_take (i := 5) (oi := ⟨some 65, _, _, _, _, _⟩) (v := .bool false) rfl (by kernel_rfl) (by kernel_rfl) (by kernel_rfl) (fun _ _ _ h => h) (Or.inl ⟨by rfl, ?_⟩) (by assumption) ?_
            · intro w _; have hq := ne9_same ⟨AX.toArray⟩ w; go_simp
            try simp only [Act.put, List.setIfInBounds_toArray, List.set_cons_zero, List.set_cons_succ]
            refine wpAnyH_take (i := 6) (oi := ⟨some 66, _, _, _, _, _⟩) (v := ?_) rfl (by kernel_rfl) (by kernel_rfl) (by kernel_rfl) (fun _ _ _ h => h) (Or.inl ⟨by rfl, ?_⟩) (by assumption) ?_
            rotate_left
            · intro w hSw; (try dsimp only at hSw); go_simp; (try with_reducible rfl)
            try simp only [Act.put, List.setIfInBounds_toArray, List.set_cons_zero, List.set_cons_succ]
            refine wpAnyH_take (i := 7) (oi := ⟨some 67, _, _, _, _, _⟩) (v := .agg CA) rfl (by kernel_rfl) (by kernel_rfl) (by kernel_rfl) (fun _ _ _ h => h) (by rw [HCA.out]; exact yieldsIf_load_mid (by rfl) 46 _ rfl pX 0 rfl (attCells a) _ (fun _ h => h.2.1) Tryd.underlying46 rfl HIA.out) (by assumption) ?_
            try simp only [Act.put, List.setIfInBounds_toArray, List.set_cons_zero, List.set_cons_succ]
            refine wpAnyH_take (i := 8) (oi := ⟨some 68, _, _, _, _, _⟩) (v := .agg CA) rfl (by kernel_rfl) (by kernel_rfl) (by kernel_rfl) (fun _ _ _ h => h) (by rw [HCA.out]; exact yieldsIf_load_mid (by rfl) 46 _ rfl pA 0 rfl (attCells a) _ (fun _ h => h.1) Tryd.underlying46 rfl HIA.out) (by assumption) ?_
            try simp only [Act.put, List.setIfInBounds_toArray, List.set_cons_zero, List.set_cons_succ]
            refine wpAnyH_take (i := 9) (oi := ⟨some 69, _, _, _, _, _⟩) (v := .bool false) rfl (by kernel_rfl) (by kernel_rfl) (by kernel_rfl) (fun _ _ _ h => h) (Or.inl ⟨by rfl, ?_⟩) (by assumption) ?_
            · intro w _; exact exec_neq46 _ _ (.tmp 67) (.tmp 68) CA rfl (by rfl) (by rfl) HN46.out w
            try simp only [Act.put, List.setIfInBounds_toArray, List.set_cons_zero, List.set_cons_succ]
            refine wpAnyH_take (i := 10) (oi := ⟨some 70, _, _, _, _, _⟩) (v := ?_) rfl (by kernel_rfl) (by kernel_rfl) (by kernel_rfl) (fun _ _ _ h => h) (Or.inl ⟨by rfl, ?_⟩) (by assumption) ?_
            rotate_left
            · intro w hSw; (try dsimp only at hSw); go_simp; (try with_reducible rfl)
            try simp only [Act.put, List.setIfInBounds_toArray, List.set_cons_zero, List.set_cons_succ]
            refine wpAnyH_take (i := 11) (oi := ⟨some 71, _, _, _, _, _⟩) (v := ?_) rfl (by kernel_rfl) (by kernel_rfl) (by kernel_rfl) (fun _ _ _ h => h) (Or.inl ⟨by rfl, ?_⟩) (by assumption) ?_
            rotate_left
            · intro w hSw; (try dsimp only at hSw); go_simp; (try with_reducible rfl)
            try simp only [Act.put, List.setIfInBounds_toArray, List.set_cons_zero, List.set_cons_succ]
            refine wpAnyH_take (i := 12) (oi := ⟨some 72, _, _, _, _, _⟩) (v := ?_) rfl (by kernel_rfl) (by kernel_rfl) (by kernel_rfl) (fun _ _ _ h => h) (Or.inl ⟨by rfl, ?_⟩) (by assumption) ?_
            rotate_left
            · intro w hSw; (try dsimp only at hSw); go_simp; (try with_reducible rfl)
            try simp only [Act.put, List.setIfInBounds_toArray, List.set_cons_zero, List.set_cons_succ]
            refine wpAnyH_take (i := 13) (oi := ⟨some 73, _, _, _, _, _⟩) (v := ?_) rfl (by kernel_rfl) (by kernel_rfl) (by kernel_rfl) (fun _ _ _ h => h) (Or.inl ⟨by rfl, ?_⟩) (by assumption) ?_
            rotate_left
            · intro w hSw; (try dsimp only at hSw); go_simp; (try with_reducible rfl)
            try simp only [Act.put, List.setIfInBounds_toArray, List.set_cons_zero, List.set_cons_succ]
            refine wpAnyH_take (i := 14) (oi := ⟨some 74, _, _, _, _, _⟩) (v := ?_) rfl (by kernel_rfl) (by kernel_rfl) (by kernel_rfl) (fun _ _ _ h => h) (Or.inl ⟨by rfl, ?_⟩) (by assumption) ?_
            rotate_left
            · intro w hSw; (try dsimp only at hSw); go_simp; (try with_reducible rfl)
            try simp only [Act.put, List.setIfInBounds_toArray, List.set_cons_zero, List.set_cons_succ]
            refine wpAnyH_done (by kernel_rfl) ?_ _
            try simp only [Act.put]
            have HRB := Lib.hid (HRDB.out v16 E16)
            have EB := E16
            clear HRDB HAR HL2
            go_wp2_with fail
            refine HRB.out.mono ?_
            rintro e w17 ⟨z, n, rfl, g17, hz⟩
            obtain ⟨CY, hCY⟩ : ∃ CY, CY = (attCells z).toArray := ⟨_, rfl⟩
            have HCY := Lib.hid hCY
            obtain ⟨gn, bY⟩ := new_att w17 z
            have HIY : Hid ((Tryd.prog.info? 46).map (·.size) = some CY.size) := by rw [hCY]; exact info46a z
            have HIZ := Lib.hid (info46 z)
            have HOY : Hid (CY.all (·.oneCell') = true) := by rw [hCY]; exact attCells_one z
            have HZY : Hid (Tryd.zeroCells46.size = CY.size) := by show _ = _; rw [hCY, zero46, List.size_toArray, List.size_toArray, attCells_len, attCells_len]
            obtain ⟨U9, hU⟩ : ∃ U9, U9 = (w17.alloc (.cells Tryd.zeroCells46 46)).setRow w17.heap.size CY := ⟨_, rfl⟩
            have HU : Hid ((w17.alloc (.cells Tryd.zeroCells46 46)).setRow w17.heap.size CY = U9) := hU.symm
            rw [← hCY, ← hU] at gn
            rw [← hCY, ← hU] at bY
            have HNW := Lib.hid (heap_alloc_new w17 (.cells Tryd.zeroCells46 46))
            have EU : Chg none w U9 := (EB.trans g17).trans gn
            rw [← hCY]
            clear hU gn hCY
            go_upto_region 11 with (refine wpList_store_row rfl 46 _ _ rfl w17.heap.size CY rfl rfl 46 _ HNW.out HIY.out HZY.out HOY.out ?_)
            rw [HU.out]
            clear HU HNW HRB EB
            generalize w17.heap.size = pY at *
            have HYR := Lib.hid (Blk.range bY)
            have HKE := Lib.hid (HKN.out U9 EU)
            rcases hz with ⟨rfl, rfl, hz⟩ | ⟨rfl, hz1, hz2⟩
            · have HQ46 : Hid (∀ v : World, (binOp .eql 46 (.agg CY) (.agg Tryd.zeroCells46)).run Tryd.prog v = .ok (.bool true) v) := fun v => by rw [HCY.out, zero46, eql46, sameAtt_self]
              have hqe := HQ46.out
              have hg46 := guard46
              by_cases hl : p.x.length = 104
              · as_aux_lemma =>
                have HLE := Lib.hid (HLG.out U9 EU hl (hz hl))
                rw [hl] at HLE
                clear HLG HTP HCV8 HQA hz
                go_wp2_with (refine BigFrame.wpList_want rfl fun _ hK => wp_load_mid 46 _ rfl pY 0 rfl (attCells zeroAtt) _ HYR.out Tryd.underlying46 rfl HIZ.out (hK _ _ ?_); rw [← HCY.out])
                refine HLE.out.mono ?_
                rintro e u1 ⟨rfl, g1⟩
                have HKF := Lib.hid (HKN.out u1 (EU.trans g1))
                have EV := EU.trans g1
                go_wp2_with fail
                refine HKF.out.mono ?_
                rintro e u2 ⟨rfl, g2⟩
                go_wp2_with fail
                go_ret
                exact ⟨rfl, EV.trans g2⟩
              · as_aux_lemma =>
                have d2 : ((p.x.length : Int) == 104) = false := by simp; omega
                clear HLG HTP HCV8 HQA hz
                go_wp2_with (refine BigFrame.wpList_want rfl fun _ hK => wp_load_mid 46 _ rfl pY 0 rfl (attCells zeroAtt) _ HYR.out Tryd.underlying46 rfl HIZ.out (hK _ _ ?_); rw [← HCY.out])
                refine HKE.out.mono ?_
                rintro e u1 ⟨rfl, g1⟩
                go_wp2_with fail
                go_ret
                exact ⟨rfl, EU.trans g1⟩
            · as_aux_lemma =>
              have HMZ : Hid (∀ v, Calls Tryd.prog 28 #[.agg CY] v fun e w' => e = .returned (.bool true) ∧ Chg none v w') := fun v => by
                have := mayr_any z v
                rw [hz1] at this
                rw [HCY.out]; exact this
              have HQZ : Hid (∀ v, Calls Tryd.prog 31 #[.agg CY] v fun e w' => ∃ A c, e = .returned (.slice A 104 c) ∧ w'.ownsRow v.heap.size 5 1 (.slice A 104 c) 104 (byteVals p.x) ∧ Chg none v w') := fun v => by
                have := bytesq_any z v
                rw [hz2] at this
                rw [HCY.out]; exact this
              have HLX : Hid (104 = p.x.length) := by show _ = _; rw [← hz2, attBytes_len]
              obtain ⟨PX, hPX⟩ : ∃ PX, PX = p.x := ⟨_, rfl⟩
              have HPX := Lib.hid hPX
              rw [← hPX] at HQZ HLX
              have hS100 : U9.drew.rangeAt pY 0 (attCells z) ∧ Txt U9.drew p.A PX := ⟨Blk.range (w := U9.drew) (T := 46) bY, by rw [hPX]; exact HTP.out _ EU.drew⟩
              have E100 := EU.drew
              clear HLG HTP HQA hz1 hz2 HYR HKE bY hPX
              go_upto_region 13 with fail
              refine wp_region_held_drew (S := fun w' => w'.rangeAt pY 0 (attCells z) ∧ Txt w' p.A PX) (by kernel_rfl) hS100 (fun _ => ?_)
              clear EU
              generalize U9.drew = v100 at *
              refine wpAnyH_take (i := 0) (oi := ⟨some 102, _, _, _, _, _⟩) (v := .agg CY) rfl (by kernel_rfl) (by kernel_rfl) (by kernel_rfl) (fun _ _ _ h => h) (by rw [HCY.out]; exact yieldsIf_load_mid (by rfl) 46 _ rfl pY 0 rfl (attCells z) _ (fun _ h => h.1) Tryd.underlying46 rfl HIZ.out) (by assumption) ?_
              try simp only [Act.put, List.setIfInBounds_toArray, List.set_cons_zero, List.set_cons_succ]
              refine wpAnyH_ready (rs := [1]) (by kernel_rfl) (by simp) ?_
              refine AllReadyH.cons (o := ⟨some 103, _, _, _, _, _⟩) rfl (fun K hK => ?_) (AllReadyH.nil)
              go_simp
              go_at_call 28
              refine (HMZ.out _).mono ?_
              rintro e v101 ⟨rfl, g101⟩
              have hS101 : v101.rangeAt pY 0 (attCells z) ∧ Txt v101 p.A PX := ⟨rangeAt_chg hS100.1 g101 (by simp), hS100.2.chg g101⟩
              have E101 := E100.trans g101
              go_wp2_with fail
              refine hK.out _ _ hS101 (fun _ => ?_)
              clear hK K
              try simp only [Act.put, List.setIfInBounds_toArray, List.set_cons_zero, List.set_cons_succ]
              refine wpAnyH_take (i := 2) (oi := ⟨some 104, _, _, _, _, _⟩) (v := ?_) rfl (by kernel_rfl) (by kernel_rfl) (by kernel_rfl) (fun _ _ _ h => h) (Or.inl ⟨by rfl, ?_⟩) (by assumption) ?_
              rotate_left
              · intro w hSw; (try dsimp only at hSw); go_simp; (try with_reducible rfl)
              try simp only [Act.put, List.setIfInBounds_toArray, List.set_cons_zero, List.set_cons_succ]
              refine wpAnyH_take (i := 3) (oi := ⟨some 105, _, _, _, _, _⟩) (v := .agg CY) rfl (by kernel_rfl) (by kernel_rfl) (by kernel_rfl) (fun _ _ _ h => h) (by rw [HCY.out]; exact yieldsIf_load_mid (by rfl) 46 _ rfl pY 0 rfl (attCells z) _ (fun _ h => h.1) Tryd.underlying46 rfl HIZ.out) (by assumption) ?_
              try simp only [Act.put, List.setIfInBounds_toArray, List.set_cons_zero, List.set_cons_succ]
              refine wpAnyH_take (i := 6) (oi := ⟨some 108, _, _, _, _, _⟩) (v := ?_) rfl (by kernel_rfl) (by kernel_rfl) (by kernel_rfl) (fun _ _ _ h => h) (Or.inl ⟨by rfl, ?_⟩) (by assumption) ?_
              rotate_left
              · intro w hSw; (try dsimp only at hSw); go_simp; (try with_reducible rfl)
              try simp only [Act.put, List.setIfInBounds_toArray, List.set_cons_zero, List.set_cons_succ]
              refine wpAnyH_take (i := 7) (oi := ⟨some 109, _, _, _, _, _⟩) (v := .string ⟨PX.toArray⟩) rfl (by kernel_rfl) (by kernel_rfl) (by kernel_rfl) (fun _ _ _ h => h) (Or.inl ⟨by rfl, ?_⟩) (by assumption) ?_
              · intro w hSw; have hcv := HCV8.out w p.A p.x.length p.c PX hSw.2 (by rw [HPX.out]); go_simp
              try simp only [Act.put, List.setIfInBounds_toArray, List.set_cons_zero, List.set_cons_succ]
              refine wpAnyH_ready (rs := [4]) (by kernel_rfl) (by simp) ?_
              refine AllReadyH.cons (o := ⟨some 106, _, _, _, _, _⟩) rfl (fun K hK => ?_) (AllReadyH.nil)
              go_simp
              go_at_call 31
              refine (HQZ.out _).mono ?_
              rintro e v102 ⟨A9, c9, rfl, hown102, g102⟩
              have hta102 := (own_txt hown102).1
              have hS102 : v102.rangeAt pY 0 (attCells z) ∧ Txt v102 p.A PX := ⟨rangeAt_chg hS101.1 g102 (by simp), hS101.2.chg g102⟩
              have E102 := E101.trans g102
              clear hown102
              go_wp2_with fail
              refine hK.out _ _ hS102 (fun _ => ?_)
              clear hK K
              try simp only [Act.put, List.setIfInBounds_toArray, List.set_cons_zero, List.set_cons_succ]
              refine wpAnyH_ready (rs := [5]) (by kernel_rfl) (by simp) ?_
              refine AllReadyH.cons (o := ⟨some 107, _, _, _, _, _⟩) rfl (fun K hK => ?_) (AllReadyH.nil)
              have hcv5 := HCV8.out v102 A9 104 c9 _ hta102 HLX.out
              go_simp
              refine hK.out _ _ hS102 (fun _ => ?_)
              clear hK K
              try simp only [Act.put, List.setIfInBounds_toArray, List.set_cons_zero, List.set_cons_succ]
              refine wpAnyH_take (i := 8) (oi := ⟨some 110, _, _, _, _, _⟩) (v := .bool true) rfl (by kernel_rfl) (by kernel_rfl) (by kernel_rfl) (fun _ _ _ h => h) (Or.inl ⟨by rfl, ?_⟩) (by assumption) ?_
              · intro w _; have hq := HQ9.out ⟨PX.toArray⟩ w; go_simp
              try simp only [Act.put, List.setIfInBounds_toArray, List.set_cons_zero, List.set_cons_succ]
              refine wpAnyH_take (i := 9) (oi := ⟨some 111, _, _, _, _, _⟩) (v := ?_) rfl (by kernel_rfl) (by kernel_rfl) (by kernel_rfl) (fun _ _ _ h => h) (Or.inl ⟨by rfl, ?_⟩) (by assumption) ?_
              rotate_left
              · intro w hSw; (try dsimp only at hSw); go_simp; (try with_reducible rfl)
              try simp only [Act.put, List.setIfInBounds_toArray, List.set_cons_zero, List.set_cons_succ]
              refine wpAnyH_take (i := 10) (oi := ⟨some 112, _, _, _, _, _⟩) (v := ?_) rfl (by kernel_rfl) (by kernel_rfl) (by kernel_rfl) (fun _ _ _ h => h) (Or.inl ⟨by rfl, ?_⟩) (by assumption) ?_
              rotate_left
              · intro w hSw; (try dsimp only at hSw); go_simp; (try with_reducible rfl)
              try simp only [Act.put, List.setIfInBounds_toArray, List.set_cons_zero, List.set_cons_succ]
              refine wpAnyH_ready (rs := [11]) (by kernel_rfl) (by simp) ?_
              refine AllReadyH.cons (o := ⟨some 113, _, _, _, _, _⟩) rfl (fun K hK => ?_) (AllReadyH.nil)
              go_simp
              go_at_call 24
              refine (HKN.out _ E102).mono ?_
              rintro e v103 ⟨rfl, g103⟩
              have hS103 : v103.rangeAt pY 0 (attCells z) ∧ Txt v103 p.A PX := ⟨rangeAt_chg hS102.1 g103 (by simp), hS102.2.chg g103⟩
              have E103 := E102.trans g103
              go_wp2_with fail
              refine hK.out _ _ hS103 (fun _ => ?_)
              clear hK K
              try simp only [Act.put, List.setIfInBounds_toArray, List.set_cons_zero, List.set_cons_succ]
              refine wpAnyH_take (i := 12) (oi := ⟨some 114, _, _, _, _, _⟩) (v := ?_) rfl (by kernel_rfl) (by kernel_rfl) (by kernel_rfl) (fun _ _ _ h => h) (Or.inl ⟨by rfl, ?_⟩) (by assumption) ?_
              rotate_left
              · intro w hSw; (try dsimp only at hSw); go_simp; (try with_reducible rfl)
              try simp only [Act.put, List.setIfInBounds_toArray, List.set_cons_zero, List.set_cons_succ]
              refine wpAnyH_take (i := 13) (oi := ⟨some 6, _, _, _, _, _⟩) (v := ?_) rfl (by kernel_rfl) (by kernel_rfl) (by kernel_rfl) (fun _ _ _ h => h) (Or.inl ⟨by rfl, ?_⟩) (by assumption) ?_
              rotate_left
              · intro w hSw; (try dsimp only at hSw); go_simp; (try with_reducible rfl)
              try simp only [Act.put, List.setIfInBounds_toArray, List.set_cons_zero, List.set_cons_succ]
              refine wpAnyH_done (by kernel_rfl) ?_ _
              try simp only [Act.put]
              go_wp2_with fail
              go_ret
              exact ⟨rfl, E103⟩
  · have hm' : mayB a.n = false := by simpa using hm
    have HBN := Lib.hid (fun v => bytes_no a v hm')
    rw [hm'] at HMA
    rw [← hCA] at HBN
    obtain ⟨AX, hAX⟩ : ∃ AX, AX = attBytes a (u64n a.n) := ⟨_, rfl⟩
    obtain ⟨QX, hQX⟩ : ∃ QX, QX = attBytes q (u64n q.n) := ⟨_, rfl⟩
    rw [← hAX] at HQA HSL HL1
    rw [← hQX] at HQB HSL HL2
    have HBL := Lib.hid HSL.out
    generalize lessB a q = LB at *
    clear hCA hCB hm hm' hp hT h1 HKR HSL hAX hQX ha hb
    go_enter Tryd.func11, Tryd.ntmps11
    go_upto_region 1 with fail
    rw [HW2.out]
    clear HW2
    generalize w.heap.size + 1 = pB at *
    generalize w.heap.size = pA at *
    go_upto_region 3 with fail
    go_wp2_with (refine wpList_load_mid rfl 46 _ rfl pA 0 rfl (attCells a) _ HA2.out Tryd.underlying46 rfl HIA.out ?_; rw [← HCA.out])
    refine (HBN.out _).mono ?_
    rintro e w1 ⟨rfl, g1⟩
    go_upto_region 4 with fail
    have E0 := (gR.trans g1).drew
    have G0 := g1.drew
    have hS0 : w1.drew.rangeAt pA 0 (attCells a) ∧ w1.drew.rangeAt pB 0 (attCells q) := ⟨HAR.out _ g1.drew, HBR.out _ g1.drew⟩
    clear HA2 HBN gR g1
    refine wp_region_held_drew (S := fun w' => w'.rangeAt pA 0 (attCells a) ∧ w'.rangeAt pB 0 (attCells q)) (by kernel_rfl) hS0 (fun _ => ?_)
    generalize w1.drew = v0 at *
    refine wpAnyH_take (i := 0) (oi := ⟨some 22, _, _, _, _, _⟩) (v := ?_) rfl (by kernel_rfl) (by kernel_rfl) (by kernel_rfl) (fun _ _ _ h => h) (Or.inl ⟨by rfl, ?_⟩) (by assumption) ?_
    rotate_left
    · intro w hSw; (try dsimp only at hSw); go_simp; (try with_reducible rfl)
    try simp only [Act.put, List.setIfInBounds_toArray, List.set_cons_zero, List.set_cons_succ]
    refine wpAnyH_take (i := 1) (oi := ⟨some 23, _, _, _, _, _⟩) (v := ?_) rfl (by kernel_rfl) (by kernel_rfl) (by kernel_rfl) (fun _ _ _ h => h) (Or.inl ⟨by rfl, ?_⟩) (by assumption) ?_
    rotate_left
    · intro w hSw; (try dsimp only at hSw); go_simp; (try with_reducible rfl)
    try simp only [Act.put, List.setIfInBounds_toArray, List.set_cons_zero, List.set_cons_succ]
    refine wpAnyH_take (i := 2) (oi := ⟨some 24, _, _, _, _, _⟩) (v := .agg CA) rfl (by kernel_rfl) (by kernel_rfl) (by kernel_rfl) (fun _ _ _ h => h) (by rw [HCA.out]; exact yieldsIf_load_mid (by rfl) 46 _ rfl pA 0 rfl (attCells a) _ (fun _ h => h.1) Tryd.underlying46 rfl HIA.out) (by assumption) ?_
    try simp only [Act.put, List.setIfInBounds_toArray, List.set_cons_zero, List.set_cons_succ]
    refine wpAnyH_ready (rs := [3]) (by kernel_rfl) (by simp) ?_
    refine AllReadyH.cons (o := ⟨some 25, _, _, _, _, _⟩) rfl (fun K hK => ?_) (AllReadyH.nil)
    go_simp
    go_at_call 28
    refine (HMA.out _).mono ?_
    rintro e v18 ⟨rfl, g18⟩
    have hS18 : v18.rangeAt pA 0 (attCells a) ∧ v18.rangeAt pB 0 (attCells q) := ⟨rangeAt_chg hS0.1 g18 (by simp), rangeAt_chg hS0.2 g18 (by simp)⟩
    have E18 := E0.trans g18
    have G18 := G0.trans g18
    go_wp2_with fail
    refine hK.out _ _ hS18 (fun _ => ?_)
    clear hK K
    try simp only [Act.put, List.setIfInBounds_toArray, List.set_cons_zero, List.set_cons_succ]
    refine wpAnyH_take (i := 4) (oi := ⟨some 26, _, _, _, _, _⟩) (v := ?_) rfl (by kernel_rfl) (by kernel_rfl) (by kernel_rfl) (fun _ _ _ h => h) (Or.inl ⟨by rfl, ?_⟩) (by assumption) ?_
    rotate_left
    · intro w hSw; (try dsimp only at hSw); go_simp; (try with_reducible rfl)
    try simp only [Act.put, List.setIfInBounds_toArray, List.set_cons_zero, List.set_cons_succ]
    refine wpAnyH_take (i := 5) (oi := ⟨some 27, _, _, _, _, _⟩) (v := ?_) rfl (by kernel_rfl) (by kernel_rfl) (by kernel_rfl) (fun _ _ _ h => h) (Or.inl ⟨by rfl, ?_⟩) (by assumption) ?_
    rotate_left
    · intro w hSw; (try dsimp only at hSw); go_simp; (try with_reducible rfl)
    try simp only [Act.put, List.setIfInBounds_toArray, List.set_cons_zero, List.set_cons_succ]
    refine wpAnyH_take (i := 6) (oi := ⟨some 28, _, _, _, _, _⟩) (v := ?_) rfl (by kernel_rfl) (by kernel_rfl) (by kernel_rfl) (fun _ _ _ h => h) (Or.inl ⟨by rfl, ?_⟩) (by assumption) ?_
    rotate_left
    · intro w hSw; (try dsimp only at hSw); go_simp; (try with_reducible rfl)
    try simp only [Act.put, List.setIfInBounds_toArray, List.set_cons_zero, List.set_cons_succ]
    refine wpAnyH_take (i := 7) (oi := ⟨some 29, _, _, _, _, _⟩) (v := ?_) rfl (by kernel_rfl) (by kernel_rfl) (by kernel_rfl) (fun _ _ _ h => h) (Or.inl ⟨by rfl, ?_⟩) (by assumption) ?_
    rotate_left
    · intro w hSw; (try dsimp only at hSw); go_simp; (try with_reducible rfl)
    try simp only [Act.put, List.setIfInBounds_toArray, List.set_cons_zero, List.set_cons_succ]
    refine wpAnyH_take (i := 8) (oi := ⟨some 30, _, _, _, _, _⟩) (v := ?_) rfl (by kernel_rfl) (by kernel_rfl) (by kernel_rfl) (fun _ _ _ h => h) (Or.inl ⟨by rfl, ?_⟩) (by assumption) ?_
    rotate_left
    · intro w hSw; (try dsimp only at hSw); go_simp; (try with_reducible rfl)
    try simp only [Act.put, List.setIfInBounds_toArray, List.set_cons_zero, List.set_cons_succ]
    refine wpAnyH_take (i := 9) (oi := ⟨some 31, _, _, _, _, _⟩) (v := ?_) rfl (by kernel_rfl) (by kernel_rfl) (by kernel_rfl) (fun _ _ _ h => h) (Or.inl ⟨by rfl, ?_⟩) (by assumption) ?_
    rotate_left
    · intro w hSw; (try dsimp only at hSw); go_simp; (try with_reducible rfl)
    try simp only [Act.put, List.setIfInBounds_toArray, List.set_cons_zero, List.set_cons_succ]
    refine wpAnyH_take (i := 10) (oi := ⟨some 32, _, _, _, _, _⟩) (v := ?_) rfl (by kernel_rfl) (by kernel_rfl) (by kernel_rfl) (fun _ _ _ h => h) (Or.inl ⟨by rfl, ?_⟩) (by assumption) ?_
    rotate_left
    · intro w hSw; (try dsimp only at hSw); go_simp; (try with_reducible rfl)
    try simp only [Act.put, List.setIfInBounds_toArray, List.set_cons_zero, List.set_cons_succ]
    refine wpAnyH_take (i := 11) (oi := ⟨some 33, _, _, _, _, _⟩) (v := ?_) rfl (by kernel_rfl) (by kernel_rfl) (by kernel_rfl) (fun _ _ _ h => h) (Or.inl ⟨by rfl, ?_⟩) (by assumption) ?_
    rotate_left
    · intro w hSw; (try dsimp only at hSw); go_simp; (try with_reducible rfl)
    try simp only [Act.put, List.setIfInBounds_toArray, List.set_cons_zero, List.set_cons_succ]
    refine wpAnyH_take (i := 12) (oi := ⟨some 34, _, _, _, _, _⟩) (v := ?_) rfl (by kernel_rfl) (by kernel_rfl) (by kernel_rfl) (fun _ _ _ h => h) (Or.inl ⟨by rfl, ?_⟩) (by assumption) ?_
    rotate_left
    · intro w hSw; (try dsimp only at hSw); go_simp; (try with_reducible rfl)
    try simp only [Act.put, List.setIfInBounds_toArray, List.set_cons_zero, List.set_cons_succ]
    refine wpAnyH_take (i := 13) (oi := ⟨some 35, _, _, _, _, _⟩) (v := ?_) rfl (by kernel_rfl) (by kernel_rfl) (by kernel_rfl) (fun _ _ _ h => h) (Or.inl ⟨by rfl, ?_⟩) (by assumption) ?_
    rotate_left
    · intro w hSw; (try dsimp only at hSw); go_simp; (try with_reducible rfl)
    try simp only [Act.put, List.setIfInBounds_toArray, List.set_cons_zero, List.set_cons_succ]
    refine wpAnyH_take (i := 14) (oi := ⟨some 36, _, _, _, _, _⟩) (v := ?_) rfl (by kernel_rfl) (by kernel_rfl) (by kernel_rfl) (fun _ _ _ h => h) (Or.inl ⟨by rfl, ?_⟩) (by assumption) ?_
    rotate_left
    · intro w hSw; (try dsimp only at hSw); go_simp; (try with_reducible rfl)
    try simp only [Act.put, List.setIfInBounds_toArray, List.set_cons_zero, List.set_cons_succ]
    refine wpAnyH_take (i := 15) (oi := ⟨some 37, _, _, _, _, _⟩) (v := ?_) rfl (by kernel_rfl) (by kernel_rfl) (by kernel_rfl) (fun _ _ _ h => h) (Or.inl ⟨by rfl, ?_⟩) (by assumption) ?_
    rotate_left
    · intro w hSw; (try dsimp only at hSw); go_simp; (try with_reducible rfl)
    try simp only [Act.put, List.setIfInBounds_toArray, List.set_cons_zero, List.set_cons_succ]
    refine wpAnyH_take (i := 16) (oi := ⟨some 38, _, _, _, _, _⟩) (v := ?_) rfl (by kernel_rfl) (by kernel_rfl) (by kernel_rfl) (fun _ _ _ h => h) (Or.inl ⟨by rfl, ?_⟩) (by assumption) ?_
    rotate_left
    · intro w hSw; (try dsimp only at hSw); go_simp; (try with_reducible rfl)
    try simp only [Act.put, List.setIfInBounds_toArray, List.set_cons_zero, List.set_cons_succ]
    refine wpAnyH_take (i := 17) (oi := ⟨some 39, _, _, _, _, _⟩) (v := ?_) rfl (by kernel_rfl) (by kernel_rfl) (by kernel_rfl) (fun _ _ _ h => h) (Or.inl ⟨by rfl, ?_⟩) (by assumption) ?_
    rotate_left
    · intro w hSw; (try dsimp only at hSw); go_simp; (try with_reducible rfl)
    try simp only [Act.put, List.setIfInBounds_toArray, List.set_cons_zero, List.set_cons_succ]
    refine wpAnyH_take (i := 18) (oi := ⟨some 40, _, _, _, _, _⟩) (v := ?_) rfl (by kernel_rfl) (by kernel_rfl) (by kernel_rfl) (fun _ _ _ h => h) (Or.inl ⟨by rfl, ?_⟩) (by assumption) ?_
    rotate_left
    · intro w hSw; (try dsimp only at hSw); go_simp; (try with_reducible rfl)
    try simp only [Act.put, List.setIfInBounds_toArray, List.set_cons_zero, List.set_cons_succ]
    refine wpAnyH_take (i := 19) (oi := ⟨some 41, _, _, _, _, _⟩) (v := .agg CA) rfl (by kernel_rfl) (by kernel_rfl) (by kernel_rfl) (fun _ _ _ h => h) (by rw [HCA.out]; exact yieldsIf_load_mid (by rfl) 46 _ rfl pA 0 rfl (attCells a) _ (fun _ h => h.1) Tryd.underlying46 rfl HIA.out) (by assumption) ?_
    try simp only [Act.put, List.setIfInBounds_toArray, List.set_cons_zero, List.set_cons_succ]
    refine wpAnyH_take (i := 20) (oi := ⟨some 42, _, _, _, _, _⟩) (v := .agg CB) rfl (by kernel_rfl) (by kernel_rfl) (by kernel_rfl) (fun _ _ _ h => h) (by rw [HCB.out]; exact yieldsIf_load_mid (by rfl) 46 _ rfl pB 0 rfl (attCells q) _ (fun _ h => h.2) Tryd.underlying46 rfl HIB.out) (by assumption) ?_
    try simp only [Act.put, List.setIfInBounds_toArray, List.set_cons_zero, List.set_cons_succ]
    refine wpAnyH_take (i := 22) (oi := ⟨some 44, _, _, _, _, _⟩) (v := .agg CA) rfl (by kernel_rfl) (by kernel_rfl) (by kernel_rfl) (fun _ _ _ h => h) (by rw [HCA.out]; exact yieldsIf_load_mid (by rfl) 46 _ rfl pA 0 rfl (attCells a) _ (fun _ h => h.1) Tryd.underlying46 rfl HIA.out) (by assumption) ?_
    try simp only [Act.put, List.setIfInBounds_toArray, List.set_cons_zero, List.set_cons_succ]
    refine wpAnyH_take (i := 25) (oi := ⟨some 47, _, _, _, _, _⟩) (v := .agg CB) rfl (by kernel_rfl) (by kernel_rfl) (by kernel_rfl) (fun _ _ _ h => h) (by rw [HCB.out]; exact yieldsIf_load_mid (by rfl) 46 _ rfl pB 0 rfl (attCells q) _ (fun _ h => h.2) Tryd.underlying46 rfl HIB.out) (by assumption) ?_
    try simp only [Act.put, List.setIfInBounds_toArray, List.set_cons_zero, List.set_cons_succ]
    refine wpAnyH_ready (rs := [21]) (by kernel_rfl) (by simp) ?_
    refine AllReadyH.cons (o := ⟨some 43, _, _, _, _, _⟩) rfl (fun K hK => ?_) (AllReadyH.nil)
    go_simp
    go_at_call 30
    refine (HLS.out _).mono ?_
    rintro e v19 ⟨rfl, g19⟩
    have hS19 : v19.rangeAt pA 0 (attCells a) ∧ v19.rangeAt pB 0 (attCells q) := ⟨rangeAt_chg hS18.1 g19 (by simp), rangeAt_chg hS18.2 g19 (by simp)⟩
    have E19 := E18.trans g19
    have G19 := G18.trans g19
    go_wp2_with fail
    refine hK.out _ _ hS19 (fun _ => ?_)
    clear hK K
    try simp only [Act.put, List.setIfInBounds_toArray, List.set_cons_zero, List.set_cons_succ]
    refine wpAnyH_ready (rs := [23]) (by kernel_rfl) (by simp) ?_
    refine AllReadyH.cons (o := ⟨some 45, _, _, _, _, _⟩) rfl (fun K hK => ?_) (AllReadyH.nil)
    go_simp
    go_at_call 31
    refine (HQA.out _).mono ?_
    rintro e v20 ⟨A3, c3, rfl, hown20, g20⟩
    have hta20 := (own_txt hown20).1
    have hS20 : v20.rangeAt pA 0 (attCells a) ∧ v20.rangeAt pB 0 (attCells q) := ⟨rangeAt_chg hS19.1 g20 (by simp), rangeAt_chg hS19.2 g20 (by simp)⟩
    have E20 := E19.trans g20
    have G20 := G19.trans g20
    clear hown20
    go_wp2_with fail
    refine hK.out _ _ hS20 (fun _ => ?_)
    clear hK K
    try simp only [Act.put, List.setIfInBounds_toArray, List.set_cons_zero, List.set_cons_succ]
    refine wpAnyH_ready (rs := [24, 26]) (by kernel_rfl) (by simp) ?_
    refine AllReadyH.cons (o := ⟨some 46, _, _, _, _, _⟩) rfl (fun K hK => ?_) (AllReadyH.cons (o := ⟨some 48, _, _, _, _, _⟩) rfl (fun K hK => ?_) (AllReadyH.nil))
    · as_aux_lemma =>
        have hcv24 := HCV.out v20 A3 104 c3 _ hta20 HL1.out
        go_simp
        refine hK.out _ _ hS20 (fun _ => ?_)
        clear hK K
        try simp only [Act.put, List.setIfInBounds_toArray, List.set_cons_zero, List.set_cons_succ]
        refine wpAnyH_ready (rs := [26]) (by kernel_rfl) (by simp) ?_
        refine AllReadyH.cons (o := ⟨some 48, _, _, _, _, _⟩) rfl (fun K hK => ?_) (AllReadyH.nil)
        go_simp
        go_at_call 31
        refine (HQB.out _).mono ?_
        rintro e v21 ⟨A5, c5, rfl, hown21, g21⟩
        have htq21 := (own_txt hown21).1
        have hta21 := hta20.chg g21
        have hS21 : v21.rangeAt pA 0 (attCells a) ∧ v21.rangeAt pB 0 (attCells q) := ⟨rangeAt_chg hS20.1 g21 (by simp), rangeAt_chg hS20.2 g21 (by simp)⟩
        have E21 := E20.trans g21
        have G21 := G20.trans g21
        clear hown21
        go_wp2_with fail
        refine hK.out _ _ hS21 (fun _ => ?_)
        clear hK K
        try simp only [Act.put, List.setIfInBounds_toArray, List.set_cons_zero, List.set_cons_succ]
        refine wpAnyH_ready (rs := [27]) (by kernel_rfl) (by simp) ?_
        refine AllReadyH.cons (o := ⟨some 49, _, _, _, _, _⟩) rfl (fun K hK => ?_) (AllReadyH.nil)
        have hcv27 := HCV.out v21 A5 104 c5 _ htq21 HL2.out
        go_simp
        refine hK.out _ _ hS21 (fun _ => ?_)
        clear hK K
        try simp only [Act.put, List.setIfInBounds_toArray, List.set_cons_zero, List.set_cons_succ]
        refine wpAnyH_take (i := 28) (oi := ⟨some 50, _, _, _, _, _⟩) (v := .bool LB) rfl (by kernel_rfl) (by kernel_rfl) (by kernel_rfl) (fun _ _ _ h => h) (Or.inl ⟨by rfl, ?_⟩) (by assumption) ?_
        · intro w _; have hb := HBL.out; go_simp
        try simp only [Act.put, List.setIfInBounds_toArray, List.set_cons_zero, List.set_cons_succ]
        refine wpAnyH_take (i := 29) (oi := ⟨some 51, _, _, _, _, _⟩) (v := .bool false) rfl (by kernel_rfl) (by kernel_rfl) (by kernel_rfl) (fun _ _ _ h => h) (Or.inl ⟨by rfl, ?_⟩) (by assumption) ?_
        · intro w _; cases LB <;> go_simp
        try simp only [Act.put, List.setIfInBounds_toArray, List.set_cons_zero, List.set_cons_succ]
        refine wpAnyH_take (i := 30) (oi := ⟨some 52, _, _, _, _, _⟩) (v := ?_) rfl (by kernel_rfl) (by kernel_rfl) (by kernel_rfl) (fun _ _ _ h => h) (Or.inl ⟨by rfl, ?_⟩) (by assumption) ?_
        rotate_left
        · intro w hSw; (try dsimp only at hSw); go_simp; (try with_reducible rfl)
        try simp only [Act.put, List.setIfInBounds_toArray, List.set_cons_zero, List.set_cons_succ]
        refine wpAnyH_done (by kernel_rfl) ?_ _
        try simp only [Act.put]
        have HRB := Lib.hid (HRDB.out v21 E21)
        have EB := E21
        clear HRDB HAR HL2
        go_wp2_with fail
        refine HRB.out.mono ?_
        rintro e w22 ⟨z, n, rfl, g22, hz⟩
        obtain ⟨CY, hCY⟩ : ∃ CY, CY = (attCells z).toArray := ⟨_, rfl⟩
        have HCY := Lib.hid hCY
        obtain ⟨gn, bY⟩ := new_att w22 z
        have HIY : Hid ((Tryd.prog.info? 46).map (·.size) = some CY.size) := by rw [hCY]; exact info46a z
        have HIZ := Lib.hid (info46 z)
        have HOY : Hid (CY.all (·.oneCell') = true) := by rw [hCY]; exact attCells_one z
        have HZY : Hid (Tryd.zeroCells46.size = CY.size) := by show _ = _; rw [hCY, zero46, List.size_toArray, List.size_toArray, attCells_len, attCells_len]
        obtain ⟨U9, hU⟩ : ∃ U9, U9 = (w22.alloc (.cells Tryd.zeroCells46 46)).setRow w22.heap.size CY := ⟨_, rfl⟩
        have HU : Hid ((w22.alloc (.cells Tryd.zeroCells46 46)).setRow w22.heap.size CY = U9) := hU.symm
        rw [← hCY, ← hU] at gn
        rw [← hCY, ← hU] at bY
        have HNW := Lib.hid (heap_alloc_new w22 (.cells Tryd.zeroCells46 46))
        have EU : Chg none w U9 := (EB.trans g22).trans gn
        rw [← hCY]
        clear hU gn hCY
        go_upto_region 11 with (refine wpList_store_row rfl 46 _ _ rfl w22.heap.size CY rfl rfl 46 _ HNW.out HIY.out HZY.out HOY.out ?_)
        rw [HU.out]
        clear HU HNW HRB EB
        generalize w22.heap.size = pY at *
        have HYR := Lib.hid (Blk.range bY)
        have HKE := Lib.hid (HKN.out U9 EU)
        rcases hz with ⟨rfl, rfl, hz⟩ | ⟨rfl, hz1, hz2⟩
        · have HQ46 : Hid (∀ v : World, (binOp .eql 46 (.agg CY) (.agg Tryd.zeroCells46)).run Tryd.prog v = .ok (.bool true) v) := fun v => by rw [HCY.out, zero46, eql46, sameAtt_self]
          have hqe := HQ46.out
          have hg46 := guard46
          by_cases hl : p.x.length = 104
          · as_aux_lemma =>
            have HLE := Lib.hid (HLG.out U9 EU hl (hz hl))
            rw [hl] at HLE
            clear HLG HTP HCV8 HQA hz
            go_wp2_with (refine BigFrame.wpList_want rfl fun _ hK => wp_load_mid 46 _ rfl pY 0 rfl (attCells zeroAtt) _ HYR.out Tryd.underlying46 rfl HIZ.out (hK _ _ ?_); rw [← HCY.out])
            refine HLE.out.mono ?_
            rintro e u1 ⟨rfl, g1⟩
            have HKF := Lib.hid (HKN.out u1 (EU.trans g1))
            have EV := EU.trans g1
            go_wp2_with fail
            refine HKF.out.mono ?_
            rintro e u2 ⟨rfl, g2⟩
            go_wp2_with fail
            go_ret
            exact ⟨rfl, EV.trans g2⟩
          · as_aux_lemma =>
            have d2 : ((p.x.length : Int) == 104) = false := by simp; omega
            clear HLG HTP HCV8 HQA hz
            go_wp2_with (refine BigFrame.wpList_want rfl fun _ hK => wp_load_mid 46 _ rfl pY 0 rfl (attCells zeroAtt) _ HYR.out Tryd.underlying46 rfl HIZ.out (hK _ _ ?_); rw [← HCY.out])
            refine HKE.out.mono ?_
            rintro e u1 ⟨rfl, g1⟩
            go_wp2_with fail
            go_ret
            exact ⟨rfl, EU.trans g1⟩
        · as_aux_lemma =>
          have HMZ : Hid (∀ v, Calls Tryd.prog 28 #[.agg CY] v fun e w' => e = .returned (.bool true) ∧ Chg none v w') := fun v => by
            have := mayr_any z v
            rw [hz1] at this
            rw [HCY.out]; exact this
          have HQZ : Hid (∀ v, Calls Tryd.prog 31 #[.agg CY] v fun e w' => ∃ A c, e = .returned (.slice A 104 c) ∧ w'.ownsRow v.heap.size 5 1 (.slice A 104 c) 104 (byteVals p.x) ∧ Chg none v w') := fun v => by
            have := bytesq_any z v
            rw [hz2] at this
            rw [HCY.out]; exact this
          have HLX : Hid (104 = p.x.length) := by show _ = _; rw [← hz2, attBytes_len]
          obtain ⟨PX, hPX⟩ : ∃ PX, PX = p.x := ⟨_, rfl⟩
          have HPX := Lib.hid hPX
          rw [← hPX] at HQZ HLX
          have hS100 : U9.drew.rangeAt pY 0 (attCells z) ∧ Txt U9.drew p.A PX := ⟨Blk.range (w := U9.drew) (T := 46) bY, by rw [hPX]; exact HTP.out _ EU.drew⟩
          have E100 := EU.drew
          clear HLG HTP HQA hz1 hz2 HYR HKE bY hPX
          go_upto_region 13 with fail
          refine wp_region_held_drew (S := fun w' => w'.rangeAt pY 0 (attCells z) ∧ Txt w' p.A PX) (by kernel_rfl) hS100 (fun _ => ?_)
          clear EU
          generalize U9.drew = v100 at *
          refine wpAnyH_take (i := 0) (oi := ⟨some 102, _, _, _, _, _⟩) (v := .agg CY) rfl (by kernel_rfl) (by kernel_rfl) (by kernel_rfl) (fun _ _ _ h => h) (by rw [HCY.out]; exact yieldsIf_load_mid (by rfl) 46 _ rfl pY 0 rfl (attCells z) _ (fun _ h => h.1) Tryd.underlying46 rfl HIZ.out) (by assumption) ?_
          try simp only [Act.put, List.setIfInBounds_toArray, List.set_cons_zero, List.set_cons_succ]
          refine wpAnyH_ready (rs := [1]) (by kernel_rfl) (by simp) ?_
          refine AllReadyH.cons (o := ⟨some 103, _, _, _, _, _⟩) rfl (fun K hK => ?_) (AllReadyH.nil)
          go_simp
          go_at_call 28
          refine (HMZ.out _).mono ?_
          rintro e v101 ⟨rfl, g101⟩
          have hS101 : v101.rangeAt pY 0 (attCells z) ∧ Txt v101 p.A PX := ⟨rangeAt_chg hS100.1 g101 (by simp), hS100.2.chg g101⟩
          have E101 := E100.trans g101
          go_wp2_with fail
          refine hK.out _ _ hS101 (fun _ => ?_)
          clear hK K
          try simp only [Act.put, List.setIfInBounds_toArray, List.set_cons_zero, List.set_cons_succ]
          refine wpAnyH_take (i := 2) (oi := ⟨some 104, _, _, _, _, _⟩) (v := ?_) rfl (by kernel_rfl) (by kernel_rfl) (by kernel_rfl) (fun _ _ _ h => h) (Or.inl ⟨by rfl, ?_⟩) (by assumption) ?_
          rotate_left
          · intro w hSw; (try dsimp only at hSw); go_simp; (try with_reducible rfl)
          try simp only [Act.put, List.setIfInBounds_toArray, List.set_cons_zero, List.set_cons_succ]
          refine wpAnyH_take (i := 3) (oi := ⟨some 105, _, _, _, _, _⟩) (v := .agg CY) rfl (by kernel_rfl) (by kernel_rfl) (by kernel_rfl) (fun _ _ _ h => h) (by rw [HCY.out]; exact yieldsIf_load_mid (by rfl) 46 _ rfl pY 0 rfl (attCells z) _ (fun _ h => h.1) Tryd.underlying46 rfl HIZ.out) (by assumption) ?_
          try simp only [Act.put, List.setIfInBounds_toArray, List.set_cons_zero, List.set_cons_succ]
          refine wpAnyH_take (i := 6) (oi := ⟨some 108, _, _, _, _, _⟩) (v := ?_) rfl (by kernel_rfl) (by kernel_rfl) (by kernel_rfl) (fun _ _ _ h => h) (Or.inl ⟨by rfl, ?_⟩) (by assumption) ?_
          rotate_left
          · intro w hSw; (try dsimp only at hSw); go_simp; (try with_reducible rfl)
          try simp only [Act.put, List.setIfInBounds_toArray, List.set_cons_zero, List.set_cons_succ]
          refine wpAnyH_take (i := 7) (oi := ⟨some 109, _, _, _, _, _⟩) (v := .string ⟨PX.toArray⟩) rfl (by kernel_rfl) (by kernel_rfl) (by kernel_rfl) (fun _ _ _ h => h) (Or.inl ⟨by rfl, ?_⟩) (by assumption) ?_
          · intro w hSw; have hcv := HCV8.out w p.A p.x.length p.c PX hSw.2 (by rw [HPX.out]); go_simp
          try simp only [Act.put, List.setIfInBounds_toArray, List.set_cons_zero, List.set_cons_succ]
          refine wpAnyH_ready (rs := [4]) (by kernel_rfl) (by simp) ?_
          refine AllReadyH.cons (o := ⟨some 106, _, _, _, _, _⟩) rfl (fun K hK => ?_) (AllReadyH.nil)
          go_simp
          go_at_call 31
          refine (HQZ.out _).mono ?_
          rintro e v102 ⟨A9, c9, rfl, hown102, g102⟩
          have hta102 := (own_txt hown102).1
          have hS102 : v102.rangeAt pY 0 (attCells z) ∧ Txt v102 p.A PX := ⟨rangeAt_chg hS101.1 g102 (by simp), hS101.2.chg g102⟩
          have E102 := E101.trans g102
          clear hown102
          go_wp2_with fail
          refine hK.out _ _ hS102 (fun _ => ?_)
          clear hK K
          try simp only [Act.put, List.setIfInBounds_toArray, List.set_cons_zero, List.set_cons_succ]
          refine wpAnyH_ready (rs := [5]) (by kernel_rfl) (by simp) ?_
          refine AllReadyH.cons (o := ⟨some 107, _, _, _, _, _⟩) rfl (fun K hK => ?_) (AllReadyH.nil)
          have hcv5 := HCV8.out v102 A9 104 c9 _ hta102 HLX.out
          go_simp
          refine hK.out _ _ hS102 (fun _ => ?_)
          clear hK K
          try simp only [Act.put, List.setIfInBounds_toArray, List.set_cons_zero, List.set_cons_succ]
          refine wpAnyH_take (i := 8) (oi := ⟨some 110, _, _, _, _, _⟩) (v := .bool true) rfl (by kernel_rfl) (by kernel_rfl) (by kernel_rfl) (fun _ _ _ h => h) (Or.inl ⟨by rfl, ?_⟩) (by assumption) ?_
          · intro w _; have hq := HQ9.out ⟨PX.toArray⟩ w; go_simp
          try simp only [Act.put, List.setIfInBounds_toArray, List.set_cons_zero, List.set_cons_succ]
          refine wpAnyH_take (i := 9) (oi := ⟨some 111, _, _, _, _, _⟩) (v := ?_) rfl (by kernel_rfl) (by kernel_rfl) (by kernel_rfl) (fun _ _ _ h => h) (Or.inl ⟨by rfl, ?_⟩) (by assumption) ?_
          rotate_left
          · intro w hSw; (try dsimp only at hSw); go_simp; (try with_reducible rfl)
          try simp only [Act.put, List.setIfInBounds_toArray, List.set_cons_zero, List.set_cons_succ]
          refine wpAnyH_take (i := 10) (oi := ⟨some 112, _, _, _, _, _⟩) (v := ?_) rfl (by kernel_rfl) (by kernel_rfl) (by kernel_rfl) (fun _ _ _ h => h) (Or.inl ⟨by rfl, ?_⟩) (by assumption) ?_
          rotate_left
          · intro w hSw; (try dsimp only at hSw); go_simp; (try with_reducible rfl)
          try simp only [Act.put, List.setIfInBounds_toArray, List.set_cons_zero, List.set_cons_succ]
          refine wpAnyH_ready (rs := [11]) (by kernel_rfl) (by simp) ?_
          refine AllReadyH.cons (o := ⟨some 113, _, _, _, _, _⟩) rfl (fun K hK => ?_) (AllReadyH.nil)
          go_simp
          go_at_call 24
          refine (HKN.out _ E102).mono ?_
          rintro e v103 ⟨rfl, g103⟩
          have hS103 : v103.rangeAt pY 0 (attCells z) ∧ Txt v103 p.A PX := ⟨rangeAt_chg hS102.1 g103 (by simp), hS102.2.chg g103⟩
          have E103 := E102.trans g103
          go_wp2_with fail
          refine hK.out _ _ hS103 (fun _ => ?_)
          clear hK K
          try simp only [Act.put, List.setIfInBounds_toArray, List.set_cons_zero, List.set_cons_succ]
          refine wpAnyH_take (i := 12) (oi := ⟨some 114, _, _, _, _, _⟩) (v := ?_) rfl (by kernel_rfl) (by kernel_rfl) (by kernel_rfl) (fun _ _ _ h => h) (Or.inl ⟨by rfl, ?_⟩) (by assumption) ?_
          rotate_left
          · intro w hSw; (try dsimp only at hSw); go_simp; (try with_reducible rfl)
          try simp only [Act.put, List.setIfInBounds_toArray, List.set_cons_zero, List.set_cons_succ]
          refine wpAnyH_take (i := 13) (oi := ⟨some 6, _, _, _, _, _⟩) (v := ?_) rfl (by kernel_rfl) (by kernel_rfl) (by kernel_rfl) (fun _ _ _ h => h) (Or.inl ⟨by rfl, ?_⟩) (by assumption) ?_
          rotate_left
          · intro w hSw; (try dsimp only at hSw); go_simp; (try with_reducible rfl)
          try simp only [Act.put, List.setIfInBounds_toArray, List.set_cons_zero, List.set_cons_succ]
          refine wpAnyH_done (by kernel_rfl) ?_ _
          try simp only [Act.put]
          go_wp2_with fail
          go_ret
          exact ⟨rfl, E103⟩
    · as_aux_lemma =>
        go_simp
        go_at_call 31
        refine (HQB.out _).mono ?_
        rintro e v23 ⟨A5, c5, rfl, hown23, g23⟩
        have htq23 := (own_txt hown23).1
        have hta23 := hta20.chg g23
        have hS23 : v23.rangeAt pA 0 (attCells a) ∧ v23.rangeAt pB 0 (attCells q) := ⟨rangeAt_chg hS20.1 g23 (by simp), rangeAt_chg hS20.2 g23 (by simp)⟩
        have E23 := E20.trans g23
        have G23 := G20.trans g23
        clear hown23
        go_wp2_with fail
        refine hK.out _ _ hS23 (fun _ => ?_)
        clear hK K
        try simp only [Act.put, List.setIfInBounds_toArray, List.set_cons_zero, List.set_cons_succ]
        refine wpAnyH_ready (rs := [24, 27]) (by kernel_rfl) (by simp) ?_
        refine AllReadyH.cons (o := ⟨some 46, _, _, _, _, _⟩) rfl (fun K hK => ?_) (AllReadyH.cons (o := ⟨some 49, _, _, _, _, _⟩) rfl (fun K hK => ?_) (AllReadyH.nil))
        · as_aux_lemma =>
            have hcv24 := HCV.out v23 A3 104 c3 _ hta23 HL1.out
            go_simp
            refine hK.out _ _ hS23 (fun _ => ?_)
            clear hK K
            try simp only [Act.put, List.setIfInBounds_toArray, List.set_cons_zero, List.set_cons_succ]
            refine wpAnyH_ready (rs := [27]) (by kernel_rfl) (by simp) ?_
            refine AllReadyH.cons (o := ⟨some 49, _, _, _, _, _⟩) rfl (fun K hK => ?_) (AllReadyH.nil)
            have hcv27 := HCV.out v23 A5 104 c5 _ htq23 HL2.out
            go_simp
            refine hK.out _ _ hS23 (fun _ => ?_)
            clear hK K
            try simp only [Act.put, List.setIfInBounds_toArray, List.set_cons_zero, List.set_cons_succ]
            refine wpAnyH_take (i := 28) (oi := ⟨some 50, _, _, _, _, _⟩) (v := .bool LB) rfl (by kernel_rfl) (by kernel_rfl) (by kernel_rfl) (fun _ _ _ h => h) (Or.inl ⟨by rfl, ?_⟩) (by assumption) ?_
            · intro w _; have hb := HBL.out; go_simp
            try simp only [Act.put, List.setIfInBounds_toArray, List.set_cons_zero, List.set_cons_succ]
            refine wpAnyH_take (i := 29) (oi := ⟨some 51, _, _, _, _, _⟩) (v := .bool false) rfl (by kernel_rfl) (by kernel_rfl) (by kernel_rfl) (fun _ _ _ h => h) (Or.inl ⟨by rfl, ?_⟩) (by assumption) ?_
            · intro w _; cases LB <;> go_simp
            try simp only [Act.put, List.setIfInBounds_toArray, List.set_cons_zero, List.set_cons_succ]
            refine wpAnyH_take (i := 30) (oi := ⟨some 52, _, _, _, _, _⟩) (v := ?_) rfl (by kernel_rfl) (by kernel_rfl) (by kernel_rfl) (fun _ _ _ h => h) (Or.inl ⟨by rfl, ?_⟩) (by assumption) ?_
            rotate_left
            · intro w hSw; (try dsimp only at hSw); go_simp; (try with_reducible rfl)
            try simp only [Act.put, List.setIfInBounds_toArray, List.set_cons_zero, List.set_cons_succ]
            refine wpAnyH_done (by kernel_rfl) ?_ _
            try simp only [Act.put]
            have HRB := Lib.hid (HRDB.out v23 E23)
            have EB := E23
            clear HRDB HAR HL2
            go_wp2_with fail
            refine HRB.out.mono ?_
            rintro e w24 ⟨z, n, rfl, g24, hz⟩
            obtain ⟨CY, hCY⟩ : ∃ CY, CY = (attCells z).toArray := ⟨_, rfl⟩
            have HCY := Lib.hid hCY
            obtain ⟨gn, bY⟩ := new_att w24 z
            have HIY : Hid ((Tryd.prog.info? 46).map (·.size) = some CY.size) := by rw [hCY]; exact info46a z
            have HIZ := Lib.hid (info46 z)
            have HOY : Hid (CY.all (·.oneCell') = true) := by rw [hCY]; exact attCells_one z
            have HZY : Hid (Tryd.zeroCells46.size = CY.size) := by show _ = _; rw [hCY, zero46, List.size_toArray, List.size_toArray, attCells_len, attCells_len]
            obtain ⟨U9, hU⟩ : ∃ U9, U9 = (w24.alloc (.cells Tryd.zeroCells46 46)).setRow w24.heap.size CY := ⟨_, rfl⟩
            have HU : Hid ((w24.alloc (.cells Tryd.zeroCells46 46)).setRow w24.heap.size CY = U9) := hU.symm
            rw [← hCY, ← hU] at gn
            rw [← hCY, ← hU] at bY
            have HNW := Lib.hid (heap_alloc_new w24 (.cells Tryd.zeroCells46 46))
            have EU : Chg none w U9 := (EB.trans g24).trans gn
            rw [← hCY]
            clear hU gn hCY
            go_upto_region 11 with (refine wpList_store_row rfl 46 _ _ rfl w24.heap.size CY rfl rfl 46 _ HNW.out HIY.out HZY.out HOY.out ?_)
            rw [HU.out]
            clear HU HNW HRB EB
            generalize w24.heap.size = pY at *
            have HYR := Lib.hid (Blk.range bY)
            have HKE := Lib.hid (HKN.out U9 EU)
            rcases hz with ⟨rfl, rfl, hz⟩ | ⟨rfl, hz1, hz2⟩
            · have HQ46 : Hid (∀ v : World, (binOp .eql 46 (.agg CY) (.agg Tryd.zeroCells46)).run Tryd.prog v = .ok (.bool true) v) := fun v => by rw [HCY.out, zero46, eql46, sameAtt_self]
              have hqe := HQ46.out
              have hg46 := guard46
              by_cases hl : p.x.length = 104
              · as_aux_lemma =>
                have HLE := Lib.hid (HLG.out U9 EU hl (hz hl))
                rw [hl] at HLE
                clear HLG HTP HCV8 HQA hz
                go_wp2_with (refine BigFrame.wpList_want rfl fun _ hK => wp_load_mid 46 _ rfl pY 0 rfl (attCells zeroAtt) _ HYR.out Tryd.underlying46 rfl HIZ.out (hK _ _ ?_); rw [← HCY.out])
                refine HLE.out.mono ?_
                rintro e u1 ⟨rfl, g1⟩
                have HKF := Lib.hid (HKN.out u1 (EU.trans g1))
                have EV := EU.trans g1
                go_wp2_with fail
                refine HKF.out.mono ?_
                rintro e u2 ⟨rfl, g2⟩
                go_wp2_with fail
                go_ret
                exact ⟨rfl, EV.trans g2⟩
              · as_aux_lemma =>
                have d2 : ((p.x.length : Int) == 104) = false := by simp; omega
                clear HLG HTP HCV8 HQA hz
                go_wp2_with (refine BigFrame.wpList_want rfl fun _ hK => wp_load_mid 46 _ rfl pY 0 rfl (attCells zeroAtt) _ HYR.out Tryd.underlying46 rfl HIZ.out (hK _ _ ?_); rw [← HCY.out])
                refine HKE.out.mono ?_
                rintro e u1 ⟨rfl, g1⟩
                go_wp2_with fail
                go_ret
                exact ⟨rfl, EU.trans g1⟩
            · as_aux_lemma =>
              have HMZ : Hid (∀ v, Calls Tryd.prog 28 #[.agg CY] v fun e w' => e = .returned (.bool true) ∧ Chg none v w') := fun v => by
                have := mayr_any z v
                rw [hz1] at this
                rw [HCY.out]; exact this
              have HQZ : Hid (∀ v, Calls Tryd.prog 31 #[.agg CY] v fun e w' => ∃ A c, e = .returned (.slice A 104 c) ∧ w'.ownsRow v.heap.size 5 1 (.slice A 104 c) 104 (byteVals p.x) ∧ Chg none v w') := fun v => by
                have := bytesq_any z v
                rw [hz2] at this
                rw [HCY.out]; exact this
              have HLX : Hid (104 = p.x.length) := by show _ = _; rw [← hz2, attBytes_len]
              obtain ⟨PX, hPX⟩ : ∃ PX, PX = p.x := ⟨_, rfl⟩
              have HPX := Lib.hid hPX
              rw [← hPX] at HQZ HLX
              have hS100 : U9.drew.rangeAt pY 0 (attCells z) ∧ Txt U9.drew p.A PX := ⟨Blk.range (w := U9.drew) (T := 46) bY, by rw [hPX]; exact HTP.out _ EU.drew⟩
              have E100 := EU.drew
              clear HLG HTP HQA hz1 hz2 HYR HKE bY hPX
              go_upto_region 13 with fail
              refine wp_region_held_drew (S := fun w' => w'.rangeAt pY 0 (attCells z) ∧ Txt w' p.A PX) (by kernel_rfl) hS100 (fun _ => ?_)
              clear EU
              generalize U9.drew = v100 at *
              refine wpAnyH_take (i := 0) (oi := ⟨some 102, _, _, _, _, _⟩) (v := .agg CY) rfl (by kernel_rfl) (by kernel_rfl) (by kernel_rfl) (fun _ _ _ h => h) (by rw [HCY.out]; exact yieldsIf_load_mid (by rfl) 46 _ rfl pY 0 rfl (attCells z) _ (fun _ h => h.1) Tryd.underlying46 rfl HIZ.out) (by assumption) ?_
              try simp only [Act.put, List.setIfInBounds_toArray, List.set_cons_zero, List.set_cons_succ]
              refine wpAnyH_ready (rs := [1]) (by kernel_rfl) (by simp) ?_
              refine AllReadyH.cons (o := ⟨some 103, _, _, _, _, _⟩) rfl (fun K hK => ?_) (AllReadyH.nil)
              go_simp
              go_at_call 28
              refine (HMZ.out _).mono ?_
              rintro e v101 ⟨rfl, g101⟩
              have hS101 : v101.rangeAt pY 0 (attCells z) ∧ Txt v101 p.A PX := ⟨rangeAt_chg hS100.1 g101 (by simp), hS100.2.chg g101⟩
              have E101 := E100.trans g101
              go_wp2_with fail
              refine hK.out _ _ hS101 (fun _ => ?_)
              clear hK K
              try simp only [Act.put, List.setIfInBounds_toArray, List.set_cons_zero, List.set_cons_succ]
              refine wpAnyH_take (i := 2) (oi := ⟨some 104, _, _, _, _, _⟩) (v := ?_) rfl (by kernel_rfl) (by kernel_rfl) (by kernel_rfl) (fun _ _ _ h => h) (Or.inl ⟨by rfl, ?_⟩) (by assumption) ?_
              rotate_left
              · intro w hSw; (try dsimp only at hSw); go_simp; (try with_reducible rfl)
              try simp only [Act.put, List.setIfInBounds_toArray, List.set_cons_zero, List.set_cons_succ]
              refine wpAnyH_take (i := 3) (oi := ⟨some 105, _, _, _, _, _⟩) (v := .agg CY) rfl (by kernel_rfl) (by kernel_rfl) (by kernel_rfl) (fun _ _ _ h => h) (by rw [HCY.out]; exact yieldsIf_load_mid (by rfl) 46 _ rfl pY 0 rfl (attCells z) _ (fun _ h => h.1) Tryd.underlying46 rfl HIZ.out) (by assumption) ?_
              try simp only [Act.put, List.setIfInBounds_toArray, List.set_cons_zero, List.set_cons_succ]
              refine wpAnyH_take (i := 6) (oi := ⟨some 108, _, _, _, _, _⟩) (v := ?_) rfl (by kernel_rfl) (by kernel_rfl) (by kernel_rfl) (fun _ _ _ h => h) (Or.inl ⟨by rfl, ?_⟩) (by assumption) ?_
              rotate_left
              · intro w hSw; (try dsimp only at hSw); go_simp; (try with_reducible rfl)
              try simp only [Act.put, List.setIfInBounds_toArray, List.set_cons_zero, List.set_cons_succ]
              refine wpAnyH_take (i := 7) (oi := ⟨some 109, _, _, _, _, _⟩) (v := .string ⟨PX.toArray⟩) rfl (by kernel_rfl) (by kernel_rfl) (by kernel_rfl) (fun _ _ _ h => h) (Or.inl ⟨by rfl, ?_⟩) (by assumption) ?_
              · intro w hSw; have hcv := HCV8.out w p.A p.x.length p.c PX hSw.2 (by rw [HPX.out]); go_simp
              try simp only [Act.put, List.setIfInBounds_toArray, List.set_cons_zero, List.set_cons_succ]
              refine wpAnyH_ready (rs := [4]) (by kernel_rfl) (by simp) ?_
              refine AllReadyH.cons (o := ⟨some 106, _, _, _, _, _⟩) rfl (fun K hK => ?_) (AllReadyH.nil)
              go_simp
              go_at_call 31
              refine (HQZ.out _).mono ?_
              rintro e v102 ⟨A9, c9, rfl, hown102, g102⟩
              have hta102 := (own_txt hown102).1
              have hS102 : v102.rangeAt pY 0 (attCells z) ∧ Txt v102 p.A PX := ⟨rangeAt_chg hS101.1 g102 (by simp), hS101.2.chg g102⟩
              have E102 := E101.trans g102
              clear hown102
              go_wp2_with fail
              refine hK.out _ _ hS102 (fun _ => ?_)
              clear hK K
              try simp only [Act.put, List.setIfInBounds_toArray, List.set_cons_zero, List.set_cons_succ]
              refine wpAnyH_ready (rs := [5]) (by kernel_rfl) (by simp) ?_
              refine AllReadyH.cons (o := ⟨some 107, _, _, _, _, _⟩) rfl (fun K hK => ?_) (AllReadyH.nil)
              have hcv5 := HCV8.out v102 A9 104 c9 _ hta102 HLX.out
              go_simp
              refine hK.out _ _ hS102 (fun _ => ?_)
              clear hK K
              try simp only [Act.put, List.setIfInBounds_toArray, List.set_cons_zero, List.set_cons_succ]
              refine wpAnyH_take (i := 8) (oi := ⟨some 110, _, _, _, _, _⟩) (v := .bool true) rfl (by kernel_rfl) (by kernel_rfl) (by kernel_rfl) (fun _ _ _ h => h) (Or.inl ⟨by rfl, ?_⟩) (by assumption) ?_
              · intro w _; have hq := HQ9.out ⟨PX.toArray⟩ w; go_simp
              try simp only [Act.put, List.setIfInBounds_toArray, List.set_cons_zero, List.set_cons_succ]
              refine wpAnyH_take (i := 9) (oi := ⟨some 111, _, _, _, _, _⟩) (v := ?_) rfl (by kernel_rfl) (by kernel_rfl) (by kernel_rfl) (fun _ _ _ h => h) (Or.inl ⟨by rfl, ?_⟩) (by assumption) ?_
              rotate_left
              · intro w hSw; (try dsimp only at hSw); go_simp; (try with_reducible rfl)
              try simp only [Act.put, List.setIfInBounds_toArray, List.set_cons_zero, List.set_cons_succ]
              refine wpAnyH_take (i := 10) (oi := ⟨some 112, _, _, _, _, _⟩) (v := ?_) rfl (by kernel_rfl) (by kernel_rfl) (by kernel_rfl) (fun _ _ _ h => h) (Or.inl ⟨by rfl, ?_⟩) (by assumption) ?_
              rotate_left
              · intro w hSw; (try dsimp only at hSw); go_simp; (try with_reducible rfl)
              try simp only [Act.put, List.setIfInBounds_toArray, List.set_cons_zero, List.set_cons_succ]
              refine wpAnyH_ready (rs := [11]) (by kernel_rfl) (by simp) ?_
              refine AllReadyH.cons (o := ⟨some 113, _, _, _, _, _⟩) rfl (fun K hK => ?_) (AllReadyH.nil)
              go_simp
              go_at_call 24
              refine (HKN.out _ E102).mono ?_
              rintro e v103 ⟨rfl, g103⟩
              have hS103 : v103.rangeAt pY 0 (attCells z) ∧ Txt v103 p.A PX := ⟨rangeAt_chg hS102.1 g103 (by simp), hS102.2.chg g103⟩
              have E103 := E102.trans g103
              go_wp2_with fail
              refine hK.out _ _ hS103 (fun _ => ?_)
              clear hK K
              try simp only [Act.put, List.setIfInBounds_toArray, List.set_cons_zero, List.set_cons_succ]
              refine wpAnyH_take (i := 12) (oi := ⟨some 114, _, _, _, _, _⟩) (v := ?_) rfl (by kernel_rfl) (by kernel_rfl) (by kernel_rfl) (fun _ _ _ h => h) (Or.inl ⟨by rfl, ?_⟩) (by assumption) ?_
              rotate_left
              · intro w hSw; (try dsimp only at hSw); go_simp; (try with_reducible rfl)
              try simp only [Act.put, List.setIfInBounds_toArray, List.set_cons_zero, List.set_cons_succ]
              refine wpAnyH_take (i := 13) (oi := ⟨some 6, _, _, _, _, _⟩) (v := ?_) rfl (by kernel_rfl) (by kernel_rfl) (by kernel_rfl) (fun _ _ _ h => h) (Or.inl ⟨by rfl, ?_⟩) (by assumption) ?_
              rotate_left
              · intro w hSw; (try dsimp only at hSw); go_simp; (try with_reducible rfl)
              try simp only [Act.put, List.setIfInBounds_toArray, List.set_cons_zero, List.set_cons_succ]
              refine wpAnyH_done (by kernel_rfl) ?_ _
              try simp only [Act.put]
              go_wp2_with fail
              go_ret
              exact ⟨rfl, E103⟩
        · as_aux_lemma =>
            have hcv27 := HCV.out v23 A5 104 c5 _ htq23 HL2.out
            go_simp
            refine hK.out _ _ hS23 (fun _ => ?_)
            clear hK K
            try simp only [Act.put, List.setIfInBounds_toArray, List.set_cons_zero, List.set_cons_succ]
            refine wpAnyH_ready (rs := [24]) (by kernel_rfl) (by simp) ?_
            refine AllReadyH.cons (o := ⟨some 46, _, _, _, _, _⟩) rfl (fun K hK => ?_) (AllReadyH.nil)
            have hcv24 := HCV.out v23 A3 104 c3 _ hta23 HL1.out
            go_simp
            refine hK.out _ _ hS23 (fun _ => ?_)
            clear hK K
            try simp only [Act.put, List.setIfInBounds_toArray, List.set_cons_zero, List.set_cons_succ]
            refine wpAnyH_take (i := 28) (oi := ⟨some 50, _, _, _, _, _⟩) (v := .bool LB) rfl (by kernel_rfl) (by kernel_rfl) (by kernel_rfl) (fun _ _ _ h => h) (Or.inl ⟨by rfl, ?_⟩) (by assumption) ?_
            · intro w _; have hb := HBL.out; go_simp
            try simp only [Act.put, List.setIfInBounds_toArray, List.set_cons_zero, List.set_cons_succ]
            refine wpAnyH_take (i := 29) (oi := ⟨some 51, _, _, _, _, _⟩) (v := .bool false) rfl (by kernel_rfl) (by kernel_rfl) (by kernel_rfl) (fun _ _ _ h => h) (Or.inl ⟨by rfl, ?_⟩) (by assumption) ?_
            · intro w _; cases LB <;> go_simp
            try simp only [Act.put, List.setIfInBounds_toArray, List.set_cons_zero, List.set_cons_succ]
            refine wpAnyH_take (i := 30) (oi := ⟨some 52, _, _, _, _, _⟩) (v := ?_) rfl (by kernel_rfl) (by kernel_rfl) (by kernel_rfl) (fun _ _ _ h => h) (Or.inl ⟨by rfl, ?_⟩) (by assumption) ?_
            rotate_left
            · intro w hSw; (try dsimp only at hSw); go_simp; (try with_reducible rfl)
            try simp only [Act.put, List.setIfInBounds_toArray, List.set_cons_zero, List.set_cons_succ]
            refine wpAnyH_done (by kernel_rfl) ?_ _
            try simp only [Act.put]
            have HRB := Lib.hid (HRDB.out v23 E23)
            have EB := E23
            clear HRDB HAR HL2
            go_wp2_with fail
            refine HRB.out.mono ?_
            rintro e w25 ⟨z, n, rfl, g25, hz⟩
            obtain ⟨CY, hCY⟩ : ∃ CY, CY = (attCells z).toArray := ⟨_, rfl⟩
            have HCY := Lib.hid hCY
            obtain ⟨gn, bY⟩ := new_att w25 z
            have HIY : Hid ((Tryd.prog.info? 46).map (·.size) = some CY.size) := by rw [hCY]; exact info46a z
            have HIZ := Lib.hid (info46 z)
            have HOY : Hid (CY.all (·.oneCell') = true) := by rw [hCY]; exact attCells_one z
            have HZY : Hid (Tryd.zeroCells46.size = CY.size) := by show _ = _; rw [hCY, zero46, List.size_toArray, List.size_toArray, attCells_len, attCells_len]
            obtain ⟨U9, hU⟩ : ∃ U9, U9 = (w25.alloc (.cells Tryd.zeroCells46 46)).setRow w25.heap.size CY := ⟨_, rfl⟩
            have HU : Hid ((w25.alloc (.cells Tryd.zeroCells46 46)).setRow w25.heap.size CY = U9) := hU.symm
            rw [← hCY, ← hU] at gn
            rw [← hCY, ← hU] at bY
            have HNW := Lib.hid (heap_alloc_new w25 (.cells Tryd.zeroCells46 46))
            have EU : Chg none w U9 := (EB.trans g25).trans gn
            rw [← hCY]
            clear hU gn hCY
            go_upto_region 11 with (refine wpList_store_row rfl 46 _ _ rfl w25.heap.size CY rfl rfl 46 _ HNW.out HIY.out HZY.out HOY.out ?_)
            rw [HU.out]
            clear HU HNW HRB EB
            generalize w25.heap.size = pY at *
            have HYR := Lib.hid (Blk.range bY)
            have HKE := Lib.hid (HKN.out U9 EU)
            rcases hz with ⟨rfl, rfl, hz⟩ | ⟨rfl, hz1, hz2⟩
            · have HQ46 : Hid (∀ v : World, (binOp .eql 46 (.agg CY) (.agg Tryd.zeroCells46)).run Tryd.prog v = .ok (.bool true) v) := fun v => by rw [HCY.out, zero46, eql46, sameAtt_self]
              have hqe := HQ46.out
              have hg46 := guard46
              by_cases hl : p.x.length = 104
              · as_aux_lemma =>
                have HLE := Lib.hid (HLG.out U9 EU hl (hz hl))
                rw [hl] at HLE
                clear HLG HTP HCV8 HQA hz
                go_wp2_with (refine BigFrame.wpList_want rfl fun _ hK => wp_load_mid 46 _ rfl pY 0 rfl (attCells zeroAtt) _ HYR.out Tryd.underlying46 rfl HIZ.out (hK _ _ ?_); rw [← HCY.out])
                refine HLE.out.mono ?_
                rintro e u1 ⟨rfl, g1⟩
                have HKF := Lib.hid (HKN.out u1 (EU.trans g1))
                have EV := EU.trans g1
                go_wp2_with fail
                refine HKF.out.mono ?_
                rintro e u2 ⟨rfl, g2⟩
                go_wp2_with fail
                go_ret
                exact ⟨rfl, EV.trans g2⟩
              · as_aux_lemma =>
                have d2 : ((p.x.length : Int) == 104) = false := by simp; omega
                clear HLG HTP HCV8 HQA hz
                go_wp2_with (refine BigFrame.wpList_want rfl fun _ hK => wp_load_mid 46 _ rfl pY 0 rfl (attCells zeroAtt) _ HYR.out Tryd.underlying46 rfl HIZ.out (hK _ _ ?_); rw [← HCY.out])
                refine HKE.out.mono ?_
                rintro e u1 ⟨rfl, g1⟩
                go_wp2_with fail
                go_ret
                exact ⟨rfl, EU.trans g1⟩
            · as_aux_lemma =>
              have HMZ : Hid (∀ v, Calls Tryd.prog 28 #[.agg CY] v fun e w' => e = .returned (.bool true) ∧ Chg none v w') := fun v => by
                have := mayr_any z v
                rw [hz1] at this
                rw [HCY.out]; exact this
              have HQZ : Hid (∀ v, Calls Tryd.prog 31 #[.agg CY] v fun e w' => ∃ A c, e = .returned (.slice A 104 c) ∧ w'.ownsRow v.heap.size 5 1 (.slice A 104 c) 104 (byteVals p.x) ∧ Chg none v w') := fun v => by
                have := bytesq_any z v
                rw [hz2] at this
                rw [HCY.out]; exact this
              have HLX : Hid (104 = p.x.length) := by show _ = _; rw [← hz2, attBytes_len]
              obtain ⟨PX, hPX⟩ : ∃ PX, PX = p.x := ⟨_, rfl⟩
              have HPX := Lib.hid hPX
              rw [← hPX] at HQZ HLX
              have hS100 : U9.drew.rangeAt pY 0 (attCells z) ∧ Txt U9.drew p.A PX := ⟨Blk.range (w := U9.drew) (T := 46) bY, by rw [hPX]; exact HTP.out _ EU.drew⟩
              have E100 := EU.drew
              clear HLG HTP HQA hz1 hz2 HYR HKE bY hPX
              go_upto_region 13 with fail
              refine wp_region_held_drew (S := fun w' => w'.rangeAt pY 0 (attCells z) ∧ Txt w' p.A PX) (by kernel_rfl) hS100 (fun _ => ?_)
              clear EU
              generalize U9.drew = v100 at *
              refine wpAnyH_take (i := 0) (oi := ⟨some 102, _, _, _, _, _⟩) (v := .agg CY) rfl (by kernel_rfl) (by kernel_rfl) (by kernel_rfl) (fun _ _ _ h => h) (by rw [HCY.out]; exact yieldsIf_load_mid (by rfl) 46 _ rfl pY 0 rfl (attCells z) _ (fun _ h => h.1) Tryd.underlying46 rfl HIZ.out) (by assumption) ?_
              try simp only [Act.put, List.setIfInBounds_toArray, List.set_cons_zero, List.set_cons_succ]
              refine wpAnyH_ready (rs := [1]) (by kernel_rfl) (by simp) ?_
              refine AllReadyH.cons (o := ⟨some 103, _, _, _, _, _⟩) rfl (fun K hK => ?_) (AllReadyH.nil)
              go_simp
              go_at_call 28
              refine (HMZ.out _).mono ?_
              rintro e v101 ⟨rfl, g101⟩
              have hS101 : v101.rangeAt pY 0 (attCells z) ∧ Txt v101 p.A PX := ⟨rangeAt_chg hS100.1 g101 (by simp), hS100.2.chg g101⟩
              have E101 := E100.trans g101
              go_wp2_with fail
              refine hK.out _ _ hS101 (fun _ => ?_)
              clear hK K
              try simp only [Act.put, List.setIfInBounds_toArray, List.set_cons_zero, List.set_cons_succ]
              refine wpAnyH_take (i := 2) (oi := ⟨some 104, _, _, _, _, _⟩) (v := ?_) rfl (by kernel_rfl) (by kernel_rfl) (by kernel_rfl) (fun _ _ _ h => h) (Or.inl ⟨by rfl, ?_⟩) (by assumption) ?_
              rotate_left
              · intro w hSw; (try dsimp only at hSw); go_simp; (try with_reducible rfl)
              try simp only [Act.put, List.setIfInBounds_toArray, List.set_cons_zero, List.set_cons_succ]
              refine wpAnyH_take (i := 3) (oi := ⟨some 105, _, _, _, _, _⟩) (v := .agg CY) rfl (by kernel_rfl) (by kernel_rfl) (by kernel_rfl) (fun _ _ _ h => h) (by rw [HCY.out]; exact yieldsIf_load_mid (by rfl) 46 _ rfl pY 0 rfl (attCells z) _ (fun _ h => h.1) Tryd.underlying46 rfl HIZ.out) (by assumption) ?_
              try simp only [Act.put, List.setIfInBounds_toArray, List.set_cons_zero, List.set_cons_succ]
              refine wpAnyH_take (i := 6) (oi := ⟨some 108, _, _, _, _, _⟩) (v := ?_) rfl (by kernel_rfl) (by kernel_rfl) (by kernel_rfl) (fun _ _ _ h => h) (Or.inl ⟨by rfl, ?_⟩) (by assumption) ?_
              rotate_left
              · intro w hSw; (try dsimp only at hSw); go_simp; (try with_reducible rfl)
              try simp only [Act.put, List.setIfInBounds_toArray, List.set_cons_zero, List.set_cons_succ]
              refine wpAnyH_take (i := 7) (oi := ⟨some 109, _, _, _, _, _⟩) (v := .string ⟨PX.toArray⟩) rfl (by kernel_rfl) (by kernel_rfl) (by kernel_rfl) (fun _ _ _ h => h) (Or.inl ⟨by rfl, ?_⟩) (by assumption) ?_
              · intro w hSw; have hcv := HCV8.out w p.A p.x.length p.c PX hSw.2 (by rw [HPX.out]); go_simp
              try simp only [Act.put, List.setIfInBounds_toArray, List.set_cons_zero, List.set_cons_succ]
              refine wpAnyH_ready (rs := [4]) (by kernel_rfl) (by simp) ?_
              refine AllReadyH.cons (o := ⟨some 106, _, _, _, _, _⟩) rfl (fun K hK => ?_) (AllReadyH.nil)
              go_simp
              go_at_call 31
              refine (HQZ.out _).mono ?_
              rintro e v102 ⟨A9, c9, rfl, hown102, g102⟩
              have hta102 := (own_txt hown102).1
              have hS102 : v102.rangeAt pY 0 (attCells z) ∧ Txt v102 p.A PX := ⟨rangeAt_chg hS101.1 g102 (by simp), hS101.2.chg g102⟩
              have E102 := E101.trans g102
              clear hown102
              go_wp2_with fail
              refine hK.out _ _ hS102 (fun _ => ?_)
              clear hK K
              try simp only [Act.put, List.setIfInBounds_toArray, List.set_cons_zero, List.set_cons_succ]
              refine wpAnyH_ready (rs := [5]) (by kernel_rfl) (by simp) ?_
              refine AllReadyH.cons (o := ⟨some 107, _, _, _, _, _⟩) rfl (fun K hK => ?_) (AllReadyH.nil)
              have hcv5 := HCV8.out v102 A9 104 c9 _ hta102 HLX.out
              go_simp
              refine hK.out _ _ hS102 (fun _ => ?_)
              clear hK K
              try simp only [Act.put, List.setIfInBounds_toArray, List.set_cons_zero, List.set_cons_succ]
              refine wpAnyH_take (i := 8) (oi := ⟨some 110, _, _, _, _, _⟩) (v := .bool true) rfl (by kernel_rfl) (by kernel_rfl) (by kernel_rfl) (fun _ _ _ h => h) (Or.inl ⟨by rfl, ?_⟩) (by assumption) ?_
              · intro w _; have hq := HQ9.out ⟨PX.toArray⟩ w; go_simp
              try simp only [Act.put, List.setIfInBounds_toArray, List.set_cons_zero, List.set_cons_succ]
              refine wpAnyH_take (i := 9) (oi := ⟨some 111, _, _, _, _, _⟩) (v := ?_) rfl (by kernel_rfl) (by kernel_rfl) (by kernel_rfl) (fun _ _ _ h => h) (Or.inl ⟨by rfl, ?_⟩) (by assumption) ?_
              rotate_left
              · intro w hSw; (try dsimp only at hSw); go_simp; (try with_reducible rfl)
              try simp only [Act.put, List.setIfInBounds_toArray, List.set_cons_zero, List.set_cons_succ]
              refine wpAnyH_take (i := 10) (oi := ⟨some 112, _, _, _, _, _⟩) (v := ?_) rfl (by kernel_rfl) (by kernel_rfl) (by kernel_rfl) (fun _ _ _ h => h) (Or.inl ⟨by rfl, ?_⟩) (by assumption) ?_
              rotate_left
              · intro w hSw; (try dsimp only at hSw); go_simp; (try with_reducible rfl)
              try simp only [Act.put, List.setIfInBounds_toArray, List.set_cons_zero, List.set_cons_succ]
              refine wpAnyH_ready (rs := [11]) (by kernel_rfl) (by simp) ?_
              refine AllReadyH.cons (o := ⟨some 113, _, _, _, _, _⟩) rfl (fun K hK => ?_) (AllReadyH.nil)
              go_simp
              go_at_call 24
              refine (HKN.out _ E102).mono ?_
              rintro e v103 ⟨rfl, g103⟩
              have hS103 : v103.rangeAt pY 0 (attCells z) ∧ Txt v103 p.A PX := ⟨rangeAt_chg hS102.1 g103 (by simp), hS102.2.chg g103⟩
              have E103 := E102.trans g103
              go_wp2_with fail
              refine hK.out _ _ hS103 (fun _ => ?_)
              clear hK K
              try simp only [Act.put, List.setIfInBounds_toArray, List.set_cons_zero, List.set_cons_succ]
              refine wpAnyH_take (i := 12) (oi := ⟨some 114, _, _, _, _, _⟩) (v := ?_) rfl (by kernel_rfl) (by kernel_rfl) (by kernel_rfl) (fun _ _ _ h => h) (Or.inl ⟨by rfl, ?_⟩) (by assumption) ?_
              rotate_left
              · intro w hSw; (try dsimp only at hSw); go_simp; (try with_reducible rfl)
              try simp only [Act.put, List.setIfInBounds_toArray, List.set_cons_zero, List.set_cons_succ]
              refine wpAnyH_take (i := 13) (oi := ⟨some 6, _, _, _, _, _⟩) (v := ?_) rfl (by kernel_rfl) (by kernel_rfl) (by kernel_rfl) (fun _ _ _ h => h) (Or.inl ⟨by rfl, ?_⟩) (by assumption) ?_
              rotate_left
              · intro w hSw; (try dsimp only at hSw); go_simp; (try with_reducible rfl)
              try simp only [Act.put, List.setIfInBounds_toArray, List.set_cons_zero, List.set_cons_succ]
              refine wpAnyH_done (by kernel_rfl) ?_ _
              try simp only [Act.put]
              go_wp2_with fail
              go_ret
              exact ⟨rfl, E103⟩

end Go.Proofs.YtehpigmcmgfkoaaDoor
