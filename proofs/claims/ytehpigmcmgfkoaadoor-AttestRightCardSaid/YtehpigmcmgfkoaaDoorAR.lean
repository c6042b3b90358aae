/-
  AttestRight: the walk.
-/
import Derived.Test.YtehpigmcmgfkoaaDoorA9
namespace Go.Proofs.YtehpigmcmgfkoaaDoor
open Go.RowKit

set_option maxRecDepth 100000 in
set_option maxHeartbeats 16000000 in
theorem right_law (p : Prt) (a : Att) (w : World) (hp : p.ok w) (hpm : p.c ≤ 9223372036854775807) (hT : Tabs w) :
    Calls Tryd.prog 10 #[.slice p.A p.x.length p.c, .agg (attCells a).toArray] w fun e w' => e = .returned (.bool true) ∧ Chg none w w' := by
  have hpl : p.x.length ≤ 9223372036854775807 := by have := hp.2; omega
  have gR : Chg none w (w.alloc (.cells (attCells a).toArray 46)) := (Chg.refl _ _).alloc _
  have bA : BlkL (w.alloc (.cells (attCells a).toArray 46)) w.heap.size (attCells a) 46 := Blk.new _ _ _
  have HKR := Lib.hid (known9_any (w.alloc (.cells (attCells a).toArray 46)) (hT.chg gR (by simp)))
  by_cases h1 : 300 < p.x.length
  · have d1 : decide ((300 : Int) < (p.x.length : Int)) = true := by simp <;> omega
    generalize (attCells a).toArray = CA at *
    go_enter Tryd.func10, Tryd.ntmps10
    go_wp2_with fail
    refine HKR.out.mono ?_
    rintro e w1 ⟨rfl, g1⟩
    go_wp2_with fail
    go_ret
    exact ⟨rfl, gR.trans g1⟩
  have d1 : decide ((300 : Int) < (p.x.length : Int)) = false := by simp <;> omega
  have HI46 := Lib.hid (info46 a)
  have HMY := Lib.hid (fun v => mayr_any a v)
  have HKN : Hid (∀ v, Chg none w v → Calls Tryd.prog 24 #[] v fun e w' => e = .returned (.bool true) ∧ Chg none v w') := fun v g => known9_any v (hT.chg g (by simp))
  have HRT : Hid (∀ v, Chg none w v → Calls Tryd.prog 27 #[.slice p.A p.x.length p.c, .agg (attCells a).toArray] v fun e w' => e = .returned (.bool (rightB p.x a)) ∧ Chg none v w') := fun v g => right_any a p v (hp.chg g) (by omega) (hT.chg g (by simp))
  have HIK : Hid ((Tryd.prog.info? 30).map (·.size) = some (byteVals a.k.1).length) := by rw [byteVals_len, a.k.2]; show _ = _; kernel_rfl
  have HIR : Hid ((Tryd.prog.info? 30).map (·.size) = some (byteVals a.r.1).length) := by rw [byteVals_len, a.r.2]; show _ = _; kernel_rfl
  obtain ⟨CA, hCA⟩ : ∃ CA, CA = (attCells a).toArray := ⟨_, rfl⟩
  have HCA := Lib.hid hCA
  obtain ⟨W1, hW1⟩ : ∃ W1, W1 = w.alloc (.cells CA 46) := ⟨_, rfl⟩
  have HW1 : Hid (w.alloc (.cells CA 46) = W1) := hW1.symm
  have hS0 : W1.drew.rangeAt w.heap.size 0 (attCells a) := by rw [hW1, hCA]; exact Blk.range (w := (w.alloc (.cells (attCells a).toArray 46)).drew) (T := 46) bA
  have E0 : Chg none w W1.drew := by rw [hW1, hCA]; exact gR.drew
  obtain ⟨RB, hRB⟩ : ∃ RB, RB = rightB p.x a := ⟨_, rfl⟩
  rw [← hRB] at HRT
  by_cases hm : mayB a.n = true
  · have h2 : 1 ≤ a.n ∧ a.n ≤ 5000 := by unfold mayB at hm; simpa using hm
    obtain ⟨m, hma⟩ : ∃ m : Nat, a.n = m := ⟨a.n.toNat, by omega⟩
    obtain ⟨T, hTT⟩ : ∃ T, T = tagDg p.x a.k a.r m := ⟨_, rfl⟩
    obtain ⟨x, hx⟩ : ∃ x : Att, x = ⟨a.k, a.r, m, T⟩ := ⟨_, rfl⟩
    obtain ⟨CX, hCX⟩ : ∃ CX, CX = (attCells x).toArray := ⟨_, rfl⟩
    have HMK : Hid (∀ v, Chg none w v → Calls Tryd.prog 26 #[.slice p.A p.x.length p.c, .agg (byteVals a.k.1).toArray, .agg (byteVals a.r.1).toArray, .int .i64 m] v fun e w' => e = .returned (.agg CX) ∧ Chg none v w') := fun v g => by
      have := makeq_any a.k a.r m p v (by omega) (hp.chg g) (by omega)
      rw [← hTT, ← hx, ← hCX] at this
      exact this
    have hqe : ∀ v : World, (binOp .eql 46 (.agg CA) (.agg CX)).run Tryd.prog v = .ok (.bool RB) v := fun v => by
      rw [hCA, hCX, eql46]
      have : sameAtt a x = RB := by
        rw [hRB, hx]
        unfold sameAtt rightB
        dsimp only
        rw [hm, ← hma, show a.n.toNat = m by omega, ← hTT]
        simp
      rw [this]
    have hg46 := guard46
    rw [hm] at HMY
    have hnum : ∀ v : World, v.rangeAt w.heap.size 0 (attCells a) → v.cell? ⟨w.heap.size, 64, none⟩ = some (.int .i64 m) := fun v h => by
      have := att_num h
      rwa [hma] at this
    have HNUM := Lib.hid hnum
    rw [← hCA] at HMY HRT ⊢
    clear hTT hx hCX hCA hRB hp hT hm h2 hma HKR bA hW1 gR hnum
    go_enter Tryd.func10, Tryd.ntmps10
    go_upto_region 1 with fail
    rw [HW1.out]
    clear HW1
    generalize w.heap.size = pA at *
    go_upto_region 3 with fail
    refine wp_region_held_drew (S := fun w' => w'.rangeAt pA 0 (attCells a)) (by kernel_rfl) hS0 (fun _ => ?_)
    generalize W1.drew = v0 at *
    refine wpAnyH_take (i := 0) (oi := ⟨some 10, _, _, _, _, _⟩) (v := .agg CA) rfl (by kernel_rfl) (by kernel_rfl) (by kernel_rfl) (fun _ _ _ h => h) (by rw [HCA.out]; exact yieldsIf_load_mid (by rfl) 46 _ rfl pA 0 rfl (attCells a) _ (fun _ h => h) Tryd.underlying46 rfl HI46.out) (by assumption) ?_
    try simp only [Act.put, List.setIfInBounds_toArray, List.set_cons_zero, List.set_cons_succ]
    refine wpAnyH_ready (rs := [1]) (by kernel_rfl) (by simp) ?_
    refine AllReadyH.cons (o := ⟨some 11, _, _, _, _, _⟩) rfl (fun K hK => ?_) (AllReadyH.nil)
    go_simp
    go_at_call 28
    refine (HMY.out _).mono ?_
    rintro e v1 ⟨rfl, g1⟩
    have E1 := E0.trans g1
    have hS1 : v1.rangeAt pA 0 (attCells a) := rangeAt_chg hS0 g1 (by simp)
    go_wp2_with fail
    refine hK.out _ _ hS1 (fun _ => ?_)
    clear hK K
    try simp only [Act.put, List.setIfInBounds_toArray, List.set_cons_zero, List.set_cons_succ]
    refine wpAnyH_take (i := 2) (oi := ⟨some 12, _, _, _, _, _⟩) (v := ?_) rfl (by kernel_rfl) (by kernel_rfl) (by kernel_rfl) (fun _ _ _ h => h) (Or.inl ⟨by rfl, ?_⟩) (by assumption) ?_
    rotate_left
    · intro w hSw; (try dsimp only at hSw); go_simp; (try with_reducible rfl)
    try simp only [Act.put, List.setIfInBounds_toArray, List.set_cons_zero, List.set_cons_succ]
    refine wpAnyH_take (i := 3) (oi := ⟨some 13, _, _, _, _, _⟩) (v := .agg CA) rfl (by kernel_rfl) (by kernel_rfl) (by kernel_rfl) (fun _ _ _ h => h) (by rw [HCA.out]; exact yieldsIf_load_mid (by rfl) 46 _ rfl pA 0 rfl (attCells a) _ (fun _ h => h) Tryd.underlying46 rfl HI46.out) (by assumption) ?_
    try simp only [Act.put, List.setIfInBounds_toArray, List.set_cons_zero, List.set_cons_succ]
    refine wpAnyH_take (i := 4) (oi := ⟨some 14, _, _, _, _, _⟩) (v := ?_) rfl (by kernel_rfl) (by kernel_rfl) (by kernel_rfl) (fun _ _ _ h => h) (Or.inl ⟨by rfl, ?_⟩) (by assumption) ?_
    rotate_left
    · intro w hSw; (try dsimp only at hSw); go_simp; (try with_reducible rfl)
    try simp only [Act.put, List.setIfInBounds_toArray, List.set_cons_zero, List.set_cons_succ]
    refine wpAnyH_take (i := 5) (oi := ⟨some 15, _, _, _, _, _⟩) (v := ?_) rfl (by kernel_rfl) (by kernel_rfl) (by kernel_rfl) (fun _ _ _ h => h) (Or.inl ⟨by rfl, ?_⟩) (by assumption) ?_
    rotate_left
    · intro w hSw; (try dsimp only at hSw); go_simp; (try with_reducible rfl)
    try simp only [Act.put, List.setIfInBounds_toArray, List.set_cons_zero, List.set_cons_succ]
    refine wpAnyH_take (i := 6) (oi := ⟨some 16, _, _, _, _, _⟩) (v := .agg (byteVals a.k.1).toArray) rfl (by kernel_rfl) (by kernel_rfl) (by kernel_rfl) (fun _ _ _ h => h) (yieldsIf_load_mid (by rfl) 30 _ rfl pA 0 rfl (byteVals a.k.1) _ (fun _ h => att_key h) Tryd.underlying30 rfl HIK.out) (by assumption) ?_
    try simp only [Act.put, List.setIfInBounds_toArray, List.set_cons_zero, List.set_cons_succ]
    refine wpAnyH_take (i := 7) (oi := ⟨some 17, _, _, _, _, _⟩) (v := ?_) rfl (by kernel_rfl) (by kernel_rfl) (by kernel_rfl) (fun _ _ _ h => h) (Or.inl ⟨by rfl, ?_⟩) (by assumption) ?_
    rotate_left
    · intro w hSw; (try dsimp only at hSw); go_simp; (try with_reducible rfl)
    try simp only [Act.put, List.setIfInBounds_toArray, List.set_cons_zero, List.set_cons_succ]
    refine wpAnyH_take (i := 8) (oi := ⟨some 18, _, _, _, _, _⟩) (v := .agg (byteVals a.r.1).toArray) rfl (by kernel_rfl) (by kernel_rfl) (by kernel_rfl) (fun _ _ _ h => h) (yieldsIf_load_mid (by rfl) 30 _ rfl pA 32 rfl (byteVals a.r.1) _ (fun _ h => att_root h) Tryd.underlying30 rfl HIR.out) (by assumption) ?_
    try simp only [Act.put, List.setIfInBounds_toArray, List.set_cons_zero, List.set_cons_succ]
    refine wpAnyH_take (i := 9) (oi := ⟨some 19, _, _, _, _, _⟩) (v := ?_) rfl (by kernel_rfl) (by kernel_rfl) (by kernel_rfl) (fun _ _ _ h => h) (Or.inl ⟨by rfl, ?_⟩) (by assumption) ?_
    rotate_left
    · intro w hSw; (try dsimp only at hSw); go_simp; (try with_reducible rfl)
    try simp only [Act.put, List.setIfInBounds_toArray, List.set_cons_zero, List.set_cons_succ]
    refine wpAnyH_take (i := 10) (oi := ⟨some 20, _, _, _, _, _⟩) (v := .int .i64 m) rfl (by kernel_rfl) (by kernel_rfl) (by kernel_rfl) (fun _ _ _ h => h) (Or.inl ⟨by rfl, ?_⟩) (by assumption) ?_
    · intro w hSw; have hc := HNUM.out w hSw; go_simp
    try simp only [Act.put, List.setIfInBounds_toArray, List.set_cons_zero, List.set_cons_succ]
    refine wpAnyH_ready (rs := [11]) (by kernel_rfl) (by simp) ?_
    refine AllReadyH.cons (o := ⟨some 21, _, _, _, _, _⟩) rfl (fun K hK => ?_) (AllReadyH.nil)
    go_simp
    go_at_call 26
    refine (HMK.out _ E1).mono ?_
    rintro e v2 ⟨rfl, g2⟩
    have E2 := E1.trans g2
    have hS2 : v2.rangeAt pA 0 (attCells a) := rangeAt_chg hS1 g2 (by simp)
    go_wp2_with fail
    refine hK.out _ _ hS2 (fun _ => ?_)
    clear hK K
    try simp only [Act.put, List.setIfInBounds_toArray, List.set_cons_zero, List.set_cons_succ]
    refine wpAnyH_take (i := 12) (oi := ⟨some 22, _, _, _, _, _⟩) (v := ?_) rfl (by kernel_rfl) (by kernel_rfl) (by kernel_rfl) (fun _ _ _ h => h) (Or.inl ⟨by rfl, ?_⟩) (by assumption) ?_
    rotate_left
    · intro w hSw; (try dsimp only at hSw); go_simp; (try with_reducible rfl)
    try simp only [Act.put, List.setIfInBounds_toArray, List.set_cons_zero, List.set_cons_succ]
    refine wpAnyH_take (i := 13) (oi := ⟨some 23, _, _, _, _, _⟩) (v := ?_) rfl (by kernel_rfl) (by kernel_rfl) (by kernel_rfl) (fun _ _ _ h => h) (Or.inl ⟨by rfl, ?_⟩) (by assumption) ?_
    rotate_left
    · intro w hSw; (try dsimp only at hSw); go_simp; (try with_reducible rfl)
    try simp only [Act.put, List.setIfInBounds_toArray, List.set_cons_zero, List.set_cons_succ]
    refine wpAnyH_take (i := 14) (oi := ⟨some 5, _, _, _, _, _⟩) (v := ?_) rfl (by kernel_rfl) (by kernel_rfl) (by kernel_rfl) (fun _ _ _ h => h) (Or.inl ⟨by rfl, ?_⟩) (by assumption) ?_
    rotate_left
    · intro w hSw; (try dsimp only at hSw); go_simp; (try with_reducible rfl)
    try simp only [Act.put, List.setIfInBounds_toArray, List.set_cons_zero, List.set_cons_succ]
    refine wpAnyH_done (by kernel_rfl) ?_ _
    try simp only [Act.put]
    clear HMY
    go_wp2_with (refine wpList_load_mid rfl 46 _ rfl pA 0 rfl (attCells a) _ hS2 Tryd.underlying46 rfl HI46.out ?_)
    rw [← HCA.out]
    refine (HRT.out _ E2).mono ?_
    rintro e u1 ⟨rfl, e1⟩
    have F1 := E2.trans e1
    have HK := Lib.hid (HKN.out u1 F1)
    go_wp2_with fail
    refine HK.out.mono ?_
    rintro e u2 ⟨rfl, e2⟩
    go_wp2_with fail
    go_ret
    exact ⟨rfl, F1.trans e2⟩
  · have hm' : mayB a.n = false := by simpa using hm
    have hrb : RB = false := by rw [hRB]; unfold rightB; rw [hm', Bool.false_and]
    rw [hrb] at HRT
    rw [hm'] at HMY
    rw [← hCA] at HMY HRT ⊢
    clear hCA hp hT hm hm' HKR bA hrb hRB hW1 gR
    go_enter Tryd.func10, Tryd.ntmps10
    go_upto_region 1 with fail
    rw [HW1.out]
    clear HW1
    generalize w.heap.size = pA at *
    go_upto_region 3 with fail
    refine wp_region_held_drew (S := fun w' => w'.rangeAt pA 0 (attCells a)) (by kernel_rfl) hS0 (fun _ => ?_)
    generalize W1.drew = v0 at *
    refine wpAnyH_take (i := 0) (oi := ⟨some 10, _, _, _, _, _⟩) (v := .agg CA) rfl (by kernel_rfl) (by kernel_rfl) (by kernel_rfl) (fun _ _ _ h => h) (by rw [HCA.out]; exact yieldsIf_load_mid (by rfl) 46 _ rfl pA 0 rfl (attCells a) _ (fun _ h => h) Tryd.underlying46 rfl HI46.out) (by assumption) ?_
    try simp only [Act.put, List.setIfInBounds_toArray, List.set_cons_zero, List.set_cons_succ]
    refine wpAnyH_ready (rs := [1]) (by kernel_rfl) (by simp) ?_
    refine AllReadyH.cons (o := ⟨some 11, _, _, _, _, _⟩) rfl (fun K hK => ?_) (AllReadyH.nil)
    go_simp
    go_at_call 28
    refine (HMY.out _).mono ?_
    rintro e v1 ⟨rfl, g1⟩
    have E1 := E0.trans g1
    have hS1 : v1.rangeAt pA 0 (attCells a) := rangeAt_chg hS0 g1 (by simp)
    go_wp2_with fail
    refine hK.out _ _ hS1 (fun _ => ?_)
    clear hK K
    try simp only [Act.put, List.setIfInBounds_toArray, List.set_cons_zero, List.set_cons_succ]
    refine wpAnyH_take (i := 2) (oi := ⟨some 12, _, _, _, _, _⟩) (v := ?_) rfl (by kernel_rfl) (by kernel_rfl) (by kernel_rfl) (fun _ _ _ h => h) (Or.inl ⟨by rfl, ?_⟩) (by assumption) ?_
    rotate_left
    · intro w hSw; (try dsimp only at hSw); go_simp; (try with_reducible rfl)
    try simp only [Act.put, List.setIfInBounds_toArray, List.set_cons_zero, List.set_cons_succ]
    refine wpAnyH_take (i := 3) (oi := ⟨some 13, _, _, _, _, _⟩) (v := undef) rfl (by kernel_rfl) (by kernel_rfl) (by kernel_rfl) (fun _ _ _ h => h) (Or.inr ⟨by rfl, rfl⟩) (by assumption) ?_
    try simp only [Act.put, List.setIfInBounds_toArray, List.set_cons_zero, List.set_cons_succ]
    refine wpAnyH_take (i := 4) (oi := ⟨some 14, _, _, _, _, _⟩) (v := undef) rfl (by kernel_rfl) (by kernel_rfl) (by kernel_rfl) (fun _ _ _ h => h) (Or.inr ⟨by rfl, rfl⟩) (by assumption) ?_
    try simp only [Act.put, List.setIfInBounds_toArray, List.set_cons_zero, List.set_cons_succ]
    refine wpAnyH_take (i := 5) (oi := ⟨some 15, _, _, _, _, _⟩) (v := undef) rfl (by kernel_rfl) (by kernel_rfl) (by kernel_rfl) (fun _ _ _ h => h) (Or.inr ⟨by rfl, rfl⟩) (by assumption) ?_
    try simp only [Act.put, List.setIfInBounds_toArray, List.set_cons_zero, List.set_cons_succ]
    refine wpAnyH_take (i := 6) (oi := ⟨some 16, _, _, _, _, _⟩) (v := undef) rfl (by kernel_rfl) (by kernel_rfl) (by kernel_rfl) (fun _ _ _ h => h) (Or.inr ⟨by rfl, rfl⟩) (by assumption) ?_
    try simp only [Act.put, List.setIfInBounds_toArray, List.set_cons_zero, List.set_cons_succ]
    refine wpAnyH_take (i := 7) (oi := ⟨some 17, _, _, _, _, _⟩) (v := undef) rfl (by kernel_rfl) (by kernel_rfl) (by kernel_rfl) (fun _ _ _ h => h) (Or.inr ⟨by rfl, rfl⟩) (by assumption) ?_
    try simp only [Act.put, List.setIfInBounds_toArray, List.set_cons_zero, List.set_cons_succ]
    refine wpAnyH_take (i := 8) (oi := ⟨some 18, _, _, _, _, _⟩) (v := undef) rfl (by kernel_rfl) (by kernel_rfl) (by kernel_rfl) (fun _ _ _ h => h) (Or.inr ⟨by rfl, rfl⟩) (by assumption) ?_
    try simp only [Act.put, List.setIfInBounds_toArray, List.set_cons_zero, List.set_cons_succ]
    refine wpAnyH_take (i := 9) (oi := ⟨some 19, _, _, _, _, _⟩) (v := undef) rfl (by kernel_rfl) (by kernel_rfl) (by kernel_rfl) (fun _ _ _ h => h) (Or.inr ⟨by rfl, rfl⟩) (by assumption) ?_
    try simp only [Act.put, List.setIfInBounds_toArray, List.set_cons_zero, List.set_cons_succ]
    refine wpAnyH_take (i := 10) (oi := ⟨some 20, _, _, _, _, _⟩) (v := undef) rfl (by kernel_rfl) (by kernel_rfl) (by kernel_rfl) (fun _ _ _ h => h) (Or.inr ⟨by rfl, rfl⟩) (by assumption) ?_
    try simp only [Act.put, List.setIfInBounds_toArray, List.set_cons_zero, List.set_cons_succ]
    refine wpAnyH_take (i := 11) (oi := ⟨some 21, _, _, _, _, _⟩) (v := undef) rfl (by kernel_rfl) (by kernel_rfl) (by kernel_rfl) (fun _ _ _ h => h) (Or.inr ⟨by rfl, rfl⟩) (by assumption) ?_
    try simp only [Act.put, List.setIfInBounds_toArray, List.set_cons_zero, List.set_cons_succ]
    refine wpAnyH_take (i := 12) (oi := ⟨some 22, _, _, _, _, _⟩) (v := undef) rfl (by kernel_rfl) (by kernel_rfl) (by kernel_rfl) (fun _ _ _ h => h) (Or.inr ⟨by rfl, rfl⟩) (by assumption) ?_
    try simp only [Act.put, List.setIfInBounds_toArray, List.set_cons_zero, List.set_cons_succ]
    refine wpAnyH_take (i := 13) (oi := ⟨some 23, _, _, _, _, _⟩) (v := ?_) rfl (by kernel_rfl) (by kernel_rfl) (by kernel_rfl) (fun _ _ _ h => h) (Or.inl ⟨by rfl, ?_⟩) (by assumption) ?_
    rotate_left
    · intro w hSw; (try dsimp only at hSw); go_simp; (try with_reducible rfl)
    try simp only [Act.put, List.setIfInBounds_toArray, List.set_cons_zero, List.set_cons_succ]
    refine wpAnyH_take (i := 14) (oi := ⟨some 5, _, _, _, _, _⟩) (v := ?_) rfl (by kernel_rfl) (by kernel_rfl) (by kernel_rfl) (fun _ _ _ h => h) (Or.inl ⟨by rfl, ?_⟩) (by assumption) ?_
    rotate_left
    · intro w hSw; (try dsimp only at hSw); go_simp; (try with_reducible rfl)
    try simp only [Act.put, List.setIfInBounds_toArray, List.set_cons_zero, List.set_cons_succ]
    refine wpAnyH_done (by kernel_rfl) ?_ _
    try simp only [Act.put]
    clear HMY
    go_wp2_with (refine wpList_load_mid rfl 46 _ rfl pA 0 rfl (attCells a) _ hS1 Tryd.underlying46 rfl HI46.out ?_)
    rw [← HCA.out]
    refine (HRT.out _ E1).mono ?_
    rintro e u1 ⟨rfl, e1⟩
    have F1 := E1.trans e1
    have HK := Lib.hid (HKN.out u1 F1)
    go_wp2_with fail
    refine HK.out.mono ?_
    rintro e u2 ⟨rfl, e2⟩
    go_wp2_with fail
    go_ret
    exact ⟨rfl, F1.trans e2⟩

end Go.Proofs.YtehpigmcmgfkoaaDoor
