/-
  AttestMakes: the walk.
-/
import Derived.Test.YtehpigmcmgfkoaaDoorA9
namespace Go.Proofs.YtehpigmcmgfkoaaDoor
open Go.RowKit

set_option maxRecDepth 100000 in
set_option maxHeartbeats 16000000 in
theorem makes_law (p : Prt) (k r : Dg) (n : Int) (w : World) (hp : p.ok w) (hpm : p.c ≤ 9223372036854775807) (hT : Tabs w) :
    Calls Tryd.prog 9 #[.slice p.A p.x.length p.c, .agg (byteVals k.1).toArray, .agg (byteVals r.1).toArray, .int .i64 n] w fun e w' => e = .returned (.bool true) ∧ Chg none w w' := by
  obtain ⟨i0, hi, hz0, hz1, hz2⟩ := info_parts Tryd.info5
  have hpl : p.x.length ≤ 9223372036854775807 := by have := hp.2; omega
  obtain ⟨W2, hW2⟩ : ∃ W2, W2 = (w.alloc (.cells (byteVals k.1).toArray 30)).alloc (.cells (byteVals r.1).toArray 30) := ⟨_, rfl⟩
  have HW2 : Hid ((w.alloc (.cells (byteVals k.1).toArray 30)).alloc (.cells (byteVals r.1).toArray 30) = W2) := hW2.symm
  have gR : Chg none w W2 := by rw [hW2]; exact ((Chg.refl _ _).alloc _).alloc _
  have bK : BlkL W2 w.heap.size (byteVals k.1) 30 := by rw [hW2]; exact Blk.alloc (Blk.new _ _ _) _
  have bR : BlkL W2 (w.heap.size + 1) (byteVals r.1) 30 := by rw [hW2]; exact Blk.newAt _ _ (by simp)
  have HKR := Lib.hid (known9_any W2 (hT.chg gR (by simp)))
  obtain ⟨CK, hCK⟩ : ∃ CK, CK = (byteVals k.1).toArray := ⟨_, rfl⟩
  obtain ⟨CR, hCR⟩ : ∃ CR, CR = (byteVals r.1).toArray := ⟨_, rfl⟩
  have HCK := Lib.hid hCK
  have HCR := Lib.hid hCR
  clear hW2
  by_cases h1 : 300 < p.x.length
  · have d1 : decide ((300 : Int) < (p.x.length : Int)) = true := by simp <;> omega
    rw [← hCK, ← hCR] at HW2 ⊢
    clear hCK hCR
    go_enter Tryd.func9, Tryd.ntmps9
    go_upto_region 1 with fail
    rw [HW2.out]
    clear HW2
    go_wp2_with fail
    refine HKR.out.mono ?_
    rintro e w1 ⟨rfl, g1⟩
    go_wp2_with fail
    go_ret
    exact ⟨rfl, gR.trans g1⟩
  have d1 : decide ((300 : Int) < (p.x.length : Int)) = false := by simp <;> omega
  obtain ⟨A0, x, c0⟩ := p
  dsimp only at *
  obtain ⟨l, hl⟩ : ∃ l, l = x.length := ⟨_, rfl⟩
  have hcp : l ≤ c0 := by rw [hl]; exact hp.2
  have hA : Txt w A0 x := hp.1
  rw [← hl] at h1 d1 hpl ⊢
  have hl3 : l ≤ 300 := by omega
  have HL := Lib.hid hl
  have HCV : Hid (∀ v A j c (z : List UInt8), Txt v A z → j = z.length → (convert 22 9 (.slice A j c)).run Tryd.prog v = .ok (.string ⟨z.toArray⟩) v) := fun v A j c z h e => by subst e; exact conv_reads v (txt_reads h)
  have HKN : Hid (∀ v, Chg none w v → Calls Tryd.prog 24 #[] v fun e w' => e = .returned (.bool true) ∧ Chg none v w') := fun v g => known9_any v (hT.chg g (by simp))
  have HOX := Lib.hid (byteVals_one x)
  have gE : Hid (∀ v : World, Chg none v (v.alloc (.cells #[] 5 (0, 0)))) := fun v => (Chg.refl _ _).alloc _
  have HA0 := Lib.hid (hA.chg gR)
  have hrx := txt_reads (HA0.out.chg (gE.out W2))
  rw [← hl] at hrx
  have HRX := Lib.hid hrx
  have HOWN := Lib.hid (own_emptyB W2)
  have HSZ := Lib.hid (gE.out W2).size
  have HIK : Hid ((Tryd.prog.info? 30).map (·.size) = some (byteVals k.1).length) := by rw [byteVals_len, k.2]; show _ = _; kernel_rfl
  have HIR : Hid ((Tryd.prog.info? 30).map (·.size) = some (byteVals r.1).length) := by rw [byteVals_len, r.2]; show _ = _; kernel_rfl
  have HNW : Hid (∀ v : World, (v.alloc (.cells Tryd.zeroCells46 46)).heap[v.heap.size]? = some (.cells Tryd.zeroCells46 46 (0, 0))) := fun v => heap_alloc_new v _
  have HBK : Hid (∀ v, Chg none W2 v → v.rangeAt w.heap.size 0 (byteVals k.1) ∧ v.rangeAt (w.heap.size + 1) 0 (byteVals r.1)) := fun v g => ⟨Blk.range (Blk.chg bK g (by simp)), Blk.range (Blk.chg bR g (by simp))⟩
  have hg46 := guard46
  clear hrx HKR bK bR
  by_cases hm : mayB n = true
  · have h2 : 1 ≤ n ∧ n ≤ 5000 := by unfold mayB at hm; simpa using hm
    obtain ⟨m, rfl⟩ : ∃ m : Nat, n = m := ⟨n.toNat, by omega⟩
    obtain ⟨T, hTT⟩ : ∃ T, T = tagDg x k r m := ⟨_, rfl⟩
    obtain ⟨a, ha⟩ : ∃ a : Att, a = ⟨k, r, m, T⟩ := ⟨_, rfl⟩
    obtain ⟨CA, hCA⟩ : ∃ CA, CA = (attCells a).toArray := ⟨_, rfl⟩
    have HMK : Hid (∀ v A c, Chg none w v → Txt v A x → l ≤ c → Calls Tryd.prog 25 #[.slice A l c, .agg CK, .agg CR, .int .i64 m] v fun e w' => e = .returned (.tuple #[.agg CA, .int .i64 0]) ∧ Chg none v w') := fun v A c g h3 h4 => by
      have := make_yes k r m ⟨A, x, c⟩ v (by omega) (by omega) ⟨h3, by show x.length ≤ c; omega⟩ (by show x.length ≤ 900000; omega) (hT.chg g (by simp))
      dsimp only at this
      rw [← hTT, ← ha] at this
      unfold MakeYes at this
      rw [← hCA, ← hl, ← hCK, ← hCR] at this
      exact this
    have HMR : Hid (∀ v, Chg none w v → Calls Tryd.prog 26 #[.slice A0 l c0, .agg CK, .agg CR, .int .i64 m] v fun e w' => e = .returned (.agg CA) ∧ Chg none v w') := fun v g => by
      have := makeq_any k r m ⟨A0, x, c0⟩ v (by omega) (hp.chg g) (by show x.length ≤ 900000; omega)
      dsimp only at this
      rw [← hTT, ← ha, ← hCA, ← hl, ← hCK, ← hCR] at this
      exact this
    have HRT : Hid (∀ v A c, Chg none w v → Txt v A x → l ≤ c → Calls Tryd.prog 27 #[.slice A l c, .agg CA] v fun e w' => e = .returned (.bool true) ∧ Chg none v w') := fun v A c g h3 h4 => by
      have := right_any a ⟨A, x, c⟩ v ⟨h3, by show x.length ≤ c; omega⟩ (by show x.length ≤ 900000; omega) (hT.chg g (by simp))
      have hr : rightB x a = true := by
        rw [ha]
        unfold rightB
        dsimp only
        rw [hm, Bool.true_and, Int.toNat_natCast, ← hTT]
        simp
      dsimp only at this
      rw [hr, ← hCA, ← hl] at this
      exact this
    have hqe : ∀ v : World, (binOp .eql 46 (.agg CA) (.agg CA)).run Tryd.prog v = .ok (.bool true) v := fun v => by
      rw [hCA, eql46, (sameAtt_iff a a).2 rfl]
    have HI46 := Lib.hid (info46 a)
    have HIX : Hid ((Tryd.prog.info? 46).map (·.size) = some CA.size) := by rw [hCA]; exact info46a a
    have HOX2 : Hid (CA.all (·.oneCell') = true) := by rw [hCA]; exact attCells_one a
    have HZX : Hid (Tryd.zeroCells46.size = CA.size) := by rw [hCA, zero46, List.size_toArray, List.size_toArray, attCells_len, attCells_len]; rfl
    have HNA : Hid (∀ v : World, Chg none v ((v.alloc (.cells Tryd.zeroCells46 46)).setRow v.heap.size CA) ∧ BlkL ((v.alloc (.cells Tryd.zeroCells46 46)).setRow v.heap.size CA) v.heap.size (attCells a) 46) := fun v => by rw [hCA]; exact new_att v a
    have HCA := Lib.hid hCA
    have d2 : decide ((m : Int) < 1) = false := by simp; omega
    have d3 : decide ((5000 : Int) < (m : Int)) = false := by simp; omega
    rw [← hCK, ← hCR] at HW2 ⊢
    clear hl hCK hCR hCA ha hTT hm h2 hp hT hA h1
    go_enter Tryd.func9, Tryd.ntmps9
    go_upto_region 1 with fail
    rw [HW2.out]
    clear HW2
    generalize w.heap.size + 1 = pR at *
    generalize w.heap.size = pK at *
    go_wp2_with (at_builtin; refine wpList_append_any _ rfl (.tmp 16) (.tmp 17) 22 rfl W2.heap.size 5 i0 (.int .u8 0) 1 1 Tryd.underlying22 hi hz0 hz1 hz2 rfl (by decide) _ 0 (byteVals []) rfl HOWN.out _ A0 l c0 (byteVals x) rfl HRX.out HOX.out (by unfold maxLen; omega) (by omega) HSZ.out ?_)
    intro v2 w2 hown2 hgr2 _
    have g12 := own_chg (gE.out W2) HOWN.out (Nat.le_refl _) hgr2
    have e1 : byteVals [] ++ byteVals x = byteVals x := rfl
    rw [e1] at hown2
    obtain ⟨A1, c1, rfl⟩ := own_slice hown2
    obtain ⟨hA1, -, hc1⟩ := own_txt hown2
    have HA1 := Lib.hid hA1
    have g2 := gR.trans g12
    have HK2 := Lib.hid (HBK.out w2 g12).1
    have HR2 := Lib.hid (HBK.out w2 g12).2
    have HA2 := Lib.hid (HA0.out.chg g12)
    clear e1 hown2 hgr2 HOWN HRX HOX hA1 HSZ g12 gE HA0 HBK
    go_wp2_with (first
      | (refine wpList_load_mid rfl 30 _ rfl pK 0 rfl (byteVals k.1) _ HK2.out Tryd.underlying30 rfl HIK.out ?_)
      | (refine wpList_load_mid rfl 30 _ rfl pR 0 rfl (byteVals r.1) _ HR2.out Tryd.underlying30 rfl HIR.out ?_))
    rw [← HCK.out, ← HCR.out]
    refine (HMK.out w2 A1 c1 g2 HA1.out hc1).mono ?_
    rintro e w3 ⟨rfl, g3⟩
    obtain ⟨gn, bX⟩ := HNA.out w3
    obtain ⟨W4, hW4⟩ : ∃ W4, W4 = (w3.alloc (.cells Tryd.zeroCells46 46)).setRow w3.heap.size CA := ⟨_, rfl⟩
    have HW4 : Hid ((w3.alloc (.cells Tryd.zeroCells46 46)).setRow w3.heap.size CA = W4) := hW4.symm
    rw [← hW4] at gn bX
    have HNW3 := Lib.hid (HNW.out w3)
    have g24 : Chg none w2 W4 := g3.trans gn
    clear hW4 gn HNW HNA
    go_upto_region 5 with (refine wpList_store_row rfl 46 _ _ rfl w3.heap.size CA rfl rfl 46 _ HNW3.out HIX.out HZX.out HOX2.out ?_)
    rw [HW4.out]
    clear HW4 HNW3
    generalize w3.heap.size = pA at *
    go_upto_region 7 with fail
    have E0 : Chg none w W4.drew := (g2.trans g24).drew
    have hS0 : Txt W4.drew A1 x ∧ Txt W4.drew A0 x ∧ W4.drew.rangeAt pK 0 (byteVals k.1) ∧ W4.drew.rangeAt pR 0 (byteVals r.1) ∧ W4.drew.rangeAt pA 0 (attCells a) :=
      ⟨HA1.out.chg g24.drew, HA2.out.chg g24.drew, rangeAt_chg HK2.out g24.drew (by simp), rangeAt_chg HR2.out g24.drew (by simp), Blk.range (w := W4.drew) (T := 46) bX⟩
    clear bX g24 g3 g2 HK2 HR2 HA1 HA2 HMK
    refine wp_region_held_drew (S := fun w' => Txt w' A1 x ∧ Txt w' A0 x ∧ w'.rangeAt pK 0 (byteVals k.1) ∧ w'.rangeAt pR 0 (byteVals r.1) ∧ w'.rangeAt pA 0 (attCells a)) (by kernel_rfl) hS0 (fun _ => ?_)
    generalize W4.drew = v0 at *
    refine wpAnyH_take (i := 0) (oi := ⟨some 43, _, _, _, _, _⟩) (v := ?_) rfl (by kernel_rfl) (by kernel_rfl) (by kernel_rfl) (fun _ _ _ h => h) (Or.inl ⟨by rfl, ?_⟩) (by assumption) ?_
    rotate_left
    · intro w hSw; (try dsimp only at hSw); go_simp; (try with_reducible rfl)
    try simp only [Act.put, List.setIfInBounds_toArray, List.set_cons_zero, List.set_cons_succ]
    refine wpAnyH_take (i := 1) (oi := ⟨some 44, _, _, _, _, _⟩) (v := ?_) rfl (by kernel_rfl) (by kernel_rfl) (by kernel_rfl) (fun _ _ _ h => h) (Or.inl ⟨by rfl, ?_⟩) (by assumption) ?_
    rotate_left
    · intro w hSw; (try dsimp only at hSw); go_simp; (try with_reducible rfl)
    try simp only [Act.put, List.setIfInBounds_toArray, List.set_cons_zero, List.set_cons_succ]
    refine wpAnyH_take (i := 2) (oi := ⟨some 45, _, _, _, _, _⟩) (v := ?_) rfl (by kernel_rfl) (by kernel_rfl) (by kernel_rfl) (fun _ _ _ h => h) (Or.inl ⟨by rfl, ?_⟩) (by assumption) ?_
    rotate_left
    · intro w hSw; (try dsimp only at hSw); go_simp; (try with_reducible rfl)
    try simp only [Act.put, List.setIfInBounds_toArray, List.set_cons_zero, List.set_cons_succ]
    refine wpAnyH_take (i := 3) (oi := ⟨some 46, _, _, _, _, _⟩) (v := .agg CA) rfl (by kernel_rfl) (by kernel_rfl) (by kernel_rfl) (fun _ _ _ h => h) (by rw [HCA.out]; exact yieldsIf_load_mid (by rfl) 46 _ rfl pA 0 rfl (attCells a) _ (fun _ h => h.2.2.2.2) Tryd.underlying46 rfl HI46.out) (by assumption) ?_
    try simp only [Act.put, List.setIfInBounds_toArray, List.set_cons_zero, List.set_cons_succ]
    refine wpAnyH_take (i := 4) (oi := ⟨some 47, _, _, _, _, _⟩) (v := ?_) rfl (by kernel_rfl) (by kernel_rfl) (by kernel_rfl) (fun _ _ _ h => h) (Or.inl ⟨by rfl, ?_⟩) (by assumption) ?_
    rotate_left
    · intro w hSw; (try dsimp only at hSw); go_simp; (try with_reducible rfl)
    try simp only [Act.put, List.setIfInBounds_toArray, List.set_cons_zero, List.set_cons_succ]
    refine wpAnyH_take (i := 5) (oi := ⟨some 48, _, _, _, _, _⟩) (v := .agg CK) rfl (by kernel_rfl) (by kernel_rfl) (by kernel_rfl) (fun _ _ _ h => h) (by rw [HCK.out]; exact yieldsIf_load_mid (by rfl) 30 _ rfl pK 0 rfl (byteVals k.1) _ (fun _ h => h.2.2.1) Tryd.underlying30 rfl HIK.out) (by assumption) ?_
    try simp only [Act.put, List.setIfInBounds_toArray, List.set_cons_zero, List.set_cons_succ]
    refine wpAnyH_take (i := 6) (oi := ⟨some 49, _, _, _, _, _⟩) (v := .agg CR) rfl (by kernel_rfl) (by kernel_rfl) (by kernel_rfl) (fun _ _ _ h => h) (by rw [HCR.out]; exact yieldsIf_load_mid (by rfl) 30 _ rfl pR 0 rfl (byteVals r.1) _ (fun _ h => h.2.2.2.1) Tryd.underlying30 rfl HIR.out) (by assumption) ?_
    try simp only [Act.put, List.setIfInBounds_toArray, List.set_cons_zero, List.set_cons_succ]
    refine wpAnyH_take (i := 7) (oi := ⟨some 50, _, _, _, _, _⟩) (v := ?_) rfl (by kernel_rfl) (by kernel_rfl) (by kernel_rfl) (fun _ _ _ h => h) (Or.inl ⟨by rfl, ?_⟩) (by assumption) ?_
    rotate_left
    · intro w hSw; (try dsimp only at hSw); go_simp; (try with_reducible rfl)
    try simp only [Act.put, List.setIfInBounds_toArray, List.set_cons_zero, List.set_cons_succ]
    refine wpAnyH_ready (rs := [8]) (by kernel_rfl) (by simp) ?_
    refine AllReadyH.cons (o := ⟨some 51, _, _, _, _, _⟩) rfl (fun K hK => ?_) (AllReadyH.nil)
    go_simp
    go_at_call 26
    refine (HMR.out _ E0).mono ?_
    rintro e v1 ⟨rfl, g11⟩
    have E1 := E0.trans g11
    have hS1 : Txt v1 A1 x ∧ Txt v1 A0 x ∧ v1.rangeAt pK 0 (byteVals k.1) ∧ v1.rangeAt pR 0 (byteVals r.1) ∧ v1.rangeAt pA 0 (attCells a) := ⟨hS0.1.chg g11, hS0.2.1.chg g11, rangeAt_chg hS0.2.2.1 g11 (by simp), rangeAt_chg hS0.2.2.2.1 g11 (by simp), rangeAt_chg hS0.2.2.2.2 g11 (by simp)⟩
    go_wp2_with fail
    refine hK.out _ _ hS1 (fun _ => ?_)
    clear hK K
    try simp only [Act.put, List.setIfInBounds_toArray, List.set_cons_zero, List.set_cons_succ]
    refine wpAnyH_take (i := 9) (oi := ⟨some 52, _, _, _, _, _⟩) (v := ?_) rfl (by kernel_rfl) (by kernel_rfl) (by kernel_rfl) (fun _ _ _ h => h) (Or.inl ⟨by rfl, ?_⟩) (by assumption) ?_
    rotate_left
    · intro w hSw; (try dsimp only at hSw); go_simp; (try with_reducible rfl)
    try simp only [Act.put, List.setIfInBounds_toArray, List.set_cons_zero, List.set_cons_succ]
    refine wpAnyH_take (i := 10) (oi := ⟨some 53, _, _, _, _, _⟩) (v := ?_) rfl (by kernel_rfl) (by kernel_rfl) (by kernel_rfl) (fun _ _ _ h => h) (Or.inl ⟨by rfl, ?_⟩) (by assumption) ?_
    rotate_left
    · intro w hSw; (try dsimp only at hSw); go_simp; (try with_reducible rfl)
    try simp only [Act.put, List.setIfInBounds_toArray, List.set_cons_zero, List.set_cons_succ]
    refine wpAnyH_take (i := 11) (oi := ⟨some 54, _, _, _, _, _⟩) (v := ?_) rfl (by kernel_rfl) (by kernel_rfl) (by kernel_rfl) (fun _ _ _ h => h) (Or.inl ⟨by rfl, ?_⟩) (by assumption) ?_
    rotate_left
    · intro w hSw; (try dsimp only at hSw); go_simp; (try with_reducible rfl)
    try simp only [Act.put, List.setIfInBounds_toArray, List.set_cons_zero, List.set_cons_succ]
    refine wpAnyH_take (i := 12) (oi := ⟨some 55, _, _, _, _, _⟩) (v := ?_) rfl (by kernel_rfl) (by kernel_rfl) (by kernel_rfl) (fun _ _ _ h => h) (Or.inl ⟨by rfl, ?_⟩) (by assumption) ?_
    rotate_left
    · intro w hSw; (try dsimp only at hSw); go_simp; (try with_reducible rfl)
    try simp only [Act.put, List.setIfInBounds_toArray, List.set_cons_zero, List.set_cons_succ]
    refine wpAnyH_take (i := 13) (oi := ⟨some 56, _, _, _, _, _⟩) (v := .agg CA) rfl (by kernel_rfl) (by kernel_rfl) (by kernel_rfl) (fun _ _ _ h => h) (by rw [HCA.out]; exact yieldsIf_load_mid (by rfl) 46 _ rfl pA 0 rfl (attCells a) _ (fun _ h => h.2.2.2.2) Tryd.underlying46 rfl HI46.out) (by assumption) ?_
    try simp only [Act.put, List.setIfInBounds_toArray, List.set_cons_zero, List.set_cons_succ]
    refine wpAnyH_ready (rs := [14]) (by kernel_rfl) (by simp) ?_
    refine AllReadyH.cons (o := ⟨some 57, _, _, _, _, _⟩) rfl (fun K hK => ?_) (AllReadyH.nil)
    go_simp
    go_at_call 27
    refine (HRT.out _ _ _ E1 hS1.1 hc1).mono ?_
    rintro e v2 ⟨rfl, g12⟩
    have E2 := E1.trans g12
    have hS2 : Txt v2 A1 x ∧ Txt v2 A0 x ∧ v2.rangeAt pK 0 (byteVals k.1) ∧ v2.rangeAt pR 0 (byteVals r.1) ∧ v2.rangeAt pA 0 (attCells a) := ⟨hS1.1.chg g12, hS1.2.1.chg g12, rangeAt_chg hS1.2.2.1 g12 (by simp), rangeAt_chg hS1.2.2.2.1 g12 (by simp), rangeAt_chg hS1.2.2.2.2 g12 (by simp)⟩
    go_wp2_with fail
    refine hK.out _ _ hS2 (fun _ => ?_)
    clear hK K
    try simp only [Act.put, List.setIfInBounds_toArray, List.set_cons_zero, List.set_cons_succ]
    refine wpAnyH_take (i := 15) (oi := ⟨some 58, _, _, _, _, _⟩) (v := ?_) rfl (by kernel_rfl) (by kernel_rfl) (by kernel_rfl) (fun _ _ _ h => h) (Or.inl ⟨by rfl, ?_⟩) (by assumption) ?_
    rotate_left
    · intro w hSw; (try dsimp only at hSw); go_simp; (try with_reducible rfl)
    try simp only [Act.put, List.setIfInBounds_toArray, List.set_cons_zero, List.set_cons_succ]
    refine wpAnyH_take (i := 16) (oi := ⟨some 59, _, _, _, _, _⟩) (v := ?_) rfl (by kernel_rfl) (by kernel_rfl) (by kernel_rfl) (fun _ _ _ h => h) (Or.inl ⟨by rfl, ?_⟩) (by assumption) ?_
    rotate_left
    · intro w hSw; (try dsimp only at hSw); go_simp; (try with_reducible rfl)
    try simp only [Act.put, List.setIfInBounds_toArray, List.set_cons_zero, List.set_cons_succ]
    refine wpAnyH_take (i := 17) (oi := ⟨some 60, _, _, _, _, _⟩) (v := ?_) rfl (by kernel_rfl) (by kernel_rfl) (by kernel_rfl) (fun _ _ _ h => h) (Or.inl ⟨by rfl, ?_⟩) (by assumption) ?_
    rotate_left
    · intro w hSw; (try dsimp only at hSw); go_simp; (try with_reducible rfl)
    try simp only [Act.put, List.setIfInBounds_toArray, List.set_cons_zero, List.set_cons_succ]
    refine wpAnyH_take (i := 18) (oi := ⟨some 61, _, _, _, _, _⟩) (v := .string ⟨x.toArray⟩) rfl (by kernel_rfl) (by kernel_rfl) (by kernel_rfl) (fun _ _ _ h => h) (Or.inl ⟨by rfl, ?_⟩) (by assumption) ?_
    · intro w hSw; have hcw := HCV.out w A1 l c1 x hSw.1 HL.out; go_simp
    try simp only [Act.put, List.setIfInBounds_toArray, List.set_cons_zero, List.set_cons_succ]
    refine wpAnyH_take (i := 19) (oi := ⟨some 62, _, _, _, _, _⟩) (v := ?_) rfl (by kernel_rfl) (by kernel_rfl) (by kernel_rfl) (fun _ _ _ h => h) (Or.inl ⟨by rfl, ?_⟩) (by assumption) ?_
    rotate_left
    · intro w hSw; (try dsimp only at hSw); go_simp; (try with_reducible rfl)
    try simp only [Act.put, List.setIfInBounds_toArray, List.set_cons_zero, List.set_cons_succ]
    refine wpAnyH_take (i := 20) (oi := ⟨some 63, _, _, _, _, _⟩) (v := .string ⟨x.toArray⟩) rfl (by kernel_rfl) (by kernel_rfl) (by kernel_rfl) (fun _ _ _ h => h) (Or.inl ⟨by rfl, ?_⟩) (by assumption) ?_
    · intro w hSw; have hcw := HCV.out w A0 l c0 x hSw.2.1 HL.out; go_simp
    try simp only [Act.put, List.setIfInBounds_toArray, List.set_cons_zero, List.set_cons_succ]
    refine wpAnyH_take (i := 21) (oi := ⟨some 64, _, _, _, _, _⟩) (v := ?_) rfl (by kernel_rfl) (by kernel_rfl) (by kernel_rfl) (fun _ _ _ h => h) (Or.inl ⟨by rfl, ?_⟩) (by assumption) ?_
    rotate_left
    · intro w hSw; (try dsimp only at hSw); go_simp; (try with_reducible rfl)
    try simp only [Act.put, List.setIfInBounds_toArray, List.set_cons_zero, List.set_cons_succ]
    refine wpAnyH_take (i := 22) (oi := ⟨some 65, _, _, _, _, _⟩) (v := ?_) rfl (by kernel_rfl) (by kernel_rfl) (by kernel_rfl) (fun _ _ _ h => h) (Or.inl ⟨by rfl, ?_⟩) (by assumption) ?_
    rotate_left
    · intro w hSw; (try dsimp only at hSw); go_simp; (try with_reducible rfl)
    try simp only [Act.put, List.setIfInBounds_toArray, List.set_cons_zero, List.set_cons_succ]
    refine wpAnyH_take (i := 23) (oi := ⟨some 66, _, _, _, _, _⟩) (v := ?_) rfl (by kernel_rfl) (by kernel_rfl) (by kernel_rfl) (fun _ _ _ h => h) (Or.inl ⟨by rfl, ?_⟩) (by assumption) ?_
    rotate_left
    · intro w hSw; (try dsimp only at hSw); go_simp; (try with_reducible rfl)
    try simp only [Act.put, List.setIfInBounds_toArray, List.set_cons_zero, List.set_cons_succ]
    refine wpAnyH_ready (rs := [24]) (by kernel_rfl) (by simp) ?_
    refine AllReadyH.cons (o := ⟨some 67, _, _, _, _, _⟩) rfl (fun K hK => ?_) (AllReadyH.nil)
    go_simp
    go_at_call 24
    refine (HKN.out _ E2).mono ?_
    rintro e v3 ⟨rfl, g13⟩
    have E3 := E2.trans g13
    have hS3 : Txt v3 A1 x ∧ Txt v3 A0 x ∧ v3.rangeAt pK 0 (byteVals k.1) ∧ v3.rangeAt pR 0 (byteVals r.1) ∧ v3.rangeAt pA 0 (attCells a) := ⟨hS2.1.chg g13, hS2.2.1.chg g13, rangeAt_chg hS2.2.2.1 g13 (by simp), rangeAt_chg hS2.2.2.2.1 g13 (by simp), rangeAt_chg hS2.2.2.2.2 g13 (by simp)⟩
    go_wp2_with fail
    refine hK.out _ _ hS3 (fun _ => ?_)
    clear hK K
    try simp only [Act.put, List.setIfInBounds_toArray, List.set_cons_zero, List.set_cons_succ]
    refine wpAnyH_take (i := 25) (oi := ⟨some 68, _, _, _, _, _⟩) (v := ?_) rfl (by kernel_rfl) (by kernel_rfl) (by kernel_rfl) (fun _ _ _ h => h) (Or.inl ⟨by rfl, ?_⟩) (by assumption) ?_
    rotate_left
    · intro w hSw; (try dsimp only at hSw); go_simp; (try with_reducible rfl)
    try simp only [Act.put, List.setIfInBounds_toArray, List.set_cons_zero, List.set_cons_succ]
    refine wpAnyH_take (i := 26) (oi := ⟨some 8, _, _, _, _, _⟩) (v := ?_) rfl (by kernel_rfl) (by kernel_rfl) (by kernel_rfl) (fun _ _ _ h => h) (Or.inl ⟨by rfl, ?_⟩) (by assumption) ?_
    rotate_left
    · intro w hSw; (try dsimp only at hSw); go_simp; (try with_reducible rfl)
    try simp only [Act.put, List.setIfInBounds_toArray, List.set_cons_zero, List.set_cons_succ]
    refine wpAnyH_done (by kernel_rfl) ?_ _
    try simp only [Act.put]
    go_wp2_with fail
    go_ret
    exact ⟨rfl, E3⟩
  · have hm' : mayB n = false := by simpa using hm
    have h2 : ¬(1 ≤ n ∧ n ≤ 5000) := by unfold mayB at hm; simpa using hm
    obtain ⟨CZ, hCZ⟩ : ∃ CZ, CZ = (attCells zeroAtt).toArray := ⟨_, rfl⟩
    have HMN : Hid (∀ v A c, Calls Tryd.prog 25 #[.slice A l c, .agg CK, .agg CR, .int .i64 n] v fun e w' => e = .returned (.tuple #[.agg CZ, .int .i64 2]) ∧ Chg none v w') := fun v A c => by
      have := make_no k r n A l c v hm'
      rw [← hCZ, ← hCK, ← hCR] at this
      exact this
    have hqe : ∀ v : World, (binOp .eql 46 (.agg CZ) (.agg CZ)).run Tryd.prog v = .ok (.bool true) v := fun v => by
      rw [hCZ, eql46, (sameAtt_iff zeroAtt zeroAtt).2 rfl]
    have HIZl := Lib.hid (info46 zeroAtt)
    have HIX : Hid ((Tryd.prog.info? 46).map (·.size) = some CZ.size) := by rw [hCZ]; exact info46a zeroAtt
    have HOX2 : Hid (CZ.all (·.oneCell') = true) := by rw [hCZ]; exact attCells_one zeroAtt
    have HZX : Hid (Tryd.zeroCells46.size = CZ.size) := by show _ = _; rw [hCZ, zero46]
    have HBZ : Hid (Tryd.prog.built 46 [] = some CZ) := by rw [hCZ]; exact built46_0
    have HNA : Hid (∀ v : World, Chg none v ((v.alloc (.cells Tryd.zeroCells46 46)).setRow v.heap.size CZ) ∧ BlkL ((v.alloc (.cells Tryd.zeroCells46 46)).setRow v.heap.size CZ) v.heap.size (attCells zeroAtt) 46) := fun v => by rw [hCZ]; exact new_att v zeroAtt
    have HCZ := Lib.hid hCZ
    rw [← hCK, ← hCR] at HW2 ⊢
    clear hl hCK hCR hCZ hm hm' hp hT hA h1
    go_enter Tryd.func9, Tryd.ntmps9
    go_upto_region 1 with fail
    rw [HW2.out]
    clear HW2
    generalize w.heap.size + 1 = pR at *
    generalize w.heap.size = pK at *
    go_wp2_with (at_builtin; refine wpList_append_any _ rfl (.tmp 16) (.tmp 17) 22 rfl W2.heap.size 5 i0 (.int .u8 0) 1 1 Tryd.underlying22 hi hz0 hz1 hz2 rfl (by decide) _ 0 (byteVals []) rfl HOWN.out _ A0 l c0 (byteVals x) rfl HRX.out HOX.out (by unfold maxLen; omega) (by omega) HSZ.out ?_)
    intro v2 w2 hown2 hgr2 _
    have g12 := own_chg (gE.out W2) HOWN.out (Nat.le_refl _) hgr2
    have e1 : byteVals [] ++ byteVals x = byteVals x := rfl
    rw [e1] at hown2
    obtain ⟨A1, c1, rfl⟩ := own_slice hown2
    obtain ⟨hA1, -, hc1⟩ := own_txt hown2
    have HA1 := Lib.hid hA1
    have g2 := gR.trans g12
    have HK2 := Lib.hid (HBK.out w2 g12).1
    have HR2 := Lib.hid (HBK.out w2 g12).2
    have HA2 := Lib.hid (HA0.out.chg g12)
    clear e1 hown2 hgr2 HOWN HRX HOX hA1 HSZ g12 gE HA0 HBK
    go_wp2_with (first
      | (refine wpList_load_mid rfl 30 _ rfl pK 0 rfl (byteVals k.1) _ HK2.out Tryd.underlying30 rfl HIK.out ?_)
      | (refine wpList_load_mid rfl 30 _ rfl pR 0 rfl (byteVals r.1) _ HR2.out Tryd.underlying30 rfl HIR.out ?_))
    rw [← HCK.out, ← HCR.out]
    refine (HMN.out w2 A1 c1).mono ?_
    rintro e w3 ⟨rfl, g3⟩
    obtain ⟨gn, bX⟩ := HNA.out w3
    obtain ⟨W4, hW4⟩ : ∃ W4, W4 = (w3.alloc (.cells Tryd.zeroCells46 46)).setRow w3.heap.size CZ := ⟨_, rfl⟩
    have HW4 : Hid ((w3.alloc (.cells Tryd.zeroCells46 46)).setRow w3.heap.size CZ = W4) := hW4.symm
    rw [← hW4] at gn bX
    have HNW3 := Lib.hid (HNW.out w3)
    have g24 : Chg none w2 W4 := g3.trans gn
    clear hW4 gn HNW HNA
    go_upto_region 5 with (refine wpList_store_row rfl 46 _ _ rfl w3.heap.size CZ rfl rfl 46 _ HNW3.out HIX.out HZX.out HOX2.out ?_)
    rw [HW4.out]
    clear HW4 HNW3
    generalize w3.heap.size = pA at *
    have g04 := g2.trans g24
    have HX4 := Lib.hid (Blk.range bX)
    have HK4 := Lib.hid (HKN.out W4 g04)
    clear bX g24 g3 g2 HK2 HR2 HA1 HA2 HMN HKN
    by_cases h3 : n < 1
    · have d2 : decide (n < 1) = true := by simpa using h3
      clear h2
      go_upto_region 6 with fail
      go_wp2_with (first
        | (refine wpList_load_mid rfl 46 _ rfl pA 0 rfl (attCells zeroAtt) _ HX4.out Tryd.underlying46 rfl HIZl.out ?_; rw [← HCZ.out])
        | (refine wpList_buildTo rfl 46 _ rfl (some 34) rfl CZ (by simp only [List.map_toArray, List.map_nil]; exact HBZ.out) ?_))
      refine HK4.out.mono ?_
      rintro e w5 ⟨rfl, g5⟩
      go_wp2_with fail
      go_ret
      exact ⟨rfl, g04.trans g5⟩
    · have d2 : decide (n < 1) = false := by simpa using h3
      have d3 : decide ((5000 : Int) < n) = true := by simp; omega
      clear h2
      go_upto_region 6 with fail
      go_wp2_with (first
        | (refine wpList_load_mid rfl 46 _ rfl pA 0 rfl (attCells zeroAtt) _ HX4.out Tryd.underlying46 rfl HIZl.out ?_; rw [← HCZ.out])
        | (refine wpList_buildTo rfl 46 _ rfl (some 34) rfl CZ (by simp only [List.map_toArray, List.map_nil]; exact HBZ.out) ?_))
      refine HK4.out.mono ?_
      rintro e w5 ⟨rfl, g5⟩
      go_wp2_with fail
      go_ret
      exact ⟨rfl, g04.trans g5⟩

end Go.Proofs.YtehpigmcmgfkoaaDoor
