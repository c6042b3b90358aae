/-
  JournalForms: the walk.
-/
import Derived.Test.YthkghjkgmfjmoaaDoorJF
namespace Go.Proofs.YthkghjkgmfjmoaaDoor
open Go.RowKit

theorem mayJ_no {x : List UInt8} (h : mayJ x = false) : x.length = 0 ∨ 8000 < x.length := by
  unfold mayJ at h
  simp only [Bool.and_eq_false_iff, decide_eq_false_iff_not] at h
  omega
theorem mayJ_yes {x : List UInt8} (h : mayJ x = true) : 1 ≤ x.length ∧ x.length ≤ 8000 := by
  unfold mayJ at h
  simpa only [Bool.and_eq_true, decide_eq_true_eq] using h

set_option maxRecDepth 100000 in
set_option maxHeartbeats 16000000 in
theorem forms_law (p : Prt) (w : World) (hp : p.ok w) (hpm : p.c ≤ 9223372036854775807) (hT : Tabs w) :
    Calls Tryd.prog 6 #[.slice p.A p.x.length p.c] w fun e w' => e = .returned (.bool true) ∧ Chg none w w' := by
  obtain ⟨i0, hi, hz0, hz1, hz2⟩ := info_parts Tryd.info5
  have hpl : p.x.length ≤ 9223372036854775807 := by have := hp.2; omega
  have HKN : Hid (∀ v, Chg none w v → Calls Tryd.prog 16 #[] v fun e w' => e = .returned (.bool true) ∧ Chg none v w') := fun v g => known11_any v (hT.chg g (by simp))
  by_cases h1 : 10000 < p.x.length
  · have d1 : decide ((10000 : Int) < (p.x.length : Int)) = true := by rw [decide_eq_true_eq]; omega
    have HK := Lib.hid (HKN.out w (Chg.refl _ _))
    clear HKN hT hp
    go_enter Tryd.func6, Tryd.ntmps6
    go_wp2_with fail
    refine HK.out.mono ?_
    rintro e w1 ⟨rfl, g1⟩
    go_wp2_with fail
    go_ret
    exact ⟨rfl, g1⟩
  have d1 : decide ((10000 : Int) < (p.x.length : Int)) = false := by rw [decide_eq_false_iff_not]; omega
  have hE := own_emptyR w w.heap.size (Nat.le_refl _)
  have gE : Chg none w (w.alloc (.cells #[] 5 (0, 0))) := (Chg.refl _ _).alloc _
  have HE := Lib.hid hE
  have HRX := Lib.hid (txt_reads (hp.1.chg gE))
  have HOX := Lib.hid (byteVals_one p.x)
  have HTP : Hid (∀ v, Chg none w v → Txt v p.A p.x) := fun v g => hp.1.chg g
  have HTT : Hid (∀ v, Chg none w v → Tabs v) := fun v g => hT.chg g (by simp)
  have HPO : Hid (∀ v, Chg none w v → p.ok v) := fun v g => hp.chg g
  have HSE : Hid (w.heap.size ≤ (w.alloc (.cells #[] 5 (0, 0))).heap.size) := gE.size
  have HGE := Lib.hid gE
  have hcz : byteVals [] ++ byteVals p.x = byteVals p.x := rfl
  have HCZ := Lib.hid hcz
  have HMY : Hid (∀ v, Calls Tryd.prog 18 #[.slice p.A p.x.length p.c] v fun e w' => e = .returned (.bool (mayJ p.x)) ∧ w' = v) := fun v => may_any p.A p.x p.c v
  clear hT hp hE gE hcz
  by_cases hm : mayJ p.x = true
  rotate_left
  · have hm' : mayJ p.x = false := by simpa using hm
    have hno := mayJ_no hm'
    have HFN : Hid (∀ v A c, Calls Tryd.prog 17 #[.slice A p.x.length c] v fun e w' => e = .returned (.tuple #[.slice none 0 0, .int .i64 2]) ∧ Chg none v w') := fun v A c => form_no A p.x.length c v hno
    rw [hm'] at HMY
    clear hm hm' hno
    go_enter Tryd.func6, Tryd.ntmps6
    go_wp2_with (at_builtin; refine wpList_append_any _ rfl (.tmp 10) (.tmp 11) 22 rfl w.heap.size 5 i0 (.int .u8 0) 1 1 Tryd.underlying22 hi hz0 hz1 hz2 rfl (by decide) _ 0 (byteVals []) rfl HE.out _ p.A p.x.length p.c (byteVals p.x) rfl HRX.out HOX.out (by unfold maxLen; omega) (by omega) HSE.out ?_)
    intro v1 w1 hown1 hgr1 _
    have g1 : Chg none w w1 := own_chg HGE.out HE.out (Nat.le_refl _) hgr1
    obtain ⟨A1, c1, rfl⟩ := own_slice hown1
    try simp only [Nat.zero_add] at hown1
    clear hown1 hgr1 HE HRX HOX HSE HGE
    try simp only [Nat.zero_add]
    go_wp2_with fail
    refine (HFN.out _ _ _).mono ?_
    rintro e w2 ⟨rfl, g2⟩
    go_wp2_with fail
    refine (HMY.out _).mono ?_
    rintro e w3 ⟨rfl, rfl⟩
    have G2 := g1.trans g2
    have HK := Lib.hid (HKN.out _ G2)
    go_wp2_with fail
    refine HK.out.mono ?_
    rintro e w4 ⟨rfl, g4⟩
    go_wp2_with fail
    go_ret
    exact ⟨rfl, G2.trans g4⟩
  have hyes := mayJ_yes hm
  have HFY : Hid (∀ v A c, Chg none w v → Txt v A p.x → p.x.length ≤ c → Calls Tryd.prog 17 #[.slice A p.x.length c] v fun e w' =>
      ∃ A2 c2, e = .returned (.tuple #[.slice A2 (formJ p.x).length c2, .int .i64 0]) ∧ w'.ownsRow v.heap.size 5 1 (.slice A2 (formJ p.x).length c2) (formJ p.x).length (byteVals (formJ p.x)) ∧ Chg none v w') := fun v A c g h hc => form_yes ⟨A, p.x, c⟩ v ⟨h, hc⟩ hyes.1 hyes.2 (HTT.out v g)
  have HRF : Hid (∀ v px, Chg none w v → HashAt v px → Calls Tryd.prog 19 #[.pointer (some ⟨px, 0, none⟩), .slice p.A p.x.length p.c] v (OwnPost v (formJ p.x))) := fun v px g h => refform_any px p v h (HPO.out v g) (by omega)
  have HNE := Lib.hid (fun v : World => newr_any v)
  have HCV : Hid (∀ v A j c (z : List UInt8), Txt v A z → j = z.length → (convert 22 9 (.slice A j c)).run Tryd.prog v = .ok (.string ⟨z.toArray⟩) v) := fun v A j c z h e => by subst e; exact conv_reads v (txt_reads h)
  rw [hm] at HMY
  clear hm hyes
  generalize formJ p.x = FJ at *
  go_enter Tryd.func6, Tryd.ntmps6
  go_wp2_with (at_builtin; refine wpList_append_any _ rfl (.tmp 10) (.tmp 11) 22 rfl w.heap.size 5 i0 (.int .u8 0) 1 1 Tryd.underlying22 hi hz0 hz1 hz2 rfl (by decide) _ 0 (byteVals []) rfl HE.out _ p.A p.x.length p.c (byteVals p.x) rfl HRX.out HOX.out (by unfold maxLen; omega) (by omega) HSE.out ?_)
  intro v1 w1 hown1 hgr1 _
  have g1 : Chg none w w1 := own_chg HGE.out HE.out (Nat.le_refl _) hgr1
  obtain ⟨A1, c1, rfl⟩ := own_slice hown1
  rw [HCZ.out] at hown1
  try simp only [Nat.zero_add] at hown1
  have hT1 := own_txt hown1
  have HT1 := Lib.hid hT1.1
  have HF1 := Lib.hid (HFY.out w1 A1 c1 g1 hT1.1 hT1.2.2)
  clear hown1 hgr1 HE HRX HOX HSE HGE hT1 HFY
  try simp only [Nat.zero_add]
  go_wp2_with fail
  refine HF1.out.mono ?_
  rintro e w2 ⟨A2, c2, rfl, hown2, g2⟩
  have HT2 := Lib.hid (own_txt hown2).1
  have HT12 := Lib.hid (HT1.out.chg g2)
  have G2 := g1.trans g2
  clear hown2 HF1 HT1
  go_wp2_with fail
  refine (HMY.out _).mono ?_
  rintro e w3 ⟨rfl, rfl⟩
  go_upto_region 7 with fail
  have E0 := G2.drew
  have gD := (Chg.refl none w3).drew
  have hS0 : Txt w3.drew A2 FJ ∧ Txt w3.drew A1 p.x ∧ Txt w3.drew p.A p.x := ⟨HT2.out.chg gD, HT12.out.chg gD, HTP.out _ E0⟩
  refine wp_region_held_drew (S := fun w' => Txt w' A2 FJ ∧ Txt w' A1 p.x ∧ Txt w' p.A p.x) (by kernel_rfl) hS0 (fun _ => ?_)
  clear G2 g1 g2 gD HT2 HT12 HMY HTP
  generalize w3.drew = v0 at *
  refine wpAnyH_take (i := 0) (oi := ⟨some 31, _, _, _, _, _⟩) (v := ?_) rfl (by kernel_rfl) (by kernel_rfl) (by kernel_rfl) (fun _ _ _ h => h) (Or.inl ⟨by rfl, ?_⟩) (by assumption) ?_
  rotate_left
  · intro w hSw; (try dsimp only at hSw); go_simp; (try with_reducible rfl)
  try simp only [Act.put, List.setIfInBounds_toArray, List.set_cons_zero, List.set_cons_succ]
  refine wpAnyH_take (i := 1) (oi := ⟨some 32, _, _, _, _, _⟩) (v := ?_) rfl (by kernel_rfl) (by kernel_rfl) (by kernel_rfl) (fun _ _ _ h => h) (Or.inl ⟨by rfl, ?_⟩) (by assumption) ?_
  rotate_left
  · intro w hSw; (try dsimp only at hSw); go_simp; (try with_reducible rfl)
  try simp only [Act.put, List.setIfInBounds_toArray, List.set_cons_zero, List.set_cons_succ]
  refine wpAnyH_take (i := 2) (oi := ⟨some 33, _, _, _, _, _⟩) (v := ?_) rfl (by kernel_rfl) (by kernel_rfl) (by kernel_rfl) (fun _ _ _ h => h) (Or.inl ⟨by rfl, ?_⟩) (by assumption) ?_
  rotate_left
  · intro w hSw; (try dsimp only at hSw); go_simp; (try with_reducible rfl)
  try simp only [Act.put, List.setIfInBounds_toArray, List.set_cons_zero, List.set_cons_succ]
  refine wpAnyH_take (i := 3) (oi := ⟨some 34, _, _, _, _, _⟩) (v := ?_) rfl (by kernel_rfl) (by kernel_rfl) (by kernel_rfl) (fun _ _ _ h => h) (Or.inl ⟨by rfl, ?_⟩) (by assumption) ?_
  rotate_left
  · intro w hSw; (try dsimp only at hSw); go_simp; (try with_reducible rfl)
  try simp only [Act.put, List.setIfInBounds_toArray, List.set_cons_zero, List.set_cons_succ]
  refine wpAnyH_take (i := 4) (oi := ⟨some 35, _, _, _, _, _⟩) (v := .string ⟨FJ.toArray⟩) rfl (by kernel_rfl) (by kernel_rfl) (by kernel_rfl) (fun _ _ _ h => h) (Or.inl ⟨by rfl, ?_⟩) (by assumption) ?_
  · intro w hSw; have hcx := HCV.out w A2 FJ.length c2 FJ hSw.1 rfl; go_simp
  try simp only [Act.put, List.setIfInBounds_toArray, List.set_cons_zero, List.set_cons_succ]
  refine wpAnyH_take (i := 6) (oi := ⟨some 37, _, _, _, _, _⟩) (v := ?_) rfl (by kernel_rfl) (by kernel_rfl) (by kernel_rfl) (fun _ _ _ h => h) (Or.inl ⟨by rfl, ?_⟩) (by assumption) ?_
  rotate_left
  · intro w hSw; (try dsimp only at hSw); go_simp; (try with_reducible rfl)
  try simp only [Act.put, List.setIfInBounds_toArray, List.set_cons_zero, List.set_cons_succ]
  refine wpAnyH_ready (rs := [5]) (by kernel_rfl) (by simp) ?_
  refine AllReadyH.cons (o := ⟨some 36, _, _, _, _, _⟩) rfl (fun K hK => ?_) (AllReadyH.nil)
  go_simp
  go_at_call 20
  refine (HNE.out _).mono ?_
  rintro e v1 ⟨px, rfl, hh, g21⟩
  have hS1 : Txt v1 A2 FJ ∧ Txt v1 A1 p.x ∧ Txt v1 p.A p.x := ⟨hS0.1.chg g21, hS0.2.1.chg g21, hS0.2.2.chg g21⟩
  have E1 := E0.trans g21
  go_wp2_with fail
  refine hK.out _ _ hS1 (fun _ => ?_)
  clear hK K
  try simp only [Act.put, List.setIfInBounds_toArray, List.set_cons_zero, List.set_cons_succ]
  refine wpAnyH_ready (rs := [7]) (by kernel_rfl) (by simp) ?_
  refine AllReadyH.cons (o := ⟨some 38, _, _, _, _, _⟩) rfl (fun K hK => ?_) (AllReadyH.nil)
  go_simp
  go_at_call 19
  refine (HRF.out _ px E1 hh).mono ?_
  rintro e v2 ⟨A9, c9, rfl, hown9, g22⟩
  have hta := (own_txt hown9).1
  have hS2 : Txt v2 A2 FJ ∧ Txt v2 A1 p.x ∧ Txt v2 p.A p.x := ⟨hS1.1.chg g22, hS1.2.1.chg g22, hS1.2.2.chg g22⟩
  have E2 := E1.trans g22
  clear hown9
  go_wp2_with fail
  refine hK.out _ _ hS2 (fun _ => ?_)
  clear hK K
  try simp only [Act.put, List.setIfInBounds_toArray, List.set_cons_zero, List.set_cons_succ]
  refine wpAnyH_ready (rs := [8]) (by kernel_rfl) (by simp) ?_
  refine AllReadyH.cons (o := ⟨some 39, _, _, _, _, _⟩) rfl (fun K hK => ?_) (AllReadyH.nil)
  have hcv8 := HCV.out v2 A9 FJ.length c9 _ hta rfl
  go_simp
  refine hK.out _ _ hS2 (fun _ => ?_)
  clear hK K
  try simp only [Act.put, List.setIfInBounds_toArray, List.set_cons_zero, List.set_cons_succ]
  refine wpAnyH_take (i := 9) (oi := ⟨some 40, _, _, _, _, _⟩) (v := .bool true) rfl (by kernel_rfl) (by kernel_rfl) (by kernel_rfl) (fun _ _ _ h => h) (Or.inl ⟨by rfl, ?_⟩) (by assumption) ?_
  · intro w hSw; go_simp
  try simp only [Act.put, List.setIfInBounds_toArray, List.set_cons_zero, List.set_cons_succ]
  refine wpAnyH_take (i := 10) (oi := ⟨some 41, _, _, _, _, _⟩) (v := ?_) rfl (by kernel_rfl) (by kernel_rfl) (by kernel_rfl) (fun _ _ _ h => h) (Or.inl ⟨by rfl, ?_⟩) (by assumption) ?_
  rotate_left
  · intro w hSw; (try dsimp only at hSw); go_simp; (try with_reducible rfl)
  try simp only [Act.put, List.setIfInBounds_toArray, List.set_cons_zero, List.set_cons_succ]
  refine wpAnyH_take (i := 11) (oi := ⟨some 42, _, _, _, _, _⟩) (v := ?_) rfl (by kernel_rfl) (by kernel_rfl) (by kernel_rfl) (fun _ _ _ h => h) (Or.inl ⟨by rfl, ?_⟩) (by assumption) ?_
  rotate_left
  · intro w hSw; (try dsimp only at hSw); go_simp; (try with_reducible rfl)
  try simp only [Act.put, List.setIfInBounds_toArray, List.set_cons_zero, List.set_cons_succ]
  refine wpAnyH_take (i := 12) (oi := ⟨some 43, _, _, _, _, _⟩) (v := ?_) rfl (by kernel_rfl) (by kernel_rfl) (by kernel_rfl) (fun _ _ _ h => h) (Or.inl ⟨by rfl, ?_⟩) (by assumption) ?_
  rotate_left
  · intro w hSw; (try dsimp only at hSw); go_simp; (try with_reducible rfl)
  try simp only [Act.put, List.setIfInBounds_toArray, List.set_cons_zero, List.set_cons_succ]
  refine wpAnyH_take (i := 13) (oi := ⟨some 44, _, _, _, _, _⟩) (v := .string ⟨p.x.toArray⟩) rfl (by kernel_rfl) (by kernel_rfl) (by kernel_rfl) (fun _ _ _ h => h) (Or.inl ⟨by rfl, ?_⟩) (by assumption) ?_
  · intro w hSw; have hcx := HCV.out w A1 p.x.length c1 p.x hSw.2.1 rfl; go_simp
  try simp only [Act.put, List.setIfInBounds_toArray, List.set_cons_zero, List.set_cons_succ]
  refine wpAnyH_take (i := 14) (oi := ⟨some 45, _, _, _, _, _⟩) (v := ?_) rfl (by kernel_rfl) (by kernel_rfl) (by kernel_rfl) (fun _ _ _ h => h) (Or.inl ⟨by rfl, ?_⟩) (by assumption) ?_
  rotate_left
  · intro w hSw; (try dsimp only at hSw); go_simp; (try with_reducible rfl)
  try simp only [Act.put, List.setIfInBounds_toArray, List.set_cons_zero, List.set_cons_succ]
  refine wpAnyH_take (i := 15) (oi := ⟨some 46, _, _, _, _, _⟩) (v := .string ⟨p.x.toArray⟩) rfl (by kernel_rfl) (by kernel_rfl) (by kernel_rfl) (fun _ _ _ h => h) (Or.inl ⟨by rfl, ?_⟩) (by assumption) ?_
  · intro w hSw; have hcx := HCV.out w p.A p.x.length p.c p.x hSw.2.2 rfl; go_simp
  try simp only [Act.put, List.setIfInBounds_toArray, List.set_cons_zero, List.set_cons_succ]
  refine wpAnyH_take (i := 16) (oi := ⟨some 47, _, _, _, _, _⟩) (v := .bool true) rfl (by kernel_rfl) (by kernel_rfl) (by kernel_rfl) (fun _ _ _ h => h) (Or.inl ⟨by rfl, ?_⟩) (by assumption) ?_
  · intro w hSw; go_simp
  try simp only [Act.put, List.setIfInBounds_toArray, List.set_cons_zero, List.set_cons_succ]
  refine wpAnyH_take (i := 17) (oi := ⟨some 48, _, _, _, _, _⟩) (v := ?_) rfl (by kernel_rfl) (by kernel_rfl) (by kernel_rfl) (fun _ _ _ h => h) (Or.inl ⟨by rfl, ?_⟩) (by assumption) ?_
  rotate_left
  · intro w hSw; (try dsimp only at hSw); go_simp; (try with_reducible rfl)
  try simp only [Act.put, List.setIfInBounds_toArray, List.set_cons_zero, List.set_cons_succ]
  refine wpAnyH_take (i := 18) (oi := ⟨some 49, _, _, _, _, _⟩) (v := ?_) rfl (by kernel_rfl) (by kernel_rfl) (by kernel_rfl) (fun _ _ _ h => h) (Or.inl ⟨by rfl, ?_⟩) (by assumption) ?_
  rotate_left
  · intro w hSw; (try dsimp only at hSw); go_simp; (try with_reducible rfl)
  try simp only [Act.put, List.setIfInBounds_toArray, List.set_cons_zero, List.set_cons_succ]
  refine wpAnyH_ready (rs := [19]) (by kernel_rfl) (by simp) ?_
  refine AllReadyH.cons (o := ⟨some 50, _, _, _, _, _⟩) rfl (fun K hK => ?_) (AllReadyH.nil)
  go_simp
  go_at_call 16
  refine (HKN.out _ E2).mono ?_
  rintro e v3 ⟨rfl, g23⟩
  have hS3 : Txt v3 A2 FJ ∧ Txt v3 A1 p.x ∧ Txt v3 p.A p.x := ⟨hS2.1.chg g23, hS2.2.1.chg g23, hS2.2.2.chg g23⟩
  have E3 := E2.trans g23
  go_wp2_with fail
  refine hK.out _ _ hS3 (fun _ => ?_)
  clear hK K
  try simp only [Act.put, List.setIfInBounds_toArray, List.set_cons_zero, List.set_cons_succ]
  refine wpAnyH_take (i := 20) (oi := ⟨some 51, _, _, _, _, _⟩) (v := ?_) rfl (by kernel_rfl) (by kernel_rfl) (by kernel_rfl) (fun _ _ _ h => h) (Or.inl ⟨by rfl, ?_⟩) (by assumption) ?_
  rotate_left
  · intro w hSw; (try dsimp only at hSw); go_simp; (try with_reducible rfl)
  try simp only [Act.put, List.setIfInBounds_toArray, List.set_cons_zero, List.set_cons_succ]
  refine wpAnyH_take (i := 21) (oi := ⟨some 2, _, _, _, _, _⟩) (v := ?_) rfl (by kernel_rfl) (by kernel_rfl) (by kernel_rfl) (fun _ _ _ h => h) (Or.inl ⟨by rfl, ?_⟩) (by assumption) ?_
  rotate_left
  · intro w hSw; (try dsimp only at hSw); go_simp; (try with_reducible rfl)
  try simp only [Act.put, List.setIfInBounds_toArray, List.set_cons_zero, List.set_cons_succ]
  refine wpAnyH_done (by kernel_rfl) ?_ _
  try simp only [Act.put]
  go_wp2_with fail
  go_ret
  exact ⟨rfl, E3⟩

end Go.Proofs.YthkghjkgmfjmoaaDoor
