/-
  MerkleChecks: the walk.
-/
import Derived.Test.YtdkgecphkppglaaDoorRO
import Derived.Test.YtdkgecphkppglaaDoorM9
import Derived.Test.YtdkgecphkppglaaDoorMT
namespace Go.Proofs.YtdkgecphkppglaaDoor
open Go.RowKit

theorem own_empty30 (w : World) (B : Nat) (hB : B ≤ w.heap.size) : (w.alloc (.cells #[] 30 (0, 0))).ownsRow B 30 32 (.slice (some ⟨w.heap.size, 0, none⟩) 0 0) 0 (flat []) :=
  ⟨rfl, .inr ⟨w.heap.size, 0, #[], rfl, hB, heap_alloc_new w _, Nat.le_refl _, by unfold maxLen; decide, rfl, rfl⟩⟩

set_option maxRecDepth 100000 in
set_option maxHeartbeats 16000000 in
theorem checks_law (root : Dg) (n i : Int) (p : Prt) (A : Option Addr) (P : List Dg) (c : Nat) (w : World) (hp : p.ok w) (hpm : p.c ≤ 9223372036854775807) (hP : DgsAt w w.heap.size A P) (hc : P.length ≤ c) (hcm : c ≤ 9223372036854775807)
    (hn0 : -9223372036854775808 ≤ n) (hn1 : n ≤ 9223372036854775807) (hi0 : -9223372036854775808 ≤ i) (hi1 : i ≤ 9223372036854775807) (hT : Tabs w) :
    Calls Tryd.prog 10 #[.agg (byteVals root.1).toArray, .int .i64 n, .int .i64 i, .slice p.A p.x.length p.c, .slice A P.length c] w fun e w' => e = .returned (.bool true) ∧ Chg none w w' := by
  obtain ⟨i0, hi, hz0, hz1, hz2⟩ := info_parts Tryd.info5
  obtain ⟨j0, hj, hy0, hy1, hy2⟩ := info_parts Tryd.info30
  have hpl : p.x.length ≤ 9223372036854775807 := by have := hp.2; omega
  have hPl : P.length ≤ 9223372036854775807 := by omega
  have gR : Chg none w (w.alloc (.cells (byteVals root.1).toArray 30)) := (Chg.refl _ _).alloc _
  have HKR := Lib.hid (known4_any (w.alloc (.cells (byteVals root.1).toArray 30)) (hT.chg gR (by simp)))
  by_cases h1 : 200 < p.x.length
  · have d1 : decide ((200 : Int) < (p.x.length : Int)) = true := by simp <;> omega
    go_enter Tryd.func10, Tryd.ntmps10
    go_wp2_with fail
    refine HKR.out.mono ?_
    rintro e w1 ⟨rfl, g1⟩
    go_wp2_with fail
    go_ret
    exact ⟨rfl, gR.trans g1⟩
  have d1 : decide ((200 : Int) < (p.x.length : Int)) = false := by simp <;> omega
  by_cases h2 : 100 < P.length
  · have d2 : decide ((100 : Int) < (P.length : Int)) = true := by simp <;> omega
    go_enter Tryd.func10, Tryd.ntmps10
    go_wp2_with fail
    refine HKR.out.mono ?_
    rintro e w1 ⟨rfl, g1⟩
    go_wp2_with fail
    go_ret
    exact ⟨rfl, gR.trans g1⟩
  have d2 : decide ((100 : Int) < (P.length : Int)) = false := by simp <;> omega
  obtain ⟨A0, x, c0⟩ := p
  dsimp only at *
  obtain ⟨xl, hxl⟩ : ∃ xl, xl = x.length := ⟨_, rfl⟩
  obtain ⟨pl, hpl'⟩ : ∃ pl, pl = P.length := ⟨_, rfl⟩
  have hcp : xl ≤ c0 := by rw [hxl]; exact hp.2
  have hA : Txt w A0 x := hp.1
  rw [← hxl] at h1 d1 hpl ⊢
  rw [← hpl'] at h2 d2 hPl hc ⊢
  have hx3 : xl ≤ 200 := by omega
  have hp3 : pl ≤ 100 := by omega
  have HB : ∃ CB : Bool, (∀ v A1 c1 A2 c2, Chg none w v → Txt v A1 x → xl ≤ c1 → DgsAt v v.heap.size A2 P → pl ≤ c2 → Calls Tryd.prog 35 #[.agg (byteVals root.1).toArray, .int .i64 n, .int .i64 i, .slice A1 xl c1, .slice A2 pl c2] v fun e w' => e = .returned (.bool CB) ∧ Chg none v w') ∧
      (∀ v px, Chg none w v → HashAt v px → Calls Tryd.prog 36 #[.pointer (some ⟨px, 0, none⟩), .agg (byteVals root.1).toArray, .int .i64 n, .int .i64 i, .slice A0 xl c0, .slice A pl c] v fun e w' => e = .returned (.bool CB) ∧ Chg none v w') := by
    have hno : (i < 0 ∨ n < 0 ∨ ∃ N k : Nat, n = N ∧ i = k ∧ N < 9223372036854775808 ∧ cntN N ≤ k) → ∃ CB : Bool, (∀ v A1 c1 A2 c2, Chg none w v → Txt v A1 x → xl ≤ c1 → DgsAt v v.heap.size A2 P → pl ≤ c2 → Calls Tryd.prog 35 #[.agg (byteVals root.1).toArray, .int .i64 n, .int .i64 i, .slice A1 xl c1, .slice A2 pl c2] v fun e w' => e = .returned (.bool CB) ∧ Chg none v w') ∧
      (∀ v px, Chg none w v → HashAt v px → Calls Tryd.prog 36 #[.pointer (some ⟨px, 0, none⟩), .agg (byteVals root.1).toArray, .int .i64 n, .int .i64 i, .slice A0 xl c0, .slice A pl c] v fun e w' => e = .returned (.bool CB) ∧ Chg none v w') := fun h => by
      refine ⟨false, fun v A1 c1 A2 c2 _ _ _ _ _ => ?_, fun v px _ _ => ?_⟩
      · have := check_no1 root n i ⟨A1, x, c1⟩ A2 pl c2 v h
        dsimp only at this
        rwa [← hxl] at this
      · have := checkr_no1 px root n i ⟨A0, x, c0⟩ A pl c v h
        dsimp only at this
        rwa [← hxl] at this
    by_cases hi' : i < 0
    · exact hno (.inl hi')
    by_cases hn' : n < 0
    · exact hno (.inr (.inl hn'))
    obtain ⟨N, rfl⟩ : ∃ N : Nat, n = N := ⟨n.toNat, by omega⟩
    obtain ⟨k, rfl⟩ : ∃ k : Nat, i = k := ⟨i.toNat, by omega⟩
    by_cases hk : cntN N ≤ k
    · exact hno (.inr (.inr ⟨N, k, rfl, rfl, by omega, hk⟩))
    by_cases hl : x.length = chunkN N k
    · refine ⟨checkB root.1 N k x P, fun v A1 c1 A2 c2 g h1 h2 h3 h4 => ?_, fun v px g h => ?_⟩
      · have := check_any root N k ⟨A1, x, c1⟩ A2 P c2 v ⟨h1, by show x.length ≤ c1; omega⟩ (by omega) (by omega) hl h3 (by omega) (by omega) (hT.chg g (by simp))
        dsimp only at this
        rwa [← hxl, ← hpl'] at this
      · have := checkr_any px root N k ⟨A0, x, c0⟩ A P pl c v h (hp.chg g) (by omega) (by omega) hl hpl' ((hP.chg g (by simp)).more g.size) (by omega)
        dsimp only at this
        rwa [← hxl] at this
    · refine ⟨false, fun v A1 c1 A2 c2 g h1 h2 h3 h4 => ?_, fun v px g h => ?_⟩
      · have := check_no2 root N k ⟨A1, x, c1⟩ A2 pl c2 v (by omega) (by omega) hl
        dsimp only at this
        rwa [← hxl] at this
      · have := checkr_no2 px root N k ⟨A0, x, c0⟩ A pl c v (by omega) (by omega) hl
        dsimp only at this
        rwa [← hxl] at this
  obtain ⟨CB, hca, hcr⟩ := HB
  have HCA := Lib.hid hca
  have HCR := Lib.hid hcr
  have HNW := Lib.hid (fun v : World => newr_any v)
  have HKN : Hid (∀ v, Chg none w v → Calls Tryd.prog 24 #[] v fun e w' => e = .returned (.bool true) ∧ Chg none v w') := fun v g => known4_any v (hT.chg g (by simp))
  have HCV : Hid (∀ v A k c (z : List UInt8), Txt v A z → k = z.length → (convert 22 9 (.slice A k c)).run Tryd.prog v = .ok (.string ⟨z.toArray⟩) v) := fun v A k c z h e => by subst e; exact conv_reads v (txt_reads h)
  have HIR : Hid ((Tryd.prog.info? 30).map (·.size) = some (byteVals root.1).length) := by rw [byteVals_len, root.2]; show _ = _; kernel_rfl
  have HA := Lib.hid hA
  have HXL := Lib.hid hxl
  have HPL := Lib.hid hpl'
  have HP : Hid (∀ v, Chg none w v → DgsAt v v.heap.size A P) := fun v g => (hP.chg g (by simp)).more g.size
  have HOX := Lib.hid (byteVals_one x)
  have HOP := Lib.hid (dg_one P)
  have hbR : BlkL (w.alloc (.cells (byteVals root.1).toArray 30)) w.heap.size (byteVals root.1) 30 := Blk.new _ _ _
  clear hca hcr hA hxl hpl' hP hp hT h1 h2 hn0 hn1 hi0 hi1 HKR
  go_enter Tryd.func10, Tryd.ntmps10
  go_wp2_with fail
  generalize w.alloc (.cells (byteVals root.1).toArray 30) = wR at *
  generalize w.heap.size = pR at *
  refine (HNW.out _).mono ?_
  rintro e w1 ⟨px, rfl, hpx, g1⟩
  have g01 := gR.trans g1
  have bR1 := Blk.chg hbR g1 (by simp)
  have gE : Chg none w1 (w1.alloc (.cells #[] 5 (0, 0))) := (Chg.refl _ _).alloc _
  have hrx := txt_reads (HA.out.chg (g01.trans gE))
  rw [← HXL.out] at hrx
  have HRX := Lib.hid hrx
  have HOWN := Lib.hid (own_emptyB w1)
  have HSZ := Lib.hid gE.size
  clear hrx HNW g1 hbR
  go_wp2_with (at_builtin; refine wpList_append_any _ rfl (.tmp 24) (.tmp 25) 22 rfl w1.heap.size 5 i0 (.int .u8 0) 1 1 Tryd.underlying22 hi hz0 hz1 hz2 rfl (by decide) _ 0 (byteVals []) rfl HOWN.out _ A0 xl c0 (byteVals x) rfl HRX.out HOX.out (by unfold maxLen; omega) (by omega) HSZ.out ?_)
  intro v2 w2 hown2 hgr2 _
  have g12 := own_chg gE HOWN.out (Nat.le_refl _) hgr2
  have e1 : byteVals [] ++ byteVals x = byteVals x := rfl
  rw [e1] at hown2
  obtain ⟨A1, c1, rfl⟩ := own_slice hown2
  obtain ⟨hA1, -, hc1⟩ := own_txt hown2
  have HA1 := Lib.hid hA1
  have g02 := g01.trans g12
  have HX2 := Lib.hid (hpx.chg g12 (by simp))
  have bR2 := Blk.chg bR1 g12 (by simp)
  have gF : Chg none w2 (w2.alloc (.cells #[] 30 (0, 0))) := (Chg.refl _ _).alloc _
  have hrp := (HP.out _ (g02.trans gF)).reads
  rw [← HPL.out] at hrp
  have HRP := Lib.hid hrp
  have HOWN2 := Lib.hid (own_empty30 w2 w2.heap.size (Nat.le_refl _))
  have HSZ2 := Lib.hid gF.size
  clear e1 hown2 hgr2 HOWN HRX HOX hA1 HSZ g12 hpx gE hrp bR1 g01
  go_wp2_with (at_builtin; refine wpList_append_any _ rfl (.tmp 27) (.tmp 28) 51 rfl w2.heap.size 30 j0 (.agg zero32) 32 32 Tryd.underlying51 hj hy0 hy1 hy2 rfl (by decide) _ 0 (flat []) rfl HOWN2.out _ A pl c (flat P) rfl HRP.out HOP.out (by unfold maxLen; omega) (by omega) HSZ2.out ?_)
  intro v3 w3 hown3 hgr3 _
  have g23 := own_chg gF HOWN2.out (Nat.le_refl _) hgr3
  have e1 : flat [] ++ flat P = flat P := rfl
  rw [e1] at hown3
  obtain ⟨A2, c2, rfl⟩ := own_slice hown3
  obtain ⟨hd3, -, hc2⟩ := dgs_of_own hown3
  have HD3 : Hid (∀ v, Chg none w3 v → DgsAt v v.heap.size A2 P) := fun v g => (hd3.chg g (by simp)).more g.size
  have g03 := g02.trans g23
  have HA3 := Lib.hid (HA1.out.chg g23)
  have HX3 := Lib.hid (HX2.out.chg g23 (by simp))
  have bR3 := Blk.chg bR2 g23 (by simp)
  have hS0 : w3.drew.rangeAt pR 0 (byteVals root.1) ∧ Txt w3.drew A1 x ∧ Txt w3.drew A0 x := ⟨Blk.range bR3, HA3.out, HA.out.chg g03.drew⟩
  have HCA3 := Lib.hid (HCA.out w3.drew A1 c1 A2 c2 g03.drew HA3.out hc1 (HD3.out w3.drew ((Chg.refl _ _).drew)) hc2)
  have E0 : Chg none w3 w3.drew := (Chg.refl _ _).drew
  have HW3 : Hid (∀ v, Chg none w3 v → Chg none w v) := fun v g => g03.trans g
  clear e1 hown3 hgr3 HOWN2 HRP HOP hd3 HSZ2 g23 gF bR2 bR3 HX2 HA1 g02 HCA
  go_wp2_with fail
  refine wp_region_held_drew (S := fun w' => w'.rangeAt pR 0 (byteVals root.1) ∧ Txt w' A1 x ∧ Txt w' A0 x) (by kernel_rfl) hS0 (fun _ => ?_)
  generalize w3.drew = v0 at *
  refine wpAnyH_take (i := 0) (oi := ⟨some 30, _, _, _, _, _⟩) (v := .agg (byteVals root.1).toArray) rfl (by kernel_rfl) (by kernel_rfl) (by kernel_rfl) (fun _ _ _ h => h) (yieldsIf_load_mid (by rfl) 30 _ rfl pR 0 rfl (byteVals root.1) _ (fun _ h => h.1) Tryd.underlying30 rfl HIR.out) (by assumption) ?_
  try simp only [Act.put, List.setIfInBounds_toArray, List.set_cons_zero, List.set_cons_succ]
  refine wpAnyH_take (i := 1) (oi := ⟨some 31, _, _, _, _, _⟩) (v := ?_) rfl (by kernel_rfl) (by kernel_rfl) (by kernel_rfl) (fun _ _ _ h => h) (Or.inl ⟨by rfl, ?_⟩) (by assumption) ?_
  rotate_left
  · intro w hSw; (try dsimp only at hSw); go_simp; (try with_reducible rfl)
  try simp only [Act.put, List.setIfInBounds_toArray, List.set_cons_zero, List.set_cons_succ]
  refine wpAnyH_take (i := 2) (oi := ⟨some 32, _, _, _, _, _⟩) (v := ?_) rfl (by kernel_rfl) (by kernel_rfl) (by kernel_rfl) (fun _ _ _ h => h) (Or.inl ⟨by rfl, ?_⟩) (by assumption) ?_
  rotate_left
  · intro w hSw; (try dsimp only at hSw); go_simp; (try with_reducible rfl)
  try simp only [Act.put, List.setIfInBounds_toArray, List.set_cons_zero, List.set_cons_succ]
  refine wpAnyH_take (i := 3) (oi := ⟨some 33, _, _, _, _, _⟩) (v := ?_) rfl (by kernel_rfl) (by kernel_rfl) (by kernel_rfl) (fun _ _ _ h => h) (Or.inl ⟨by rfl, ?_⟩) (by assumption) ?_
  rotate_left
  · intro w hSw; (try dsimp only at hSw); go_simp; (try with_reducible rfl)
  try simp only [Act.put, List.setIfInBounds_toArray, List.set_cons_zero, List.set_cons_succ]
  refine wpAnyH_take (i := 4) (oi := ⟨some 34, _, _, _, _, _⟩) (v := ?_) rfl (by kernel_rfl) (by kernel_rfl) (by kernel_rfl) (fun _ _ _ h => h) (Or.inl ⟨by rfl, ?_⟩) (by assumption) ?_
  rotate_left
  · intro w hSw; (try dsimp only at hSw); go_simp; (try with_reducible rfl)
  try simp only [Act.put, List.setIfInBounds_toArray, List.set_cons_zero, List.set_cons_succ]
  refine wpAnyH_take (i := 6) (oi := ⟨some 36, _, _, _, _, _⟩) (v := ?_) rfl (by kernel_rfl) (by kernel_rfl) (by kernel_rfl) (fun _ _ _ h => h) (Or.inl ⟨by rfl, ?_⟩) (by assumption) ?_
  rotate_left
  · intro w hSw; (try dsimp only at hSw); go_simp; (try with_reducible rfl)
  try simp only [Act.put, List.setIfInBounds_toArray, List.set_cons_zero, List.set_cons_succ]
  refine wpAnyH_take (i := 7) (oi := ⟨some 37, _, _, _, _, _⟩) (v := .agg (byteVals root.1).toArray) rfl (by kernel_rfl) (by kernel_rfl) (by kernel_rfl) (fun _ _ _ h => h) (yieldsIf_load_mid (by rfl) 30 _ rfl pR 0 rfl (byteVals root.1) _ (fun _ h => h.1) Tryd.underlying30 rfl HIR.out) (by assumption) ?_
  try simp only [Act.put, List.setIfInBounds_toArray, List.set_cons_zero, List.set_cons_succ]
  refine wpAnyH_take (i := 8) (oi := ⟨some 38, _, _, _, _, _⟩) (v := ?_) rfl (by kernel_rfl) (by kernel_rfl) (by kernel_rfl) (fun _ _ _ h => h) (Or.inl ⟨by rfl, ?_⟩) (by assumption) ?_
  rotate_left
  · intro w hSw; (try dsimp only at hSw); go_simp; (try with_reducible rfl)
  try simp only [Act.put, List.setIfInBounds_toArray, List.set_cons_zero, List.set_cons_succ]
  refine wpAnyH_take (i := 9) (oi := ⟨some 39, _, _, _, _, _⟩) (v := ?_) rfl (by kernel_rfl) (by kernel_rfl) (by kernel_rfl) (fun _ _ _ h => h) (Or.inl ⟨by rfl, ?_⟩) (by assumption) ?_
  rotate_left
  · intro w hSw; (try dsimp only at hSw); go_simp; (try with_reducible rfl)
  try simp only [Act.put, List.setIfInBounds_toArray, List.set_cons_zero, List.set_cons_succ]
  refine wpAnyH_take (i := 10) (oi := ⟨some 40, _, _, _, _, _⟩) (v := ?_) rfl (by kernel_rfl) (by kernel_rfl) (by kernel_rfl) (fun _ _ _ h => h) (Or.inl ⟨by rfl, ?_⟩) (by assumption) ?_
  rotate_left
  · intro w hSw; (try dsimp only at hSw); go_simp; (try with_reducible rfl)
  try simp only [Act.put, List.setIfInBounds_toArray, List.set_cons_zero, List.set_cons_succ]
  refine wpAnyH_take (i := 11) (oi := ⟨some 41, _, _, _, _, _⟩) (v := ?_) rfl (by kernel_rfl) (by kernel_rfl) (by kernel_rfl) (fun _ _ _ h => h) (Or.inl ⟨by rfl, ?_⟩) (by assumption) ?_
  rotate_left
  · intro w hSw; (try dsimp only at hSw); go_simp; (try with_reducible rfl)
  try simp only [Act.put, List.setIfInBounds_toArray, List.set_cons_zero, List.set_cons_succ]
  refine wpAnyH_ready (rs := [5]) (by kernel_rfl) (by simp) ?_
  refine AllReadyH.cons (o := ⟨some 35, _, _, _, _, _⟩) rfl (fun K hK => ?_) (AllReadyH.nil)
  go_simp
  go_at_call 35
  refine HCA3.out.mono ?_
  rintro e v1 ⟨rfl, g1⟩
  have E1 := E0.trans g1
  have hS1 : v1.rangeAt pR 0 (byteVals root.1) ∧ Txt v1 A1 x ∧ Txt v1 A0 x := ⟨rangeAt_chg hS0.1 g1 (by simp), hS0.2.1.chg g1, hS0.2.2.chg g1⟩
  go_wp2_with fail
  refine hK.out _ _ hS1 (fun _ => ?_)
  clear hK K
  try simp only [Act.put, List.setIfInBounds_toArray, List.set_cons_zero, List.set_cons_succ]
  refine wpAnyH_ready (rs := [12]) (by kernel_rfl) (by simp) ?_
  refine AllReadyH.cons (o := ⟨some 42, _, _, _, _, _⟩) rfl (fun K hK => ?_) (AllReadyH.nil)
  have HC2 := Lib.hid (HCR.out v1 px (HW3.out _ E1) (HX3.out.chg E1 (by simp)))
  go_simp
  go_at_call 36
  refine HC2.out.mono ?_
  rintro e v2 ⟨rfl, g2⟩
  have E2 := E1.trans g2
  have hS2 : v2.rangeAt pR 0 (byteVals root.1) ∧ Txt v2 A1 x ∧ Txt v2 A0 x := ⟨rangeAt_chg hS1.1 g2 (by simp), hS1.2.1.chg g2, hS1.2.2.chg g2⟩
  go_wp2_with fail
  refine hK.out _ _ hS2 (fun _ => ?_)
  clear hK K
  try simp only [Act.put, List.setIfInBounds_toArray, List.set_cons_zero, List.set_cons_succ]
  refine wpAnyH_take (i := 13) (oi := ⟨some 43, _, _, _, _, _⟩) (v := ?_) rfl (by kernel_rfl) (by kernel_rfl) (by kernel_rfl) (fun _ _ _ h => h) (Or.inl ⟨by rfl, ?_⟩) (by assumption) ?_
  rotate_left
  · intro w hSw; (try dsimp only at hSw); go_simp; (try with_reducible rfl)
  try simp only [Act.put, List.setIfInBounds_toArray, List.set_cons_zero, List.set_cons_succ]
  refine wpAnyH_take (i := 14) (oi := ⟨some 44, _, _, _, _, _⟩) (v := ?_) rfl (by kernel_rfl) (by kernel_rfl) (by kernel_rfl) (fun _ _ _ h => h) (Or.inl ⟨by rfl, ?_⟩) (by assumption) ?_
  rotate_left
  · intro w hSw; (try dsimp only at hSw); go_simp; (try with_reducible rfl)
  try simp only [Act.put, List.setIfInBounds_toArray, List.set_cons_zero, List.set_cons_succ]
  refine wpAnyH_take (i := 15) (oi := ⟨some 45, _, _, _, _, _⟩) (v := ?_) rfl (by kernel_rfl) (by kernel_rfl) (by kernel_rfl) (fun _ _ _ h => h) (Or.inl ⟨by rfl, ?_⟩) (by assumption) ?_
  rotate_left
  · intro w hSw; (try dsimp only at hSw); go_simp; (try with_reducible rfl)
  try simp only [Act.put, List.setIfInBounds_toArray, List.set_cons_zero, List.set_cons_succ]
  refine wpAnyH_take (i := 16) (oi := ⟨some 46, _, _, _, _, _⟩) (v := ?_) rfl (by kernel_rfl) (by kernel_rfl) (by kernel_rfl) (fun _ _ _ h => h) (Or.inl ⟨by rfl, ?_⟩) (by assumption) ?_
  rotate_left
  · intro w hSw; (try dsimp only at hSw); have hcw := HCV.out w A1 xl c1 x hSw.2.1 HXL.out; go_simp; (try with_reducible rfl)
  try simp only [Act.put, List.setIfInBounds_toArray, List.set_cons_zero, List.set_cons_succ]
  refine wpAnyH_take (i := 17) (oi := ⟨some 47, _, _, _, _, _⟩) (v := ?_) rfl (by kernel_rfl) (by kernel_rfl) (by kernel_rfl) (fun _ _ _ h => h) (Or.inl ⟨by rfl, ?_⟩) (by assumption) ?_
  rotate_left
  · intro w hSw; (try dsimp only at hSw); go_simp; (try with_reducible rfl)
  try simp only [Act.put, List.setIfInBounds_toArray, List.set_cons_zero, List.set_cons_succ]
  refine wpAnyH_take (i := 18) (oi := ⟨some 48, _, _, _, _, _⟩) (v := ?_) rfl (by kernel_rfl) (by kernel_rfl) (by kernel_rfl) (fun _ _ _ h => h) (Or.inl ⟨by rfl, ?_⟩) (by assumption) ?_
  rotate_left
  · intro w hSw; (try dsimp only at hSw); have hcw := HCV.out w A0 xl c0 x hSw.2.2 HXL.out; go_simp; (try with_reducible rfl)
  try simp only [Act.put, List.setIfInBounds_toArray, List.set_cons_zero, List.set_cons_succ]
  refine wpAnyH_take (i := 19) (oi := ⟨some 49, _, _, _, _, _⟩) (v := ?_) rfl (by kernel_rfl) (by kernel_rfl) (by kernel_rfl) (fun _ _ _ h => h) (Or.inl ⟨by rfl, ?_⟩) (by assumption) ?_
  rotate_left
  · intro w hSw; (try dsimp only at hSw); go_simp; (try with_reducible rfl)
  try simp only [Act.put, List.setIfInBounds_toArray, List.set_cons_zero, List.set_cons_succ]
  refine wpAnyH_take (i := 20) (oi := ⟨some 50, _, _, _, _, _⟩) (v := ?_) rfl (by kernel_rfl) (by kernel_rfl) (by kernel_rfl) (fun _ _ _ h => h) (Or.inl ⟨by rfl, ?_⟩) (by assumption) ?_
  rotate_left
  · intro w hSw; (try dsimp only at hSw); go_simp; (try with_reducible rfl)
  try simp only [Act.put, List.setIfInBounds_toArray, List.set_cons_zero, List.set_cons_succ]
  refine wpAnyH_take (i := 21) (oi := ⟨some 51, _, _, _, _, _⟩) (v := ?_) rfl (by kernel_rfl) (by kernel_rfl) (by kernel_rfl) (fun _ _ _ h => h) (Or.inl ⟨by rfl, ?_⟩) (by assumption) ?_
  rotate_left
  · intro w hSw; (try dsimp only at hSw); go_simp; (try with_reducible rfl)
  try simp only [Act.put, List.setIfInBounds_toArray, List.set_cons_zero, List.set_cons_succ]
  refine wpAnyH_take (i := 22) (oi := ⟨some 52, _, _, _, _, _⟩) (v := ?_) rfl (by kernel_rfl) (by kernel_rfl) (by kernel_rfl) (fun _ _ _ h => h) (Or.inl ⟨by rfl, ?_⟩) (by assumption) ?_
  rotate_left
  · intro w hSw; (try dsimp only at hSw); go_simp; (try with_reducible rfl)
  try simp only [Act.put, List.setIfInBounds_toArray, List.set_cons_zero, List.set_cons_succ]
  refine wpAnyH_take (i := 23) (oi := ⟨some 53, _, _, _, _, _⟩) (v := ?_) rfl (by kernel_rfl) (by kernel_rfl) (by kernel_rfl) (fun _ _ _ h => h) (Or.inl ⟨by rfl, ?_⟩) (by assumption) ?_
  rotate_left
  · intro w hSw; (try dsimp only at hSw); go_simp; (try with_reducible rfl)
  try simp only [Act.put, List.setIfInBounds_toArray, List.set_cons_zero, List.set_cons_succ]
  refine wpAnyH_ready (rs := [24]) (by kernel_rfl) (by simp) ?_
  refine AllReadyH.cons (o := ⟨some 54, _, _, _, _, _⟩) rfl (fun K hK => ?_) (AllReadyH.nil)
  have HC3 := Lib.hid (alike_any P A2 A pl c2 c v2.heap.size v2.heap.size v2 HPL.out (by omega) (HD3.out v2 E2) (HP.out v2 (HW3.out _ E2)))
  go_simp
  go_at_call 33
  refine HC3.out.mono ?_
  rintro e v3 ⟨rfl, g3⟩
  have E3 := E2.trans g3
  have hS3 : v3.rangeAt pR 0 (byteVals root.1) ∧ Txt v3 A1 x ∧ Txt v3 A0 x := ⟨rangeAt_chg hS2.1 g3 (by simp), hS2.2.1.chg g3, hS2.2.2.chg g3⟩
  go_wp2_with fail
  refine hK.out _ _ hS3 (fun _ => ?_)
  clear hK K
  try simp only [Act.put, List.setIfInBounds_toArray, List.set_cons_zero, List.set_cons_succ]
  refine wpAnyH_take (i := 25) (oi := ⟨some 55, _, _, _, _, _⟩) (v := ?_) rfl (by kernel_rfl) (by kernel_rfl) (by kernel_rfl) (fun _ _ _ h => h) (Or.inl ⟨by rfl, ?_⟩) (by assumption) ?_
  rotate_left
  · intro w hSw; (try dsimp only at hSw); go_simp; (try with_reducible rfl)
  try simp only [Act.put, List.setIfInBounds_toArray, List.set_cons_zero, List.set_cons_succ]
  refine wpAnyH_take (i := 26) (oi := ⟨some 56, _, _, _, _, _⟩) (v := ?_) rfl (by kernel_rfl) (by kernel_rfl) (by kernel_rfl) (fun _ _ _ h => h) (Or.inl ⟨by rfl, ?_⟩) (by assumption) ?_
  rotate_left
  · intro w hSw; (try dsimp only at hSw); go_simp; (try with_reducible rfl)
  try simp only [Act.put, List.setIfInBounds_toArray, List.set_cons_zero, List.set_cons_succ]
  refine wpAnyH_ready (rs := [27]) (by kernel_rfl) (by simp) ?_
  refine AllReadyH.cons (o := ⟨some 57, _, _, _, _, _⟩) rfl (fun K hK => ?_) (AllReadyH.nil)
  have HC4 := Lib.hid (HKN.out v3 (HW3.out _ E3))
  go_simp
  go_at_call 24
  refine HC4.out.mono ?_
  rintro e v4 ⟨rfl, g4⟩
  have E4 := E3.trans g4
  have hS4 : v4.rangeAt pR 0 (byteVals root.1) ∧ Txt v4 A1 x ∧ Txt v4 A0 x := ⟨rangeAt_chg hS3.1 g4 (by simp), hS3.2.1.chg g4, hS3.2.2.chg g4⟩
  go_wp2_with fail
  refine hK.out _ _ hS4 (fun _ => ?_)
  clear hK K
  try simp only [Act.put, List.setIfInBounds_toArray, List.set_cons_zero, List.set_cons_succ]
  refine wpAnyH_take (i := 28) (oi := ⟨some 58, _, _, _, _, _⟩) (v := ?_) rfl (by kernel_rfl) (by kernel_rfl) (by kernel_rfl) (fun _ _ _ h => h) (Or.inl ⟨by rfl, ?_⟩) (by assumption) ?_
  rotate_left
  · intro w hSw; (try dsimp only at hSw); go_simp; (try with_reducible rfl)
  try simp only [Act.put, List.setIfInBounds_toArray, List.set_cons_zero, List.set_cons_succ]
  refine wpAnyH_take (i := 29) (oi := ⟨some 10, _, _, _, _, _⟩) (v := ?_) rfl (by kernel_rfl) (by kernel_rfl) (by kernel_rfl) (fun _ _ _ h => h) (Or.inl ⟨by rfl, ?_⟩) (by assumption) ?_
  rotate_left
  · intro w hSw; (try dsimp only at hSw); go_simp; (try with_reducible rfl)
  try simp only [Act.put, List.setIfInBounds_toArray, List.set_cons_zero, List.set_cons_succ]
  refine wpAnyH_done (by kernel_rfl) ?_ _
  try simp only [Act.put]
  go_wp2_with fail
  go_ret
  exact ⟨rfl, HW3.out _ E4⟩

end Go.Proofs.YtdkgecphkppglaaDoor
