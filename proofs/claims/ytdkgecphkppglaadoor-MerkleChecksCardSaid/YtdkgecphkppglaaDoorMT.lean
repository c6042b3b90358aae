/-
  MerkleTrees: two rows of digests that are alike; the walk.
-/
import Derived.Test.YtdkgecphkppglaaDoorRM
import Derived.Test.YtdkgecphkppglaaDoorM9
namespace Go.Proofs.YtdkgecphkppglaaDoor
open Go.RowKit

set_option maxRecDepth 100000 in
set_option maxHeartbeats 8000000 in
theorem alike_any (L : List Dg) (A1 A2 : Option Addr) (n c1 c2 B1 B2 : Nat) (w : World) (hn : n = L.length) (hn9 : n ≤ 1000000) (h1 : DgsAt w B1 A1 L) (h2 : DgsAt w B2 A2 L) :
    Calls Tryd.prog 33 #[.slice A1 n c1, .slice A2 n c2] w fun e w' => e = .returned (.bool true) ∧ Chg none w w' := by
  by_cases h0 : n = 0
  · subst h0
    go_enter Tryd.func33, Tryd.ntmps33
    go_wp2_with fail
    go_loopw [13] (fun s13 wr => s13 = .int .i64 0 ∧ Chg none w wr) (fun _ _ => 0)
    case atStart => exact ⟨rfl, Chg.refl _ _⟩
    case round =>
      obtain ⟨rfl, gk⟩ := hrel
      go_wp2_with fail
      go_ret
      exact ⟨rfl, gk⟩
  · obtain ⟨b1, o1, rfl, _, r1⟩ := h1 (by omega)
    obtain ⟨b2, o2, rfl, _, r2⟩ := h2 (by omega)
    have HR1 := Lib.hid r1
    have HR2 := Lib.hid r2
    have HN := Lib.hid hn
    have HIL : Hid (∀ d : Dg, (Tryd.prog.info? 30).map (·.size) = some (byteVals d.1).length) := fun d => by rw [byteVals_len, d.2]; show _ = _; kernel_rfl
    have HQ : Hid (∀ (d : Dg) (v : World), (binOp .neq 30 (.agg (byteVals d.1).toArray) (.agg (byteVals d.1).toArray)).run Tryd.prog v = .ok (.bool false) v) := fun d v => by rw [neq30 d.1 d.1 d.2 d.2 v]; simp
    have hg30 := guard30
    have hp : 0 < n := by omega
    clear h1 h2 r1 r2 hn h0
    go_enter Tryd.func33, Tryd.ntmps33
    go_wp2_with fail
    go_loopw [13] (fun s13 wr => ∃ k : Nat, k ≤ n ∧ s13 = .int .i64 k ∧ Chg none w wr) (fun s13 _ => n - (intOf s13).toNat)
    case atStart => exact ⟨0, by omega, rfl, Chg.refl _ _⟩
    case round =>
      obtain ⟨k, hk, rfl, gk⟩ := hrel
      by_cases hlt : k < n
      · have hkL : k < L.length := by rw [← HN.out]; exact hlt
        have q1 := flat_part (rangeAt_chg HR1.out gk (by simp)) k hkL
        have q2 := flat_part (rangeAt_chg HR2.out gk (by simp)) k hkL
        generalize L[k] = d at *
        have hq := HQ.out d
        have hS0 : wr.drew.rangeAt b1 (o1 + k * 32) (byteVals d.1) ∧ wr.drew.rangeAt b2 (o2 + k * 32) (byteVals d.1) := ⟨q1, q2⟩
        have E0 : Chg none w wr.drew := gk.drew
        clear q1 q2 hkL gk
        go_wp2_with fail
        refine wp_region_held_drew (S := fun w' => w'.rangeAt b1 (o1 + k * 32) (byteVals d.1) ∧ w'.rangeAt b2 (o2 + k * 32) (byteVals d.1)) (by kernel_rfl) hS0 (fun _ => ?_)
        generalize wr.drew = v0 at *
        refine wpAnyH_take (i := 0) (oi := ⟨some 16, _, _, _, _, _⟩) (v := ?_) rfl (by kernel_rfl) (by kernel_rfl) (by kernel_rfl) (fun _ _ _ h => h) (Or.inl ⟨by rfl, ?_⟩) (by assumption) ?_
        rotate_left
        · intro w hSw; (try dsimp only at hSw); go_simp; (try with_reducible rfl)
        try simp only [Act.put, List.setIfInBounds_toArray, List.set_cons_zero, List.set_cons_succ]
        refine wpAnyH_take (i := 1) (oi := ⟨some 17, _, _, _, _, _⟩) (v := ?_) rfl (by kernel_rfl) (by kernel_rfl) (by kernel_rfl) (fun _ _ _ h => h) (Or.inl ⟨by rfl, ?_⟩) (by assumption) ?_
        rotate_left
        · intro w hSw; (try dsimp only at hSw); go_simp; (try with_reducible rfl)
        try simp only [Act.put, List.setIfInBounds_toArray, List.set_cons_zero, List.set_cons_succ]
        refine wpAnyH_take (i := 2) (oi := ⟨some 18, _, _, _, _, _⟩) (v := ?_) rfl (by kernel_rfl) (by kernel_rfl) (by kernel_rfl) (fun _ _ _ h => h) (Or.inl ⟨by rfl, ?_⟩) (by assumption) ?_
        rotate_left
        · intro w hSw; (try dsimp only at hSw); go_simp; (try with_reducible rfl)
        try simp only [Act.put, List.setIfInBounds_toArray, List.set_cons_zero, List.set_cons_succ]
        refine wpAnyH_take (i := 3) (oi := ⟨some 19, _, _, _, _, _⟩) (v := .agg (byteVals d.1).toArray) rfl (by kernel_rfl) (by kernel_rfl) (by kernel_rfl) (fun _ _ _ h => h) (yieldsIf_load_mid (by rfl) 30 _ rfl b1 (o1 + k * 32) rfl (byteVals d.1) _ (fun _ h => h.1) Tryd.underlying30 rfl (HIL.out d)) (by assumption) ?_
        try simp only [Act.put, List.setIfInBounds_toArray, List.set_cons_zero, List.set_cons_succ]
        refine wpAnyH_take (i := 4) (oi := ⟨some 20, _, _, _, _, _⟩) (v := ?_) rfl (by kernel_rfl) (by kernel_rfl) (by kernel_rfl) (fun _ _ _ h => h) (Or.inl ⟨by rfl, ?_⟩) (by assumption) ?_
        rotate_left
        · intro w hSw; (try dsimp only at hSw); go_simp; (try with_reducible rfl)
        try simp only [Act.put, List.setIfInBounds_toArray, List.set_cons_zero, List.set_cons_succ]
        refine wpAnyH_take (i := 5) (oi := ⟨some 21, _, _, _, _, _⟩) (v := ?_) rfl (by kernel_rfl) (by kernel_rfl) (by kernel_rfl) (fun _ _ _ h => h) (Or.inl ⟨by rfl, ?_⟩) (by assumption) ?_
        rotate_left
        · intro w hSw; (try dsimp only at hSw); go_simp; (try with_reducible rfl)
        try simp only [Act.put, List.setIfInBounds_toArray, List.set_cons_zero, List.set_cons_succ]
        refine wpAnyH_take (i := 6) (oi := ⟨some 22, _, _, _, _, _⟩) (v := ?_) rfl (by kernel_rfl) (by kernel_rfl) (by kernel_rfl) (fun _ _ _ h => h) (Or.inl ⟨by rfl, ?_⟩) (by assumption) ?_
        rotate_left
        · intro w hSw; (try dsimp only at hSw); go_simp; (try with_reducible rfl)
        try simp only [Act.put, List.setIfInBounds_toArray, List.set_cons_zero, List.set_cons_succ]
        refine wpAnyH_take (i := 7) (oi := ⟨some 23, _, _, _, _, _⟩) (v := .agg (byteVals d.1).toArray) rfl (by kernel_rfl) (by kernel_rfl) (by kernel_rfl) (fun _ _ _ h => h) (yieldsIf_load_mid (by rfl) 30 _ rfl b2 (o2 + k * 32) rfl (byteVals d.1) _ (fun _ h => h.2) Tryd.underlying30 rfl (HIL.out d)) (by assumption) ?_
        try simp only [Act.put, List.setIfInBounds_toArray, List.set_cons_zero, List.set_cons_succ]
        refine wpAnyH_take (i := 8) (oi := ⟨some 24, _, _, _, _, _⟩) (v := ?_) rfl (by kernel_rfl) (by kernel_rfl) (by kernel_rfl) (fun _ _ _ h => h) (Or.inl ⟨by rfl, ?_⟩) (by assumption) ?_
        rotate_left
        · intro w hSw; (try dsimp only at hSw); go_simp; (try with_reducible rfl)
        try simp only [Act.put, List.setIfInBounds_toArray, List.set_cons_zero, List.set_cons_succ]
        refine wpAnyH_done (by kernel_rfl) ?_ _
        try simp only [Act.put]
        go_wp2_with fail
        go_roundw
        case rel => exact ⟨k + 1, by omega, by go_num, E0⟩
        case measure => first | (simp [intOf]; done) | (simp [intOf]; omega)
      · have hkn : k = n := by omega
        have dd : decide ((k : Int) < (n : Int)) = false := by simp; omega
        clear hkn
        go_wp2_with fail
        go_ret
        exact ⟨rfl, gk⟩

/-- What is told where there is no such chunk, and where there is: the walk behind the root. -/
theorem byte_inc (z : UInt8) : ∃ y : UInt8, (y.toNat : Int) = ((z.toNat : Int) + 1) % 256 := ⟨z + 1, by
  rw [UInt8.toNat_add]; simp⟩

set_option maxRecDepth 100000 in
set_option maxHeartbeats 16000000 in
theorem trees_law (p : Prt) (i length : Int) (w : World) (hp : p.ok w) (hpm : p.c ≤ 9223372036854775807) (hi0 : -9223372036854775808 ≤ i) (hi1 : i ≤ 9223372036854775807) (hl0 : -9223372036854775808 ≤ length) (hl1 : length ≤ 9223372036854775807) (hT : Tabs w) :
    Calls Tryd.prog 9 #[.slice p.A p.x.length p.c, .int .i64 i, .int .i64 length] w fun e w' => e = .returned (.bool true) ∧ Chg none w w' := by
  obtain ⟨i0, hi, hz0, hz1, hz2⟩ := info_parts Tryd.info5
  have hpl : p.x.length ≤ 9223372036854775807 := by have := hp.2; omega
  by_cases h1 : 1200 < p.x.length
  · have HK := Lib.hid (known4_any w hT)
    have d1 : decide ((1200 : Int) < (p.x.length : Int)) = true := by simp <;> omega
    go_enter Tryd.func9, Tryd.ntmps9
    go_wp2_with fail
    refine HK.out.mono ?_
    rintro e w1 ⟨rfl, g1⟩
    go_wp2_with fail
    go_ret
    exact ⟨rfl, g1⟩
  have d1 : decide ((1200 : Int) < (p.x.length : Int)) = false := by simp <;> omega
  obtain ⟨A0, x, c0⟩ := p
  dsimp only at *
  obtain ⟨n, hn⟩ : ∃ n, n = x.length := ⟨_, rfl⟩
  have hcp : n ≤ c0 := by rw [hn]; exact hp.2
  have hA : Txt w A0 x := hp.1
  rw [← hn] at h1 d1 hpl ⊢
  have hn3 : n ≤ 1200 := by omega
  have HNW := Lib.hid (fun v : World => newr_any v)
  obtain ⟨CV, hCV⟩ : ∃ CV : Int, CV = if length < 0 then 0 else (cntN length.toNat : Nat) := ⟨_, rfl⟩
  have HCA : Hid (∀ v, Calls Tryd.prog 26 #[.int .i64 length] v fun e w' => e = .returned (.int .i64 CV) ∧ v = w') := fun v => by
    rw [hCV]
    by_cases h : length < 0
    · rw [if_pos h]; exact count_neg length h v
    · rw [if_neg h]
      have := count_nat length.toNat (by omega) v
      rwa [Int.toNat_of_nonneg (by omega)] at this
  have HCB : Hid (∀ v, Calls Tryd.prog 27 #[.int .i64 length] v fun e w' => e = .returned (.int .i64 CV) ∧ v = w') := fun v => by
    rw [hCV]
    by_cases h : length < 0
    · rw [if_pos h]; exact countr_neg length h v
    · rw [if_neg h]
      have := countr_nat length.toNat (by omega) v
      rwa [Int.toNat_of_nonneg (by omega)] at this
  obtain ⟨T, hTT⟩ : ∃ T, T = rootB x := ⟨_, rfl⟩
  have hTl : T.length = 32 := by rw [hTT, rootB_len]
  have hqe : ∀ v : World, (binOp .neq 30 (.agg (byteVals T).toArray) (.agg (byteVals T).toArray)).run Tryd.prog v = .ok (.bool false) v := fun v => by rw [neq30 T T hTl hTl v]; simp
  have HQE := Lib.hid hqe
  have HRA : Hid (∀ v A c, Chg none w v → Txt v A x → n ≤ c → Calls Tryd.prog 28 #[.slice A n c] v fun e w' => e = .returned (.agg (byteVals T).toArray) ∧ Chg none v w') := fun v A c g h1 h2 => by
    have := rootf_any ⟨A, x, c⟩ v ⟨h1, by show x.length ≤ c; omega⟩ (by show x.length ≤ 1000000; omega) (hT.chg g (by simp))
    dsimp only at this
    rwa [← hn, ← hTT] at this
  have HRR : Hid (∀ v px, Chg none w v → HashAt v px → Calls Tryd.prog 29 #[.pointer (some ⟨px, 0, none⟩), .slice A0 n c0] v fun e w' => e = .returned (.agg (byteVals T).toArray) ∧ Chg none v w') := fun v px g h => by
    have := rootr_any px ⟨A0, x, c0⟩ v h (hp.chg g) (by show x.length ≤ 100000; omega)
    dsimp only at this
    rwa [← hn, ← hTT] at this
  have HKN : Hid (∀ v, Chg none w v → Calls Tryd.prog 24 #[] v fun e w' => e = .returned (.bool true) ∧ Chg none v w') := fun v g => known4_any v (hT.chg g (by simp))
  have HCV : Hid (∀ v A k c (z : List UInt8), Txt v A z → k = z.length → (convert 22 9 (.slice A k c)).run Tryd.prog v = .ok (.string ⟨z.toArray⟩) v) := fun v A k c z h e => by subst e; exact conv_reads v (txt_reads h)
  have HCN : Hid (∀ v, Calls Tryd.prog 27 #[.int .i64 n] v fun e w' => e = .returned (.int .i64 (cntN n)) ∧ v = w') := fun v => countr_nat n (by omega) v
  have HA := Lib.hid hA
  have HN := Lib.hid hn
  have HOX := Lib.hid (byteVals_one x)
  have gE : Hid (∀ v : World, Chg none v (v.alloc (.cells #[] 5 (0, 0)))) := fun v => (Chg.refl _ _).alloc _
  have HTT := Lib.hid hTT
  have HHT : Hid (Tabs w) := hT
  have hg30 := guard30
  have hcn : cntN n ≤ 20 := by unfold cntN; omega
  have HPX : Hid (∀ v px, Chg none w v → HashAt v px → ∀ k : Nat, k < cntN n → ∃ (cb : List UInt8) (PP : List Dg) (cl pl : Nat), cl = cb.length ∧ pl = PP.length ∧ pl ≤ 100000 ∧ cl ≤ 64 ∧
      (∀ u A c, Chg none w u → Txt u A x → n ≤ c → Calls Tryd.prog 30 #[.slice A n c, .int .i64 k] u fun e w' => ∃ A2 c2, e = .returned (.tuple #[.slice A2 cl c2, .int .i64 0]) ∧ w'.ownsRow u.heap.size 5 1 (.slice A2 cl c2) cl (byteVals cb) ∧ Chg none u w') ∧
      (∀ u A c, Chg none w u → Txt u A x → n ≤ c → Calls Tryd.prog 31 #[.slice A n c, .int .i64 k] u fun e w' => ∃ A2 c2, e = .returned (.tuple #[.slice A2 pl c2, .int .i64 0]) ∧ w'.ownsRow u.heap.size 30 32 (.slice A2 pl c2) pl (flat PP) ∧ Chg none u w') ∧
      (∀ u, Chg none w u → Calls Tryd.prog 32 #[.slice A0 n c0, .int .i64 k] u fun e w' => ∃ A2 c2, e = .returned (.slice A2 cl c2) ∧ w'.ownsRow u.heap.size 5 1 (.slice A2 cl c2) cl (byteVals cb) ∧ Chg none u w') ∧
      (∀ u, Chg none v u → Calls Tryd.prog 34 #[.pointer (some ⟨px, 0, none⟩), .slice A0 n c0, .int .i64 k] u fun e w' => ∃ A2 c2, e = .returned (.slice A2 pl c2) ∧ w'.ownsRow u.heap.size 30 32 (.slice A2 pl c2) pl (flat PP) ∧ Chg none u w')) := fun v px gv hpx k hk => by
    have hk' : k < cntN x.length := by rw [← hn]; exact hk
    refine ⟨chunkB x k, proofB (leavesB x) k, (chunkB x k).length, (proofB (leavesB x) k).length, rfl, rfl, ?_, by rw [chunkB_len _ _ (cnt_lo hk')]; unfold chunkN; omega, fun u A c g h1 h2 => ?_, fun u A c g h1 h2 => ?_, fun u g => ?_, fun u g => ?_⟩
    · rw [proof_len]; have := need_le _ (cntN x.length) k (Nat.le_refl _); rw [← hn] at this ⊢; omega
    · have := chunk_yes ⟨A, x, c⟩ k u ⟨h1, by show x.length ≤ c; omega⟩ hk' (by show x.length ≤ 1000000; omega)
      dsimp only at this
      rwa [← hn] at this
    · have := proof_yes ⟨A, x, c⟩ k u ⟨h1, by show x.length ≤ c; omega⟩ hk' (by show x.length ≤ 1000000; omega) (hT.chg g (by simp))
      dsimp only at this
      rwa [← hn] at this
    · have := chunkr_any ⟨A0, x, c0⟩ k u (hp.chg g) hk' (by show x.length ≤ 1000000; omega)
      dsimp only at this
      rwa [← hn] at this
    · have := proofr_any px ⟨A0, x, c0⟩ k u (hpx.chg g (by simp)) (hp.chg (gv.trans g)) (by show x.length ≤ 100000; omega) hk'
      dsimp only at this
      rwa [← hn] at this
  have HNO : Hid (i < 0 ∨ (cntN n : Int) ≤ i → (∀ u A c, n ≤ c → Calls Tryd.prog 30 #[.slice A n c, .int .i64 i] u fun e w' => e = .returned (.tuple #[.slice none 0 0, .int .i64 6]) ∧ u = w') ∧
      (∀ u A c, n ≤ c → Calls Tryd.prog 31 #[.slice A n c, .int .i64 i] u fun e w' => e = .returned (.tuple #[.slice none 0 0, .int .i64 6]) ∧ u = w')) := fun h => by
    refine ⟨fun u A c _ => ?_, fun u A c _ => ?_⟩
    · have := chunk_no ⟨A, x, c⟩ i u (by rw [← hn]; exact h) (by show x.length ≤ 1000000; omega)
      dsimp only at this
      rwa [← hn] at this
    · have := proof_no ⟨A, x, c⟩ i u (by rw [← hn]; exact h) (by show x.length ≤ 1000000; omega)
      dsimp only at this
      rwa [← hn] at this
  clear hn hA hTT hTl hqe hp hT h1 hCV
  go_enter Tryd.func9, Tryd.ntmps9
  go_wp2_with fail
  refine (HNW.out _).mono ?_
  rintro e w1 ⟨px, rfl, hpx, g1⟩
  have hrx := txt_reads (HA.out.chg (g1.trans (gE.out w1)))
  rw [← HN.out] at hrx
  have HRX := Lib.hid hrx
  have HOWN := Lib.hid (own_emptyB w1)
  have HSZ := Lib.hid (gE.out w1).size
  clear hrx
  go_wp2_with (at_builtin; refine wpList_append_any _ rfl (.tmp 19) (.tmp 20) 22 rfl w1.heap.size 5 i0 (.int .u8 0) 1 1 Tryd.underlying22 hi hz0 hz1 hz2 rfl (by decide) _ 0 (byteVals []) rfl HOWN.out _ A0 n c0 (byteVals x) rfl HRX.out HOX.out (by unfold maxLen; omega) (by omega) HSZ.out ?_)
  intro v2 w2 hown2 hgr2 _
  have g12 := own_chg (gE.out w1) HOWN.out (Nat.le_refl _) hgr2
  have e1 : byteVals [] ++ byteVals x = byteVals x := rfl
  rw [e1] at hown2
  obtain ⟨A1, c1, rfl⟩ := own_slice hown2
  obtain ⟨hA1, -, hc1⟩ := own_txt hown2
  have HA1 := Lib.hid hA1
  have g2 := g1.trans g12
  have HPX2 := Lib.hid (hpx.chg g12 (by simp))
  clear e1 hown2 hgr2 HOWN HRX HOX hA1 HSZ g12 hpx gE HNW
  have HRA2 := Lib.hid (fun (v : World) (g : Chg none w2 v) => HRA.out v A1 c1 (g2.trans g) (HA1.out.chg g) hc1)
  have HRR2 := Lib.hid (fun (v : World) (g : Chg none w2 v) => HRR.out v px (g2.trans g) (HPX2.out.chg g (by simp)))
  have hqe := HQE.out
  clear HRA HRR HQE
  go_upto_region 5 with fail
  go_cut [38] (fun s38 wx => s38 = .bool false ∧ Chg none w2 wx)
  case first =>
    by_cases hlen : length < 1099511627776
    · have d2 : decide (length < 1099511627776) = true := by simpa using hlen
      go_wp2_with fail
      refine (HCA.out _).mono ?_
      rintro e w' ⟨rfl, rfl⟩
      go_wp2_with fail
      refine (HCB.out _).mono ?_
      rintro e w' ⟨rfl, rfl⟩
      go_wp2_with fail
      refine (HRA2.out _ (Chg.refl _ _)).mono ?_
      rintro e w3 ⟨rfl, g3⟩
      have HR3 := Lib.hid (HRR2.out w3 g3)
      go_wp2_with fail
      refine HR3.out.mono ?_
      rintro e w4 ⟨rfl, g4⟩
      have g24 := g3.trans g4
      go_wp2_with fail
      go_meet
      exact ⟨rfl, g24⟩
    · have d2 : decide (length < 1099511627776) = false := by simpa using hlen
      go_wp2_with fail
      refine (HRA2.out _ (Chg.refl _ _)).mono ?_
      rintro e w3 ⟨rfl, g3⟩
      have HR3 := Lib.hid (HRR2.out w3 g3)
      go_wp2_with fail
      refine HR3.out.mono ?_
      rintro e w4 ⟨rfl, g4⟩
      have g24 := g3.trans g4
      go_wp2_with fail
      go_meet
      exact ⟨rfl, g24⟩
  case rest =>
  obtain ⟨rfl, g23⟩ := hcut
  obtain ⟨w3, rfl⟩ : ∃ w3 : World, w3 = wc := ⟨_, rfl⟩
  have g3 := g2.trans g23
  have HA3 := Lib.hid (HA1.out.chg g23)
  have HX3 : Hid (HashAt w3 px) := HPX2.out.chg g23 (by simp)
  clear HRA2 HRR2 HCA HCB HPX2 HA1
  by_cases hir : i < 0 ∨ (cntN n : Int) ≤ i
  · obtain ⟨hc, hpf⟩ := HNO.out hir
    have HC := Lib.hid (fun u => hc u A1 c1 hc1)
    have HPF := Lib.hid (fun u => hpf u A1 c1 hc1)
    clear hc hpf HNO HPX
    go_wp2_with fail
    refine (HC.out _).mono ?_
    rintro e w' ⟨rfl, rfl⟩
    go_wp2_with fail
    refine (HPF.out _).mono ?_
    rintro e w' ⟨rfl, rfl⟩
    by_cases hi0' : i < 0
    · have d3 : decide (i < 0) = true := by simpa using hi0'
      have HK := Lib.hid (HKN.out w3 g3)
      clear hir
      go_wp2_with fail
      refine HK.out.mono ?_
      rintro e w5 ⟨rfl, g5⟩
      go_wp2_with fail
      go_ret
      exact ⟨rfl, g3.trans g5⟩
    · have d3 : decide (i < 0) = false := by simpa using hi0'
      have d4 : decide (i ≥ (cntN n : Int)) = true := by simp; omega
      have hge : (cntN n : Int) ≤ i := by omega
      have HK := Lib.hid (HKN.out w3 g3)
      generalize cntN n = CN at *
      clear hir
      go_wp2_with fail
      refine (HCN.out _).mono ?_
      rintro e w' ⟨rfl, rfl⟩
      go_wp2_with fail
      refine HK.out.mono ?_
      rintro e w5 ⟨rfl, g5⟩
      go_wp2_with fail
      go_ret
      exact ⟨rfl, g3.trans g5⟩
  · obtain ⟨k, rfl⟩ : ∃ k : Nat, i = (k : Int) := ⟨i.toNat, by omega⟩
    have hk : k < cntN n := by omega
    obtain ⟨cb, PP, cl, pl, hcl, hpl', hpl9, hcl9, hC, hPF, hCR, hPR⟩ := HPX.out w3 px g3 HX3.out k hk
    have HC := Lib.hid (hC w3 A1 c1 g3 HA3.out hc1)
    have HPF := Lib.hid (fun u (g : Chg none w3 u) => hPF u A1 c1 (g3.trans g) (HA3.out.chg g) hc1)
    have HCR0 := Lib.hid hCR
    have GW3 := g3
    have HPR := Lib.hid hPR
    have HCL := Lib.hid hcl
    have HPL := Lib.hid hpl'
    clear hC hPF hCR hPR HPX HNO hcl hpl' hir hi0 hi1
    go_wp2_with fail
    refine HC.out.mono ?_
    rintro e w4 ⟨A2, c2, rfl, hown4, g4⟩
    have HO4 := Lib.hid hown4
    have HPF4 := Lib.hid (HPF.out w4 g4)
    clear HC HPF hown4
    go_wp2_with fail
    refine HPF4.out.mono ?_
    rintro e w5 ⟨A5, c5, rfl, hown5, g5⟩
    have HO5 := Lib.hid (HO4.out.kept g5 (by cases (Value.slice A2 cl c2).ownBlock <;> simp))
    have g35 := g4.trans g5
    have g05 := g3.trans g35
    obtain ⟨hd5, -, hc5⟩ := dgs_of_own hown5
    have HD5 : Hid (∀ u, Chg none w5.drew u → DgsAt u w5.heap.size A5 PP) := fun u g => DgsAt.chg (w := w5.drew) hd5 g (by simp)
    have d3 : decide ((k : Int) < 0) = false := by simp
    have d4 : decide ((k : Int) ≥ (cntN n : Int)) = false := by simp; omega
    obtain ⟨B2, hB2⟩ : ∃ B2, B2 = w3.heap.size := ⟨_, rfl⟩
    have HB2 := Lib.hid hB2
    rw [← hB2] at HO5
    have hk2 : (k : Int) < (cntN n : Int) := by omega
    clear HPF4 hown5 hd5 HO4 hB2 hk
    generalize cntN n = CN at *
    go_wp2_with fail
    refine (HCN.out _).mono ?_
    rintro e w' ⟨rfl, rfl⟩
    go_wp2_with fail
    have hS0 : w5.drew.ownsRow B2 5 1 (.slice A2 cl c2) cl (byteVals cb) := HO5.out.kept ((Chg.refl none w5).drew) (by cases (Value.slice A2 cl c2).ownBlock <;> simp)
    have E0' : Chg none w3 w5.drew := g35.drew
    have HCR := Lib.hid (HCR0.out w5.drew (g3.trans E0'))
    have HPR := Lib.hid (fun u (g : Chg none w5.drew u) => HPR.out u (E0'.trans g))
    refine wp_region_held_drew (S := fun w' => w'.ownsRow B2 5 1 (.slice A2 cl c2) cl (byteVals cb)) (by kernel_rfl) hS0 (fun _ => ?_)
    have E0 : Chg none w5.drew w5.drew := Chg.refl _ _
    clear HO5
    generalize w5.drew = v0 at *
    refine wpAnyH_take (i := 0) (oi := ⟨some 77, _, _, _, _, _⟩) (v := ?_) rfl (by kernel_rfl) (by kernel_rfl) (by kernel_rfl) (fun _ _ _ h => h) (Or.inl ⟨by rfl, ?_⟩) (by assumption) ?_
    rotate_left
    · intro w hSw; (try dsimp only at hSw); go_simp; (try with_reducible rfl)
    try simp only [Act.put, List.setIfInBounds_toArray, List.set_cons_zero, List.set_cons_succ]
    refine wpAnyH_take (i := 1) (oi := ⟨some 78, _, _, _, _, _⟩) (v := ?_) rfl (by kernel_rfl) (by kernel_rfl) (by kernel_rfl) (fun _ _ _ h => h) (Or.inl ⟨by rfl, ?_⟩) (by assumption) ?_
    rotate_left
    · intro w hSw; (try dsimp only at hSw); go_simp; (try with_reducible rfl)
    try simp only [Act.put, List.setIfInBounds_toArray, List.set_cons_zero, List.set_cons_succ]
    refine wpAnyH_take (i := 2) (oi := ⟨some 79, _, _, _, _, _⟩) (v := ?_) rfl (by kernel_rfl) (by kernel_rfl) (by kernel_rfl) (fun _ _ _ h => h) (Or.inl ⟨by rfl, ?_⟩) (by assumption) ?_
    rotate_left
    · intro w hSw; (try dsimp only at hSw); go_simp; (try with_reducible rfl)
    try simp only [Act.put, List.setIfInBounds_toArray, List.set_cons_zero, List.set_cons_succ]
    refine wpAnyH_take (i := 3) (oi := ⟨some 80, _, _, _, _, _⟩) (v := ?_) rfl (by kernel_rfl) (by kernel_rfl) (by kernel_rfl) (fun _ _ _ h => h) (Or.inl ⟨by rfl, ?_⟩) (by assumption) ?_
    rotate_left
    · intro w hSw; (try dsimp only at hSw); go_simp; (try with_reducible rfl)
    try simp only [Act.put, List.setIfInBounds_toArray, List.set_cons_zero, List.set_cons_succ]
    refine wpAnyH_take (i := 4) (oi := ⟨some 81, _, _, _, _, _⟩) (v := ?_) rfl (by kernel_rfl) (by kernel_rfl) (by kernel_rfl) (fun _ _ _ h => h) (Or.inl ⟨by rfl, ?_⟩) (by assumption) ?_
    rotate_left
    · intro w hSw; (try dsimp only at hSw); go_simp; (try with_reducible rfl)
    try simp only [Act.put, List.setIfInBounds_toArray, List.set_cons_zero, List.set_cons_succ]
    refine wpAnyH_take (i := 5) (oi := ⟨some 82, _, _, _, _, _⟩) (v := ?_) rfl (by kernel_rfl) (by kernel_rfl) (by kernel_rfl) (fun _ _ _ h => h) (Or.inl ⟨by rfl, ?_⟩) (by assumption) ?_
    rotate_left
    · intro w hSw; (try dsimp only at hSw); go_simp; (try with_reducible rfl)
    try simp only [Act.put, List.setIfInBounds_toArray, List.set_cons_zero, List.set_cons_succ]
    refine wpAnyH_take (i := 6) (oi := ⟨some 83, _, _, _, _, _⟩) (v := ?_) rfl (by kernel_rfl) (by kernel_rfl) (by kernel_rfl) (fun _ _ _ h => h) (Or.inl ⟨by rfl, ?_⟩) (by assumption) ?_
    rotate_left
    · intro w hSw; (try dsimp only at hSw); go_simp; (try with_reducible rfl)
    try simp only [Act.put, List.setIfInBounds_toArray, List.set_cons_zero, List.set_cons_succ]
    refine wpAnyH_take (i := 7) (oi := ⟨some 84, _, _, _, _, _⟩) (v := ?_) rfl (by kernel_rfl) (by kernel_rfl) (by kernel_rfl) (fun _ _ _ h => h) (Or.inl ⟨by rfl, ?_⟩) (by assumption) ?_
    rotate_left
    · intro w hSw; (try dsimp only at hSw); go_simp; (try with_reducible rfl)
    try simp only [Act.put, List.setIfInBounds_toArray, List.set_cons_zero, List.set_cons_succ]
    refine wpAnyH_take (i := 8) (oi := ⟨some 85, _, _, _, _, _⟩) (v := ?_) rfl (by kernel_rfl) (by kernel_rfl) (by kernel_rfl) (fun _ _ _ h => h) (Or.inl ⟨by rfl, ?_⟩) (by assumption) ?_
    rotate_left
    · intro w hSw; (try dsimp only at hSw); have hcw := HCV.out w A2 cl c2 cb (own_txt hSw).1 HCL.out; go_simp; (try with_reducible rfl)
    try simp only [Act.put, List.setIfInBounds_toArray, List.set_cons_zero, List.set_cons_succ]
    refine wpAnyH_take (i := 9) (oi := ⟨some 86, _, _, _, _, _⟩) (v := ?_) rfl (by kernel_rfl) (by kernel_rfl) (by kernel_rfl) (fun _ _ _ h => h) (Or.inl ⟨by rfl, ?_⟩) (by assumption) ?_
    rotate_left
    · intro w hSw; (try dsimp only at hSw); go_simp; (try with_reducible rfl)
    try simp only [Act.put, List.setIfInBounds_toArray, List.set_cons_zero, List.set_cons_succ]
    refine wpAnyH_take (i := 10) (oi := ⟨some 87, _, _, _, _, _⟩) (v := ?_) rfl (by kernel_rfl) (by kernel_rfl) (by kernel_rfl) (fun _ _ _ h => h) (Or.inl ⟨by rfl, ?_⟩) (by assumption) ?_
    rotate_left
    · intro w hSw; (try dsimp only at hSw); go_simp; (try with_reducible rfl)
    try simp only [Act.put, List.setIfInBounds_toArray, List.set_cons_zero, List.set_cons_succ]
    refine wpAnyH_ready (rs := [11]) (by kernel_rfl) (by simp) ?_
    refine AllReadyH.cons (o := ⟨some 88, _, _, _, _, _⟩) rfl (fun K hK => ?_) (AllReadyH.nil)
    go_simp
    go_at_call 32
    refine HCR.out.mono ?_
    rintro e v1 ⟨A3, c3, rfl, hown3, g1⟩
    obtain ⟨hT3, -, -⟩ := own_txt hown3
    have hcv := HCV.out v1 A3 cl c3 cb hT3 HCL.out
    have E1 := E0.trans g1
    have hS1 : v1.ownsRow B2 5 1 (.slice A2 cl c2) cl (byteVals cb) := hS0.kept g1 (by cases (Value.slice A2 cl c2).ownBlock <;> simp)
    clear hown3 hT3
    go_wp2_with fail
    refine hK.out _ _ hS1 (fun _ => ?_)
    clear hK K
    try simp only [Act.put, List.setIfInBounds_toArray, List.set_cons_zero, List.set_cons_succ]
    refine wpAnyH_ready (rs := [12]) (by kernel_rfl) (by simp) ?_
    refine AllReadyH.cons (o := ⟨some 89, _, _, _, _, _⟩) rfl (fun K hK => ?_) (AllReadyH.nil)
    go_simp
    refine hK.out _ _ hS1 (fun _ => ?_)
    clear hK K
    try simp only [Act.put, List.setIfInBounds_toArray, List.set_cons_zero, List.set_cons_succ]
    refine wpAnyH_take (i := 13) (oi := ⟨some 90, _, _, _, _, _⟩) (v := ?_) rfl (by kernel_rfl) (by kernel_rfl) (by kernel_rfl) (fun _ _ _ h => h) (Or.inl ⟨by rfl, ?_⟩) (by assumption) ?_
    rotate_left
    · intro w hSw; (try dsimp only at hSw); go_simp; (try with_reducible rfl)
    try simp only [Act.put, List.setIfInBounds_toArray, List.set_cons_zero, List.set_cons_succ]
    refine wpAnyH_take (i := 14) (oi := ⟨some 91, _, _, _, _, _⟩) (v := ?_) rfl (by kernel_rfl) (by kernel_rfl) (by kernel_rfl) (fun _ _ _ h => h) (Or.inl ⟨by rfl, ?_⟩) (by assumption) ?_
    rotate_left
    · intro w hSw; (try dsimp only at hSw); go_simp; (try with_reducible rfl)
    try simp only [Act.put, List.setIfInBounds_toArray, List.set_cons_zero, List.set_cons_succ]
    refine wpAnyH_take (i := 15) (oi := ⟨some 92, _, _, _, _, _⟩) (v := ?_) rfl (by kernel_rfl) (by kernel_rfl) (by kernel_rfl) (fun _ _ _ h => h) (Or.inl ⟨by rfl, ?_⟩) (by assumption) ?_
    rotate_left
    · intro w hSw; (try dsimp only at hSw); go_simp; (try with_reducible rfl)
    try simp only [Act.put, List.setIfInBounds_toArray, List.set_cons_zero, List.set_cons_succ]
    refine wpAnyH_take (i := 16) (oi := ⟨some 93, _, _, _, _, _⟩) (v := ?_) rfl (by kernel_rfl) (by kernel_rfl) (by kernel_rfl) (fun _ _ _ h => h) (Or.inl ⟨by rfl, ?_⟩) (by assumption) ?_
    rotate_left
    · intro w hSw; (try dsimp only at hSw); go_simp; (try with_reducible rfl)
    try simp only [Act.put, List.setIfInBounds_toArray, List.set_cons_zero, List.set_cons_succ]
    refine wpAnyH_take (i := 17) (oi := ⟨some 94, _, _, _, _, _⟩) (v := ?_) rfl (by kernel_rfl) (by kernel_rfl) (by kernel_rfl) (fun _ _ _ h => h) (Or.inl ⟨by rfl, ?_⟩) (by assumption) ?_
    rotate_left
    · intro w hSw; (try dsimp only at hSw); go_simp; (try with_reducible rfl)
    try simp only [Act.put, List.setIfInBounds_toArray, List.set_cons_zero, List.set_cons_succ]
    refine wpAnyH_take (i := 18) (oi := ⟨some 95, _, _, _, _, _⟩) (v := ?_) rfl (by kernel_rfl) (by kernel_rfl) (by kernel_rfl) (fun _ _ _ h => h) (Or.inl ⟨by rfl, ?_⟩) (by assumption) ?_
    rotate_left
    · intro w hSw; (try dsimp only at hSw); go_simp; (try with_reducible rfl)
    try simp only [Act.put, List.setIfInBounds_toArray, List.set_cons_zero, List.set_cons_succ]
    refine wpAnyH_take (i := 19) (oi := ⟨some 96, _, _, _, _, _⟩) (v := ?_) rfl (by kernel_rfl) (by kernel_rfl) (by kernel_rfl) (fun _ _ _ h => h) (Or.inl ⟨by rfl, ?_⟩) (by assumption) ?_
    rotate_left
    · intro w hSw; (try dsimp only at hSw); go_simp; (try with_reducible rfl)
    try simp only [Act.put, List.setIfInBounds_toArray, List.set_cons_zero, List.set_cons_succ]
    refine wpAnyH_ready (rs := [20]) (by kernel_rfl) (by simp) ?_
    refine AllReadyH.cons (o := ⟨some 97, _, _, _, _, _⟩) rfl (fun K hK => ?_) (AllReadyH.nil)
    have HPR1 := Lib.hid (HPR.out v1 E1)
    go_simp
    go_at_call 34
    refine HPR1.out.mono ?_
    rintro e v2 ⟨A4, c4, rfl, hown4, g2⟩
    have E2 := E1.trans g2
    have hS2 : v2.ownsRow B2 5 1 (.slice A2 cl c2) cl (byteVals cb) := hS1.kept g2 (by cases (Value.slice A2 cl c2).ownBlock <;> simp)
    have HSM := Lib.hid (alike_any PP A5 A4 pl c5 c4 _ _ v2 HPL.out (by omega) (HD5.out v2 E2) (dgs_of_own hown4).1)
    clear hown4 HPR1 g2
    go_wp2_with fail
    refine hK.out _ _ hS2 (fun _ => ?_)
    clear hK K
    try simp only [Act.put, List.setIfInBounds_toArray, List.set_cons_zero, List.set_cons_succ]
    refine wpAnyH_ready (rs := [21]) (by kernel_rfl) (by simp) ?_
    refine AllReadyH.cons (o := ⟨some 98, _, _, _, _, _⟩) rfl (fun K hK => ?_) (AllReadyH.nil)
    go_simp
    go_at_call 33
    refine HSM.out.mono ?_
    rintro e v3 ⟨rfl, g3⟩
    have E3 := E2.trans g3
    have hS3 : v3.ownsRow B2 5 1 (.slice A2 cl c2) cl (byteVals cb) := hS2.kept g3 (by cases (Value.slice A2 cl c2).ownBlock <;> simp)
    go_wp2_with fail
    refine hK.out _ _ hS3 (fun _ => ?_)
    clear hK K
    try simp only [Act.put, List.setIfInBounds_toArray, List.set_cons_zero, List.set_cons_succ]
    refine wpAnyH_take (i := 22) (oi := ⟨some 99, _, _, _, _, _⟩) (v := ?_) rfl (by kernel_rfl) (by kernel_rfl) (by kernel_rfl) (fun _ _ _ h => h) (Or.inl ⟨by rfl, ?_⟩) (by assumption) ?_
    rotate_left
    · intro w hSw; (try dsimp only at hSw); go_simp; (try with_reducible rfl)
    try simp only [Act.put, List.setIfInBounds_toArray, List.set_cons_zero, List.set_cons_succ]
    refine wpAnyH_take (i := 23) (oi := ⟨some 100, _, _, _, _, _⟩) (v := ?_) rfl (by kernel_rfl) (by kernel_rfl) (by kernel_rfl) (fun _ _ _ h => h) (Or.inl ⟨by rfl, ?_⟩) (by assumption) ?_
    rotate_left
    · intro w hSw; (try dsimp only at hSw); go_simp; (try with_reducible rfl)
    try simp only [Act.put, List.setIfInBounds_toArray, List.set_cons_zero, List.set_cons_succ]
    refine wpAnyH_done (by kernel_rfl) ?_ _
    try simp only [Act.put]
    have E33 : Chg none w3 v3 := E0'.trans E3
    have hg : cl = 0 ∨ ∃ g, A2 = some ⟨g, 0, none⟩ ∧ B2 ≤ g ∧ ∃ cur, Blk v3 g cur 5 ∧ ∀ j, j < cl → ∃ z : UInt8, cur[j]? = some (.int .u8 z.toNat) := by
      rcases Nat.eq_zero_or_pos cl with h0 | h0
      · exact .inl h0
      · rcases hS3.2 with ⟨_, h⟩ | ⟨g, cap, cur, hv, hBg, hheap, _, _, _, htk⟩
        · omega
        · injection hv with hv1 _ _
          refine .inr ⟨g, hv1, hBg, cur, hheap, fun j hj => ?_⟩
          have hjb : j < (byteVals cb).length := by rw [byteVals_len, ← HCL.out]; exact hj
          have h1 : (cur.toList.take (cl * 1))[j]? = some (.int .u8 (cb.getD j 0).toNat) := by rw [htk]; exact byte_at (by rw [← HCL.out]; exact hj)
          rw [List.getElem?_take_of_lt (by omega)] at h1
          exact ⟨_, by rw [← Array.getElem?_toList]; exact h1⟩
    have HEND : Hid (∀ wr, Chg none w3 wr → Txt wr A1 x ∧ Txt wr A0 x ∧ Chg none w wr) := fun wr g => ⟨HA3.out.chg g, HA.out.chg (GW3.trans g), GW3.trans g⟩
    clear hS3 hS2 hS1 hS0 hcv HSM HCR HD5
    rcases hg with h0 | ⟨g, rfl, hBg, cur0, hb0, hz0⟩
    · subst h0
      go_wp2_with fail
      go_loopw [103] (fun s103 wr => s103 = .int .i64 0 ∧ Chg none w3 wr) (fun _ _ => 0)
      case atStart => exact ⟨rfl, E33⟩
      case round =>
        obtain ⟨rfl, gk⟩ := hrel
        obtain ⟨ht1, ht2, gw⟩ := HEND.out wr gk
        have hc1' := HCV.out wr A1 n c1 x ht1 HN.out
        have hc2' := HCV.out wr A0 n c0 x ht2 HN.out
        have HK := Lib.hid (HKN.out wr gw)
        go_wp2_with fail
        refine HK.out.mono ?_
        rintro e w9 ⟨rfl, g9⟩
        go_wp2_with fail
        go_ret
        exact ⟨rfl, gw.trans g9⟩
    · have HZ := Lib.hid hz0
      have HBG : Hid (w3.heap.size ≤ g) := by rw [← HB2.out]; exact hBg
      clear hz0 hBg
      go_wp2_with fail
      go_loopw [103] (fun s103 wr => ∃ (j : Nat) (cur : Array Value), j ≤ cl ∧ s103 = .int .i64 j ∧ Blk wr g cur 5 ∧ Hid (∀ j, j < cl → ∃ z : UInt8, cur[j]? = some (.int .u8 z.toNat)) ∧ Chg none w3 wr) (fun s103 _ => cl - (intOf s103).toNat)
      case atStart => exact ⟨0, cur0, by omega, rfl, hb0, HZ.out, E33⟩
      case round =>
        obtain ⟨j, cur, hj, rfl, bk, HZj, gk⟩ := hrel
        clear hb0 HZ
        by_cases hlt : j < cl
        · obtain ⟨z, hz⟩ := HZj.out j hlt
          have cK := (Blk.cell bk j).trans hz
          have hfz := Blk.frozen bk j
          obtain ⟨y, hy⟩ := byte_inc z
          have hset := Blk.set bk j (.int .u8 (((z.toNat : Int) + 1) % 256))
          have hall : Hid (∀ j', j' < cl → ∃ u : UInt8, (cur.setIfInBounds j (.int .u8 (((z.toNat : Int) + 1) % 256)))[j']? = some (.int .u8 u.toNat)) := fun j' hj' => by
            by_cases he : j = j'
            · subst he
              have hsz : j < cur.size := (Array.getElem?_eq_some_iff.1 hz).1
              exact ⟨y, by rw [Array.getElem?_setIfInBounds_self_of_lt hsz, hy]⟩
            · obtain ⟨u, hu⟩ := HZj.out j' hj'
              exact ⟨u, by rw [Array.getElem?_setIfInBounds_ne he]; exact hu⟩
          have HSET := Lib.hid hset
          clear hset hy hz
          go_wp2_with fail
          go_roundw
          case rel => exact ⟨j + 1, _, by omega, by go_num, HSET.out, hall.out, Chg.own (b := g) gk ((Chg.refl _ _).setCell j _) HBG.out⟩
          case measure => first | (simp [intOf]; done) | (simp [intOf]; omega)
        · have hjc : j = cl := by omega
          have dd : decide ((j : Int) < (cl : Int)) = false := by simp; omega
          obtain ⟨ht1, ht2, gw⟩ := HEND.out wr gk
          have hc1' := HCV.out wr A1 n c1 x ht1 HN.out
          have hc2' := HCV.out wr A0 n c0 x ht2 HN.out
          have HK := Lib.hid (HKN.out wr gw)
          clear hjc
          go_wp2_with fail
          refine HK.out.mono ?_
          rintro e w9 ⟨rfl, g9⟩
          go_wp2_with fail
          go_ret
          exact ⟨rfl, gw.trans g9⟩



end Go.Proofs.YtdkgecphkppglaaDoor
