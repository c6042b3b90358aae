/-
  Package merkle: the next row of digests.
-/
import Derived.Test.YtdkgecphkppglaaDoorM6
namespace Go.Proofs.YtdkgecphkppglaaDoor
open Go.RowKit

def nextDg (L : List Dg) (i : Nat) : Dg := if aloneB L.length (2 * i) = true then L.getD (2 * i) zeroDg else ⟨pairB (L.getD (2 * i) zeroDg).1 (L.getD (2 * i + 1) zeroDg).1, dig_len _⟩
/-- The row above a row. -/
def nextB (L : List Dg) : List Dg := (List.range ((L.length + 1) / 2)).map (nextDg L)
theorem nextB_len (L : List Dg) : (nextB L).length = (L.length + 1) / 2 := by simp [nextB]
theorem nextB_at (L : List Dg) (i : Nat) (h : i < (nextB L).length) : (nextB L)[i] = nextDg L i := by simp [nextB]

theorem row_step (L : List Dg) (k : Nat) (D : Dg) (hll : k < L.length) (hD : L[k] = D) : splice (flat (rowAt L k)) (k * 32) (dgCells D) = flat (rowAt L (k + 1)) := by
  have hsp := flat_splice (rowAt L k) k D (by rw [rowAt_len _ _ (Nat.le_of_lt hll)]; exact hll)
  rw [← hD, rowAt_set _ _ hll] at hsp
  rw [← hD]; exact hsp

set_option maxRecDepth 100000 in
set_option maxHeartbeats 8000000 in
theorem next_any (L : List Dg) (b0 c : Nat) (w : World) (hr : BlkL w b0 (flat L) 30) (hn : L.length ≤ 1000000) (hc : L.length ≤ c) (hT : Tabs w) : Calls Tryd.prog 49 #[.slice (some ⟨b0, 0, none⟩) L.length c] w (RowPost w (nextB L)) := by
  obtain ⟨n, hnn⟩ : ∃ n, n = L.length := ⟨_, rfl⟩
  obtain ⟨m, hmm⟩ : ∃ m, m = (n + 1) / 2 := ⟨_, rfl⟩
  have hm : m ≤ 1000000 := by omega
  have HC := Lib.hid (half_nat n (by omega) w)
  rw [← hmm] at HC
  have hnl := nextB_len L
  rw [← hnn, ← hmm] at hnl
  obtain ⟨W1, hW1⟩ : ∃ W1, W1 = w.alloc (.cells (flat (List.replicate m zeroDg)).toArray 30) := ⟨_, rfl⟩
  have hmk := make51 m hm w
  rw [← hW1] at hmk
  have g1 : Chg none w W1 := by rw [hW1]; exact (Chg.refl _ _).alloc _
  have b1 : BlkL W1 w.heap.size (flat (rowAt (nextB L) 0)) 30 := by rw [rowAt_zero, hnl, hW1]; exact Blk.new _ _ _
  have hr1 := Blk.chg hr g1 (by simp)
  have HLL := Lib.hid hnl
  have hne : b0 ≠ w.heap.size := by have := Blk.lt hr; omega
  have HN := Lib.hid hnn
  have HM := Lib.hid hmm
  have hn1 : n ≤ 1000000 := by omega
  have hcn : n ≤ c := by omega
  rw [← hnn]
  have hmn : 2 * m ≤ n + 1 := by omega
  clear hW1 hnn hmm hnl hr hn hc
  go_enter Tryd.func49, Tryd.ntmps49
  go_wp2_with fail
  refine HC.out.mono ?_
  rintro e w' ⟨rfl, rfl⟩
  go_wp2_with fail
  generalize hb : w.heap.size = b at *
  have HB := Lib.hid hb
  clear hb hmk
  go_loopw [11] (fun s11 wr => ∃ k : Nat, k ≤ m ∧ s11 = .int .i64 k ∧ BlkL wr b (flat (rowAt (nextB L) k)) 30 ∧ BlkL wr b0 (flat L) 30 ∧ Chg none w wr) (fun s11 _ => m - (intOf s11).toNat)
  case atStart => exact ⟨0, by omega, rfl, b1, hr1, g1⟩
  case round =>
    obtain ⟨k, hk, rfl, bk, hrk, gk⟩ := hrel
    clear b1 g1 hr1
    by_cases hlt : k < m
    · have hll : k < (nextB L).length := by rw [HLL.out]; exact hlt
      have HAL := Lib.hid (alone_nat n (2 * k) (by omega) (by omega) wr)
      have hcast : ((2 * k : Nat) : Int) = 2 * (k : Int) := by omega
      rw [hcast] at HAL
      have h2k : 2 * k < n := by omega
      have h2L : 2 * k < L.length := by rw [← HN.out]; exact h2k
      have hfl : (flat (rowAt (nextB L) k)).length = m * 32 := by rw [flat_length, rowAt_len _ _ (Nat.le_of_lt hll), HLL.out]
      have HFL := Lib.hid hfl
      have hr0 := flat_range hrk (2 * k) h2L
      clear hfl hcast
      by_cases hal : aloneB n (2 * k) = true
      · obtain ⟨D, hD⟩ : ∃ D : Dg, D = L[2 * k] := ⟨_, rfl⟩
        have hDk : (nextB L)[k] = D := by
          rw [nextB_at, nextDg, if_pos (by rw [← HN.out]; exact hal), List.getD_eq_getElem?_getD, List.getElem?_eq_getElem h2L, hD]; rfl
        have HSP := Lib.hid (row_step (nextB L) k D hll hDk)
        rw [← hD] at hr0
        unfold dgCells at hr0
        have HR0 := Lib.hid hr0
        rw [hal] at HAL
        obtain ⟨hds, hdo⟩ := row_facts D.1 32 D.2
        have HI : Hid ((Tryd.prog.info? 30).map (·.size) = some (byteVals D.1).toArray.size) := by rw [hds]; show _ = _; kernel_rfl
        have HIl : Hid ((Tryd.prog.info? 30).map (·.size) = some (byteVals D.1).length) := by rw [byteVals_len, D.2]; show _ = _; kernel_rfl
        have HO := Lib.hid hdo
        have HTH := Lib.hid (there_of_blk bk (k * 32) (byteVals D.1).toArray.size (by rw [HFL.out, List.size_toArray, byteVals_len, D.2]; omega))
        have hset := blk_setCells b (byteVals D.1) (k * 32) _ wr bk (by rw [HFL.out, byteVals_len, D.2]; omega)
        have hsp := HSP.out
        unfold dgCells at hsp
        rw [hsp] at hset
        have HSET := Lib.hid hset
        have gS : Chg (some b) wr (wr.setCells b (k * 32) (byteVals D.1)) := chg_setCells b _ _ _
        have g4 : Chg none w (wr.setCells b (k * 32) (byteVals D.1)) := Chg.own (b := b) gk gS (by rw [HB.out]; exact Nat.le_refl _)
        have hr4 := Blk.chg hrk gS (by simpa using hne)
        clear hds hdo hset hsp hr0 hD hDk hal h2L hll
        go_wp2_with fail
        refine HAL.out.mono ?_
        rintro e w' ⟨rfl, rfl⟩
        go_wp2_with (first | (refine wpList_load_mid rfl 30 _ rfl b0 (2 * k * 32) rfl (byteVals D.1) _ HR0.out Tryd.underlying30 rfl HIl.out ?_) | (refine wpList_store_mid rfl 30 _ _ rfl b (k * 32) (byteVals D.1).toArray rfl rfl HTH.out HI.out HO.out ?_))
        go_roundw
        case rel => exact ⟨k + 1, by omega, by go_num, HSET.out, hr4, g4⟩
        case measure => first | (simp [intOf]; done) | (simp [intOf]; omega)
      · have hal' : aloneB n (2 * k) = false := by simpa using hal
        rw [hal'] at HAL
        have h2k1 : 2 * k + 1 < n := by
          unfold aloneB at hal
          simp only [Bool.and_eq_true, decide_eq_true_eq] at hal
          omega
        have h2L1 : 2 * k + 1 < L.length := by rw [← HN.out]; exact h2k1
        have hr1 := flat_range hrk (2 * k + 1) h2L1
        obtain ⟨D, hD⟩ : ∃ D : Dg, D = ⟨pairB (L[2 * k]).1 (L[2 * k + 1]).1, dig_len _⟩ := ⟨_, rfl⟩
        have hDk : (nextB L)[k] = D := by
          have e0 : L.getD (2 * k) zeroDg = L[2 * k] := by rw [List.getD_eq_getElem?_getD, List.getElem?_eq_getElem h2L]; rfl
          have e1 : L.getD (2 * k + 1) zeroDg = L[2 * k + 1] := by rw [List.getD_eq_getElem?_getD, List.getElem?_eq_getElem h2L1]; rfl
          rw [nextB_at, nextDg, if_neg (by rw [← HN.out]; exact hal)]
          apply Subtype.ext
          show pairB (L.getD (2 * k) zeroDg).1 (L.getD (2 * k + 1) zeroDg).1 = D.1
          rw [e0, e1, hD]
        have HSP := Lib.hid (row_step (nextB L) k D hll hDk)
        have hD1 : D.1 = pairB (L[2 * k]).1 (L[2 * k + 1]).1 := by rw [hD]
        unfold dgCells at hr0 hr1
        have l0 := (L[2 * k]).2
        have l1 := (L[2 * k + 1]).2
        generalize (L[2 * k]).1 = d0 at *
        generalize (L[2 * k + 1]).1 = d1 at *
        have HPR : Hid (∀ v : World, Tabs v → Calls Tryd.prog 71 #[.agg (byteVals d0).toArray, .agg (byteVals d1).toArray] v fun e w' => e = .returned (.agg (byteVals D.1).toArray) ∧ Chg none v w') := fun v hv => by
          rw [hD1]; exact pair_any d0 d1 l0 l1 v hv
        have HI0 : Hid ((Tryd.prog.info? 30).map (·.size) = some (byteVals d0).length) := by rw [byteVals_len, l0]; show _ = _; kernel_rfl
        have HI1 : Hid ((Tryd.prog.info? 30).map (·.size) = some (byteVals d1).length) := by rw [byteVals_len, l1]; show _ = _; kernel_rfl
        obtain ⟨hds, hdo⟩ := row_facts D.1 32 D.2
        have HI : Hid ((Tryd.prog.info? 30).map (·.size) = some (byteVals D.1).toArray.size) := by rw [hds]; show _ = _; kernel_rfl
        have HO := Lib.hid hdo
        have hS0 : wr.drew.rangeAt b0 (2 * k * 32) (byteVals d0) ∧ wr.drew.rangeAt b0 ((2 * k + 1) * 32) (byteVals d1) := ⟨hr0, hr1⟩
        have hTk := hT.chg gk (by simp)
        clear hds hdo hr0 hr1 hD hDk hD1 hal hal' h2L h2L1 hll l0 l1
        go_wp2_with fail
        refine HAL.out.mono ?_
        rintro e w' ⟨rfl, rfl⟩
        go_wp2_with fail
        have i1 : (0 : Int) ≤ 2 * (k : Int) := by omega
        have i2 : 2 * (k : Int) < (n : Int) := by omega
        have i3 : (0 : Int) ≤ 2 * (k : Int) + 1 := by omega
        have i4 : 2 * (k : Int) + 1 < (n : Int) := by omega
        have i5 : (2 * (k : Int)).toNat = 2 * k := by omega
        have i6 : (2 * (k : Int) + 1).toNat = 2 * k + 1 := by omega
        have i7 : IntKind.i64.wrap (2 * (k : Int)) = 2 * (k : Int) := by rw [IntKind.wrap_i64]; omega
        have i8 : IntKind.i64.wrap (2 * (k : Int) + 1) = 2 * (k : Int) + 1 := by rw [IntKind.wrap_i64]; omega
        refine wp_region_held_drew (S := fun w' => w'.rangeAt b0 (2 * k * 32) (byteVals d0) ∧ w'.rangeAt b0 ((2 * k + 1) * 32) (byteVals d1)) (by kernel_rfl) hS0 (fun _ => ?_)
        have hSd := hS0
        have hTd : Tabs wr.drew := hTk.chg ((Chg.refl none wr).drew) (by simp)
        have bkd := bk.drew
        have hrd := hrk.drew
        have gkd : Chg none w wr.drew := gk.drew
        clear hS0 hTk bk hrk gk
        generalize wr.drew = v0 at *
        refine wpAnyH_take (i := 0) (oi := ⟨some 27, _, _, _, _, _⟩) (v := ?_) rfl (by kernel_rfl) (by kernel_rfl) (by kernel_rfl) (fun _ _ _ h => h) (Or.inl ⟨by rfl, ?_⟩) (by assumption) ?_
        rotate_left
        · intro w hSw; (try dsimp only at hSw); go_simp; (try with_reducible rfl)
        try simp only [Act.put, List.setIfInBounds_toArray, List.set_cons_zero, List.set_cons_succ]
        refine wpAnyH_take (i := 1) (oi := ⟨some 28, _, _, _, _, _⟩) (v := ?_) rfl (by kernel_rfl) (by kernel_rfl) (by kernel_rfl) (fun _ _ _ h => h) (Or.inl ⟨by rfl, ?_⟩) (by assumption) ?_
        rotate_left
        · intro w hSw; (try dsimp only at hSw); go_simp; (try with_reducible rfl)
        try simp only [Act.put, List.setIfInBounds_toArray, List.set_cons_zero, List.set_cons_succ]
        refine wpAnyH_take (i := 2) (oi := ⟨some 29, _, _, _, _, _⟩) (v := ?_) rfl (by kernel_rfl) (by kernel_rfl) (by kernel_rfl) (fun _ _ _ h => h) (Or.inl ⟨by rfl, ?_⟩) (by assumption) ?_
        rotate_left
        · intro w hSw; (try dsimp only at hSw); go_simp; (try with_reducible rfl)
        try simp only [Act.put, List.setIfInBounds_toArray, List.set_cons_zero, List.set_cons_succ]
        refine wpAnyH_take (i := 3) (oi := ⟨some 30, _, _, _, _, _⟩) (v := ?_) rfl (by kernel_rfl) (by kernel_rfl) (by kernel_rfl) (fun _ _ _ h => h) (Or.inl ⟨by rfl, ?_⟩) (by assumption) ?_
        rotate_left
        · intro w hSw; (try dsimp only at hSw); go_simp; (try with_reducible rfl)
        try simp only [Act.put, List.setIfInBounds_toArray, List.set_cons_zero, List.set_cons_succ]
        refine wpAnyH_take (i := 4) (oi := ⟨some 31, _, _, _, _, _⟩) (v := ?_) rfl (by kernel_rfl) (by kernel_rfl) (by kernel_rfl) (fun _ _ _ h => h) (Or.inl ⟨by rfl, ?_⟩) (by assumption) ?_
        rotate_left
        · intro w hSw; (try dsimp only at hSw); go_simp; (try with_reducible rfl)
        try simp only [Act.put, List.setIfInBounds_toArray, List.set_cons_zero, List.set_cons_succ]
        refine wpAnyH_take (i := 5) (oi := ⟨some 32, _, _, _, _, _⟩) (v := ?_) rfl (by kernel_rfl) (by kernel_rfl) (by kernel_rfl) (fun _ _ _ h => h) (Or.inl ⟨by rfl, ?_⟩) (by assumption) ?_
        rotate_left
        · intro w hSw; (try dsimp only at hSw); go_simp; (try with_reducible rfl)
        try simp only [Act.put, List.setIfInBounds_toArray, List.set_cons_zero, List.set_cons_succ]
        refine wpAnyH_take (i := 6) (oi := ⟨some 33, _, _, _, _, _⟩) (v := .agg (byteVals d0).toArray) rfl (by kernel_rfl) (by kernel_rfl) (by kernel_rfl) (fun _ _ _ h => h) (yieldsIf_load_mid (by rfl) 30 _ rfl b0 (2 * k * 32) rfl (byteVals d0) _ (fun _ h => h.1) Tryd.underlying30 rfl HI0.out) (by assumption) ?_
        try simp only [Act.put, List.setIfInBounds_toArray, List.set_cons_zero, List.set_cons_succ]
        refine wpAnyH_take (i := 7) (oi := ⟨some 34, _, _, _, _, _⟩) (v := ?_) rfl (by kernel_rfl) (by kernel_rfl) (by kernel_rfl) (fun _ _ _ h => h) (Or.inl ⟨by rfl, ?_⟩) (by assumption) ?_
        rotate_left
        · intro w hSw; (try dsimp only at hSw); go_simp; (try with_reducible rfl)
        try simp only [Act.put, List.setIfInBounds_toArray, List.set_cons_zero, List.set_cons_succ]
        refine wpAnyH_take (i := 8) (oi := ⟨some 35, _, _, _, _, _⟩) (v := ?_) rfl (by kernel_rfl) (by kernel_rfl) (by kernel_rfl) (fun _ _ _ h => h) (Or.inl ⟨by rfl, ?_⟩) (by assumption) ?_
        rotate_left
        · intro w hSw; (try dsimp only at hSw); go_simp; (try with_reducible rfl)
        try simp only [Act.put, List.setIfInBounds_toArray, List.set_cons_zero, List.set_cons_succ]
        refine wpAnyH_take (i := 9) (oi := ⟨some 36, _, _, _, _, _⟩) (v := ?_) rfl (by kernel_rfl) (by kernel_rfl) (by kernel_rfl) (fun _ _ _ h => h) (Or.inl ⟨by rfl, ?_⟩) (by assumption) ?_
        rotate_left
        · intro w hSw; (try dsimp only at hSw); go_simp; (try with_reducible rfl)
        try simp only [Act.put, List.setIfInBounds_toArray, List.set_cons_zero, List.set_cons_succ]
        refine wpAnyH_take (i := 10) (oi := ⟨some 37, _, _, _, _, _⟩) (v := ?_) rfl (by kernel_rfl) (by kernel_rfl) (by kernel_rfl) (fun _ _ _ h => h) (Or.inl ⟨by rfl, ?_⟩) (by assumption) ?_
        rotate_left
        · intro w hSw; (try dsimp only at hSw); go_simp; (try with_reducible rfl)
        try simp only [Act.put, List.setIfInBounds_toArray, List.set_cons_zero, List.set_cons_succ]
        refine wpAnyH_take (i := 11) (oi := ⟨some 38, _, _, _, _, _⟩) (v := ?_) rfl (by kernel_rfl) (by kernel_rfl) (by kernel_rfl) (fun _ _ _ h => h) (Or.inl ⟨by rfl, ?_⟩) (by assumption) ?_
        rotate_left
        · intro w hSw; (try dsimp only at hSw); go_simp; (try with_reducible rfl)
        try simp only [Act.put, List.setIfInBounds_toArray, List.set_cons_zero, List.set_cons_succ]
        refine wpAnyH_take (i := 12) (oi := ⟨some 39, _, _, _, _, _⟩) (v := .agg (byteVals d1).toArray) rfl (by kernel_rfl) (by kernel_rfl) (by kernel_rfl) (fun _ _ _ h => h) (yieldsIf_load_mid (by rfl) 30 _ rfl b0 ((2 * k + 1) * 32) rfl (byteVals d1) _ (fun _ h => h.2) Tryd.underlying30 rfl HI1.out) (by assumption) ?_
        try simp only [Act.put, List.setIfInBounds_toArray, List.set_cons_zero, List.set_cons_succ]
        refine wpAnyH_ready (rs := [13]) (by kernel_rfl) (by simp) ?_
        refine AllReadyH.cons (o := ⟨some 40, _, _, _, _, _⟩) rfl (fun K hK => ?_) (AllReadyH.nil)
        go_simp
        go_at_call 71
        refine (HPR.out _ hTd).mono ?_
        rintro e w3 ⟨rfl, g3⟩
        have hS3 : w3.rangeAt b0 (2 * k * 32) (byteVals d0) ∧ w3.rangeAt b0 ((2 * k + 1) * 32) (byteVals d1) := ⟨fun j x hx => World.grownBy.cell g3 (hSd.1 j x hx) (by simp), fun j x hx => World.grownBy.cell g3 (hSd.2 j x hx) (by simp)⟩
        have b3 := Blk.chg bkd g3 (by simp)
        go_wp2_with fail
        refine hK.out _ _ hS3 (fun _ => ?_)
        clear hK K
        try simp only [Act.put, List.setIfInBounds_toArray, List.set_cons_zero, List.set_cons_succ]
        refine wpAnyH_take (i := 14) (oi := ⟨some 41, _, _, _, _, _⟩) (v := ?_) rfl (by kernel_rfl) (by kernel_rfl) (by kernel_rfl) (fun _ _ _ h => h) (Or.inl ⟨by rfl, ?_⟩) (by assumption) ?_
        rotate_left
        · intro w hSw; (try dsimp only at hSw); go_simp; (try with_reducible rfl)
        try simp only [Act.put, List.setIfInBounds_toArray, List.set_cons_zero, List.set_cons_succ]
        refine wpAnyH_ready (rs := [15]) (by kernel_rfl) (by simp) ?_
        refine AllReadyH.cons (o := ⟨none, _, _, _, _, _⟩) rfl (fun K hK => ?_) (AllReadyH.nil)
        rw [if_pos (by rfl)]
        have HTH := Lib.hid (there_of_blk b3 (k * 32) (byteVals D.1).toArray.size (by rw [HFL.out, List.size_toArray, byteVals_len, D.2]; omega))
        have hset := blk_setCells b (byteVals D.1) (k * 32) _ w3 b3 (by rw [HFL.out, byteVals_len, D.2]; omega)
        have hsp := HSP.out
        unfold dgCells at hsp
        rw [hsp] at hset
        have HSET := Lib.hid hset
        have gS : Chg (some b) w3 (w3.setCells b (k * 32) (byteVals D.1)) := chg_setCells b _ _ _
        have g4 : Chg none w (w3.setCells b (k * 32) (byteVals D.1)) := Chg.own (b := b) (gkd.trans g3) gS (by rw [HB.out]; exact Nat.le_refl _)
        have hS4 : (w3.setCells b (k * 32) (byteVals D.1)).rangeAt b0 (2 * k * 32) (byteVals d0) ∧ (w3.setCells b (k * 32) (byteVals D.1)).rangeAt b0 ((2 * k + 1) * 32) (byteVals d1) := ⟨fun j x hx => World.grownBy.cell gS (hS3.1 j x hx) (by simpa using hne), fun j x hx => World.grownBy.cell gS (hS3.2 j x hx) (by simpa using hne)⟩
        have hr3 := Blk.chg (Blk.chg hrd g3 (by simp)) gS (by simpa using hne)
        clear hset hsp
        refine wp_store_mid 30 (.tmp 41) (.tmp 40) (by rfl) b (k * 32) (byteVals D.1).toArray (by rfl) (by rfl) HTH.out HI.out HO.out ?_
        refine hK.out _ _ hS4 (fun _ => ?_)
        clear hK K
        refine wpAnyH_done (by kernel_rfl) ?_ _
        try simp only [Act.put]
        go_wp2_with fail
        go_roundw
        case rel => exact ⟨k + 1, by omega, by go_num, HSET.out, hr3, g4⟩
        case measure => first | (simp [intOf]; done) | (simp [intOf]; omega)
    · obtain rfl : k = m := by omega
      have hnl : decide ((k : Int) < (k : Int)) = false := by simp
      have hl := HLL.out
      rw [← hl, rowAt_all] at bk
      go_wp2_with fail
      go_ret
      exact ⟨b, by rw [hl]; rfl, bk, by rw [HB.out]; exact Nat.le_refl _, gk⟩

end Go.Proofs.YtdkgecphkppglaaDoor
