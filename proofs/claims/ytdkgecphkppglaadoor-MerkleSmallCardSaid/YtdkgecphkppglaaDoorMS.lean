/-
  MerkleSmall: the walk.
-/
import Derived.Test.YtdkgecphkppglaaDoorMP0
namespace Go.Proofs.YtdkgecphkppglaaDoor
open Go.RowKit

theorem fill8 (x : Int) (ie : TypeInfo) (hs : ie.size = 1) :
    Instr.fill (fun i => some (i * ie.size, ie.size)) ((Array.range (8 * ie.size)).map ((Value.int .u8 0).cells[· % (Value.int .u8 0).cells.size]!)) [(0, .int .u8 0), (1, .int .u8 0), (2, .int .u8 0), (3, .int .u8 0), (4, .int .u8 0), (5, .int .u8 0), (6, .int .u8 0), (7, .int .u8 x)] = some #[.int .u8 0, .int .u8 0, .int .u8 0, .int .u8 0, .int .u8 0, .int .u8 0, .int .u8 0, .int .u8 x] := by
  rw [hs]
  kernel_rfl

set_option maxRecDepth 100000 in
set_option maxHeartbeats 16000000 in
theorem small_law (p : Prt) (w : World) (hp : p.ok w) (hpm : p.c ≤ 9223372036854775807) (hT : Tabs w) : Calls Tryd.prog 13 #[.slice p.A p.x.length p.c] w fun e w' => e = .returned (.bool true) ∧ Chg none w w' := by
  obtain ⟨i0, hi0, hz0, hz1, hz2⟩ := info_parts Tryd.info30
  obtain ⟨j0, hj0, hy0, hy1, hy2⟩ := info_parts Tryd.info5
  have hpl := hp.2
  have hpl2 : p.x.length ≤ 9223372036854775807 := by omega
  by_cases h192 : 192 < p.x.length
  · have HK := Lib.hid (known4_any w hT)
    go_enter Tryd.func13, Tryd.ntmps13
    go_wp2_with fail
    refine HK.out.mono ?_
    rintro e w1 ⟨rfl, g1⟩
    go_wp2_with fail
    go_ret
    exact ⟨rfl, g1⟩
  have d192 : decide ((192 : Int) < (p.x.length : Int)) = false := by simp; omega
  obtain ⟨n, hn⟩ : ∃ n, n = cntN p.x.length := ⟨_, rfl⟩
  have hn3 : n ≤ 3 := by rw [hn]; unfold cntN; omega
  have hn1 : 1 ≤ n := by rw [hn]; unfold cntN; omega
  have HLL := Lib.hid (leavesB_len p.x)
  have HN := Lib.hid hn
  rw [← hn] at HLL
  clear hn
  go_enter Tryd.func13, Tryd.ntmps13
  go_wp2_with fail
  have HOWN0 : Hid (w.ownsRow w.heap.size 30 32 (.slice none 0 0) 0 (flat ((leavesB p.x).take 0))) := World.ownsRow_nil _ _ _ _
  go_loopw [3, 4] (fun s3 s4 wr => ∃ k i : Nat, k ≤ n ∧ Hid (i = 64 * k) ∧ s4 = .int .i64 i ∧ wr.ownsRow w.heap.size 30 32 s3 k (flat ((leavesB p.x).take k)) ∧ Chg none w wr) (fun _ s4 _ => 64 * n - (intOf s4).toNat)
  case atStart => exact ⟨0, 0, by omega, rfl, rfl, HOWN0.out, Chg.refl _ _⟩
  case round =>
    obtain ⟨k, i, hk, HIK, rfl, hown, gk⟩ := hrel
    obtain ⟨A3, c3, rfl⟩ := own_slice hown
    clear HOWN0
    by_cases hlt : k < n
    · have hkc : k < cntN p.x.length := by rw [← HN.out]; exact hlt
      have hik := HIK.out
      have hor : (i : Int) < (p.x.length : Int) ∨ ¬ (i : Int) < (p.x.length : Int) ∧ i = 0 := by unfold cntN at hkc; omega
      have hlo := cnt_lo hkc
      have hcl := chunkB_len p.x k hlo
      have hcn : chunkN p.x.length k = min 64 (p.x.length - 64 * k) := by unfold chunkN; omega
      have hpk := (partPrt_ok hp k hkc).chg gk
      obtain ⟨m, hm⟩ : ∃ m, m = min (i + 64) p.x.length := ⟨_, rfl⟩
      have hq : ∀ v : World, (Instr.sliceAt 22 (.slice p.A p.x.length p.c) (some (.int .i64 (i : Int))) (some (.int .i64 (m : Int))) none).run Tryd.prog v = .ok (partPrt p k).val v := fun v => by
        have h := cut_lo_hi p.A p.x.length p.c i m (by omega) (by omega) v
        rw [h, Prt.val]
        have e3 : (partPrt p k).x.length = m - i := by rw [partPrt_x, hcl, hcn]; omega
        have e4 : i + chunkN p.x.length k - i = m - i := by rw [hcn]; omega
        rw [e3, hik]
        rfl
      have hx : (partPrt p k).x.length ≤ 1000000 := by rw [partPrt_x, hcl, hcn]; omega
      have HCB := Lib.hid (partPrt_x p k)
      have hdiv : (i : Int) / 64 = (k : Int) := by omega
      have HB8 := Lib.hid (be8_small k (by omega))
      have hk256 : (k : Int) < 256 := by omega
      have hi256 : i < 256 := by omega
      have HLT := Lib.hid (leaves_take p.x k hkc)
      have HMM := Lib.hid hm
      have hmin : (i : Int) + 64 ≤ (p.x.length : Int) ∧ ((i : Int) + 64 = m) ∨ ¬ (i : Int) + 64 ≤ (p.x.length : Int) ∧ (p.x.length : Int) < (i : Int) + 64 ∧ ((p.x.length : Int) = m) := by omega
      obtain ⟨q, hqq⟩ : ∃ q, q = partPrt p k := ⟨_, rfl⟩
      rw [← hqq] at hpk hx HCB hq
      have HQ : Hid (∀ j : Int, j = m → ∀ v : World, (Instr.sliceAt 22 (.slice p.A p.x.length p.c) (some (.int .i64 (i : Int))) (some (.int .i64 j)) none).run Tryd.prog v = .ok (.slice q.A q.x.length q.c) v) := fun j hj => by rw [hj]; exact hq
      clear hq
      obtain ⟨D, hD⟩ : ∃ D : Dg, D = leafDg p.x k := ⟨_, rfl⟩
      have hDv : dig (0 :: (be 8 k ++ q.x)) = D.1 := by rw [hD, HCB.out]; rfl
      have hfl : flat ((leavesB p.x).take k) ++ byteVals D.1 = flat ((leavesB p.x).take (k + 1)) := by rw [HLT.out, flat_append, hD]; simp [flat, dgCells]
      have HFL := Lib.hid hfl
      have gA : Chg none wr (wr.alloc (.cells #[.int .u8 0, .int .u8 0, .int .u8 0, .int .u8 0, .int .u8 0, .int .u8 0, .int .u8 0, .int .u8 k] 5)) := (Chg.refl _ _).alloc _
      have bA : BlkL (wr.alloc (.cells #[.int .u8 0, .int .u8 0, .int .u8 0, .int .u8 0, .int .u8 0, .int .u8 0, .int .u8 0, .int .u8 k] 5)) wr.heap.size (byteVals (be 8 k)) 5 := by rw [HB8.out]; exact Blk.new _ _ _
      have hsz : (wr.alloc (.cells #[.int .u8 0, .int .u8 0, .int .u8 0, .int .u8 0, .int .u8 0, .int .u8 0, .int .u8 0, .int .u8 k] 5)).heap.size = wr.heap.size + 1 := by simp
      have gB : Chg none (wr.alloc (.cells #[.int .u8 0, .int .u8 0, .int .u8 0, .int .u8 0, .int .u8 0, .int .u8 0, .int .u8 0, .int .u8 k] 5)) ((wr.alloc (.cells #[.int .u8 0, .int .u8 0, .int .u8 0, .int .u8 0, .int .u8 0, .int .u8 0, .int .u8 0, .int .u8 k] 5)).alloc (.cells #[.slice (some ⟨wr.heap.size, 0, none⟩) 8 8, .slice q.A q.x.length q.c] 22)) := (Chg.refl _ _).alloc _
      have hQ : Blk ((wr.alloc (.cells #[.int .u8 0, .int .u8 0, .int .u8 0, .int .u8 0, .int .u8 0, .int .u8 0, .int .u8 0, .int .u8 k] 5)).alloc (.cells #[.slice (some ⟨wr.heap.size, 0, none⟩) 8 8, .slice q.A q.x.length q.c] 22)) (wr.heap.size + 1) #[(⟨some ⟨wr.heap.size, 0, none⟩, be 8 k, 8⟩ : Prt).val, q.val] 22 := by
        show Blk _ _ #[.slice (some ⟨wr.heap.size, 0, none⟩) (be 8 k).length 8, .slice q.A q.x.length q.c] 22
        rw [be_len, ← hsz]; exact Blk.new _ _ _
      have hPA := parts_two hQ ((prt_of_row bA (by rw [be_len]; exact Nat.le_refl _)).chg gB) ((hpk.chg gA).chg gB)
      have hj : joined [(⟨some ⟨wr.heap.size, 0, none⟩, be 8 k, 8⟩ : Prt), q] = be 8 k ++ q.x := by
        show be 8 k ++ (q.x ++ []) = _
        rw [List.append_nil]
      have g0B := (gk.trans gA).trans gB
      have HPT := Lib.hid (parts_any 0 (some ⟨wr.heap.size + 1, 0, none⟩) [⟨some ⟨wr.heap.size, 0, none⟩, be 8 k, 8⟩, q] 2 _ hPA (by rw [hj, List.length_append, be_len]; omega) (by simp) (hT.chg g0B (by simp)))
      rw [hj, hDv] at HPT
      have hownB := (hown.alloc (.cells #[.int .u8 0, .int .u8 0, .int .u8 0, .int .u8 0, .int .u8 0, .int .u8 0, .int .u8 0, .int .u8 k] 5)).alloc (.cells #[.slice (some ⟨wr.heap.size, 0, none⟩) 8 8, .slice q.A q.x.length q.c] 22)
      have HOWN := Lib.hid hownB
      clear hik hm hqq hcl hcn hlo hkc hD hDv hfl gA bA hsz gB hQ hPA hj HLT HCB hpk hx HB8 hown
      have hway : (decide ((i : Int) < (p.x.length : Int)) = true ∧ ((i : Int) + 64 ≤ (p.x.length : Int) ∧ ((i : Int) + 64 = m) ∨ ¬ (i : Int) + 64 ≤ (p.x.length : Int) ∧ (p.x.length : Int) < (i : Int) + 64 ∧ ((p.x.length : Int) = m))) ∨
          decide ((i : Int) < (p.x.length : Int)) = false ∧ ((i : Int) == 0) = true ∧ ¬ (i : Int) + 64 ≤ (p.x.length : Int) ∧ (p.x.length : Int) < (i : Int) + 64 ∧ ((p.x.length : Int) = m) := by
        rcases hor with h1 | ⟨h1, h2⟩
        · exact Or.inl ⟨by simpa using h1, hmin⟩
        · refine Or.inr ⟨by simpa using h1, by simpa using h2, ?_⟩
          rcases hmin with h | h
          · omega
          · exact h
      clear hor hmin
      rcases hway with ⟨d1, hway⟩ | ⟨d1, d2, hA, hB, hM⟩
      case inr =>
        have hq := HQ.out _ hM
        clear hM HQ HMM
        have d3 : i = 0 := by have := d2; rw [beq_iff_eq] at this; omega
        subst d3
        have d1' : decide ((0 : Int) < (p.x.length : Int)) = false := d1
        have hA' : ¬ (64 : Int) ≤ (p.x.length : Int) := by omega
        have hB' : (p.x.length : Int) < 64 := by omega
        have hq' : ∀ v : World, (Instr.sliceAt 22 (.slice p.A p.x.length p.c) (some (.int .i64 0)) (some (.int .i64 (p.x.length : Int))) none).run Tryd.prog v = .ok (.slice q.A q.x.length q.c) v := hq
        obtain rfl : k = 0 := by omega
        have hx0 : p.x.length = 0 := by have h := d1'; rw [decide_eq_false_iff_not] at h; omega
        have e1 := hq' wr
        have e2 : (Instr.sliceAt 22 (.slice p.A p.x.length p.c) (some (.int .i64 0)) (some (.int .i64 (p.x.length : Int))) none).run Tryd.prog wr = .ok (.slice p.A 0 p.c) wr := by
          rw [hx0]
          have u22 := Tryd.underlying22
          have z5 := Tryd.sizeOf5
          go_simp
        rw [e2] at e1
        injection e1 with e3 e4
        injection e3 with ea eb ec
        rw [← ea, ← eb, ← ec] at HPT HOWN g0B
        clear d1 d2 hA hB hq hdiv hk256 hi256 e2 e4 ea eb ec hx0
        go_wp2_with fail
        all_goals try (exfalso; have h := d1'; rw [decide_eq_false_iff_not] at h; have hx : p.x = [] := List.eq_nil_of_length_eq_zero (by omega); contradiction)
        refine HPT.out.mono ?_
        rintro e w3 ⟨rfl, g3⟩
        have g03 := g0B.trans g3
        have hown3 := HOWN.out.kept g3 (by cases (Value.slice A3 0 c3).ownBlock <;> simp)
        have HOWN3 := Lib.hid hown3
        have HFD := Lib.hid (fill_dg D.1 D.2 i0 hz1)
        have HRD : Hid (Reads (w3.alloc (.cells (byteVals D.1).toArray 30)) (w3.alloc (.cells (byteVals D.1).toArray 30)).heap.size 32 (some ⟨w3.heap.size, 0, none⟩) 1 (byteVals D.1)) :=
          ⟨by rw [byteVals_len, D.2], fun _ => ⟨_, rfl, by simp, fun q u hu => by
            rw [Go.WideShapes.add_plain, Nat.zero_add, BlkL.cell (show BlkL _ w3.heap.size (byteVals D.1) 30 from Blk.new _ _ _)]; exact hu⟩⟩
        have HO1 := Lib.hid (byteVals_one D.1)
        clear hown3 g3 HPT HOWN g0B
        go_wp2_with (first
          | (refine wpList_buildSlice rfl 51 30 1 _ rfl (byteVals D.1).toArray i0 (.agg zero32) Tryd.underlying51 hi0 hz0 (by rw [hz1]; decide) (by rw [hz1]; decide) (by simp only [List.map_toArray, List.map_cons, List.map_nil]; exact HFD.out) ?_)
          | (at_builtin; refine wpList_append_any _ rfl (.tmp 27) (.tmp 39) 51 rfl w.heap.size 30 i0 (.agg zero32) 32 32 Tryd.underlying51 hi0 hz0 hz1 hz2 rfl (by decide) _ 0 (flat ((leavesB p.x).take 0)) rfl (HOWN3.out.alloc _) _ (some ⟨w3.heap.size, 0, none⟩) 1 1 (byteVals D.1) rfl HRD.out HO1.out (by unfold maxLen; omega) (by omega) (by have := g03.size; simp; omega) ?_))
        intro v6 w6 hown6 hgr6 hob6
        have hfl6 := HFL.out
        simp only [List.take_zero] at hfl6
        rw [hfl6] at hown6
        clear hfl6
        have g6 : Chg none w w6 := own_chg (g03.alloc (.cells (byteVals D.1).toArray 30)) (HOWN3.out.alloc _) (Nat.le_refl _) hgr6
        have HOWN6 := Lib.hid hown6
        have HI2 : Hid (0 + 64 = 64 * (0 + 1)) := by have := HIK.out; show _ = _; omega
        clear hown6 hgr6 hob6 HRD HFD HO1 HFL
        go_wp2_with fail
        go_roundw
        case rel =>
          have hx : p.x = [] := List.eq_nil_of_length_eq_zero (by have h := d1'; rw [decide_eq_false_iff_not] at h; omega)
          have h6 := HOWN6.out
          rw [hx] at h6
          exact ⟨1, by omega, 64, Lib.hid rfl, rfl, h6⟩
        case measure => have h1 := HIK.out; first | (simp [intOf]; done) | (simp [intOf]; omega)
      rcases hway with ⟨hA, hM⟩ | ⟨hA, hB, hM⟩
      all_goals
        have hq := HQ.out _ hM
        clear hM HQ HMM
      all_goals go_wp2_with fail
      all_goals
        try (exfalso; have h := d1; rw [decide_eq_true_eq] at h; omega)
      all_goals
        refine HPT.out.mono ?_
        rintro e w3 ⟨rfl, g3⟩
        have g03 := g0B.trans g3
        have hown3 := HOWN.out.kept g3 (by cases (Value.slice A3 k c3).ownBlock <;> simp)
        have HOWN3 := Lib.hid hown3
        have HFD := Lib.hid (fill_dg D.1 D.2 i0 hz1)
        have HRD : Hid (Reads (w3.alloc (.cells (byteVals D.1).toArray 30)) (w3.alloc (.cells (byteVals D.1).toArray 30)).heap.size 32 (some ⟨w3.heap.size, 0, none⟩) 1 (byteVals D.1)) :=
          ⟨by rw [byteVals_len, D.2], fun _ => ⟨_, rfl, by simp, fun q u hu => by
            rw [Go.WideShapes.add_plain, Nat.zero_add, BlkL.cell (show BlkL _ w3.heap.size (byteVals D.1) 30 from Blk.new _ _ _)]; exact hu⟩⟩
        have HO1 := Lib.hid (byteVals_one D.1)
        clear hown3 g3 HPT HOWN g0B
      all_goals go_wp2_with (first
          | (refine wpList_buildSlice rfl 51 30 1 _ rfl (byteVals D.1).toArray i0 (.agg zero32) Tryd.underlying51 hi0 hz0 (by rw [hz1]; decide) (by rw [hz1]; decide) (by simp only [List.map_toArray, List.map_cons, List.map_nil]; exact HFD.out) ?_)
          | (at_builtin; refine wpList_append_any _ rfl (.tmp 27) (.tmp 39) 51 rfl w.heap.size 30 i0 (.agg zero32) 32 32 Tryd.underlying51 hi0 hz0 hz1 hz2 rfl (by decide) _ k (flat ((leavesB p.x).take k)) rfl (HOWN3.out.alloc _) _ (some ⟨w3.heap.size, 0, none⟩) 1 1 (byteVals D.1) rfl HRD.out HO1.out (by unfold maxLen; omega) (by omega) (by have := g03.size; simp; omega) ?_))
      all_goals
        intro v6 w6 hown6 hgr6 hob6
        rw [HFL.out] at hown6
        have g6 : Chg none w w6 := own_chg (g03.alloc (.cells (byteVals D.1).toArray 30)) (HOWN3.out.alloc _) (Nat.le_refl _) hgr6
        have HOWN6 := Lib.hid hown6
        have HI2 : Hid (i + 64 = 64 * (k + 1)) := by have := HIK.out; show _ = _; omega
        clear hown6 hgr6 hob6 HRD HFD HO1 HFL
        go_wp2_with fail
        go_roundw
        case rel => exact ⟨k + 1, i + 64, by omega, HI2, by go_num, HOWN6.out, g6⟩
        case measure => have h1 := HIK.out; first | (simp [intOf]; done) | (simp [intOf]; omega)
    · have hkn : k = n := by omega
      have hik := HIK.out
      have hcl : cntN p.x.length = n := HN.out.symm
      have d1 : decide ((i : Int) < (p.x.length : Int)) = false := by unfold cntN at hcl; simp; omega
      have d1n : decide (i < p.x.length) = false := by unfold cntN at hcl; simp; omega
      have d2 : ((i : Int) == 0) = false := by simp; omega
      obtain ⟨L, hL⟩ : ∃ L, L = leavesB p.x := ⟨_, rfl⟩
      have hLn : L.length = n := by rw [hL]; exact HLL.out
      have hall : (leavesB p.x).take k = L := by rw [← hL, hkn]; exact List.take_of_length_le (by omega)
      rw [hall] at hown
      have hT1 : topB L = accB L (n - 1) := by rw [← hLn]; exact acc_top L (by omega) (by omega)
      have hRT : rootB p.x = rootOfB p.x.length (topB L).1 := by rw [hL]; rfl
      obtain ⟨dgL, hxx, hc3⟩ := dgs_of_own hown
      clear hxx
      obtain ⟨b, o, rfl, hbs, hra⟩ := dgL (by omega)
      rw [hkn] at hc3 hown ⊢
      have hcut := cut51 (some ⟨b, o, none⟩) n c3 hn1 hc3
      have h0 : 0 < L.length := by omega
      have hr0 : wr.rangeAt b o (byteVals L[0].1) := fun j v hj => hra j v (by
        have h32 : j < 32 := by have := (List.getElem?_eq_some_iff.1 hj).1; rwa [byteVals_len, L[0].2] at this
        have := flat_get dgCells 32 dgCells_len L 0 j _ (List.getElem?_eq_getElem h0) h32
        rw [Nat.zero_mul, Nat.zero_add] at this
        exact this.trans hj)
      have hrj : ∀ j, j + 1 < n → ∀ hj : j + 1 < L.length, wr.rangeAt b (o + 32 + j * 32) (byteVals L[j + 1].1) := fun j _ hj q v hq => by
        have h32 : q < 32 := by have := (List.getElem?_eq_some_iff.1 hq).1; rwa [byteVals_len, L[j + 1].2] at this
        have h1 := flat_get dgCells 32 dgCells_len L (j + 1) q _ (List.getElem?_eq_getElem hj) h32
        have h2 := hra ((j + 1) * 32 + q) v (h1.trans hq)
        rwa [show o + ((j + 1) * 32 + q) = o + 32 + j * 32 + q by omega] at h2
      have hacc0 : accB L 0 = L[0] := by rw [acc_zero, List.getD_eq_getElem?_getD, List.getElem?_eq_getElem h0]; rfl
      obtain ⟨D0, hD0⟩ : ∃ D0, D0 = accB L 0 := ⟨_, rfl⟩
      rw [← hacc0, ← hD0] at hr0
      have HD0 := Lib.hid hD0
      have HR0 := Lib.hid hr0
      have HRJ := Lib.hid hrj
      have HT1 := Lib.hid hT1
      have HRT0 := Lib.hid hRT
      have HLn := Lib.hid hLn
      have HIL0 : Hid ((Tryd.prog.info? 30).map (·.size) = some (byteVals D0.1).length) := by rw [byteVals_len, D0.2]; show _ = _; kernel_rfl
      obtain ⟨hds, hdo⟩ := row_facts D0.1 32 D0.2
      have HI0 : Hid ((Tryd.prog.info? 30).map (·.size) = some (byteVals D0.1).toArray.size) := by rw [hds]; show _ = _; kernel_rfl
      have HZ0 : Hid (zero32.size = (byteVals D0.1).toArray.size) := by rw [hds]; rfl
      have HO0 := Lib.hid hdo
      have HNW := Lib.hid (fun v => heap_alloc_new v (.cells zero32 30))
      obtain ⟨gN, hN2⟩ := new_row wr (byteVals D0.1).toArray
      obtain ⟨W3, hW3⟩ : ∃ W3, W3 = (wr.alloc (.cells zero32 30)).setRow wr.heap.size (byteVals D0.1).toArray := ⟨_, rfl⟩
      have HW3 : Hid ((wr.alloc (.cells #[Value.int IntKind.u8 0, Value.int IntKind.u8 0, Value.int IntKind.u8 0, Value.int IntKind.u8 0, Value.int IntKind.u8 0, Value.int IntKind.u8 0, Value.int IntKind.u8 0, Value.int IntKind.u8 0, Value.int IntKind.u8 0, Value.int IntKind.u8 0, Value.int IntKind.u8 0, Value.int IntKind.u8 0, Value.int IntKind.u8 0, Value.int IntKind.u8 0, Value.int IntKind.u8 0, Value.int IntKind.u8 0, Value.int IntKind.u8 0, Value.int IntKind.u8 0, Value.int IntKind.u8 0, Value.int IntKind.u8 0, Value.int IntKind.u8 0, Value.int IntKind.u8 0, Value.int IntKind.u8 0, Value.int IntKind.u8 0, Value.int IntKind.u8 0, Value.int IntKind.u8 0, Value.int IntKind.u8 0, Value.int IntKind.u8 0, Value.int IntKind.u8 0, Value.int IntKind.u8 0, Value.int IntKind.u8 0, Value.int IntKind.u8 0] 30)).setRow wr.heap.size (byteVals D0.1).toArray = W3) := hW3.symm
      rw [← hW3] at gN hN2
      have hbT : b < wr.heap.size := hbs
      have hwT : w.heap.size ≤ wr.heap.size := gk.size
      have i0lt : (0 : Int) < (n : Int) := by omega
      obtain ⟨A2, c2, hA2⟩ : ∃ A2 c2, A2 = (if c3 = 1 then (some ⟨b, o, none⟩ : Option Addr) else (some ⟨b, o, none⟩ : Option Addr).map (·.add 32)) ∧ c2 = c3 - 1 := ⟨_, _, rfl, rfl⟩
      have HCU : Hid (∀ v, (Instr.sliceAt 51 (.slice (some ⟨b, o, none⟩) n c3) (some (.int .i64 1)) none none).run Tryd.prog v = .ok (.slice A2 (n - 1) c2) v) := fun v => by
        have h := hcut v
        rw [← hA2.1, ← hA2.2] at h; exact h
      have HA2 : Hid (1 < n → A2 = some ⟨b, o + 32, none⟩) := fun h => by
        rw [hA2.1, if_neg (by omega), Option.map_some, Go.WideShapes.add_plain]
      clear hW3 hds hdo hall hown hT1 hRT hra hr0 hrj hacc0 hD0 hLn hL h0 hcl hkn hik HIK HLL hcut hA2 dgL hbs
      go_upto_region 10 with (first
        | (refine wpList_load_mid rfl 30 _ rfl b o rfl (byteVals D0.1) _ HR0.out Tryd.underlying30 rfl HIL0.out ?_)
        | (refine wpList_store_row rfl 30 _ _ rfl wr.heap.size (byteVals D0.1).toArray rfl rfl 30 _ (HNW.out wr) HI0.out HZ0.out HO0.out ?_))
      rw [HW3.out]
      have g3 := gk.trans gN
      have hp3 := hp.chg g3
      have HRJ3 : Hid (∀ j, j + 1 < n → ∀ hj : j + 1 < L.length, W3.rangeAt b (o + 32 + j * 32) (byteVals L[j + 1].1)) := fun j h hj => rangeAt_chg (HRJ.out j h hj) gN (by simp)
      generalize wr.heap.size = pT at *
      have hcu := HCU.out
      clear HW3 HNW HI0 HZ0 HO0 HR0 gN gk HCU HRJ hc3 HIL0 d1 d1n d2
      go_wp2_with fail
      clear hcu
      have hBT : BlkL W3 pT (byteVals (accB L 0).1) 30 := by rw [← HD0.out]; exact hN2
      have HBT := Lib.hid hBT
      clear hBT hN2 HD0
      go_loopw [8, 47] (fun _ s47 wq => ∃ j : Nat, j ≤ n - 1 ∧ s47 = .int .i64 j ∧ BlkL wq pT (byteVals (accB L j).1) 30 ∧ Chg none w wq ∧ Hid (∀ j, j + 1 < n → ∀ hj : j + 1 < L.length, wq.rangeAt b (o + 32 + j * 32) (byteVals L[j + 1].1))) (fun _ s47 _ => n - 1 - (intOf s47).toNat)
      case atStart => exact ⟨0, by omega, rfl, HBT.out, g3, HRJ3⟩
      case round =>
        obtain ⟨j, hj, rfl, bT, gq, hrq⟩ := hrel
        clear HBT HRJ3 g3
        by_cases hlt2 : j < n - 1
        · have hjl : j + 1 < L.length := by rw [HLn.out]; omega
          have hst := acc_step L j hjl
          have hrj := hrq.out j (by omega) hjl
          obtain ⟨D1, hD1⟩ : ∃ D1, D1 = L[j + 1] := ⟨_, rfl⟩
          rw [← hD1] at hrj hst
          obtain ⟨Da, hDa⟩ : ∃ Da, Da = accB L j := ⟨_, rfl⟩
          rw [← hDa] at bT hst
          obtain ⟨D2, hD2⟩ : ∃ D2, D2 = accB L (j + 1) := ⟨_, rfl⟩
          rw [← hD2] at hst
          have hDv : dig (1 :: (Da.1 ++ D1.1)) = D2.1 := by rw [hst]; rfl
          have HDv := Lib.hid hDv
          have HD2 := Lib.hid hD2
          have HRJ1 := Lib.hid hrj
          have HIL1 : Hid ((Tryd.prog.info? 30).map (·.size) = some (byteVals D1.1).length) := by rw [byteVals_len, D1.2]; show _ = _; kernel_rfl
          obtain ⟨hds, hdo⟩ := row_facts D1.1 32 D1.2
          have HI1 : Hid ((Tryd.prog.info? 30).map (·.size) = some (byteVals D1.1).toArray.size) := by rw [hds]; show _ = _; kernel_rfl
          have HZ1 : Hid (zero32.size = (byteVals D1.1).toArray.size) := by rw [hds]; rfl
          have HO1 := Lib.hid hdo
          obtain ⟨hds2, hdo2⟩ := row_facts D2.1 32 D2.2
          have hdsa := (row_facts Da.1 32 Da.2).1
          have HI2 : Hid ((Tryd.prog.info? 30).map (·.size) = some (byteVals D2.1).toArray.size) := by rw [hds2]; show _ = _; kernel_rfl
          have HZ2 : Hid ((byteVals Da.1).toArray.size = (byteVals D2.1).toArray.size) := hdsa.trans hds2.symm
          have HO2 := Lib.hid hdo2
          have HNW := Lib.hid (fun v => heap_alloc_new v (.cells zero32 30))
          obtain ⟨gN, hN2⟩ := new_row wr (byteVals D1.1).toArray
          obtain ⟨W4, hW4⟩ : ∃ W4, W4 = (wr.alloc (.cells zero32 30)).setRow wr.heap.size (byteVals D1.1).toArray := ⟨_, rfl⟩
          have HW4 : Hid ((wr.alloc (.cells #[Value.int IntKind.u8 0, Value.int IntKind.u8 0, Value.int IntKind.u8 0, Value.int IntKind.u8 0, Value.int IntKind.u8 0, Value.int IntKind.u8 0, Value.int IntKind.u8 0, Value.int IntKind.u8 0, Value.int IntKind.u8 0, Value.int IntKind.u8 0, Value.int IntKind.u8 0, Value.int IntKind.u8 0, Value.int IntKind.u8 0, Value.int IntKind.u8 0, Value.int IntKind.u8 0, Value.int IntKind.u8 0, Value.int IntKind.u8 0, Value.int IntKind.u8 0, Value.int IntKind.u8 0, Value.int IntKind.u8 0, Value.int IntKind.u8 0, Value.int IntKind.u8 0, Value.int IntKind.u8 0, Value.int IntKind.u8 0, Value.int IntKind.u8 0, Value.int IntKind.u8 0, Value.int IntKind.u8 0, Value.int IntKind.u8 0, Value.int IntKind.u8 0, Value.int IntKind.u8 0, Value.int IntKind.u8 0, Value.int IntKind.u8 0] 30)).setRow wr.heap.size (byteVals D1.1).toArray = W4) := hW4.symm
          rw [← hW4] at gN hN2
          have bT4 : BlkL W4 pT (byteVals Da.1) 30 := Blk.chg bT gN (by simp)
          have g4 := gq.trans gN
          have HRQ4 : Hid (∀ j, j + 1 < n → ∀ hj : j + 1 < L.length, W4.rangeAt b (o + 32 + j * 32) (byteVals L[j + 1].1)) := fun j h hj => rangeAt_chg (hrq.out j h hj) gN (by simp)
          have hneX : pT ≠ wr.heap.size := by have := Blk.lt bT; omega
          have hA2' := HA2.out (by omega)
          subst hA2'
          have jlt : (j : Int) < ((n - 1 : Nat) : Int) := by omega
          clear hW4 hds hdo hds2 hdo2 hdsa hst hD1 hDa hD2 hDv hrj hrq gN bT gq
          go_upto_region 13 with (first
            | (refine wpList_load_mid rfl 30 _ rfl b (o + 32 + j * 32) rfl (byteVals D1.1) _ HRJ1.out Tryd.underlying30 rfl HIL1.out ?_)
            | (refine wpList_store_row rfl 30 _ _ rfl wr.heap.size (byteVals D1.1).toArray rfl rfl 30 _ (HNW.out wr) HI1.out HZ1.out HO1.out ?_))
          rw [HW4.out]
          clear HW4 HNW HI1 HZ1 HO1 HIL1 HRJ1
          generalize wr.heap.size = pX at *
          refine wp_region_held_drew (S := fun _ => True) (by kernel_rfl) trivial (fun _ => ?_)
          have g00 : Chg none w W4.drew := g4.drew
          have bT0 : BlkL W4.drew pT (byteVals Da.1) 30 := bT4.drew
          have bX0 : BlkL W4.drew pX (byteVals D1.1) 30 := Blk.drew hN2
          have HRQ0 : Hid (∀ j, j + 1 < n → ∀ hj : j + 1 < L.length, W4.drew.rangeAt b (o + 32 + j * 32) (byteVals L[j + 1].1)) := HRQ4
          clear g4 bT4 hN2 HRQ4
          generalize W4.drew = v0 at *
          have gA : Chg none v0 (v0.alloc (.cells #[.slice (some ⟨pT, 0, none⟩) 32 32, .slice (some ⟨pX, 0, none⟩) 32 32] 22)) := (Chg.refl _ _).alloc _
          have hQ : Blk (v0.alloc (.cells #[.slice (some ⟨pT, 0, none⟩) 32 32, .slice (some ⟨pX, 0, none⟩) 32 32] 22)) v0.heap.size #[(⟨some ⟨pT, 0, none⟩, Da.1, 32⟩ : Prt).val, (⟨some ⟨pX, 0, none⟩, D1.1, 32⟩ : Prt).val] 22 := by
            show Blk _ _ #[.slice (some ⟨pT, 0, none⟩) Da.1.length 32, .slice (some ⟨pX, 0, none⟩) D1.1.length 32] 22
            rw [Da.2, D1.2]; exact Blk.new _ _ _
          have hPA := parts_two hQ ((prt_of_row bT0 (by rw [Da.2]; exact Nat.le_refl _)).chg gA) ((prt_of_row bX0 (by rw [D1.2]; exact Nat.le_refl _)).chg gA)
          have hjn : joined [(⟨some ⟨pT, 0, none⟩, Da.1, 32⟩ : Prt), ⟨some ⟨pX, 0, none⟩, D1.1, 32⟩] = Da.1 ++ D1.1 := by
            show Da.1 ++ (D1.1 ++ []) = _
            rw [List.append_nil]
          have HPT2 := Lib.hid (parts_any 1 (some ⟨v0.heap.size, 0, none⟩) [⟨some ⟨pT, 0, none⟩, Da.1, 32⟩, ⟨some ⟨pX, 0, none⟩, D1.1, 32⟩] 2 _ hPA (by rw [hjn, List.length_append, Da.2, D1.2]; decide) (by simp) ((hT.chg g00 (by simp)).chg gA (by simp)))
          rw [hjn, HDv.out] at HPT2
          have g03 := g00.trans gA
          have bT3 : Blk (v0.alloc (.cells #[.slice (some ⟨pT, 0, none⟩) 32 32, .slice (some ⟨pX, 0, none⟩) 32 32] 22)) pT (byteVals Da.1).toArray 30 := Blk.chg bT0 gA (by simp)
          have HRQ3 : Hid (∀ j, j + 1 < n → ∀ hj : j + 1 < L.length, (v0.alloc (.cells #[.slice (some ⟨pT, 0, none⟩) 32 32, .slice (some ⟨pX, 0, none⟩) 32 32] 22)).rangeAt b (o + 32 + j * 32) (byteVals L[j + 1].1)) := fun j h hj => rangeAt_chg (HRQ0.out j h hj) gA (by simp)
          clear hQ hPA hjn gA bT0 bX0 g00 HRQ0
          refine wpAnyH_take (i := 0) (oi := ⟨some 51, _, _, _, _, _⟩) (v := ?_) rfl (by kernel_rfl) (by kernel_rfl) (by kernel_rfl) (fun _ _ _ h => h) (Or.inl ⟨by rfl, ?_⟩) (by assumption) ?_
          rotate_left
          · intro w hSw; (try dsimp only at hSw); go_simp; (try with_reducible rfl)
          try simp only [Act.put, List.setIfInBounds_toArray, List.set_cons_zero, List.set_cons_succ]
          refine wpAnyH_take (i := 1) (oi := ⟨some 52, _, _, _, _, _⟩) (v := ?_) rfl (by kernel_rfl) (by kernel_rfl) (by kernel_rfl) (fun _ _ _ h => h) (Or.inl ⟨by rfl, ?_⟩) (by assumption) ?_
          rotate_left
          · intro w hSw; (try dsimp only at hSw); go_simp; (try with_reducible rfl)
          try simp only [Act.put, List.setIfInBounds_toArray, List.set_cons_zero, List.set_cons_succ]
          refine wpAnyH_ready (rs := [2]) (by kernel_rfl) (by simp) ?_
          refine AllReadyH.cons (o := ⟨some 53, _, _, _, _, _⟩) rfl (fun K hK => ?_) (AllReadyH.nil)
          go_simp
          refine hK.out _ _ trivial (fun _ => ?_)
          clear hK K
          try simp only [Act.put, List.setIfInBounds_toArray, List.set_cons_zero, List.set_cons_succ]
          refine wpAnyH_ready (rs := [3]) (by kernel_rfl) (by simp) ?_
          refine AllReadyH.cons (o := ⟨some 54, _, _, _, _, _⟩) rfl (fun K hK => ?_) (AllReadyH.nil)
          go_simp
          go_at_call 19
          refine (HPT2.out).mono ?_
          rintro e w4 ⟨rfl, g4⟩
          have bT4 := Blk.chg bT3 g4 (by simp)
          go_wp2_with fail
          refine hK.out _ _ trivial (fun _ => ?_)
          clear hK K
          try simp only [Act.put, List.setIfInBounds_toArray, List.set_cons_zero, List.set_cons_succ]
          refine wpAnyH_ready (rs := [4]) (by kernel_rfl) (by simp) ?_
          refine AllReadyH.cons (o := ⟨none, _, _, _, _, _⟩) rfl (fun K hK => ?_) (AllReadyH.nil)
          rw [if_pos (by rfl)]
          refine wp_store_row 30 (.tmp 6) (.tmp 54) (by rfl) pT (byteVals D2.1).toArray (by rfl) (by rfl) 30 _ bT4 HI2.out HZ2.out HO2.out ?_
          refine hK.out _ _ trivial (fun _ => ?_)
          clear hK K
          refine wpAnyH_done (by kernel_rfl) ?_ _
          have bT6 : ∃ v6, v6 = w4.setRow pT (byteVals D2.1).toArray := ⟨_, rfl⟩
          obtain ⟨v6, hv6⟩ := bT6
          have bT6 : BlkL v6 pT (byteVals D2.1) 30 := by rw [hv6]; exact setRow_heap _ _ _ _ _ _ bT4
          have g6 : Chg none w v6 := by rw [hv6]; exact Chg.own (b := pT) (g03.trans g4) (chg_setRow _ _ _) hwT
          have HRQ6 : Hid (∀ j, j + 1 < n → ∀ hj : j + 1 < L.length, v6.rangeAt b (o + 32 + j * 32) (byteVals L[j + 1].1)) := fun j h hj => by
            rw [hv6]; exact rangeAt_chg (rangeAt_chg (HRQ3.out j h hj) g4 (by simp)) (chg_setRow w4 pT (byteVals D2.1).toArray) (by simp; omega)
          rw [HD2.out] at bT6
          have BT6 := Lib.hid bT6
          rw [← hv6]
          clear bT6 bT4 bT3 HRQ3 g03 g4 hv6
          try simp only [Act.put]
          go_wp2_with fail
          go_roundw
          case rel => exact ⟨j + 1, by omega, by go_num, BT6.out, g6, HRQ6⟩
          case measure => first | (simp [intOf]; done) | (simp [intOf]; omega)
        · have hjn : j = n - 1 := by omega
          rw [hjn, ← HT1.out] at bT
          obtain ⟨RT, hRT⟩ : ∃ RT, RT = rootB p.x := ⟨_, rfl⟩
          have hRl : RT.length = 32 := by rw [hRT, rootB_len]
          have hRv : dig (2 :: (be 8 p.x.length ++ (topB L).1)) = RT := by rw [hRT, HRT0.out]; rfl
          obtain ⟨TP, hTP⟩ : ∃ TP, TP = topB L := ⟨_, rfl⟩
          rw [← hTP] at bT hRv
          have HRv := Lib.hid hRv
          have HB8 := Lib.hid (be8_small p.x.length (by omega))
          have HW8 : Hid (IntKind.u8.wrap (p.x.length : Int) = (p.x.length : Int)) := by show _ = _; rw [IntKind.wrap_u8]; omega
          have jn : decide ((j : Int) < ((n - 1 : Nat) : Int)) = false := by simp; omega
          have jn2 : decide (j < n - 1) = false := by simp; omega
          have gv0 := gq.drew
          have bT0 : BlkL wr.drew pT (byteVals TP.1) 30 := Blk.drew bT
          have HRT : Hid (∀ {v}, Chg none wr.drew v → Calls Tryd.prog 28 #[.slice p.A p.x.length p.c] v fun e w' => e = .returned (.agg (byteVals RT).toArray) ∧ Chg none v w') := fun {v} g => by
            rw [hRT]; exact rootf_any p v (hp.chg (gv0.trans g)) (by omega) (hT.chg (gv0.trans g) (by simp))
          have HKN : Hid (∀ {v}, Chg none wr.drew v → Calls Tryd.prog 24 #[] v fun e w' => e = .returned (.bool true) ∧ Chg none v w') := fun {v} g => known4_any v (hT.chg (gv0.trans g) (by simp))
          have HCT := Lib.hid (fun v => count_nat p.x.length (by omega) v)
          rw [← HN.out] at HCT
          have HPT : Hid (∀ (v : World) (pP pQ : Nat), Chg none wr.drew v → Blk v pP #[Value.int IntKind.u8 0, Value.int IntKind.u8 0, Value.int IntKind.u8 0, Value.int IntKind.u8 0, Value.int IntKind.u8 0, Value.int IntKind.u8 0, Value.int IntKind.u8 0, Value.int IntKind.u8 (IntKind.u8.wrap (p.x.length : Int))] 5 →
              Blk v pQ #[.slice (some ⟨pP, 0, none⟩) 8 8, .slice (some ⟨pT, 0, none⟩) 32 32] 22 → Calls Tryd.prog 19 #[.int .u8 2, .slice (some ⟨pQ, 0, none⟩) 2 2] v fun e w' => e = .returned (.agg (byteVals RT).toArray) ∧ Chg none v w') := fun v pP pQ g hP hQ => by
            have hP' : BlkL v pP (byteVals (be 8 p.x.length)) 5 := by rw [HB8.out, ← HW8.out]; exact hP
            have hQ' : Blk v pQ #[(⟨some ⟨pP, 0, none⟩, be 8 p.x.length, 8⟩ : Prt).val, (⟨some ⟨pT, 0, none⟩, TP.1, 32⟩ : Prt).val] 22 := by
              show Blk _ _ #[.slice (some ⟨pP, 0, none⟩) (be 8 p.x.length).length 8, .slice (some ⟨pT, 0, none⟩) TP.1.length 32] 22
              rw [be_len, TP.2]; exact hQ
            have hPA := parts_two hQ' (prt_of_row hP' (by rw [be_len]; exact Nat.le_refl _)) (prt_of_row (Blk.chg bT0 g (by simp)) (by rw [TP.2]; exact Nat.le_refl _))
            have hj : joined [(⟨some ⟨pP, 0, none⟩, be 8 p.x.length, 8⟩ : Prt), ⟨some ⟨pT, 0, none⟩, TP.1, 32⟩] = be 8 p.x.length ++ TP.1 := by
              show be 8 p.x.length ++ (TP.1 ++ []) = _
              rw [List.append_nil]
            have h := parts_any 2 (some ⟨pQ, 0, none⟩) [⟨some ⟨pP, 0, none⟩, be 8 p.x.length, 8⟩, ⟨some ⟨pT, 0, none⟩, TP.1, 32⟩] 2 v hPA (by rw [hj, List.length_append, be_len, TP.2]; decide) (by simp) (hT.chg (gv0.trans g) (by simp))
            rw [hj] at h
            exact h.mono fun e w' ⟨he, h⟩ => ⟨by rw [he, ← HRv.out], h⟩
          have q1 : ∀ W : World, (binOp .eql 30 (.agg (byteVals RT).toArray) (.agg (byteVals RT).toArray)).run Tryd.prog W = .ok (.bool true) W := fun W => by
            rw [eql30 RT RT hRl hRl W]; try simp
          have hg30 := guard30
          have HF8 := Lib.hid (fill8 (IntKind.u8.wrap (p.x.length : Int)) j0 hy1)
          have h256 : (p.x.length : Int) < 256 := by omega
          have h256n : p.x.length < 256 := by omega
          have gv := gv0
          have E0 : Chg none wr.drew wr.drew := Chg.refl _ _
          clear hRT hRv hTP bT bT0 hjn hrq gq HB8 HW8 HN gv0 hp3
          go_wp2_with fail
          refine wp_region_held_drew (S := fun _ => True) (by kernel_rfl) trivial (fun _ => ?_)
          generalize wr.drew = v0 at *
          refine wpAnyH_meet 13 #[true, true, true, true, true, true, true, true, true, false, false, false, false, false, false, false, false, false, false, false, false, false] (fun a a' w' => ∃ y0 y1 : Value, a' = (((((((((a.put (some 56) (.slice p.A p.x.length p.c)).put (some 57) (.agg (byteVals RT).toArray)).put (some 58) (.slice p.A p.x.length p.c)).put (some 59) (.int .i64 (p.x.length : Int))).put (some 60) (.int .u8 (IntKind.u8.wrap (p.x.length : Int)))).put (some 61) (y0)).put (some 62) (.slice (some ⟨pT, 0, none⟩) 32 32)).put (some 63) (y1)).put (some 64) (.agg (byteVals RT).toArray)) ∧ Chg none v0 w') ?_ ?_
          · rintro a' w' ⟨y0, y1, rfl, E99⟩
            try simp only [Act.put, List.setIfInBounds_toArray, List.set_cons_zero, List.set_cons_succ]
            refine wpAnyH_take (i := 9) (oi := ⟨some 65, _, _, _, _, _⟩) (v := ?_) rfl (by kernel_rfl) (by kernel_rfl) (by kernel_rfl) (fun _ _ _ h => h) (Or.inl ⟨by rfl, ?_⟩) (by assumption) ?_
            rotate_left
            · intro w hSw; (try dsimp only at hSw); go_simp; (try with_reducible rfl)
            try simp only [Act.put, List.setIfInBounds_toArray, List.set_cons_zero, List.set_cons_succ]
            refine wpAnyH_take (i := 10) (oi := ⟨some 66, _, _, _, _, _⟩) (v := ?_) rfl (by kernel_rfl) (by kernel_rfl) (by kernel_rfl) (fun _ _ _ h => h) (Or.inl ⟨by rfl, ?_⟩) (by assumption) ?_
            rotate_left
            · intro w hSw; (try dsimp only at hSw); go_simp; (try with_reducible rfl)
            try simp only [Act.put, List.setIfInBounds_toArray, List.set_cons_zero, List.set_cons_succ]
            refine wpAnyH_take (i := 11) (oi := ⟨some 67, _, _, _, _, _⟩) (v := ?_) rfl (by kernel_rfl) (by kernel_rfl) (by kernel_rfl) (fun _ _ _ h => h) (Or.inl ⟨by rfl, ?_⟩) (by assumption) ?_
            rotate_left
            · intro w hSw; (try dsimp only at hSw); go_simp; (try with_reducible rfl)
            try simp only [Act.put, List.setIfInBounds_toArray, List.set_cons_zero, List.set_cons_succ]
            refine wpAnyH_take (i := 12) (oi := ⟨some 68, _, _, _, _, _⟩) (v := ?_) rfl (by kernel_rfl) (by kernel_rfl) (by kernel_rfl) (fun _ _ _ h => h) (Or.inl ⟨by rfl, ?_⟩) (by assumption) ?_
            rotate_left
            · intro w hSw; (try dsimp only at hSw); go_simp; (try with_reducible rfl)
            try simp only [Act.put, List.setIfInBounds_toArray, List.set_cons_zero, List.set_cons_succ]
            refine wpAnyH_take (i := 14) (oi := ⟨some 70, _, _, _, _, _⟩) (v := ?_) rfl (by kernel_rfl) (by kernel_rfl) (by kernel_rfl) (fun _ _ _ h => h) (Or.inl ⟨by rfl, ?_⟩) (by assumption) ?_
            rotate_left
            · intro w hSw; (try dsimp only at hSw); go_simp; (try with_reducible rfl)
            try simp only [Act.put, List.setIfInBounds_toArray, List.set_cons_zero, List.set_cons_succ]
            refine wpAnyH_take (i := 15) (oi := ⟨some 71, _, _, _, _, _⟩) (v := ?_) rfl (by kernel_rfl) (by kernel_rfl) (by kernel_rfl) (fun _ _ _ h => h) (Or.inl ⟨by rfl, ?_⟩) (by assumption) ?_
            rotate_left
            · intro w hSw; (try dsimp only at hSw); go_simp; (try with_reducible rfl)
            try simp only [Act.put, List.setIfInBounds_toArray, List.set_cons_zero, List.set_cons_succ]
            refine wpAnyH_ready (rs := [13]) (by kernel_rfl) (by simp) ?_
            refine AllReadyH.cons (o := ⟨some 69, _, _, _, _, _⟩) rfl (fun K hK => ?_) (AllReadyH.nil)
            go_simp
            go_at_call 26
            refine (HCT.out _).mono ?_
            rintro e w1 ⟨rfl, rfl⟩
            go_wp2_with fail
            refine hK.out _ _ trivial (fun _ => ?_)
            clear hK K
            try simp only [List.setIfInBounds_toArray, List.set_cons_zero, List.set_cons_succ]
            refine wpAnyH_take (i := 16) (oi := ⟨some 72, _, _, _, _, _⟩) (v := ?_) rfl (by kernel_rfl) (by kernel_rfl) (by kernel_rfl) (fun _ _ _ h => h) (Or.inl ⟨by rfl, ?_⟩) (by assumption) ?_
            rotate_left
            · intro w hSw; (try dsimp only at hSw); go_simp; (try with_reducible rfl)
            try simp only [Act.put, List.setIfInBounds_toArray, List.set_cons_zero, List.set_cons_succ]
            refine wpAnyH_take (i := 17) (oi := ⟨some 73, _, _, _, _, _⟩) (v := ?_) rfl (by kernel_rfl) (by kernel_rfl) (by kernel_rfl) (fun _ _ _ h => h) (Or.inl ⟨by rfl, ?_⟩) (by assumption) ?_
            rotate_left
            · intro w hSw; (try dsimp only at hSw); go_simp; (try with_reducible rfl)
            try simp only [Act.put, List.setIfInBounds_toArray, List.set_cons_zero, List.set_cons_succ]
            refine wpAnyH_take (i := 18) (oi := ⟨some 74, _, _, _, _, _⟩) (v := ?_) rfl (by kernel_rfl) (by kernel_rfl) (by kernel_rfl) (fun _ _ _ h => h) (Or.inl ⟨by rfl, ?_⟩) (by assumption) ?_
            rotate_left
            · intro w hSw; (try dsimp only at hSw); go_simp; (try with_reducible rfl)
            try simp only [Act.put, List.setIfInBounds_toArray, List.set_cons_zero, List.set_cons_succ]
            refine wpAnyH_ready (rs := [19]) (by kernel_rfl) (by simp) ?_
            refine AllReadyH.cons (o := ⟨some 75, _, _, _, _, _⟩) rfl (fun K hK => ?_) (AllReadyH.nil)
            go_simp
            go_at_call 24
            refine (HKN.out E99).mono ?_
            rintro e w2 ⟨rfl, g2⟩
            have E2 := E99.trans g2
            go_wp2_with fail
            refine hK.out _ _ trivial (fun _ => ?_)
            clear hK K
            try simp only [List.setIfInBounds_toArray, List.set_cons_zero, List.set_cons_succ]
            refine wpAnyH_take (i := 20) (oi := ⟨some 76, _, _, _, _, _⟩) (v := ?_) rfl (by kernel_rfl) (by kernel_rfl) (by kernel_rfl) (fun _ _ _ h => h) (Or.inl ⟨by rfl, ?_⟩) (by assumption) ?_
            rotate_left
            · intro w hSw; (try dsimp only at hSw); go_simp; (try with_reducible rfl)
            try simp only [Act.put, List.setIfInBounds_toArray, List.set_cons_zero, List.set_cons_succ]
            refine wpAnyH_take (i := 21) (oi := ⟨some 2, _, _, _, _, _⟩) (v := ?_) rfl (by kernel_rfl) (by kernel_rfl) (by kernel_rfl) (fun _ _ _ h => h) (Or.inl ⟨by rfl, ?_⟩) (by assumption) ?_
            rotate_left
            · intro w hSw; (try dsimp only at hSw); go_simp; (try with_reducible rfl)
            try simp only [Act.put, List.setIfInBounds_toArray, List.set_cons_zero, List.set_cons_succ]
            refine wpAnyH_done (by kernel_rfl) ?_ _
            go_wp2_with fail
            go_ret
            exact ⟨rfl, gv.trans E2⟩
          · intro HMEET
            refine wpAnyH_take (i := 0) (oi := ⟨some 56, _, _, _, _, _⟩) (v := ?_) rfl (by kernel_rfl) (by kernel_rfl) (by kernel_rfl) (fun _ _ _ h => h) (Or.inl ⟨by rfl, ?_⟩) (by assumption) ?_
            rotate_left
            · intro w hSw; (try dsimp only at hSw); go_simp; (try with_reducible rfl)
            try simp only [Act.put, List.setIfInBounds_toArray, List.set_cons_zero, List.set_cons_succ]
            refine wpAnyH_take (i := 2) (oi := ⟨some 58, _, _, _, _, _⟩) (v := ?_) rfl (by kernel_rfl) (by kernel_rfl) (by kernel_rfl) (fun _ _ _ h => h) (Or.inl ⟨by rfl, ?_⟩) (by assumption) ?_
            rotate_left
            · intro w hSw; (try dsimp only at hSw); go_simp; (try with_reducible rfl)
            try simp only [Act.put, List.setIfInBounds_toArray, List.set_cons_zero, List.set_cons_succ]
            refine wpAnyH_take (i := 3) (oi := ⟨some 59, _, _, _, _, _⟩) (v := ?_) rfl (by kernel_rfl) (by kernel_rfl) (by kernel_rfl) (fun _ _ _ h => h) (Or.inl ⟨by rfl, ?_⟩) (by assumption) ?_
            rotate_left
            · intro w hSw; (try dsimp only at hSw); go_simp; (try with_reducible rfl)
            try simp only [Act.put, List.setIfInBounds_toArray, List.set_cons_zero, List.set_cons_succ]
            refine wpAnyH_take (i := 4) (oi := ⟨some 60, _, _, _, _, _⟩) (v := ?_) rfl (by kernel_rfl) (by kernel_rfl) (by kernel_rfl) (fun _ _ _ h => h) (Or.inl ⟨by rfl, ?_⟩) (by assumption) ?_
            rotate_left
            · intro w hSw; (try dsimp only at hSw); go_simp; (try with_reducible rfl)
            try simp only [Act.put, List.setIfInBounds_toArray, List.set_cons_zero, List.set_cons_succ]
            refine wpAnyH_take (i := 6) (oi := ⟨some 62, _, _, _, _, _⟩) (v := ?_) rfl (by kernel_rfl) (by kernel_rfl) (by kernel_rfl) (fun _ _ _ h => h) (Or.inl ⟨by rfl, ?_⟩) (by assumption) ?_
            rotate_left
            · intro w hSw; (try dsimp only at hSw); go_simp; (try with_reducible rfl)
            try simp only [Act.put, List.setIfInBounds_toArray, List.set_cons_zero, List.set_cons_succ]
            refine wpAnyH_ready (rs := [1, 5]) (by kernel_rfl) (by simp) ?_
            refine AllReadyH.cons (o := ⟨some 57, _, _, _, _, _⟩) rfl (fun K hK => ?_) (AllReadyH.cons (o := ⟨some 61, _, _, _, _, _⟩) rfl (fun K hK => ?_) (AllReadyH.nil))
            · as_aux_lemma =>
                go_simp
                go_at_call 28
                refine (HRT.out E0).mono ?_
                rintro e w3 ⟨rfl, g3⟩
                have E3 := E0.trans g3
                go_wp2_with fail
                refine hK.out _ _ trivial (fun _ => ?_)
                clear hK K
                try simp only [Act.put, List.setIfInBounds_toArray, List.set_cons_zero, List.set_cons_succ]
                refine wpAnyH_ready (rs := [5]) (by kernel_rfl) (by simp) ?_
                refine AllReadyH.cons (o := ⟨some 61, _, _, _, _, _⟩) rfl (fun K hK => ?_) (AllReadyH.nil)
                rw [if_pos (by rfl)]
                refine wp_buildSlice 22 5 8 _ (by rfl) #[Value.int IntKind.u8 0, Value.int IntKind.u8 0, Value.int IntKind.u8 0, Value.int IntKind.u8 0, Value.int IntKind.u8 0, Value.int IntKind.u8 0, Value.int IntKind.u8 0, Value.int IntKind.u8 (IntKind.u8.wrap (p.x.length : Int))] j0 (.int .u8 0) Tryd.underlying22 hj0 hy0 (by rw [hy1]; decide) (by rw [hy1]; decide) (by simp only [List.map_toArray, List.map_cons, List.map_nil]; exact HF8.out) ?_
                refine hK.out _ _ trivial (fun _ => ?_)
                clear hK K
                try simp only [Act.put, List.setIfInBounds_toArray, List.set_cons_zero, List.set_cons_succ]
                have gA4 : Chg none w3 (World.alloc w3 (Obj.cells #[Value.int IntKind.u8 0, Value.int IntKind.u8 0, Value.int IntKind.u8 0, Value.int IntKind.u8 0, Value.int IntKind.u8 0, Value.int IntKind.u8 0, Value.int IntKind.u8 0, Value.int IntKind.u8 (IntKind.u8.wrap (p.x.length : Int))] 5)) := (Chg.refl _ _).alloc _
                have E4 := E3.trans gA4
                have N4 : Blk (World.alloc w3 (Obj.cells #[Value.int IntKind.u8 0, Value.int IntKind.u8 0, Value.int IntKind.u8 0, Value.int IntKind.u8 0, Value.int IntKind.u8 0, Value.int IntKind.u8 0, Value.int IntKind.u8 0, Value.int IntKind.u8 (IntKind.u8.wrap (p.x.length : Int))] 5)) (w3.heap.size) #[Value.int IntKind.u8 0, Value.int IntKind.u8 0, Value.int IntKind.u8 0, Value.int IntKind.u8 0, Value.int IntKind.u8 0, Value.int IntKind.u8 0, Value.int IntKind.u8 0, Value.int IntKind.u8 (IntKind.u8.wrap (p.x.length : Int))] 5 := Blk.newAt _ _ (by simp)
                refine wpAnyH_ready (rs := [7]) (by kernel_rfl) (by simp) ?_
                refine AllReadyH.cons (o := ⟨some 63, _, _, _, _, _⟩) rfl (fun K hK => ?_) (AllReadyH.nil)
                go_simp
                refine hK.out _ _ trivial (fun _ => ?_)
                clear hK K
                try simp only [Act.put, List.setIfInBounds_toArray, List.set_cons_zero, List.set_cons_succ]
                have gA5 : Chg none (World.alloc w3 (Obj.cells #[Value.int IntKind.u8 0, Value.int IntKind.u8 0, Value.int IntKind.u8 0, Value.int IntKind.u8 0, Value.int IntKind.u8 0, Value.int IntKind.u8 0, Value.int IntKind.u8 0, Value.int IntKind.u8 (IntKind.u8.wrap (p.x.length : Int))] 5)) (World.alloc (World.alloc w3 (Obj.cells #[Value.int IntKind.u8 0, Value.int IntKind.u8 0, Value.int IntKind.u8 0, Value.int IntKind.u8 0, Value.int IntKind.u8 0, Value.int IntKind.u8 0, Value.int IntKind.u8 0, Value.int IntKind.u8 (IntKind.u8.wrap (p.x.length : Int))] 5)) (Obj.cells #[Value.slice (some ⟨w3.heap.size, 0, none⟩) 8 8, Value.slice (some ⟨pT, 0, none⟩) 32 32] 22)) := (Chg.refl _ _).alloc _
                have E5 := E4.trans gA5
                have P_5 := Blk.chg N4 gA5 (by simp)
                have N5 : Blk (World.alloc (World.alloc w3 (Obj.cells #[Value.int IntKind.u8 0, Value.int IntKind.u8 0, Value.int IntKind.u8 0, Value.int IntKind.u8 0, Value.int IntKind.u8 0, Value.int IntKind.u8 0, Value.int IntKind.u8 0, Value.int IntKind.u8 (IntKind.u8.wrap (p.x.length : Int))] 5)) (Obj.cells #[Value.slice (some ⟨w3.heap.size, 0, none⟩) 8 8, Value.slice (some ⟨pT, 0, none⟩) 32 32] 22)) (w3.heap.size + 1) #[Value.slice (some ⟨w3.heap.size, 0, none⟩) 8 8, Value.slice (some ⟨pT, 0, none⟩) 32 32] 22 := Blk.newAt _ _ (by simp)
                refine wpAnyH_ready (rs := [8]) (by kernel_rfl) (by simp) ?_
                refine AllReadyH.cons (o := ⟨some 64, _, _, _, _, _⟩) rfl (fun K hK => ?_) (AllReadyH.nil)
                go_simp
                go_at_call 19
                refine (HPT.out _ _ _ E5 P_5 N5).mono ?_
                rintro e w6 ⟨rfl, g6⟩
                have E6 := E5.trans g6
                have P_6 := Blk.chg P_5 g6 (by simp)
                have Q_6 := Blk.chg N5 g6 (by simp)
                go_wp2_with fail
                refine hK.out _ _ trivial (fun _ => ?_)
                clear hK K
                try simp only [Act.put, List.setIfInBounds_toArray, List.set_cons_zero, List.set_cons_succ]
                refine wpAnyH_listed #[true, true, true, true, true, true, true, true, true, false, false, false, false, false, false, false, false, false, false, false, false, false] (by kernel_rfl) ?_
                exact HMEET.out _ _ ⟨.slice (some ⟨w3.heap.size, 0, none⟩) 8 8, .slice (some ⟨w3.heap.size + 1, 0, none⟩) 2 2, by simp only [Act.put, List.setIfInBounds_toArray, List.set_cons_zero, List.set_cons_succ], E6⟩
            · as_aux_lemma =>
                rw [if_pos (by rfl)]
                refine wp_buildSlice 22 5 8 _ (by rfl) #[Value.int IntKind.u8 0, Value.int IntKind.u8 0, Value.int IntKind.u8 0, Value.int IntKind.u8 0, Value.int IntKind.u8 0, Value.int IntKind.u8 0, Value.int IntKind.u8 0, Value.int IntKind.u8 (IntKind.u8.wrap (p.x.length : Int))] j0 (.int .u8 0) Tryd.underlying22 hj0 hy0 (by rw [hy1]; decide) (by rw [hy1]; decide) (by simp only [List.map_toArray, List.map_cons, List.map_nil]; exact HF8.out) ?_
                refine hK.out _ _ trivial (fun _ => ?_)
                clear hK K
                try simp only [Act.put, List.setIfInBounds_toArray, List.set_cons_zero, List.set_cons_succ]
                have gA7 : Chg none v0 (World.alloc v0 (Obj.cells #[Value.int IntKind.u8 0, Value.int IntKind.u8 0, Value.int IntKind.u8 0, Value.int IntKind.u8 0, Value.int IntKind.u8 0, Value.int IntKind.u8 0, Value.int IntKind.u8 0, Value.int IntKind.u8 (IntKind.u8.wrap (p.x.length : Int))] 5)) := (Chg.refl _ _).alloc _
                have E7 := E0.trans gA7
                have N7 : Blk (World.alloc v0 (Obj.cells #[Value.int IntKind.u8 0, Value.int IntKind.u8 0, Value.int IntKind.u8 0, Value.int IntKind.u8 0, Value.int IntKind.u8 0, Value.int IntKind.u8 0, Value.int IntKind.u8 0, Value.int IntKind.u8 (IntKind.u8.wrap (p.x.length : Int))] 5)) (v0.heap.size) #[Value.int IntKind.u8 0, Value.int IntKind.u8 0, Value.int IntKind.u8 0, Value.int IntKind.u8 0, Value.int IntKind.u8 0, Value.int IntKind.u8 0, Value.int IntKind.u8 0, Value.int IntKind.u8 (IntKind.u8.wrap (p.x.length : Int))] 5 := Blk.newAt _ _ (by simp)
                refine wpAnyH_ready (rs := [1, 7]) (by kernel_rfl) (by simp) ?_
                refine AllReadyH.cons (o := ⟨some 57, _, _, _, _, _⟩) rfl (fun K hK => ?_) (AllReadyH.cons (o := ⟨some 63, _, _, _, _, _⟩) rfl (fun K hK => ?_) (AllReadyH.nil))
                · as_aux_lemma =>
                    go_simp
                    go_at_call 28
                    refine (HRT.out E7).mono ?_
                    rintro e w8 ⟨rfl, g8⟩
                    have E8 := E7.trans g8
                    have P_8 := Blk.chg N7 g8 (by simp)
                    go_wp2_with fail
                    refine hK.out _ _ trivial (fun _ => ?_)
                    clear hK K
                    try simp only [Act.put, List.setIfInBounds_toArray, List.set_cons_zero, List.set_cons_succ]
                    refine wpAnyH_ready (rs := [7]) (by kernel_rfl) (by simp) ?_
                    refine AllReadyH.cons (o := ⟨some 63, _, _, _, _, _⟩) rfl (fun K hK => ?_) (AllReadyH.nil)
                    go_simp
                    refine hK.out _ _ trivial (fun _ => ?_)
                    clear hK K
                    try simp only [Act.put, List.setIfInBounds_toArray, List.set_cons_zero, List.set_cons_succ]
                    have gA9 : Chg none w8 (World.alloc w8 (Obj.cells #[Value.slice (some ⟨v0.heap.size, 0, none⟩) 8 8, Value.slice (some ⟨pT, 0, none⟩) 32 32] 22)) := (Chg.refl _ _).alloc _
                    have E9 := E8.trans gA9
                    have P_9 := Blk.chg P_8 gA9 (by simp)
                    have N9 : Blk (World.alloc w8 (Obj.cells #[Value.slice (some ⟨v0.heap.size, 0, none⟩) 8 8, Value.slice (some ⟨pT, 0, none⟩) 32 32] 22)) (w8.heap.size) #[Value.slice (some ⟨v0.heap.size, 0, none⟩) 8 8, Value.slice (some ⟨pT, 0, none⟩) 32 32] 22 := Blk.newAt _ _ (by simp)
                    refine wpAnyH_ready (rs := [8]) (by kernel_rfl) (by simp) ?_
                    refine AllReadyH.cons (o := ⟨some 64, _, _, _, _, _⟩) rfl (fun K hK => ?_) (AllReadyH.nil)
                    go_simp
                    go_at_call 19
                    refine (HPT.out _ _ _ E9 P_9 N9).mono ?_
                    rintro e w10 ⟨rfl, g10⟩
                    have E10 := E9.trans g10
                    have P_10 := Blk.chg P_9 g10 (by simp)
                    have Q_10 := Blk.chg N9 g10 (by simp)
                    go_wp2_with fail
                    refine hK.out _ _ trivial (fun _ => ?_)
                    clear hK K
                    try simp only [Act.put, List.setIfInBounds_toArray, List.set_cons_zero, List.set_cons_succ]
                    refine wpAnyH_listed #[true, true, true, true, true, true, true, true, true, false, false, false, false, false, false, false, false, false, false, false, false, false] (by kernel_rfl) ?_
                    exact HMEET.out _ _ ⟨.slice (some ⟨v0.heap.size, 0, none⟩) 8 8, .slice (some ⟨w8.heap.size, 0, none⟩) 2 2, by simp only [Act.put, List.setIfInBounds_toArray, List.set_cons_zero, List.set_cons_succ], E10⟩
                · as_aux_lemma =>
                    go_simp
                    refine hK.out _ _ trivial (fun _ => ?_)
                    clear hK K
                    try simp only [Act.put, List.setIfInBounds_toArray, List.set_cons_zero, List.set_cons_succ]
                    have gA11 : Chg none (World.alloc v0 (Obj.cells #[Value.int IntKind.u8 0, Value.int IntKind.u8 0, Value.int IntKind.u8 0, Value.int IntKind.u8 0, Value.int IntKind.u8 0, Value.int IntKind.u8 0, Value.int IntKind.u8 0, Value.int IntKind.u8 (IntKind.u8.wrap (p.x.length : Int))] 5)) (World.alloc (World.alloc v0 (Obj.cells #[Value.int IntKind.u8 0, Value.int IntKind.u8 0, Value.int IntKind.u8 0, Value.int IntKind.u8 0, Value.int IntKind.u8 0, Value.int IntKind.u8 0, Value.int IntKind.u8 0, Value.int IntKind.u8 (IntKind.u8.wrap (p.x.length : Int))] 5)) (Obj.cells #[Value.slice (some ⟨v0.heap.size, 0, none⟩) 8 8, Value.slice (some ⟨pT, 0, none⟩) 32 32] 22)) := (Chg.refl _ _).alloc _
                    have E11 := E7.trans gA11
                    have P_11 := Blk.chg N7 gA11 (by simp)
                    have N11 : Blk (World.alloc (World.alloc v0 (Obj.cells #[Value.int IntKind.u8 0, Value.int IntKind.u8 0, Value.int IntKind.u8 0, Value.int IntKind.u8 0, Value.int IntKind.u8 0, Value.int IntKind.u8 0, Value.int IntKind.u8 0, Value.int IntKind.u8 (IntKind.u8.wrap (p.x.length : Int))] 5)) (Obj.cells #[Value.slice (some ⟨v0.heap.size, 0, none⟩) 8 8, Value.slice (some ⟨pT, 0, none⟩) 32 32] 22)) (v0.heap.size + 1) #[Value.slice (some ⟨v0.heap.size, 0, none⟩) 8 8, Value.slice (some ⟨pT, 0, none⟩) 32 32] 22 := Blk.newAt _ _ (by simp)
                    refine wpAnyH_ready (rs := [1]) (by kernel_rfl) (by simp) ?_
                    refine AllReadyH.cons (o := ⟨some 57, _, _, _, _, _⟩) rfl (fun K hK => ?_) (AllReadyH.nil)
                    go_simp
                    go_at_call 28
                    refine (HRT.out E11).mono ?_
                    rintro e w12 ⟨rfl, g12⟩
                    have E12 := E11.trans g12
                    have P_12 := Blk.chg P_11 g12 (by simp)
                    have Q_12 := Blk.chg N11 g12 (by simp)
                    go_wp2_with fail
                    refine hK.out _ _ trivial (fun _ => ?_)
                    clear hK K
                    try simp only [Act.put, List.setIfInBounds_toArray, List.set_cons_zero, List.set_cons_succ]
                    refine wpAnyH_ready (rs := [8]) (by kernel_rfl) (by simp) ?_
                    refine AllReadyH.cons (o := ⟨some 64, _, _, _, _, _⟩) rfl (fun K hK => ?_) (AllReadyH.nil)
                    go_simp
                    go_at_call 19
                    refine (HPT.out _ _ _ E12 P_12 Q_12).mono ?_
                    rintro e w13 ⟨rfl, g13⟩
                    have E13 := E12.trans g13
                    have P_13 := Blk.chg P_12 g13 (by simp)
                    have Q_13 := Blk.chg Q_12 g13 (by simp)
                    go_wp2_with fail
                    refine hK.out _ _ trivial (fun _ => ?_)
                    clear hK K
                    try simp only [Act.put, List.setIfInBounds_toArray, List.set_cons_zero, List.set_cons_succ]
                    refine wpAnyH_listed #[true, true, true, true, true, true, true, true, true, false, false, false, false, false, false, false, false, false, false, false, false, false] (by kernel_rfl) ?_
                    exact HMEET.out _ _ ⟨.slice (some ⟨v0.heap.size, 0, none⟩) 8 8, .slice (some ⟨v0.heap.size + 1, 0, none⟩) 2 2, by simp only [Act.put, List.setIfInBounds_toArray, List.set_cons_zero, List.set_cons_succ], E13⟩

end Go.Proofs.YtdkgecphkppglaaDoor
