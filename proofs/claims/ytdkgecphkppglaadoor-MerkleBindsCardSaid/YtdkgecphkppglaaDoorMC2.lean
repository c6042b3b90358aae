/-
  Package merkle: Check.
-/
import Derived.Test.YtdkgecphkppglaaDoorMC1
namespace Go.Proofs.YtdkgecphkppglaaDoor
open Go.RowKit

/-- Digests in memory, in some block below B. -/
def DgsAt (w : World) (B : Nat) (A : Option Addr) (L : List Dg) : Prop := 0 < L.length → ∃ b o, A = some ⟨b, o, none⟩ ∧ b < B ∧ w.rangeAt b o (flat L)

theorem DgsAt.chg {w w' : World} {B : Nat} {A : Option Addr} {L : List Dg} {c : Option Nat} (h : DgsAt w B A L) (g : Chg c w w') (hc : ∀ b, b < B → some b ≠ c) : DgsAt w' B A L := fun h0 => by
  obtain ⟨b, o, e, hb, hr⟩ := h h0
  exact ⟨b, o, e, hb, rangeAt_chg hr g (hc b hb)⟩
theorem flat_cons (d : Dg) (L : List Dg) : flat (d :: L) = byteVals d.1 ++ flat L := List.flatMap_cons
theorem DgsAt.cut {w : World} {B : Nat} {A : Option Addr} {d : Dg} {L : List Dg} (h : DgsAt w B A (d :: L)) {c : Nat} (hc : L.length + 1 ≤ c) : DgsAt w B (if c = 1 then A else A.map (·.add 32)) L := fun h0 => by
  obtain ⟨b, o, rfl, hb, hr⟩ := h (by simp)
  rw [if_neg (by omega)]
  refine ⟨b, o + 32, by rw [Option.map_some, Go.WideShapes.add_plain], hb, fun j v hv => ?_⟩
  have := hr (32 + j) v (by rw [flat_cons, List.getElem?_append_right (by rw [byteVals_len, d.2]; omega), byteVals_len, d.2, Nat.add_sub_cancel_left]; exact hv)
  rwa [← Nat.add_assoc] at this
theorem DgsAt.head {w : World} {b o : Nat} {d : Dg} {L : List Dg} (h : w.rangeAt b o (flat (d :: L))) : w.rangeAt b o (byteVals d.1) := fun j v hv => h j v (by
  have hj := (List.getElem?_eq_some_iff.1 hv).1
  rw [flat_cons, List.getElem?_append_left hj]; exact hv)

theorem cut51 (A : Option Addr) (n c : Nat) (h1 : 1 ≤ n) (h2 : n ≤ c) (w : World) :
    (Instr.sliceAt 51 (.slice A n c) (some (.int .i64 1)) none none).run Tryd.prog w = .ok (.slice (if c = 1 then A else A.map (·.add 32)) (n - 1) (c - 1)) w := by
  have u51 := Tryd.underlying51
  have z30 : ∀ w, (sizeOf 30).run Tryd.prog w = .ok 32 w := fun _ => by kernel_rfl
  have h3 : (1 : Int) ≤ n := by omega
  have h4 : (n : Int) ≤ c := by omega
  have h5 : (1 : Int) ≤ c := by omega
  go_simp

theorem check_no1 (root : Dg) (n i : Int) (p : Prt) (A : Option Addr) (m c : Nat) (w : World) (h : i < 0 ∨ n < 0 ∨ ∃ N k : Nat, n = N ∧ i = k ∧ N < 9223372036854775808 ∧ cntN N ≤ k) :
    Calls Tryd.prog 35 #[.agg (byteVals root.1).toArray, .int .i64 n, .int .i64 i, .slice p.A p.x.length p.c, .slice A m c] w fun e w' => e = .returned (.bool false) ∧ Chg none w w' := by
  have HI : Hid (∀ v : World, Calls Tryd.prog 54 #[.int .i64 n, .int .i64 i] v fun e w' => e = .returned (.bool false) ∧ v = w') := fun v => by
    rcases h with h | h | ⟨N, k, rfl, rfl, hN, hk⟩
    · exact ischunk_low _ _ h v
    · exact ischunk_neg _ _ h v
    · have := ischunk_nat N k hN v
      rwa [show decide (k < cntN N) = false by simp; omega] at this
  clear h
  have gA : Chg none w (w.alloc (.cells (byteVals root.1).toArray 30)) := (Chg.refl _ _).alloc _
  go_enter Tryd.func35, Tryd.ntmps35
  go_wp2_with fail
  refine (HI.out _).mono ?_
  rintro e w' ⟨rfl, rfl⟩
  go_wp2_with fail
  go_ret
  exact ⟨rfl, gA⟩

theorem check_no2 (root : Dg) (N i : Nat) (p : Prt) (A : Option Addr) (m c : Nat) (w : World) (hN : N < 9223372036854775808) (hi : i < cntN N) (hl : p.x.length ≠ chunkN N i) :
    Calls Tryd.prog 35 #[.agg (byteVals root.1).toArray, .int .i64 N, .int .i64 i, .slice p.A p.x.length p.c, .slice A m c] w fun e w' => e = .returned (.bool false) ∧ Chg none w w' := by
  have HI := Lib.hid (fun v => ischunk_nat N i hN v)
  have hid : decide (i < cntN N) = true := by simpa using hi
  rw [hid] at HI
  have HC := Lib.hid (fun v => chunk_len N i hN (cnt_lo hi) v)
  have gA : Chg none w (w.alloc (.cells (byteVals root.1).toArray 30)) := (Chg.refl _ _).alloc _
  have t1 : ((p.x.length : Int) != (chunkN N i : Nat)) = true := by simp; omega
  generalize chunkN N i = cn at *
  clear hid hi hl
  go_enter Tryd.func35, Tryd.ntmps35
  go_wp2_with fail
  refine (HI.out _).mono ?_
  rintro e w' ⟨rfl, rfl⟩
  go_wp2_with fail
  refine (HC.out _).mono ?_
  rintro e w' ⟨rfl, rfl⟩
  go_wp2_with fail
  go_ret
  exact ⟨rfl, gA⟩

set_option maxRecDepth 100000 in
set_option maxHeartbeats 8000000 in
theorem check_any (root : Dg) (N i : Nat) (p : Prt) (A : Option Addr) (P : List Dg) (c : Nat) (w : World) (hp : p.ok w) (hN : N < 9223372036854775808) (hi : i < cntN N) (hl : p.x.length = chunkN N i)
    (hP : DgsAt w w.heap.size A P) (hc : P.length ≤ c) (hPl : P.length ≤ 1000000) (hT : Tabs w) :
    Calls Tryd.prog 35 #[.agg (byteVals root.1).toArray, .int .i64 N, .int .i64 i, .slice p.A p.x.length p.c, .slice A P.length c] w fun e w' => e = .returned (.bool (checkB root.1 N i p.x P)) ∧ Chg none w w' := by
  unfold checkB
  obtain ⟨d0, hd0⟩ : ∃ d0 : Dg, d0 = ⟨leafB i p.x, dig_len _⟩ := ⟨_, rfl⟩
  have hd1 : leafB i p.x = d0.1 := by rw [hd0]
  rw [← hd0]
  obtain ⟨R0, hR0⟩ : ∃ R0, R0 = climb (cntN N) i d0 P := ⟨_, rfl⟩
  rw [← hR0]
  have HR0 := Lib.hid hR0.symm
  have HI := Lib.hid (fun v => ischunk_nat N i hN v)
  have hid : decide (i < cntN N) = true := by simpa using hi
  rw [hid] at HI
  have HC := Lib.hid (fun v => chunk_len N i hN (cnt_lo hi) v)
  have hcn : chunkN N i ≤ 64 := by unfold chunkN; omega
  have t1 : ((p.x.length : Int) != (chunkN N i : Nat)) = false := by simp [hl]
  have HCT := Lib.hid (fun v => count_nat N hN v)
  have hcnt : cntN N ≤ 9223372036854775807 := by unfold cntN; omega
  have HLF : Hid (∀ v, Chg none w v → Calls Tryd.prog 60 #[.int .i64 i, .slice p.A p.x.length p.c] v fun e w' => e = .returned (.agg (byteVals d0.1).toArray) ∧ Chg none v w') := fun v g => by
    have := leaf_any i p v (hp.chg g) (by omega) (by omega) (hT.chg g (by simp))
    rwa [hd1] at this
  obtain ⟨hds, hdo⟩ := row_facts d0.1 32 d0.2
  have HI0 : Hid ((Tryd.prog.info? 30).map (·.size) = some (byteVals d0.1).toArray.size) := by rw [hds]; show _ = _; kernel_rfl
  have HZ0 : Hid (zero32.size = (byteVals d0.1).toArray.size) := by rw [hds]; rfl
  have HO0 := Lib.hid hdo
  have gA : Chg none w (w.alloc (.cells (byteVals root.1).toArray 30)) := (Chg.refl _ _).alloc _
  have bRt : BlkL (w.alloc (.cells (byteVals root.1).toArray 30)) w.heap.size (byteVals root.1) 30 := Blk.new _ _ _
  have hwlt : w.heap.size < (w.alloc (.cells (byteVals root.1).toArray 30)).heap.size := by simp
  have hwle : w.heap.size ≤ w.heap.size := Nat.le_refl _
  have hi2 : i < 9223372036854775808 := by omega
  generalize chunkN N i = cn at *
  generalize cntN N = C0 at *
  obtain ⟨i0, hii⟩ : ∃ i0 : Nat, i0 = i := ⟨_, rfl⟩
  have HII := Lib.hid hii
  clear hid hl hR0 hd0 hd1 hds hdo hii
  go_enter Tryd.func35, Tryd.ntmps35
  go_wp2_with fail
  generalize w.alloc (.cells (byteVals root.1).toArray 30) = v1 at *
  generalize hpR : w.heap.size = pR at *
  have HPR := Lib.hid hpR
  clear hpR
  refine (HI.out _).mono ?_
  rintro e w' ⟨rfl, rfl⟩
  go_wp2_with fail
  refine (HC.out _).mono ?_
  rintro e w' ⟨rfl, rfl⟩
  go_wp2_with fail
  refine (HLF.out _ gA).mono ?_
  rintro e w2 ⟨rfl, g2⟩
  have g02 := gA.trans g2
  have bRt2 := Blk.chg bRt g2 (by simp)
  have HNW := Lib.hid (heap_alloc_new w2 (.cells zero32 30))
  obtain ⟨gN, hN2⟩ := new_row w2 (byteVals d0.1).toArray
  obtain ⟨W3, hW3⟩ : ∃ W3, W3 = (w2.alloc (.cells zero32 30)).setRow w2.heap.size (byteVals d0.1).toArray := ⟨_, rfl⟩
  have HW3 : Hid ((w2.alloc (.cells #[Value.int IntKind.u8 0, Value.int IntKind.u8 0, Value.int IntKind.u8 0, Value.int IntKind.u8 0, Value.int IntKind.u8 0, Value.int IntKind.u8 0, Value.int IntKind.u8 0, Value.int IntKind.u8 0, Value.int IntKind.u8 0, Value.int IntKind.u8 0, Value.int IntKind.u8 0, Value.int IntKind.u8 0, Value.int IntKind.u8 0, Value.int IntKind.u8 0, Value.int IntKind.u8 0, Value.int IntKind.u8 0, Value.int IntKind.u8 0, Value.int IntKind.u8 0, Value.int IntKind.u8 0, Value.int IntKind.u8 0, Value.int IntKind.u8 0, Value.int IntKind.u8 0, Value.int IntKind.u8 0, Value.int IntKind.u8 0, Value.int IntKind.u8 0, Value.int IntKind.u8 0, Value.int IntKind.u8 0, Value.int IntKind.u8 0, Value.int IntKind.u8 0, Value.int IntKind.u8 0, Value.int IntKind.u8 0, Value.int IntKind.u8 0] 30)).setRow w2.heap.size (byteVals d0.1).toArray = W3) := hW3.symm
  rw [← hW3] at gN hN2
  clear hW3
  go_wp2_with (refine wpList_store_row rfl 30 _ _ rfl w2.heap.size (byteVals d0.1).toArray rfl rfl 30 _ HNW.out HI0.out HZ0.out HO0.out ?_)
  rw [HW3.out]
  clear HW3 HNW HI0 HZ0 HO0 HLF HI HC
  have hpD1 : w2.heap.size ≠ pR := by have := Blk.lt bRt2; omega
  have hpD2 : pR ≤ w2.heap.size := by have := Blk.lt bRt2; omega
  have bRt3 := Blk.chg bRt2 gN (by simp)
  have g03 := g02.trans gN
  generalize w2.heap.size = pD at *
  refine (HCT.out _).mono ?_
  rintro e w' ⟨rfl, rfl⟩
  go_wp2_with fail
  have hP3 := hP.chg g03 (by simp)
  go_loopw [2, 4, 12] (fun s2 s4 s12 wr => ∃ (n j : Nat) (d : Dg) (L : List Dg) (A : Option Addr) (c : Nat), s12 = .int .i64 n ∧ s2 = .int .i64 j ∧ s4 = .slice A L.length c ∧ BlkL wr pD (byteVals d.1) 30 ∧ BlkL wr pR (byteVals root.1) 30 ∧ DgsAt wr pR A L ∧ L.length ≤ c ∧ L.length ≤ 1000000 ∧ n ≤ 9223372036854775807 ∧ j < n ∧ Hid (climb n j d L = R0) ∧ Chg none w wr) (fun _ _ s12 _ => (intOf s12).toNat)
  case atStart => exact ⟨C0, i, d0, P, A, c, rfl, rfl, rfl, hN2, bRt3, hP3, hc, hPl, hcnt, hi, HR0, g03⟩
  case round =>
    obtain ⟨n, j, d, L, A, c, rfl, rfl, rfl, bD, bR, hL, hLc, hLl, hn, hj, HR, gr⟩ := hrel
    clear HR0 hP3 g03 gN hN2 bRt3 bRt2 g02 hP hc hPl gA bRt hcnt hi hp hwlt hwle hi2 HII HCT
    by_cases h1 : 1 < n
    · have hnl : decide ((1 : Int) < (n : Int)) = true := by simp; omega
      have HAL := Lib.hid (fun v => alone_nat n j (by omega) (by omega) v)
      have HHF := Lib.hid (fun v => half_nat n (by omega) v)
      have hdv : ((j / 2 : Nat) : Int) = (j : Int) / 2 := by omega
      have HDV := Lib.hid hdv
      by_cases ha : aloneB n j = true
      · have hs := climb_alone n j d L h1 ha
        rw [ha] at HAL
        have HS := Lib.hid hs
        clear hs ha hdv
        go_wp2_with fail
        refine (HAL.out _).mono ?_
        rintro e w' ⟨rfl, rfl⟩
        go_wp2_with fail
        refine (HHF.out _).mono ?_
        rintro e w' ⟨rfl, rfl⟩
        go_wp2_with fail
        go_roundw
        case rel => exact ⟨(n + 1) / 2, j / 2, d, L, A, c, rfl, by rw [HDV.out], rfl, bD, bR, hL, hLc, hLl, by omega, by omega, by show _ = _; rw [← HS.out]; exact HR.out, gr⟩
        case measure => simp only [intOf]; omega
      · have ha' : aloneB n j = false := by simpa using ha
        rw [ha'] at HAL
        match L, hL, hLc, hLl, HR with
        | [], hL, hLc, hLl, HR =>
          have hs := climb_nil n j d h1 ha'
          have hr : R0 = none := by rw [← HR.out, hs]
          subst hr
          clear hs ha ha' hdv HR
          go_wp2_with fail
          refine (HAL.out _).mono ?_
          rintro e w' ⟨rfl, rfl⟩
          go_wp2_with fail
          go_ret
          exact ⟨rfl, gr⟩
        | q :: L', hL, hLc, hLl, HR =>
          have hs := climb_cons n j d q L' h1 ha'
          rw [hs] at HR
          obtain ⟨b, o, rfl, hb, hra⟩ := hL (by simp)
          have hq := DgsAt.head hra
          have HOR := Lib.hid (fun (v : World) (g : Chg none w v) => ordered_any j d q v (by omega) (hT.chg g (by simp)))
          obtain ⟨D, hD⟩ : ∃ D, D = orderedDg j d q := ⟨_, rfl⟩
          rw [← hD] at HOR HR
          have hsz : (q :: L').length = L'.length + 1 := rfl
          rw [hsz] at hLc hLl ⊢
          obtain ⟨m, hm⟩ : ∃ m, m = L'.length := ⟨_, rfl⟩
          rw [← hm] at hLc hLl ⊢
          have HM := Lib.hid hm
          have t3 : (((m + 1 : Nat) : Int) == 0) = false := by simp; omega
          have t4 : (0 : Int) < ((m + 1 : Nat) : Int) := by omega
          have HId : Hid ((Tryd.prog.info? 30).map (·.size) = some (byteVals d.1).length) := by rw [byteVals_len, d.2]; show _ = _; kernel_rfl
          have HIq : Hid ((Tryd.prog.info? 30).map (·.size) = some (byteVals q.1).length) := by rw [byteVals_len, q.2]; show _ = _; kernel_rfl
          obtain ⟨hds, hdo⟩ := row_facts D.1 32 D.2
          have HI0 : Hid ((Tryd.prog.info? 30).map (·.size) = some (byteVals D.1).toArray.size) := by rw [hds]; show _ = _; kernel_rfl
          have hdd := (row_facts d.1 32 d.2).1
          have HZ0 : Hid ((byteVals d.1).toArray.size = (byteVals D.1).toArray.size) := hdd.trans hds.symm
          have HO0 := Lib.hid hdo
          have rD := Blk.range bD
          obtain ⟨A2, hA2⟩ : ∃ A2, A2 = (if c = 1 then (some ⟨b, o, none⟩ : Option Addr) else (some ⟨b, o, none⟩ : Option Addr).map (·.add 32)) := ⟨_, rfl⟩
          have HCU : Hid (∀ v, (Instr.sliceAt 51 (.slice (some ⟨b, o, none⟩) (m + 1) c) (some (.int .i64 1)) none none).run Tryd.prog v = .ok (.slice A2 m (c - 1)) v) := fun v => by
            have h := cut51 (some ⟨b, o, none⟩) (m + 1) c (by omega) (by omega) v
            rw [← hA2] at h; exact h
          have hcut := DgsAt.cut hL (c := c) (by omega)
          rw [← hA2] at hcut
          have HL' := Lib.hid hcut
          clear hcut hA2
          clear hs ha ha' hdv hds hdo hdd hD hm hsz hra hL
          go_wp2_with fail
          refine (HAL.out _).mono ?_
          rintro e w' ⟨rfl, rfl⟩
          go_wp2_with fail
          have bD0 := bD.drew
          have bR0 := bR.drew
          have gr0 := gr.drew
          refine wp_region_held_drew (S := fun _ => True) (by kernel_rfl) trivial (fun _ => ?_)
          have rD0 : wr.drew.rangeAt pD 0 (byteVals d.1) := rD
          have rq0 : wr.drew.rangeAt b o (byteVals q.1) := hq
          have HOR0 := Lib.hid (HOR.out _ gr0)
          have HL0 := Lib.hid (show DgsAt wr.drew pR A2 L' from HL'.out)
          clear bD bR rD hq gr HL' HOR
          generalize wr.drew = v0 at *
          refine wpAnyH_take (i := 0) (oi := ⟨some 41, _, _, _, _, _⟩) (v := ?_) rfl (by kernel_rfl) (by kernel_rfl) (by kernel_rfl) (fun _ _ _ h => h) (Or.inl ⟨by rfl, ?_⟩) (by assumption) ?_
          rotate_left
          · intro w hSw; (try dsimp only at hSw); go_simp; (try with_reducible rfl)
          try simp only [Act.put, List.setIfInBounds_toArray, List.set_cons_zero, List.set_cons_succ]
          refine wpAnyH_take (i := 2) (oi := ⟨some 43, _, _, _, _, _⟩) (v := ?_) rfl (by kernel_rfl) (by kernel_rfl) (by kernel_rfl) (fun _ _ _ h => h) (Or.inl ⟨by rfl, ?_⟩) (by assumption) ?_
          rotate_left
          · intro w hSw; (try dsimp only at hSw); go_simp; (try with_reducible rfl)
          try simp only [Act.put, List.setIfInBounds_toArray, List.set_cons_zero, List.set_cons_succ]
          refine wpAnyH_take (i := 3) (oi := ⟨some 44, _, _, _, _, _⟩) (v := ?_) rfl (by kernel_rfl) (by kernel_rfl) (by kernel_rfl) (fun _ _ _ h => h) (Or.inl ⟨by rfl, ?_⟩) (by assumption) ?_
          rotate_left
          · intro w hSw; (try dsimp only at hSw); go_simp; (try with_reducible rfl)
          try simp only [Act.put, List.setIfInBounds_toArray, List.set_cons_zero, List.set_cons_succ]
          refine wpAnyH_ready (rs := [1, 4]) (by kernel_rfl) (by simp) ?_
          refine AllReadyH.cons (o := ⟨some 42, _, _, _, _, _⟩) rfl (fun K hK => ?_) (AllReadyH.cons (o := ⟨some 45, _, _, _, _, _⟩) rfl (fun K hK => ?_) (AllReadyH.nil))
          · rw [if_pos (by rfl)]
            refine wp_load_mid 30 (.tmp 11) (by rfl) pD 0 (by rfl) (byteVals d.1) _ rD0 Tryd.underlying30 rfl HId.out ?_
            refine hK.out _ _ trivial (fun _ => ?_)
            clear hK K
            try simp only [Act.put, List.setIfInBounds_toArray, List.set_cons_zero, List.set_cons_succ]
            refine wpAnyH_ready (rs := [4]) (by kernel_rfl) (by simp) ?_
            refine AllReadyH.cons (o := ⟨some 45, _, _, _, _, _⟩) rfl (fun K hK => ?_) (AllReadyH.nil)
            rw [if_pos (by rfl)]
            refine wp_load_mid 30 (.tmp 44) (by rfl) b o (by rfl) (byteVals q.1) _ rq0 Tryd.underlying30 rfl HIq.out ?_
            refine hK.out _ _ trivial (fun _ => ?_)
            clear hK K
            try simp only [Act.put, List.setIfInBounds_toArray, List.set_cons_zero, List.set_cons_succ]
            refine wpAnyH_ready (rs := [5]) (by kernel_rfl) (by simp) ?_
            refine AllReadyH.cons (o := ⟨some 46, _, _, _, _, _⟩) rfl (fun K hK => ?_) (AllReadyH.nil)
            go_simp
            go_at_call 62
            refine (HOR0.out).mono ?_
            rintro e w5 ⟨rfl, g5⟩
            have bD5 := Blk.chg bD0 g5 (by simp)
            go_wp2_with fail
            refine hK.out _ _ trivial (fun _ => ?_)
            clear hK K
            try simp only [Act.put, List.setIfInBounds_toArray, List.set_cons_zero, List.set_cons_succ]
            refine wpAnyH_ready (rs := [6]) (by kernel_rfl) (by simp) ?_
            refine AllReadyH.cons (o := ⟨none, _, _, _, _, _⟩) rfl (fun K hK => ?_) (AllReadyH.nil)
            rw [if_pos (by rfl)]
            refine wp_store_row 30 (.tmp 11) (.tmp 46) (by rfl) pD (byteVals D.1).toArray (by rfl) (by rfl) 30 _ bD5 HI0.out HZ0.out HO0.out ?_
            refine hK.out _ _ trivial (fun _ => ?_)
            clear hK K
            refine wpAnyH_done (by kernel_rfl) ?_ _
            have bD6 : BlkL (w5.setRow pD (byteVals D.1).toArray) pD (byteVals D.1) 30 := setRow_heap _ _ _ _ _ _ bD5
            have g6 : Chg none w (w5.setRow pD (byteVals D.1).toArray) := Chg.own (b := pD) (gr0.trans g5) (chg_setRow _ _ _) (by rw [HPR.out]; exact hpD2)
            have bR6 : BlkL (w5.setRow pD (byteVals D.1).toArray) pR (byteVals root.1) 30 := Blk.chg (Blk.chg bR0 g5 (by simp)) (chg_setRow _ pD _) (by simp; exact fun h => hpD1 h.symm)
            have HL6 := Lib.hid ((HL0.out.chg g5 (by simp)).chg (chg_setRow w5 pD (byteVals D.1).toArray) (fun x hx => by simp; omega))
            clear HL0 bR0 bD0 bD5 rD0 rq0 HOR0 g5 gr0
            generalize w5.setRow pD (byteVals D.1).toArray = v6 at *
            try simp only [Act.put]
            have hcu := HCU.out
            clear HCU
            go_wp2_with fail
            refine (HHF.out _).mono ?_
            rintro e w' ⟨rfl, rfl⟩
            go_wp2_with fail
            go_roundw
            case rel => exact ⟨(n + 1) / 2, j / 2, D, L', _, c - 1, rfl, by rw [HDV.out], by rw [← HM.out], bD6, bR6, HL6.out, by rw [← HM.out]; omega, by rw [← HM.out]; omega, by omega, by omega, HR, g6⟩
            case measure => simp only [intOf]; omega
          · rw [if_pos (by rfl)]
            refine wp_load_mid 30 (.tmp 44) (by rfl) b o (by rfl) (byteVals q.1) _ rq0 Tryd.underlying30 rfl HIq.out ?_
            refine hK.out _ _ trivial (fun _ => ?_)
            clear hK K
            try simp only [Act.put, List.setIfInBounds_toArray, List.set_cons_zero, List.set_cons_succ]
            refine wpAnyH_ready (rs := [1]) (by kernel_rfl) (by simp) ?_
            refine AllReadyH.cons (o := ⟨some 42, _, _, _, _, _⟩) rfl (fun K hK => ?_) (AllReadyH.nil)
            rw [if_pos (by rfl)]
            refine wp_load_mid 30 (.tmp 11) (by rfl) pD 0 (by rfl) (byteVals d.1) _ rD0 Tryd.underlying30 rfl HId.out ?_
            refine hK.out _ _ trivial (fun _ => ?_)
            clear hK K
            try simp only [Act.put, List.setIfInBounds_toArray, List.set_cons_zero, List.set_cons_succ]
            refine wpAnyH_ready (rs := [5]) (by kernel_rfl) (by simp) ?_
            refine AllReadyH.cons (o := ⟨some 46, _, _, _, _, _⟩) rfl (fun K hK => ?_) (AllReadyH.nil)
            go_simp
            go_at_call 62
            refine (HOR0.out).mono ?_
            rintro e w5 ⟨rfl, g5⟩
            have bD5 := Blk.chg bD0 g5 (by simp)
            go_wp2_with fail
            refine hK.out _ _ trivial (fun _ => ?_)
            clear hK K
            try simp only [Act.put, List.setIfInBounds_toArray, List.set_cons_zero, List.set_cons_succ]
            refine wpAnyH_ready (rs := [6]) (by kernel_rfl) (by simp) ?_
            refine AllReadyH.cons (o := ⟨none, _, _, _, _, _⟩) rfl (fun K hK => ?_) (AllReadyH.nil)
            rw [if_pos (by rfl)]
            refine wp_store_row 30 (.tmp 11) (.tmp 46) (by rfl) pD (byteVals D.1).toArray (by rfl) (by rfl) 30 _ bD5 HI0.out HZ0.out HO0.out ?_
            refine hK.out _ _ trivial (fun _ => ?_)
            clear hK K
            refine wpAnyH_done (by kernel_rfl) ?_ _
            have bD6 : BlkL (w5.setRow pD (byteVals D.1).toArray) pD (byteVals D.1) 30 := setRow_heap _ _ _ _ _ _ bD5
            have g6 : Chg none w (w5.setRow pD (byteVals D.1).toArray) := Chg.own (b := pD) (gr0.trans g5) (chg_setRow _ _ _) (by rw [HPR.out]; exact hpD2)
            have bR6 : BlkL (w5.setRow pD (byteVals D.1).toArray) pR (byteVals root.1) 30 := Blk.chg (Blk.chg bR0 g5 (by simp)) (chg_setRow _ pD _) (by simp; exact fun h => hpD1 h.symm)
            have HL6 := Lib.hid ((HL0.out.chg g5 (by simp)).chg (chg_setRow w5 pD (byteVals D.1).toArray) (fun x hx => by simp; omega))
            clear HL0 bR0 bD0 bD5 rD0 rq0 HOR0 g5 gr0
            generalize w5.setRow pD (byteVals D.1).toArray = v6 at *
            try simp only [Act.put]
            have hcu := HCU.out
            clear HCU
            go_wp2_with fail
            refine (HHF.out _).mono ?_
            rintro e w' ⟨rfl, rfl⟩
            go_wp2_with fail
            go_roundw
            case rel => exact ⟨(n + 1) / 2, j / 2, D, L', _, c - 1, rfl, by rw [HDV.out], by rw [← HM.out], bD6, bR6, HL6.out, by rw [← HM.out]; omega, by rw [← HM.out]; omega, by omega, by omega, HR, g6⟩
            case measure => simp only [intOf]; omega
    · have hn1 : n ≤ 1 := by omega
      have hnl : decide ((1 : Int) < (n : Int)) = false := by simp; omega
      have hce := climb_end n j d L hn1
      rw [hce] at HR
      match L, hL, hLc, hLl, HR with
      | [], hL, hLc, hLl, HR =>
        have hr : R0 = some d := by rw [← HR.out]; rfl
        subst hr
        have HRT := Lib.hid (fun (v : World) (g : Chg none w v) => root_any N d.1 hN d.2 v (hT.chg g (by simp)))
        have HIL : Hid ((Tryd.prog.info? 30).map (·.size) = some (byteVals d.1).length) := by rw [byteVals_len, d.2]; show _ = _; kernel_rfl
        have HILr : Hid ((Tryd.prog.info? 30).map (·.size) = some (byteVals root.1).length) := by rw [byteVals_len, root.2]; show _ = _; kernel_rfl
        obtain ⟨D, hD⟩ : ∃ D, D = rootOfB N d.1 := ⟨_, rfl⟩
        have hDl : D.length = 32 := by rw [hD]; exact dig_len _
        have q1 : ∀ W : World, (binOp .eql 30 (.agg (byteVals D).toArray) (.agg (byteVals root.1).toArray)).run Tryd.prog W = .ok (.bool (D == root.1)) W := fun W => eql30 D root.1 hDl root.2 W
        have hg30 := guard30
        have HD := Lib.hid hD
        rw [← hD] at HRT
        have hS0 : wr.drew.rangeAt pD 0 (byteVals d.1) ∧ wr.drew.rangeAt pR 0 (byteVals root.1) := ⟨Blk.range bD, Blk.range bR⟩
        have gr0 := gr.drew
        have HRT0 := Lib.hid (HRT.out _ gr0)
        clear hce HR hD bD bR gr HRT hL hLc hLl
        show Code.wp _ _ _ { tmps := _, defers := _ } _
        go_wp2_with fail
        refine wp_region_held_drew (S := fun w' => w'.rangeAt pD 0 (byteVals d.1) ∧ w'.rangeAt pR 0 (byteVals root.1)) (by kernel_rfl) hS0 (fun _ => ?_)
        generalize wr.drew = v0 at *
        refine wpAnyH_take (i := 0) (oi := ⟨some 51, _, _, _, _, _⟩) (v := ?_) rfl (by kernel_rfl) (by kernel_rfl) (by kernel_rfl) (fun _ _ _ h => h) (Or.inl ⟨by rfl, ?_⟩) (by assumption) ?_
        rotate_left
        · intro w hSw; (try dsimp only at hSw); go_simp; (try with_reducible rfl)
        try simp only [Act.put, List.setIfInBounds_toArray, List.set_cons_zero, List.set_cons_succ]
        refine wpAnyH_take (i := 1) (oi := ⟨some 52, _, _, _, _, _⟩) (v := ?_) rfl (by kernel_rfl) (by kernel_rfl) (by kernel_rfl) (fun _ _ _ h => h) (Or.inl ⟨by rfl, ?_⟩) (by assumption) ?_
        rotate_left
        · intro w hSw; (try dsimp only at hSw); go_simp; (try with_reducible rfl)
        try simp only [Act.put, List.setIfInBounds_toArray, List.set_cons_zero, List.set_cons_succ]
        refine wpAnyH_take (i := 2) (oi := ⟨some 53, _, _, _, _, _⟩) (v := ?_) rfl (by kernel_rfl) (by kernel_rfl) (by kernel_rfl) (fun _ _ _ h => h) (Or.inl ⟨by rfl, ?_⟩) (by assumption) ?_
        rotate_left
        · intro w hSw; (try dsimp only at hSw); go_simp; (try with_reducible rfl)
        try simp only [Act.put, List.setIfInBounds_toArray, List.set_cons_zero, List.set_cons_succ]
        refine wpAnyH_take (i := 3) (oi := ⟨some 54, _, _, _, _, _⟩) (v := ?_) rfl (by kernel_rfl) (by kernel_rfl) (by kernel_rfl) (fun _ _ _ h => h) (Or.inl ⟨by rfl, ?_⟩) (by assumption) ?_
        rotate_left
        · intro w hSw; (try dsimp only at hSw); go_simp; (try with_reducible rfl)
        try simp only [Act.put, List.setIfInBounds_toArray, List.set_cons_zero, List.set_cons_succ]
        refine wpAnyH_take (i := 4) (oi := ⟨some 55, _, _, _, _, _⟩) (v := ?_) rfl (by kernel_rfl) (by kernel_rfl) (by kernel_rfl) (fun _ _ _ h => h) (Or.inl ⟨by rfl, ?_⟩) (by assumption) ?_
        rotate_left
        · intro w hSw; (try dsimp only at hSw); go_simp; (try with_reducible rfl)
        try simp only [Act.put, List.setIfInBounds_toArray, List.set_cons_zero, List.set_cons_succ]
        refine wpAnyH_take (i := 5) (oi := ⟨some 56, _, _, _, _, _⟩) (v := .agg (byteVals d.1).toArray) rfl (by kernel_rfl) (by kernel_rfl) (by kernel_rfl) (fun _ _ _ h => h) (yieldsIf_load_mid (by rfl) 30 _ rfl pD 0 rfl (byteVals d.1) _ (fun _ h => h.1) Tryd.underlying30 rfl HIL.out) (by assumption) ?_
        try simp only [Act.put, List.setIfInBounds_toArray, List.set_cons_zero, List.set_cons_succ]
        refine wpAnyH_take (i := 7) (oi := ⟨some 58, _, _, _, _, _⟩) (v := .agg (byteVals root.1).toArray) rfl (by kernel_rfl) (by kernel_rfl) (by kernel_rfl) (fun _ _ _ h => h) (yieldsIf_load_mid (by rfl) 30 _ rfl pR 0 rfl (byteVals root.1) _ (fun _ h => h.2) Tryd.underlying30 rfl HILr.out) (by assumption) ?_
        try simp only [Act.put, List.setIfInBounds_toArray, List.set_cons_zero, List.set_cons_succ]
        refine wpAnyH_ready (rs := [6]) (by kernel_rfl) (by simp) ?_
        refine AllReadyH.cons (o := ⟨some 57, _, _, _, _, _⟩) rfl (fun K hK => ?_) (AllReadyH.nil)
        go_simp
        go_at_call 50
        refine (HRT0.out).mono ?_
        rintro e w5 ⟨rfl, g5⟩
        have hS5 : w5.rangeAt pD 0 (byteVals d.1) ∧ w5.rangeAt pR 0 (byteVals root.1) := ⟨rangeAt_chg hS0.1 g5 (by simp), rangeAt_chg hS0.2 g5 (by simp)⟩
        have g05 := gr0.trans g5
        go_wp2_with fail
        refine hK.out _ _ hS5 (fun _ => ?_)
        clear hK K
        try simp only [Act.put, List.setIfInBounds_toArray, List.set_cons_zero, List.set_cons_succ]
        refine wpAnyH_take (i := 8) (oi := ⟨some 59, _, _, _, _, _⟩) (v := ?_) rfl (by kernel_rfl) (by kernel_rfl) (by kernel_rfl) (fun _ _ _ h => h) (Or.inl ⟨by rfl, ?_⟩) (by assumption) ?_
        rotate_left
        · intro w hSw; (try dsimp only at hSw); go_simp; (try with_reducible rfl)
        try simp only [Act.put, List.setIfInBounds_toArray, List.set_cons_zero, List.set_cons_succ]
        refine wpAnyH_take (i := 9) (oi := ⟨some 60, _, _, _, _, _⟩) (v := ?_) rfl (by kernel_rfl) (by kernel_rfl) (by kernel_rfl) (fun _ _ _ h => h) (Or.inl ⟨by rfl, ?_⟩) (by assumption) ?_
        rotate_left
        · intro w hSw; (try dsimp only at hSw); go_simp; (try with_reducible rfl)
        try simp only [Act.put, List.setIfInBounds_toArray, List.set_cons_zero, List.set_cons_succ]
        refine wpAnyH_take (i := 10) (oi := ⟨some 10, _, _, _, _, _⟩) (v := ?_) rfl (by kernel_rfl) (by kernel_rfl) (by kernel_rfl) (fun _ _ _ h => h) (Or.inl ⟨by rfl, ?_⟩) (by assumption) ?_
        rotate_left
        · intro w hSw; (try dsimp only at hSw); go_simp; (try with_reducible rfl)
        try simp only [Act.put, List.setIfInBounds_toArray, List.set_cons_zero, List.set_cons_succ]
        refine wpAnyH_done (by kernel_rfl) ?_ _
        go_wp2_with fail
        go_ret
        exact ⟨by rw [HD.out]; rfl, g05⟩
      | q :: L', hL, hLc, hLl, HR =>
        have hr : R0 = none := by rw [← HR.out, if_neg (by simp)]
        subst hr
        have hsz : (q :: L').length = L'.length + 1 := rfl
        rw [hsz]
        have t3 : (((L'.length + 1 : Nat) : Int) == 0) = false := by simp; omega
        have gr0 := gr.drew
        clear hce HR bD bR gr hL hLc hLl hsz
        go_wp2_with fail
        refine wp_region_held_drew (S := fun _ => True) (by kernel_rfl) trivial (fun _ => ?_)
        generalize wr.drew = v0 at *
        refine wpAnyH_take (i := 0) (oi := ⟨some 51, _, _, _, _, _⟩) (v := ?_) rfl (by kernel_rfl) (by kernel_rfl) (by kernel_rfl) (fun _ _ _ h => h) (Or.inl ⟨by rfl, ?_⟩) (by assumption) ?_
        rotate_left
        · intro w hSw; (try dsimp only at hSw); go_simp; (try with_reducible rfl)
        try simp only [Act.put, List.setIfInBounds_toArray, List.set_cons_zero, List.set_cons_succ]
        refine wpAnyH_take (i := 1) (oi := ⟨some 52, _, _, _, _, _⟩) (v := ?_) rfl (by kernel_rfl) (by kernel_rfl) (by kernel_rfl) (fun _ _ _ h => h) (Or.inl ⟨by rfl, ?_⟩) (by assumption) ?_
        rotate_left
        · intro w hSw; (try dsimp only at hSw); go_simp; (try with_reducible rfl)
        try simp only [Act.put, List.setIfInBounds_toArray, List.set_cons_zero, List.set_cons_succ]
        refine wpAnyH_take (i := 2) (oi := ⟨some 53, _, _, _, _, _⟩) (v := ?_) rfl (by kernel_rfl) (by kernel_rfl) (by kernel_rfl) (fun _ _ _ h => h) (Or.inl ⟨by rfl, ?_⟩) (by assumption) ?_
        rotate_left
        · intro w hSw; (try dsimp only at hSw); go_simp; (try with_reducible rfl)
        try simp only [Act.put, List.setIfInBounds_toArray, List.set_cons_zero, List.set_cons_succ]
        refine wpAnyH_take (i := 3) (oi := ⟨some 54, _, _, _, _, _⟩) (v := ?_) rfl (by kernel_rfl) (by kernel_rfl) (by kernel_rfl) (fun _ _ _ h => h) (Or.inl ⟨by rfl, ?_⟩) (by assumption) ?_
        rotate_left
        · intro w hSw; (try dsimp only at hSw); go_simp; (try with_reducible rfl)
        try simp only [Act.put, List.setIfInBounds_toArray, List.set_cons_zero, List.set_cons_succ]
        refine wpAnyH_take (i := 4) (oi := ⟨some 55, _, _, _, _, _⟩) (v := undef) rfl (by kernel_rfl) (by kernel_rfl) (by kernel_rfl) (fun _ _ _ h => h) (Or.inr ⟨by rfl, rfl⟩) (by assumption) ?_
        try simp only [Act.put, List.setIfInBounds_toArray, List.set_cons_zero, List.set_cons_succ]
        refine wpAnyH_take (i := 5) (oi := ⟨some 56, _, _, _, _, _⟩) (v := undef) rfl (by kernel_rfl) (by kernel_rfl) (by kernel_rfl) (fun _ _ _ h => h) (Or.inr ⟨by rfl, rfl⟩) (by assumption) ?_
        try simp only [Act.put, List.setIfInBounds_toArray, List.set_cons_zero, List.set_cons_succ]
        refine wpAnyH_take (i := 6) (oi := ⟨some 57, _, _, _, _, _⟩) (v := undef) rfl (by kernel_rfl) (by kernel_rfl) (by kernel_rfl) (fun _ _ _ h => h) (Or.inr ⟨by rfl, rfl⟩) (by assumption) ?_
        try simp only [Act.put, List.setIfInBounds_toArray, List.set_cons_zero, List.set_cons_succ]
        refine wpAnyH_take (i := 7) (oi := ⟨some 58, _, _, _, _, _⟩) (v := undef) rfl (by kernel_rfl) (by kernel_rfl) (by kernel_rfl) (fun _ _ _ h => h) (Or.inr ⟨by rfl, rfl⟩) (by assumption) ?_
        try simp only [Act.put, List.setIfInBounds_toArray, List.set_cons_zero, List.set_cons_succ]
        refine wpAnyH_take (i := 8) (oi := ⟨some 59, _, _, _, _, _⟩) (v := undef) rfl (by kernel_rfl) (by kernel_rfl) (by kernel_rfl) (fun _ _ _ h => h) (Or.inr ⟨by rfl, rfl⟩) (by assumption) ?_
        try simp only [Act.put, List.setIfInBounds_toArray, List.set_cons_zero, List.set_cons_succ]
        refine wpAnyH_take (i := 9) (oi := ⟨some 60, _, _, _, _, _⟩) (v := ?_) rfl (by kernel_rfl) (by kernel_rfl) (by kernel_rfl) (fun _ _ _ h => h) (Or.inl ⟨by rfl, ?_⟩) (by assumption) ?_
        rotate_left
        · intro w hSw; (try dsimp only at hSw); go_simp; (try with_reducible rfl)
        try simp only [Act.put, List.setIfInBounds_toArray, List.set_cons_zero, List.set_cons_succ]
        refine wpAnyH_take (i := 10) (oi := ⟨some 10, _, _, _, _, _⟩) (v := ?_) rfl (by kernel_rfl) (by kernel_rfl) (by kernel_rfl) (fun _ _ _ h => h) (Or.inl ⟨by rfl, ?_⟩) (by assumption) ?_
        rotate_left
        · intro w hSw; (try dsimp only at hSw); go_simp; (try with_reducible rfl)
        try simp only [Act.put, List.setIfInBounds_toArray, List.set_cons_zero, List.set_cons_succ]
        refine wpAnyH_done (by kernel_rfl) ?_ _
        go_wp2_with fail
        go_ret
        exact ⟨rfl, gr0⟩


end Go.Proofs.YtdkgecphkppglaaDoor
