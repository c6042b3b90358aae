/-
  The document's Read.
-/
import Derived.Test.YtglfakglcoffkaaTRB
import Derived.Test.YtglfakglcoffkaaTRD
namespace Go.Proofs.Ytglfakglcoffkaa
open Go.RowKit

theorem wpAnyH_to {P : Program} {md : Region.Mode} {ops : Array Oper} {Q : Exit → Act → World → Prop} {S S2 : World → Prop} (hs : ∀ w, S2 w → S w) :
    ∀ {fuel : Nat} {listed : Array Bool} {a : Act} {w : World}, wpAnyH P md ops Q S2 fuel listed a w → wpAnyH P md ops Q S fuel listed a w
  | 0, _, _, _, h => h
  | _ + 1, _, _, _, h => ⟨h.1, fun i hi => wpOp_mono (fun _ _ h' => ⟨hs _ h'.1, wpAnyH_to hs h'.2⟩) (h.2 i hi)⟩
/-- All bytes are read just if they are what is written. -/
theorem readT_all {bs : List UInt8} {n a0 a : Nat} (hn : numS bs 16 (some 0) = (n, some a0)) (ha : (filsS bs n (some a0)).2 = some a) : a = bs.length ↔ treeK (filsS bs n (some a0)).1 = bs := by
  obtain ⟨_, q1, _, r1⟩ := numS_was hn
  obtain ⟨g1, g2⟩ := filsS_was n q1 ha
  have e : treeK (filsS bs n (some a0)).1 = bs.take a := by
    unfold treeK
    rw [g2, r1, List.take_zero, List.nil_append, filsS_len]
  rw [e]
  constructor
  · intro h; rw [h, List.take_length]
  · intro h
    have := congrArg List.length h
    rw [List.length_take] at this
    omega

set_option maxHeartbeats 32000000 in
set_option maxRecDepth 100000 in
theorem refread_any (A : Option Addr) (bs : List UInt8) (c : Nat) (w : World) (hr : Reads w w.heap.size 1 A bs.length (byteVals bs)) (hl : bs.length ≤ 1000000) :
    Calls Try.prog 12 #[.slice A bs.length c] w (ToldR w (readT bs)) := by
  obtain ⟨i0, hi, hz0, hz1, hz2⟩ := info_parts Try.info38
  have HU : Hid (Calls Try.prog 35 #[.slice A bs.length c, .int .i64 0] w (Told3 w (readU bs 0))) := refUint_any A bs c 0 w hr hl
  have HBY : Hid (∀ (a : Int) (m : Int) v, m ≤ 2000 → Chg none w v → Calls Try.prog 36 #[.slice A bs.length c, .int .i64 a, .int .i64 m] v (ToldB v (readB bs a m))) := fun a m v hm g => refBytes_any A bs c a m v (reads_up (hr.below (g.belowNone (Nat.le_refl _))) g.size) hl (by omega)
  have HCB : Hid (∀ v, Chg none w v → (convert 22 9 (.slice A bs.length c)).run Try.prog v = .ok (.string ⟨bs.toArray⟩) v) := fun v g => conv_reads v (reads_up (hr.below (g.belowNone (Nat.le_refl _))) g.size)
  have hwell := readU_well bs 0
  have HNS : Hid (numS bs 16 (some 0) = if (readU bs 0).2.2 = 0 ∧ (readU bs 0).1 ≤ 16 then ((readU bs 0).1, some (readU bs 0).2.1.toNat) else (0, none)) := rfl
  obtain ⟨n, at0, er, hq⟩ : ∃ n at0 er, readU bs 0 = (n, at0, er) := ⟨_, _, _, rfl⟩
  rw [hq] at HU HNS hwell
  dsimp only at HNS
  clear hr hq
  by_cases her : er = 0
  rotate_left
  · have d0 : (er != 0) = true := by rw [bne_iff_ne]; exact her
    have HNO : Hid (readT bs = none) := readT_lost (by rw [HNS.out, if_neg (fun h => her h.1)])
    clear her hwell HNS HBY HCB
    as_aux_lemma =>
      go_enter Try.func12, Try.ntmps12
      go_wp2_with fail
      refine HU.out.mono ?_
      rintro e w' ⟨rfl, rfl⟩
      go_wp2_with fail
      go_ret2
      exact .inl ⟨HNO.out, rfl, Chg.refl _ _⟩
  subst her
  by_cases hn : n ≤ 16
  rotate_left
  · have d0 : decide ((16 : Int) < (n : Int)) = true := by rw [decide_eq_true_eq]; omega
    have HNO : Hid (readT bs = none) := readT_lost (by rw [HNS.out, if_neg (fun h => hn h.2)])
    clear hn hwell HNS HBY HCB
    as_aux_lemma =>
      go_enter Try.func12, Try.ntmps12
      go_wp2_with fail
      refine HU.out.mono ?_
      rintro e w' ⟨rfl, rfl⟩
      go_wp2_with fail
      go_ret2
      exact .inl ⟨HNO.out, rfl, Chg.refl _ _⟩
  have d0 : decide ((16 : Int) < (n : Int)) = false := by rw [decide_eq_false_iff_not]; omega
  obtain ⟨q0, q1, q2⟩ := hwell.ok rfl
  dsimp only at q0 q1 q2
  obtain ⟨a0, rfl⟩ := Int.eq_ofNat_of_zero_le (show 0 ≤ at0 by omega)
  have hns : numS bs 16 (some 0) = (n, some a0) := by rw [HNS.out, if_pos ⟨rfl, hn⟩]; rfl
  have HN2 := Lib.hid hns
  have HN16 := Lib.hid hn
  obtain ⟨RP, HRP⟩ : ∃ RP, Hid (RP = readT bs ∧ RP = if (filsS bs n (some a0)).2 = some bs.length ∧ mayK (filsS bs n (some a0)).1 = true then some (filsS bs n (some a0)).1 else none) := ⟨_, rfl, by unfold readT; rw [hns]⟩
  have HLOST : Hid (∀ k, k < n → (filS bs (filsS bs k (some a0)).2).2 = none → RP = none) := fun k hk h => by
    rw [HRP.out.1]
    refine readT_lost_at (k := k) (by rw [hns]; exact hk) ?_
    rw [hns]; exact h
  rw [← HRP.out.1]
  have hwn : wrap64 (n : Int) = (n : Int) := by unfold wrap64; omega
  clear hns hn hwell HNS q0 q1 q2
  go_enter Try.func12, Try.ntmps12
  go_wp2_with fail
  refine HU.out.mono ?_
  rintro e w' ⟨rfl, rfl⟩
  clear HU
  have HO0 : Hid (OwnL w w none 0 []) := ⟨World.ownsRow_nil _ _ _ _, fun m h => (by cases h), Chg.refl _ _⟩
  go_wp2_with fail
  go_loopw [5, 7, 8] (fun s5 s7 s8 wr => ∃ (k a : Nat) (A1 : Option Addr) (c1 : Nat) (M : List Fil), s8 = .int .i64 k ∧ s5 = .int .i64 a ∧ s7 = .slice A1 M.length c1 ∧ Hid (k ≤ n) ∧ Hid (OwnL w wr A1 c1 M) ∧ Hid (keys M = (filsS bs k (some a0)).1 ∧ (filsS bs k (some a0)).2 = some a ∧ M.length = k)) (fun _ _ s8 _ => n - (intOf s8).toNat)
  case atStart => exact ⟨0, a0, none, 0, [], rfl, rfl, rfl, Lib.hid (Nat.zero_le _), HO0, Lib.hid ⟨rfl, rfl, rfl⟩⟩
  case round =>
    obtain ⟨k, a, A1, c1, M, rfl, rfl, rfl, H1, H2, H3⟩ := hrel
    by_cases hlt : k < n
    · have hdd : decide ((k : Int) < (n : Int)) = true := by rw [decide_eq_true_eq]; omega
      have HLT := Lib.hid hlt
      have HML : Hid (M.length ≤ 16) := by have h1 := H3.out.2.2; have h2 := HN16.out; show _ ≤ _; omega
      have HB1 := Lib.hid (HBY.out a 40 wr (by decide) H2.out.chg)
      have HLO : Hid ((filS bs (some a)).2 = none → RP = none) := fun h => HLOST.out k hlt (by rw [H3.out.2.1]; exact h)
      have hbn1 := readB_nat (bs := bs) (a := a) (most := 40)
      have hb1 := filS_bad1 (bs := bs) (a := a)
      obtain ⟨x1, p1, e1, hq1⟩ : ∃ x1 p1 e1, readB bs a 40 = (x1, p1, e1) := ⟨_, _, _, rfl⟩
      rw [hq1] at hbn1 hb1 HB1
      dsimp only at hbn1 hb1
      by_cases he1 : e1 = 0
      rotate_left
      · have d1 : (e1 != 0) = true := by rw [bne_iff_ne]; exact he1
        have HNO := Lib.hid (HLO.out (hb1 he1))
        clear he1 hb1 hbn1 hq1 hlt HLOST HO0 HCB
        as_aux_lemma =>
          go_wp2_with fail
          refine HB1.out.mono ?_
          rintro e w2 ⟨A2, n2, c2, rfl, -, -, hb2⟩
          have G2 : Hid (Chg none w w2) := chg_ofX H2.out.chg hb2 H2.out.chg.size
          have HB2 := Lib.hid (HBY.out p1 2000 w2 (by decide) G2.out)
          clear hb2 HBY
          generalize readB bs p1 2000 = r2 at *
          go_wp2_with fail
          refine HB2.out.mono ?_
          rintro e w3 ⟨A3, n3, c3, rfl, -, -, hb3⟩
          have G3 : Hid (Chg none w w3) := chg_ofX G2.out hb3 G2.out.size
          clear hb3
          go_wp2_with fail
          go_ret2
          exact .inl ⟨HNO.out, rfl, G3.out⟩
      subst he1
      obtain ⟨b, rfl⟩ := hbn1 rfl
      have hbn2 := readB_nat (bs := bs) (a := b) (most := 2000)
      have hb2' := fun h => filS_bad2 (bs := bs) (a := a) hq1 h
      have hg2 := fun (y : List UInt8) (d : Nat) h => filS_good (bs := bs) (a := a) (y := y) (d := d) hq1 h
      obtain ⟨x2, p2, e2, hq2⟩ : ∃ x2 p2 e2, readB bs b 2000 = (x2, p2, e2) := ⟨_, _, _, rfl⟩
      rw [hq2] at hbn2 hb2'
      dsimp only at hbn2 hb2'
      have HQ2 := Lib.hid hq2
      clear hb1 hbn1 hq1 hlt hq2
      by_cases he2 : e2 = 0
      rotate_left
      · have d1 : (e2 != 0) = true := by rw [bne_iff_ne]; exact he2
        have HNO := Lib.hid (HLO.out (hb2' he2))
        clear he2 hb2' hg2 hbn2 HLOST HO0 HCB
        as_aux_lemma =>
          go_wp2_with fail
          refine HB1.out.mono ?_
          rintro e w2 ⟨A2, n2, c2, rfl, -, -, hb2⟩
          have G2 : Hid (Chg none w w2) := chg_ofX H2.out.chg hb2 H2.out.chg.size
          have HB2 := Lib.hid (HBY.out b 2000 w2 (by decide) G2.out)
          rw [HQ2.out] at HB2
          clear hb2 HBY
          go_wp2_with fail
          refine HB2.out.mono ?_
          rintro e w3 ⟨A3, n3, c3, rfl, -, -, hb3⟩
          have G3 : Hid (Chg none w w3) := chg_ofX G2.out hb3 G2.out.size
          clear hb3
          go_wp2_with fail
          go_ret2
          exact .inl ⟨HNO.out, rfl, G3.out⟩
      subst he2
      obtain ⟨d, rfl⟩ := hbn2 rfl
      have hfs := hg2 x2 d HQ2.out
      have HFS : Hid ((filsS bs (k + 1) (some a0)).1 = (filsS bs k (some a0)).1 ++ [(x1, x2)] ∧ (filsS bs (k + 1) (some a0)).2 = some d) := by
        constructor
        · show _ ++ [(filS bs (filsS bs k (some a0)).2).1] = _
          rw [H3.out.2.1, hfs]
        · show (filS bs (filsS bs k (some a0)).2).2 = _
          rw [H3.out.2.1, hfs]
      clear hbn2 hb2' hg2 hfs HLO HLOST HO0 HCB
      go_wp2_with fail
      refine HB1.out.mono ?_
      rintro e w2 ⟨A2, n2, c2, rfl, hn2, ho2, hb2⟩
      dsimp only at hn2 ho2
      subst hn2
      have G2 : Hid (Chg none w w2) := chg_ofX H2.out.chg hb2 H2.out.chg.size
      have k2 : Chg none wr w2 := ⟨hb2.os, hb2.tape, hb2.output, hb2.size, fun k hk _ => hb2.block k hk⟩
      have HL2 := Lib.hid (H2.out.on k2)
      have HB2 := Lib.hid (HBY.out b 2000 w2 (by decide) G2.out)
      rw [HQ2.out] at HB2
      have HO2 := Lib.hid ho2
      clear hb2 ho2 k2 HB1 HBY
      go_wp2_with fail
      refine HB2.out.mono ?_
      rintro e w3 ⟨A3, n3, c3, rfl, hn3, ho3, hb3⟩
      dsimp only at hn3 ho3
      subst hn3
      have k3 : Chg none w2 w3 := ⟨hb3.os, hb3.tape, hb3.output, hb3.size, fun k hk _ => hb3.block k hk⟩
      have HL3 := Lib.hid (HL2.out.on k3)
      have HO3 := Lib.hid (World.ownsRow.mono ho3 G2.out.size)
      have hcv := conv_reads (c := c2) w3 (Reads.of_own (own_chgW HO2.out k3))
      have HFI : Hid (∀ v : World, Reads (v.alloc (.cells #[.string ⟨x1.toArray⟩, .slice A3 x2.length c3] 38)) (v.alloc (.cells #[.string ⟨x1.toArray⟩, .slice A3 x2.length c3] 38)).heap.size 2 (some ⟨v.heap.size, 0, none⟩) 1 (filCells ⟨x1, A3, x2, c3⟩)) := fun v => by
        have h := reads_lit38 v [⟨x1, A3, x2, c3⟩]
        simp only [List.flatMap_cons, List.flatMap_nil, List.append_nil, List.length_cons, List.length_nil, Nat.zero_add] at h
        exact h
      have HON : Hid (∀ u ∈ filCells ⟨x1, A3, x2, c3⟩, u.oneCell' = true) := fun u hu => filCells_one (L := [⟨x1, A3, x2, c3⟩]) u (by simpa using hu)
      have HSE : Hid (∀ ob : Obj, w.heap.size ≤ (w3.alloc ob).heap.size) := fun ob => (HL3.out.chg.alloc ob).size
      clear ho3 hb3 k3 HB2 HL2 HO2
      go_wp2_with (at_builtin; refine wpList_append_any _ rfl (.tmp 53) (.tmp 58) 25 rfl w.heap.size 38 i0 (.agg #[.string ⟨#[]⟩, .slice none 0 0]) 2 40 Try.underlying25 hi hz0 hz1 hz2 rfl (by decide) _ M.length (M.flatMap filCells) rfl (HL3.out.row.alloc _) _ (some ⟨w3.heap.size, 0, none⟩) 1 1 _ rfl (HFI.out w3) HON.out (by have := HML.out; unfold maxLen; omega) (by have := HML.out; omega) (HSE.out _) ?_)
      intro v4 w4 hown4 hgr4 _
      obtain ⟨A4, c4, rfl⟩ := own_slice hown4
      have HO4 := Lib.hid ((HL3.out.on ((Chg.refl none w3).alloc _)).app (m := ⟨x1, A3, x2, c3⟩) (HO3.out.alloc _) hown4 hgr4)
      have HLN : Hid ((M ++ [(⟨x1, A3, x2, c3⟩ : Fil)]).length = M.length + 1) := by show _ = _; simp
      have hwk : wrap64 ((k : Int) + 1) = ((k + 1 : Nat) : Int) := by have h1 := HLT.out; have h2 := HN16.out; unfold wrap64; omega
      have HWK := Lib.hid hwk
      clear hown4 hgr4 HFI HON HSE HL3 HO3 hcv hwk
      rw [← HLN.out]
      go_wp2_with fail
      go_roundw
      case rel => exact ⟨k + 1, d, A4, c4, M ++ [⟨x1, A3, x2, c3⟩], by rw [HWK.out], rfl, rfl, Lib.hid HLT.out, HO4, Lib.hid ⟨by rw [HFS.out.1, ← H3.out.1]; unfold keys; rw [List.map_append]; rfl, HFS.out.2, by rw [HLN.out, H3.out.2.2]⟩⟩
      case measure =>
        have h1 := HLT.out
        rw [HWK.out]; simp only [intOf]; omega
    · have hdd : decide (k < n) = false := by rw [decide_eq_false_iff_not]; exact hlt
      have hd2 : decide ((k : Int) < (n : Int)) = false := by rw [decide_eq_false_iff_not]; omega
      obtain rfl : k = n := by have := H1.out; omega
      have HT := Lib.hid (H2.out.tree (fun m hm => by
        have h1 : keyF m ∈ (filsS bs k (some a0)).1 := by rw [← H3.out.1]; exact List.mem_map_of_mem hm
        have h2 : ∀ j, ∀ x ∈ (filsS bs j (some a0)).1, x.1.length ≤ 40 := by
          intro j
          induction j with
          | zero => intro x hx; cases hx
          | succ j ih =>
            intro x hx
            rcases List.mem_append.1 (show x ∈ (filsS bs j (some a0)).1 ++ [(filS bs (filsS bs j (some a0)).2).1] from hx) with h | h
            · exact ih x h
            · rw [List.mem_singleton.1 h]; exact txtS_le _ _ _
        have := h2 k _ h1
        exact Nat.le_trans this (by decide)))
      have HCB2 : Hid (∀ v, Chg none wr v → (convert 22 9 (.slice A bs.length c)).run Try.prog v = .ok (.string ⟨bs.toArray⟩) v) := fun v g => HCB.out v (H2.out.chg.trans g)
      have hall := readT_all HN2.out H3.out.2.1
      have HMY : Hid (∀ v, Chg none wr v → Calls Try.prog 20 #[.slice A1 M.length c1] v fun e w' => e = .returned (.bool (mayT M)) ∧ Chg none v w') := fun v g => refmay_any M A1 c1 v (HT.out.chg g) (by have h1 := H3.out.2.2; have h2 := HN16.out; omega)
      have hrp := HRP.out.2
      rw [H3.out.2.1, ← H3.out.1, ← mayT_keys] at hrp
      rw [← H3.out.1, ← treeB_keys] at hall
      clear hlt HLOST HBY HO0 HRP HCB
      have HCB := HCB2
      clear HCB2
      by_cases hmb : mayT M = true
      rotate_left
      · have hmb' : mayT M = false := by simpa using hmb
        have HNO : Hid (RP = none) := by rw [hrp]; exact if_neg (fun h => hmb h.2)
        rw [hmb'] at HMY
        clear hrp hall hmb hmb' HCB
        as_aux_lemma =>
          go_upto_region 14 with fail
          have E0 := (Chg.refl none wr).drew
          refine wp_region_held_drew (S := fun v => Chg none wr v) (by kernel_rfl) E0 (fun _ => ?_)
          generalize wr.drew = v0 at *
          refine wpAnyH_take (i := 0) (oi := ⟨some 61, _, _, _, _, _⟩) (v := ?_) rfl (by kernel_rfl) (by kernel_rfl) (by kernel_rfl) (fun _ _ _ h => h) (Or.inl ⟨by rfl, ?_⟩) (by assumption) ?_
          rotate_left
          · intro w hSw; (try dsimp only at hSw); go_simp; (try with_reducible rfl)
          try simp only [Act.put, List.setIfInBounds_toArray, List.set_cons_zero, List.set_cons_succ]
          refine wpAnyH_ready (rs := [1]) (by kernel_rfl) (by simp) ?_
          refine AllReadyH.cons (o := ⟨some 62, _, _, _, _, _⟩) rfl (fun K hK => ?_) (AllReadyH.nil)
          go_simp
          go_at_call 20
          refine (HMY.out _ E0).mono ?_
          rintro e v1 ⟨rfl, g21⟩
          have E1 := E0.trans g21
          go_wp2_with fail
          refine hK.out _ _ E1 (fun _ => ?_)
          clear hK K
          try simp only [Act.put, List.setIfInBounds_toArray, List.set_cons_zero, List.set_cons_succ]
          refine wpAnyH_take (i := 2) (oi := ⟨some 63, _, _, _, _, _⟩) (v := ?_) rfl (by kernel_rfl) (by kernel_rfl) (by kernel_rfl) (fun _ _ _ h => h) (Or.inl ⟨by rfl, ?_⟩) (by assumption) ?_
          rotate_left
          · intro w hSw; (try dsimp only at hSw); go_simp; (try with_reducible rfl)
          try simp only [Act.put, List.setIfInBounds_toArray, List.set_cons_zero, List.set_cons_succ]
          refine wpAnyH_take (i := 3) (oi := ⟨some 64, _, _, _, _, _⟩) (v := ?_) rfl (by kernel_rfl) (by kernel_rfl) (by kernel_rfl) (fun _ _ _ h => h) (Or.inl ⟨by rfl, ?_⟩) (by assumption) ?_
          rotate_left
          · intro w hSw; (try dsimp only at hSw); go_simp; (try with_reducible rfl)
          try simp only [Act.put, List.setIfInBounds_toArray, List.set_cons_zero, List.set_cons_succ]
          refine wpAnyH_take (i := 4) (oi := ⟨some 65, _, _, _, _, _⟩) (v := undef) rfl (by kernel_rfl) (by kernel_rfl) (by kernel_rfl) (fun _ _ _ h => h) (Or.inr ⟨by rfl, rfl⟩) (by assumption) ?_
          try simp only [Act.put, List.setIfInBounds_toArray, List.set_cons_zero, List.set_cons_succ]
          refine wpAnyH_take (i := 5) (oi := ⟨some 66, _, _, _, _, _⟩) (v := undef) rfl (by kernel_rfl) (by kernel_rfl) (by kernel_rfl) (fun _ _ _ h => h) (Or.inr ⟨by rfl, rfl⟩) (by assumption) ?_
          try simp only [Act.put, List.setIfInBounds_toArray, List.set_cons_zero, List.set_cons_succ]
          refine wpAnyH_take (i := 6) (oi := ⟨some 67, _, _, _, _, _⟩) (v := undef) rfl (by kernel_rfl) (by kernel_rfl) (by kernel_rfl) (fun _ _ _ h => h) (Or.inr ⟨by rfl, rfl⟩) (by assumption) ?_
          try simp only [Act.put, List.setIfInBounds_toArray, List.set_cons_zero, List.set_cons_succ]
          refine wpAnyH_take (i := 7) (oi := ⟨some 68, _, _, _, _, _⟩) (v := undef) rfl (by kernel_rfl) (by kernel_rfl) (by kernel_rfl) (fun _ _ _ h => h) (Or.inr ⟨by rfl, rfl⟩) (by assumption) ?_
          try simp only [Act.put, List.setIfInBounds_toArray, List.set_cons_zero, List.set_cons_succ]
          refine wpAnyH_take (i := 8) (oi := ⟨some 69, _, _, _, _, _⟩) (v := undef) rfl (by kernel_rfl) (by kernel_rfl) (by kernel_rfl) (fun _ _ _ h => h) (Or.inr ⟨by rfl, rfl⟩) (by assumption) ?_
          try simp only [Act.put, List.setIfInBounds_toArray, List.set_cons_zero, List.set_cons_succ]
          refine wpAnyH_take (i := 9) (oi := ⟨some 70, _, _, _, _, _⟩) (v := undef) rfl (by kernel_rfl) (by kernel_rfl) (by kernel_rfl) (fun _ _ _ h => h) (Or.inr ⟨by rfl, rfl⟩) (by assumption) ?_
          try simp only [Act.put, List.setIfInBounds_toArray, List.set_cons_zero, List.set_cons_succ]
          refine wpAnyH_take (i := 10) (oi := ⟨some 71, _, _, _, _, _⟩) (v := ?_) rfl (by kernel_rfl) (by kernel_rfl) (by kernel_rfl) (fun _ _ _ h => h) (Or.inl ⟨by rfl, ?_⟩) (by assumption) ?_
          rotate_left
          · intro w hSw; (try dsimp only at hSw); go_simp; (try with_reducible rfl)
          try simp only [Act.put, List.setIfInBounds_toArray, List.set_cons_zero, List.set_cons_succ]
          refine wpAnyH_done (by kernel_rfl) ?_ _
          try simp only [Act.put]
          go_wp2_with fail
          go_ret2
          exact .inl ⟨HNO.out, rfl, H2.out.chg.trans E1⟩
      have HBY : Hid (∀ v, Chg none wr v → Calls Try.prog 37 #[.slice A1 M.length c1] v fun e w' => ∃ A' n' c', e = .returned (.slice A' n' c') ∧ ByAt v w' A' n' c' (treeB M)) := fun v g => refbytes37 M A1 c1 v (HT.out.chg g) hmb
      have HMB := Lib.hid hmb
      rw [hmb] at HMY
      by_cases hat : a = bs.length
      · have HYES : Hid (RP = some (keys M) ∧ mayT M = true) := ⟨by rw [hrp]; exact if_pos ⟨by rw [hat], hmb⟩, hmb⟩
        have heq := hall.1 hat
        rw [heq] at HBY
        clear hrp hall hat hmb heq
        obtain ⟨X, HX⟩ : ∃ X, Hid (X = bs) := ⟨_, Lib.hid rfl⟩
        rw [← HX.out] at HBY
        have HXY : Hid ((X == bs) = true) := by show _ = _; rw [HX.out]; simp
        as_aux_lemma =>
          go_upto_region 14 with fail
          have E0 := (Chg.refl none wr).drew
          refine wp_region_held_drew (S := fun v => Chg none wr v) (by kernel_rfl) E0 (fun _ => ?_)
          generalize wr.drew = v0 at *
          refine wpAnyH_take (i := 0) (oi := ⟨some 61, _, _, _, _, _⟩) (v := ?_) rfl (by kernel_rfl) (by kernel_rfl) (by kernel_rfl) (fun _ _ _ h => h) (Or.inl ⟨by rfl, ?_⟩) (by assumption) ?_
          rotate_left
          · intro w hSw; (try dsimp only at hSw); go_simp; (try with_reducible rfl)
          try simp only [Act.put, List.setIfInBounds_toArray, List.set_cons_zero, List.set_cons_succ]
          refine wpAnyH_ready (rs := [1]) (by kernel_rfl) (by simp) ?_
          refine AllReadyH.cons (o := ⟨some 62, _, _, _, _, _⟩) rfl (fun K hK => ?_) (AllReadyH.nil)
          go_simp
          go_at_call 20
          refine (HMY.out _ E0).mono ?_
          rintro e v1 ⟨rfl, g21⟩
          have E1 := E0.trans g21
          go_wp2_with fail
          refine hK.out _ _ E1 (fun _ => ?_)
          clear hK K
          try simp only [Act.put, List.setIfInBounds_toArray, List.set_cons_zero, List.set_cons_succ]
          refine wpAnyH_take (i := 2) (oi := ⟨some 63, _, _, _, _, _⟩) (v := ?_) rfl (by kernel_rfl) (by kernel_rfl) (by kernel_rfl) (fun _ _ _ h => h) (Or.inl ⟨by rfl, ?_⟩) (by assumption) ?_
          rotate_left
          · intro w hSw; (try dsimp only at hSw); go_simp; (try with_reducible rfl)
          try simp only [Act.put, List.setIfInBounds_toArray, List.set_cons_zero, List.set_cons_succ]
          refine wpAnyH_take (i := 3) (oi := ⟨some 64, _, _, _, _, _⟩) (v := ?_) rfl (by kernel_rfl) (by kernel_rfl) (by kernel_rfl) (fun _ _ _ h => h) (Or.inl ⟨by rfl, ?_⟩) (by assumption) ?_
          rotate_left
          · intro w hSw; (try dsimp only at hSw); go_simp; (try with_reducible rfl)
          try simp only [Act.put, List.setIfInBounds_toArray, List.set_cons_zero, List.set_cons_succ]
          refine wpAnyH_take (i := 4) (oi := ⟨some 65, _, _, _, _, _⟩) (v := ?_) rfl (by kernel_rfl) (by kernel_rfl) (by kernel_rfl) (fun _ _ _ h => h) (Or.inl ⟨by rfl, ?_⟩) (by assumption) ?_
          rotate_left
          · intro w hSw; (try dsimp only at hSw); go_simp; (try with_reducible rfl)
          try simp only [Act.put, List.setIfInBounds_toArray, List.set_cons_zero, List.set_cons_succ]
          refine wpAnyH_take (i := 7) (oi := ⟨some 68, _, _, _, _, _⟩) (v := ?_) rfl (by kernel_rfl) (by kernel_rfl) (by kernel_rfl) (fun _ _ _ h => h) (Or.inl ⟨by rfl, ?_⟩) (by assumption) ?_
          rotate_left
          · intro w hSw; (try dsimp only at hSw); go_simp; (try with_reducible rfl)
          try simp only [Act.put, List.setIfInBounds_toArray, List.set_cons_zero, List.set_cons_succ]
          refine wpAnyH_take (i := 8) (oi := ⟨some 69, _, _, _, _, _⟩) (v := .string ⟨bs.toArray⟩) rfl (by kernel_rfl) (by kernel_rfl) (by kernel_rfl) (fun _ _ _ h => h) (Or.inl ⟨by rfl, ?_⟩) (by assumption) ?_
          · intro v hSv; have hcb := HCB.out v hSv; go_simp
          try simp only [Act.put, List.setIfInBounds_toArray, List.set_cons_zero, List.set_cons_succ]
          refine wpAnyH_ready (rs := [5]) (by kernel_rfl) (by simp) ?_
          refine AllReadyH.cons (o := ⟨some 66, _, _, _, _, _⟩) rfl (fun K hK => ?_) (AllReadyH.nil)
          go_simp
          go_at_call 37
          refine (HBY.out _ E1).mono ?_
          rintro e v2 ⟨AX, nX, cX, rfl, hbX⟩
          have E2 := E1.trans hbX.2.2
          go_wp2_with fail
          refine hK.out _ _ E2 (fun _ => ?_)
          clear hK K
          try simp only [Act.put, List.setIfInBounds_toArray, List.set_cons_zero, List.set_cons_succ]
          refine wpAnyH_to (S2 := fun v => Chg none v2 v) (fun v h => E2.trans h) ?_
          have F0 : Chg none v2 v2 := Chg.refl _ _
          have HCX : Hid (∀ v, Chg none v2 v → (convert 22 9 (.slice AX nX cX)).run Try.prog v = .ok (.string ⟨X.toArray⟩) v) := fun v g => conv_reads v (Reads.of_own (own_chgW hbX.2.1 g))
          have g21 := g21.trans hbX.2.2
          refine wpAnyH_take (i := 6) (oi := ⟨some 67, _, _, _, _, _⟩) (v := .string ⟨X.toArray⟩) rfl (by kernel_rfl) (by kernel_rfl) (by kernel_rfl) (fun _ _ _ h => h) (Or.inl ⟨by rfl, ?_⟩) (by assumption) ?_
          · intro v hSv; have hcx := HCX.out v hSv; go_simp
          try simp only [Act.put, List.setIfInBounds_toArray, List.set_cons_zero, List.set_cons_succ]
          refine wpAnyH_take (i := 9) (oi := ⟨some 70, _, _, _, _, _⟩) (v := .bool false) rfl (by kernel_rfl) (by kernel_rfl) (by kernel_rfl) (fun _ _ _ h => h) (Or.inl ⟨by rfl, ?_⟩) (by assumption) ?_
          · intro v hSv; have hxy := HXY.out; go_simp
          try simp only [Act.put, List.setIfInBounds_toArray, List.set_cons_zero, List.set_cons_succ]
          refine wpAnyH_take (i := 10) (oi := ⟨some 71, _, _, _, _, _⟩) (v := ?_) rfl (by kernel_rfl) (by kernel_rfl) (by kernel_rfl) (fun _ _ _ h => h) (Or.inl ⟨by rfl, ?_⟩) (by assumption) ?_
          rotate_left
          · intro w hSw; (try dsimp only at hSw); go_simp; (try with_reducible rfl)
          try simp only [Act.put, List.setIfInBounds_toArray, List.set_cons_zero, List.set_cons_succ]
          refine wpAnyH_done (by kernel_rfl) ?_ _
          try simp only [Act.put]
          go_wp2_with fail
          go_ret2
          exact .inr ⟨A1, c1, M, HYES.out.1, rfl, H2.out.on E2, HYES.out.2⟩
      · have HNO : Hid (RP = none) := by rw [hrp]; exact if_neg (fun h => hat (Option.some.inj h.1))
        have hne : treeB M ≠ bs := fun h => hat (hall.2 h)
        obtain ⟨X, HX⟩ : ∃ X, Hid (X = treeB M) := ⟨_, Lib.hid rfl⟩
        rw [← HX.out] at HBY
        have HXY : Hid ((X == bs) = false) := by show _ = _; rw [beq_eq_false_iff_ne, HX.out]; exact hne
        clear hrp hall hat hmb hne
        as_aux_lemma =>
          go_upto_region 14 with fail
          have E0 := (Chg.refl none wr).drew
          refine wp_region_held_drew (S := fun v => Chg none wr v) (by kernel_rfl) E0 (fun _ => ?_)
          generalize wr.drew = v0 at *
          refine wpAnyH_take (i := 0) (oi := ⟨some 61, _, _, _, _, _⟩) (v := ?_) rfl (by kernel_rfl) (by kernel_rfl) (by kernel_rfl) (fun _ _ _ h => h) (Or.inl ⟨by rfl, ?_⟩) (by assumption) ?_
          rotate_left
          · intro w hSw; (try dsimp only at hSw); go_simp; (try with_reducible rfl)
          try simp only [Act.put, List.setIfInBounds_toArray, List.set_cons_zero, List.set_cons_succ]
          refine wpAnyH_ready (rs := [1]) (by kernel_rfl) (by simp) ?_
          refine AllReadyH.cons (o := ⟨some 62, _, _, _, _, _⟩) rfl (fun K hK => ?_) (AllReadyH.nil)
          go_simp
          go_at_call 20
          refine (HMY.out _ E0).mono ?_
          rintro e v1 ⟨rfl, g21⟩
          have E1 := E0.trans g21
          go_wp2_with fail
          refine hK.out _ _ E1 (fun _ => ?_)
          clear hK K
          try simp only [Act.put, List.setIfInBounds_toArray, List.set_cons_zero, List.set_cons_succ]
          refine wpAnyH_take (i := 2) (oi := ⟨some 63, _, _, _, _, _⟩) (v := ?_) rfl (by kernel_rfl) (by kernel_rfl) (by kernel_rfl) (fun _ _ _ h => h) (Or.inl ⟨by rfl, ?_⟩) (by assumption) ?_
          rotate_left
          · intro w hSw; (try dsimp only at hSw); go_simp; (try with_reducible rfl)
          try simp only [Act.put, List.setIfInBounds_toArray, List.set_cons_zero, List.set_cons_succ]
          refine wpAnyH_take (i := 3) (oi := ⟨some 64, _, _, _, _, _⟩) (v := ?_) rfl (by kernel_rfl) (by kernel_rfl) (by kernel_rfl) (fun _ _ _ h => h) (Or.inl ⟨by rfl, ?_⟩) (by assumption) ?_
          rotate_left
          · intro w hSw; (try dsimp only at hSw); go_simp; (try with_reducible rfl)
          try simp only [Act.put, List.setIfInBounds_toArray, List.set_cons_zero, List.set_cons_succ]
          refine wpAnyH_take (i := 4) (oi := ⟨some 65, _, _, _, _, _⟩) (v := ?_) rfl (by kernel_rfl) (by kernel_rfl) (by kernel_rfl) (fun _ _ _ h => h) (Or.inl ⟨by rfl, ?_⟩) (by assumption) ?_
          rotate_left
          · intro w hSw; (try dsimp only at hSw); go_simp; (try with_reducible rfl)
          try simp only [Act.put, List.setIfInBounds_toArray, List.set_cons_zero, List.set_cons_succ]
          refine wpAnyH_take (i := 7) (oi := ⟨some 68, _, _, _, _, _⟩) (v := ?_) rfl (by kernel_rfl) (by kernel_rfl) (by kernel_rfl) (fun _ _ _ h => h) (Or.inl ⟨by rfl, ?_⟩) (by assumption) ?_
          rotate_left
          · intro w hSw; (try dsimp only at hSw); go_simp; (try with_reducible rfl)
          try simp only [Act.put, List.setIfInBounds_toArray, List.set_cons_zero, List.set_cons_succ]
          refine wpAnyH_take (i := 8) (oi := ⟨some 69, _, _, _, _, _⟩) (v := .string ⟨bs.toArray⟩) rfl (by kernel_rfl) (by kernel_rfl) (by kernel_rfl) (fun _ _ _ h => h) (Or.inl ⟨by rfl, ?_⟩) (by assumption) ?_
          · intro v hSv; have hcb := HCB.out v hSv; go_simp
          try simp only [Act.put, List.setIfInBounds_toArray, List.set_cons_zero, List.set_cons_succ]
          refine wpAnyH_ready (rs := [5]) (by kernel_rfl) (by simp) ?_
          refine AllReadyH.cons (o := ⟨some 66, _, _, _, _, _⟩) rfl (fun K hK => ?_) (AllReadyH.nil)
          go_simp
          go_at_call 37
          refine (HBY.out _ E1).mono ?_
          rintro e v2 ⟨AX, nX, cX, rfl, hbX⟩
          have E2 := E1.trans hbX.2.2
          go_wp2_with fail
          refine hK.out _ _ E2 (fun _ => ?_)
          clear hK K
          try simp only [Act.put, List.setIfInBounds_toArray, List.set_cons_zero, List.set_cons_succ]
          refine wpAnyH_to (S2 := fun v => Chg none v2 v) (fun v h => E2.trans h) ?_
          have F0 : Chg none v2 v2 := Chg.refl _ _
          have HCX : Hid (∀ v, Chg none v2 v → (convert 22 9 (.slice AX nX cX)).run Try.prog v = .ok (.string ⟨X.toArray⟩) v) := fun v g => conv_reads v (Reads.of_own (own_chgW hbX.2.1 g))
          have g21 := g21.trans hbX.2.2
          refine wpAnyH_take (i := 6) (oi := ⟨some 67, _, _, _, _, _⟩) (v := .string ⟨X.toArray⟩) rfl (by kernel_rfl) (by kernel_rfl) (by kernel_rfl) (fun _ _ _ h => h) (Or.inl ⟨by rfl, ?_⟩) (by assumption) ?_
          · intro v hSv; have hcx := HCX.out v hSv; go_simp
          try simp only [Act.put, List.setIfInBounds_toArray, List.set_cons_zero, List.set_cons_succ]
          refine wpAnyH_take (i := 9) (oi := ⟨some 70, _, _, _, _, _⟩) (v := .bool true) rfl (by kernel_rfl) (by kernel_rfl) (by kernel_rfl) (fun _ _ _ h => h) (Or.inl ⟨by rfl, ?_⟩) (by assumption) ?_
          · intro v hSv; have hxy := HXY.out; go_simp
          try simp only [Act.put, List.setIfInBounds_toArray, List.set_cons_zero, List.set_cons_succ]
          refine wpAnyH_take (i := 10) (oi := ⟨some 71, _, _, _, _, _⟩) (v := ?_) rfl (by kernel_rfl) (by kernel_rfl) (by kernel_rfl) (fun _ _ _ h => h) (Or.inl ⟨by rfl, ?_⟩) (by assumption) ?_
          rotate_left
          · intro w hSw; (try dsimp only at hSw); go_simp; (try with_reducible rfl)
          try simp only [Act.put, List.setIfInBounds_toArray, List.set_cons_zero, List.set_cons_succ]
          refine wpAnyH_done (by kernel_rfl) ?_ _
          try simp only [Act.put]
          go_wp2_with fail
          go_ret2
          exact .inl ⟨HNO.out, rfl, H2.out.chg.trans E2⟩

end Go.Proofs.Ytglfakglcoffkaa
