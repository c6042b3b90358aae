/-
  HmacParts: the walk.
-/
import Derived.Test.YtdkgecphkppglaaDoorKn2
import Derived.Test.YtdkgecphkppglaaDoorAZ
namespace Go.Proofs.YtdkgecphkppglaaDoor
open Go.RowKit

theorem key_of_dig (s : List UInt8) (h : 64 < s.length) : keyB (dig s) = keyB s := by
  unfold keyB
  rw [if_pos h, if_neg (by rw [dig_len]; omega), dig_len]
theorem key_of_wide (s : List UInt8) (j : Nat) (h : s.length + j ≤ 64) : keyB (s ++ zeros j) = keyB s := by
  unfold keyB zeros
  rw [if_neg (by rw [List.length_append, List.length_replicate]; omega), if_neg (by omega), List.append_assoc, List.replicate_append_replicate, List.length_append, List.length_replicate]
  congr 2
  omega
theorem tag_key {s s' : List UInt8} (h : keyB s' = keyB s) (m : List UInt8) : tagB s' m = tagB s m := by unfold tagB; rw [h]
theorem wide_at (more : Int) (n : Nat) (h : n ≤ 64) : ∃ j : Nat, n + j ≤ 64 ∧ min (max more 0) (64 - (n : Int)) = (j : Int) := ⟨(min (max more 0) (64 - (n : Int))).toNat, by omega, by omega⟩

set_option maxRecDepth 100000 in
set_option maxHeartbeats 8000000 in
theorem hparts_law (p : Prt) (PA : Option Addr) (L : List Prt) (pc : Nat) (more : Int) (w : World) (hp : p.ok w) (hpm : p.c ≤ 9223372036854775807) (hA : PartsAt w PA L) (hLc : L.length ≤ 9223372036854775807)
    (hcap : ∀ q ∈ L, q.c ≤ 9223372036854775807) (hT : Tabs w) :
    Calls Tryd.prog 7 #[.slice p.A p.x.length p.c, .slice PA L.length pc, .int .i64 more] w fun e w' => e = .returned (.bool true) ∧ Chg none w w' := by
  obtain ⟨i0, hi, hz0, hz1, hz2⟩ := info_parts Tryd.info5
  have hpl := hp.2
  have hpl2 : p.x.length ≤ 9223372036854775807 := by omega
  by_cases h300 : 300 < p.x.length
  · have HK := Lib.hid (known2_any w hT)
    go_enter Tryd.func7, Tryd.ntmps7
    go_wp2_with fail
    refine HK.out.mono ?_
    rintro e w1 ⟨rfl, g1⟩
    go_wp2_with fail
    go_ret
    exact ⟨rfl, g1⟩
  have d300 : decide ((300 : Int) < (p.x.length : Int)) = false := by simp; omega
  by_cases h30 : 30 < L.length
  · have HK := Lib.hid (known2_any w hT)
    go_enter Tryd.func7, Tryd.ntmps7
    go_wp2_with fail
    refine HK.out.mono ?_
    rintro e w1 ⟨rfl, g1⟩
    go_wp2_with fail
    go_ret
    exact ⟨rfl, g1⟩
  have d30 : decide ((30 : Int) < (L.length : Int)) = false := by simp; omega
  go_enter Tryd.func7, Tryd.ntmps7
  go_wp2_with fail
  have hown0 : w.ownsRow w.heap.size 5 1 (.slice none 0 0) 0 (byteVals (joined (L.take 0))) := World.ownsRow_nil _ _ _ _
  have HOWN := Lib.hid hown0
  clear hown0
  go_loopw [7, 23] (fun s7 s23 wr => ∃ k J : Nat, k ≤ L.length ∧ s23 = .int .i64 k ∧ wr.ownsRow w.heap.size 5 1 s7 J (byteVals (joined (L.take k))) ∧ Hid (J = (joined (L.take k)).length) ∧ J ≤ 200 * k ∧ Chg none w wr) (fun _ s23 _ => L.length - (intOf s23).toNat)
  case atStart => exact ⟨0, 0, by omega, rfl, HOWN.out, rfl, by omega, Chg.refl _ _⟩
  case round =>
    obtain ⟨k, J, hk, rfl, hown, HJ, hjl, hgk⟩ := hrel
    obtain ⟨A7, c7, rfl⟩ := own_slice hown
    clear HOWN
    by_cases hlt : k < L.length
    · have hAk := hA.chg hgk
      obtain ⟨pb, off, rfl, hpb, hcell⟩ := hAk.at_ (by omega)
      have hck := hcell k L[k] (List.getElem?_eq_getElem hlt)
      unfold Prt.val at hck
      have hjt := joined_take L k hlt
      have hrd := txt_reads ((hA.all L[k] (List.getElem_mem hlt)).1.chg hgk)
      have hql := (hA.all L[k] (List.getElem_mem hlt)).2
      have hqc := hcap L[k] (List.getElem_mem hlt)
      generalize L[k] = q at *
      by_cases h200 : 200 < q.x.length
      · have HK := Lib.hid (known2_any wr (hT.chg hgk (by simp)))
        have hplm : q.x.length ≤ 9223372036854775807 := by omega
        clear hown hjl hjt hrd hAk hcell
        go_wp2_with fail
        refine HK.out.mono ?_
        rintro e w1 ⟨rfl, g1⟩
        go_wp2_with fail
        go_ret
        exact ⟨rfl, hgk.trans g1⟩
      · have d200 : decide ((200 : Int) < (q.x.length : Int)) = false := by simp; omega
        have hsum : J + q.x.length = (joined (L.take (k + 1))).length := by rw [hjt, List.length_append, HJ.out]
        have HJT := Lib.hid hjt
        have HSUM := Lib.hid hsum
        have HOWN := Lib.hid hown
        have HRD := Lib.hid hrd
        have HO1 := Lib.hid (byteVals_one q.x)
        clear hown hjt hrd hAk hcell hsum
        go_wp2_with (at_builtin; refine wpList_append_any _ rfl (.tmp 33) (.tmp 37) 22 rfl w.heap.size 5 i0 (.int .u8 0) 1 1 Tryd.underlying22 hi hz0 hz1 hz2 rfl (by decide) _ J (byteVals (joined (L.take k))) rfl HOWN.out _ _ q.x.length q.c (byteVals q.x) rfl HRD.out HO1.out ?d1 ?d2 ?d3 ?_)
        case d1 => unfold maxLen; omega
        case d2 => omega
        case d3 => exact hgk.size
        intro v3 w3 hown3 hgr3 _
        rw [byteVals_append, ← HJT.out] at hown3
        have g3 := own_chg hgk HOWN.out (Nat.le_refl _) hgr3
        have HOWN3 := Lib.hid hown3
        clear hown3 hgr3 HRD HO1
        go_wp2_with fail
        go_roundw
        case rel => exact ⟨k + 1, J + q.x.length, by omega, by go_num, HOWN3.out, HSUM.out, by omega, g3⟩
        case measure => first | (simp [intOf]; done) | (simp [intOf]; omega)
    · have hkl : k = L.length := by omega
      have hnl : decide ((k : Int) < (L.length : Int)) = false := by simp; omega
      rw [hkl, List.take_length] at hown
      have hJ := HJ.out
      rw [hkl, List.take_length] at hJ
      obtain ⟨hmt, hml, hmc⟩ := own_txt hown
      have hJ6 : J ≤ 6000 := by omega
      clear HJ hkl
      obtain ⟨m, hm⟩ : ∃ m, m = joined L := ⟨_, rfl⟩
      rw [← hm] at hown hmt hml hJ
      obtain ⟨T, hTT⟩ : ∃ T, T = tagB p.x m := ⟨_, rfl⟩
      have hTl : T.length = 32 := by rw [hTT, tagB_len]
      obtain ⟨hts, hto⟩ := row_facts T 32 hTl
      have HI : Hid ((Tryd.prog.info? 30).map (·.size) = some (byteVals T).toArray.size) := by rw [hts]; show _ = _; kernel_rfl
      have HIL : Hid ((Tryd.prog.info? 30).map (·.size) = some (byteVals T).length) := by rw [byteVals_len, hTl]; show _ = _; kernel_rfl
      have HZ : Hid (zero32.size = (byteVals T).toArray.size) := by rw [hts]; rfl
      have HO := Lib.hid hto
      have HTA := Lib.hid (tag_any p.A p.x p.c PA L pc wr (hp.1.chg hgk) hp.2 (by omega) (hA.chg hgk) (by rw [← hm, ← hml]; omega) (by omega) (hT.chg hgk (by simp)))
      -- the tag of all of them, by any secret that has this key
      have HTAG : Hid (∀ (v : World) (Q : Nat) (q : Prt), Chg none wr v → Blk v Q #[.slice A7 J c7] 22 → q.ok v → q.x.length ≤ 400 → keyB q.x = keyB p.x →
          Calls Tryd.prog 21 #[.slice q.A q.x.length q.c, .slice (some ⟨Q, 0, none⟩) 1 1] v fun e w' => e = .returned (.agg (byteVals T).toArray) ∧ Chg none v w') := fun v Q q g hQ hq hql hk => by
        have hok : (⟨A7, m, c7⟩ : Prt).ok v := ⟨hmt.chg g, by show m.length ≤ c7; omega⟩
        have hQ' : Blk v Q #[(⟨A7, m, c7⟩ : Prt).val] 22 := by
          show Blk v Q #[.slice A7 m.length c7] 22
          rw [← hml]; exact hQ
        have hj : joined [(⟨A7, m, c7⟩ : Prt)] = m := List.append_nil m
        have := tag_any q.A q.x q.c (some ⟨Q, 0, none⟩) [⟨A7, m, c7⟩] 1 v hq.1 hq.2 (by omega) (parts_one hQ' hok) (by rw [hj]; omega) (by simp) ((hT.chg hgk (by simp)).chg g (by simp))
        rw [hj] at this
        exact this.mono fun e w' ⟨he, h⟩ => ⟨by rw [he, hTT, tag_key hk], h⟩
      have hqn : ∀ v : World, (binOp .neq 30 (.agg (byteVals T).toArray) (.agg (byteVals T).toArray)).run Tryd.prog v = .ok (.bool false) v := fun v => by
        rw [neq30 T T hTl hTl v]; simp
      have hqe : ∀ v : World, (binOp .eql 30 (.agg (byteVals T).toArray) (.agg (byteVals T).toArray)).run Tryd.prog v = .ok (.bool true) v := fun v => by
        rw [eql30 T T hTl hTl v]; simp
      have hg30 := guard30
      have HNW := Lib.hid (fun (W : World) => heap_alloc_new W (.cells zero32 30))
      have HTT := Lib.hid hTT
      have HM := Lib.hid hm
      have HML := Lib.hid hml
      have HJ := Lib.hid hJ
      rw [← hm, ← hTT] at HTA
      clear hts hto hTT hown hm hml hJ
      go_wp2_with fail
      refine HTA.out.mono ?_
      rintro e w9 ⟨rfl, g9⟩
      obtain ⟨ga, ha⟩ := new_row w9 (byteVals T).toArray
      obtain ⟨W9, hW9⟩ : ∃ W9, W9 = (w9.alloc (.cells zero32 30)).setRow w9.heap.size (byteVals T).toArray := ⟨_, rfl⟩
      have HW9 : Hid ((w9.alloc (.cells #[Value.int IntKind.u8 0, Value.int IntKind.u8 0, Value.int IntKind.u8 0, Value.int IntKind.u8 0, Value.int IntKind.u8 0, Value.int IntKind.u8 0, Value.int IntKind.u8 0, Value.int IntKind.u8 0, Value.int IntKind.u8 0, Value.int IntKind.u8 0, Value.int IntKind.u8 0, Value.int IntKind.u8 0, Value.int IntKind.u8 0, Value.int IntKind.u8 0, Value.int IntKind.u8 0, Value.int IntKind.u8 0, Value.int IntKind.u8 0, Value.int IntKind.u8 0, Value.int IntKind.u8 0, Value.int IntKind.u8 0, Value.int IntKind.u8 0, Value.int IntKind.u8 0, Value.int IntKind.u8 0, Value.int IntKind.u8 0, Value.int IntKind.u8 0, Value.int IntKind.u8 0, Value.int IntKind.u8 0, Value.int IntKind.u8 0, Value.int IntKind.u8 0, Value.int IntKind.u8 0, Value.int IntKind.u8 0, Value.int IntKind.u8 0] 30)).setRow w9.heap.size (byteVals T).toArray = W9) := hW9.symm
      rw [← hW9] at ga ha
      clear hW9 HTA
      go_upto_region 12 with (refine wpList_store_row rfl 30 _ _ rfl w9.heap.size (byteVals T).toArray rfl rfl 30 _ (HNW.out w9) HI.out HZ.out HO.out ?_)
      have e1 := HW9.out
      rw [e1]
      clear e1
      generalize w9.heap.size = p9 at *
      have E0 : Chg none wr W9.drew := (g9.trans ga).drew
      have hS0 : W9.drew.rangeAt p9 0 (byteVals T) := Blk.range (show BlkL W9 p9 (byteVals T) 30 from ha)
      have HTB : Hid (∀ (v : World) (Q : Nat), Chg none wr v → Blk v Q #[.slice A7 J c7] 22 → Calls Tryd.prog 21 #[.slice p.A p.x.length p.c, .slice (some ⟨Q, 0, none⟩) 1 1] v fun e w' => e = .returned (.agg (byteVals T).toArray) ∧ Chg none v w') :=
        fun v Q g hQ => HTAG.out v Q p g hQ (hp.chg (hgk.trans g)) (by omega) rfl
      clear ga ha g9
      refine wp_region_held_drew (S := fun w' => w'.rangeAt p9 0 (byteVals T)) (by kernel_rfl) hS0 (fun _ => ?_)
      generalize W9.drew = v0 at *
      refine wpAnyH_take (i := 0) (oi := ⟨some 43, _, _, _, _, _⟩) (v := .agg (byteVals T).toArray) rfl (by kernel_rfl) (by kernel_rfl) (by kernel_rfl) (fun _ _ _ h => h) (yieldsIf_load_mid (by rfl) 30 _ rfl p9 0 rfl (byteVals T) _ (fun _ h => h) Tryd.underlying30 rfl HIL.out) (by assumption) ?_
      try simp only [Act.put, List.setIfInBounds_toArray, List.set_cons_zero, List.set_cons_succ]
      refine wpAnyH_take (i := 1) (oi := ⟨some 44, _, _, _, _, _⟩) (v := ?_) rfl (by kernel_rfl) (by kernel_rfl) (by kernel_rfl) (fun _ _ _ h => h) (Or.inl ⟨by rfl, ?_⟩) (by assumption) ?_
      rotate_left
      · intro w hSw; (try dsimp only at hSw); go_simp; (try with_reducible rfl)
      try simp only [Act.put, List.setIfInBounds_toArray, List.set_cons_zero, List.set_cons_succ]
      refine wpAnyH_take (i := 2) (oi := ⟨some 45, _, _, _, _, _⟩) (v := ?_) rfl (by kernel_rfl) (by kernel_rfl) (by kernel_rfl) (fun _ _ _ h => h) (Or.inl ⟨by rfl, ?_⟩) (by assumption) ?_
      rotate_left
      · intro w hSw; (try dsimp only at hSw); go_simp; (try with_reducible rfl)
      try simp only [Act.put, List.setIfInBounds_toArray, List.set_cons_zero, List.set_cons_succ]
      refine wpAnyH_ready (rs := [3]) (by kernel_rfl) (by simp) ?_
      refine AllReadyH.cons (o := ⟨some 46, _, _, _, _, _⟩) rfl (fun K hK => ?_) (AllReadyH.nil)
      have gA : Chg none v0 (World.alloc v0 (Obj.cells #[Value.slice A7 J c7] 22)) := (Chg.refl _ _).alloc _
      have hSA := range_chg hS0 gA
      have NQ := Blk.new v0 #[Value.slice A7 J c7] 22
      have EA := E0.trans gA
      go_simp
      refine hK.out _ _ hSA (fun _ => ?_)
      clear hK K
      try simp only [Act.put, List.setIfInBounds_toArray, List.set_cons_zero, List.set_cons_succ]
      refine wpAnyH_ready (rs := [4]) (by kernel_rfl) (by simp) ?_
      refine AllReadyH.cons (o := ⟨some 47, _, _, _, _, _⟩) rfl (fun K hK => ?_) (AllReadyH.nil)
      go_simp
      go_at_call 21
      refine (HTB.out _ v0.heap.size EA NQ).mono ?_
      rintro e w12 ⟨rfl, g12⟩
      have E12 := EA.trans g12
      have hS12 := range_chg hSA g12
      go_wp2_with fail
      refine hK.out _ _ hS12 (fun _ => ?_)
      clear hK K
      try simp only [Act.put, List.setIfInBounds_toArray, List.set_cons_zero, List.set_cons_succ]
      refine wpAnyH_take (i := 5) (oi := ⟨some 48, _, _, _, _, _⟩) (v := ?_) rfl (by kernel_rfl) (by kernel_rfl) (by kernel_rfl) (fun _ _ _ h => h) (Or.inl ⟨by rfl, ?_⟩) (by assumption) ?_
      rotate_left
      · intro w hSw; (try dsimp only at hSw); go_simp; (try with_reducible rfl)
      try simp only [Act.put, List.setIfInBounds_toArray, List.set_cons_zero, List.set_cons_succ]
      refine wpAnyH_done (by kernel_rfl) ?_ _
      have gw := hgk
      clear HTB
      by_cases h64 : 64 < p.x.length
      · have HSM := Lib.hid (sum_any p.A p.x p.c w12 ((hp.1.chg hgk).chg E12) hp.2 (by omega) ((hT.chg hgk (by simp)).chg E12 (by simp)))
        go_wp2_with fail
        refine HSM.out.mono ?_
        rintro e w13 ⟨rfl, g13⟩
        obtain ⟨ga, ha⟩ := new_row w13 (byteVals (dig p.x)).toArray
        obtain ⟨W14, hW14⟩ : ∃ W14, W14 = (w13.alloc (.cells zero32 30)).setRow w13.heap.size (byteVals (dig p.x)).toArray := ⟨_, rfl⟩
        have HW14 : Hid ((w13.alloc (.cells #[Value.int IntKind.u8 0, Value.int IntKind.u8 0, Value.int IntKind.u8 0, Value.int IntKind.u8 0, Value.int IntKind.u8 0, Value.int IntKind.u8 0, Value.int IntKind.u8 0, Value.int IntKind.u8 0, Value.int IntKind.u8 0, Value.int IntKind.u8 0, Value.int IntKind.u8 0, Value.int IntKind.u8 0, Value.int IntKind.u8 0, Value.int IntKind.u8 0, Value.int IntKind.u8 0, Value.int IntKind.u8 0, Value.int IntKind.u8 0, Value.int IntKind.u8 0, Value.int IntKind.u8 0, Value.int IntKind.u8 0, Value.int IntKind.u8 0, Value.int IntKind.u8 0, Value.int IntKind.u8 0, Value.int IntKind.u8 0, Value.int IntKind.u8 0, Value.int IntKind.u8 0, Value.int IntKind.u8 0, Value.int IntKind.u8 0, Value.int IntKind.u8 0, Value.int IntKind.u8 0, Value.int IntKind.u8 0, Value.int IntKind.u8 0] 30)).setRow w13.heap.size (byteVals (dig p.x)).toArray = W14) := hW14.symm
        rw [← hW14] at ga ha
        obtain ⟨hds, hdo⟩ := row_facts (dig p.x) 32 (dig_len _)
        have HDI : Hid ((Tryd.prog.info? 30).map (·.size) = some (byteVals (dig p.x)).toArray.size) := by rw [hds]; show _ = _; kernel_rfl
        have HDZ : Hid (zero32.size = (byteVals (dig p.x)).toArray.size) := by rw [hds]; rfl
        have HDO := Lib.hid hdo
        clear hW14 HSM hds hdo
        go_upto_region 16 with (refine wpList_store_row rfl 30 _ _ rfl w13.heap.size (byteVals (dig p.x)).toArray rfl rfl 30 _ (HNW.out w13) HDI.out HDZ.out HDO.out ?_)
        have e1 := HW14.out
        rw [e1]
        clear e1
        generalize w13.heap.size = pD at *
        have gpre : Chg none wr W14.drew := ((E12.trans g13).trans ga).drew
        have gw : Chg none w W14.drew := hgk.trans gpre
        have hS0 : W14.drew.rangeAt p9 0 (byteVals T) := range_chg hS12 ((g13.trans ga).drew)
        have hok0 : (⟨some ⟨pD, 0, none⟩, dig p.x, 32⟩ : Prt).ok W14.drew := ⟨fun _ => ⟨pD, 0, rfl, ha.lt, fun j x hj => by
          rw [Nat.zero_add, BlkL.cell (show BlkL W14.drew pD (byteVals (dig p.x)) 30 from ha)]; exact byteVals_get hj⟩, by show (dig p.x).length ≤ 32; rw [dig_len]; exact Nat.le_refl _⟩
        have HTC : Hid (∀ (v : World) (Q : Nat), Chg none W14.drew v → Blk v Q #[.slice A7 J c7] 22 → Calls Tryd.prog 21 #[.slice (some ⟨pD, 0, none⟩) 32 32, .slice (some ⟨Q, 0, none⟩) 1 1] v fun e w' => e = .returned (.agg (byteVals T).toArray) ∧ Chg none v w') := fun v Q g hQ => by
          have := HTAG.out v Q ⟨some ⟨pD, 0, none⟩, dig p.x, 32⟩ (gpre.trans g) hQ (hok0.chg g) (by show (dig p.x).length ≤ 400; rw [dig_len]; omega) (key_of_dig p.x h64)
          have hd : (⟨some ⟨pD, 0, none⟩, dig p.x, 32⟩ : Prt).x.length = 32 := dig_len _
          rw [hd] at this
          exact this
        have HKN : Hid (∀ v : World, Chg none W14.drew v → Calls Tryd.prog 20 #[] v fun e w' => e = .returned (.bool true) ∧ Chg none v w') := fun v g => known2_any v ((hT.chg gw (by simp)).chg g (by simp))
        have E0 : Chg none W14.drew W14.drew := Chg.refl _ _
        clear ga ha g13 hok0 HDO HDI HDZ gpre E12 hS12
        refine wp_region_held_drew (S := fun w' => w'.rangeAt p9 0 (byteVals T)) (by kernel_rfl) hS0 (fun _ => ?_)
        generalize W14.drew = v0 at *
        refine wpAnyH_take (i := 0) (oi := ⟨some 54, _, _, _, _, _⟩) (v := ?_) rfl (by kernel_rfl) (by kernel_rfl) (by kernel_rfl) (fun _ _ _ h => h) (Or.inl ⟨by rfl, ?_⟩) (by assumption) ?_
        rotate_left
        · intro w hSw; (try dsimp only at hSw); go_simp; (try with_reducible rfl)
        try simp only [Act.put, List.setIfInBounds_toArray, List.set_cons_zero, List.set_cons_succ]
        refine wpAnyH_take (i := 1) (oi := ⟨some 55, _, _, _, _, _⟩) (v := ?_) rfl (by kernel_rfl) (by kernel_rfl) (by kernel_rfl) (fun _ _ _ h => h) (Or.inl ⟨by rfl, ?_⟩) (by assumption) ?_
        rotate_left
        · intro w hSw; (try dsimp only at hSw); go_simp; (try with_reducible rfl)
        try simp only [Act.put, List.setIfInBounds_toArray, List.set_cons_zero, List.set_cons_succ]
        refine wpAnyH_take (i := 4) (oi := ⟨some 58, _, _, _, _, _⟩) (v := .agg (byteVals T).toArray) rfl (by kernel_rfl) (by kernel_rfl) (by kernel_rfl) (fun _ _ _ h => h) (yieldsIf_load_mid (by rfl) 30 _ rfl p9 0 rfl (byteVals T) _ (fun _ h => h) Tryd.underlying30 rfl HIL.out) (by assumption) ?_
        try simp only [Act.put, List.setIfInBounds_toArray, List.set_cons_zero, List.set_cons_succ]
        refine wpAnyH_ready (rs := [2]) (by kernel_rfl) (by simp) ?_
        refine AllReadyH.cons (o := ⟨some 56, _, _, _, _, _⟩) rfl (fun K hK => ?_) (AllReadyH.nil)
        have gA : Chg none v0 (World.alloc v0 (Obj.cells #[Value.slice A7 J c7] 22)) := (Chg.refl _ _).alloc _
        have hSA := range_chg hS0 gA
        have NQ := Blk.new v0 #[Value.slice A7 J c7] 22
        have EA := E0.trans gA
        go_simp
        refine hK.out _ _ hSA (fun _ => ?_)
        clear hK K
        try simp only [Act.put, List.setIfInBounds_toArray, List.set_cons_zero, List.set_cons_succ]
        refine wpAnyH_ready (rs := [3]) (by kernel_rfl) (by simp) ?_
        refine AllReadyH.cons (o := ⟨some 57, _, _, _, _, _⟩) rfl (fun K hK => ?_) (AllReadyH.nil)
        go_simp
        go_at_call 21
        refine (HTC.out _ v0.heap.size EA NQ).mono ?_
        rintro e w16 ⟨rfl, g16⟩
        have E16 := EA.trans g16
        have hS16 := range_chg hSA g16
        go_wp2_with fail
        refine hK.out _ _ hS16 (fun _ => ?_)
        clear hK K
        try simp only [Act.put, List.setIfInBounds_toArray, List.set_cons_zero, List.set_cons_succ]
        refine wpAnyH_take (i := 5) (oi := ⟨some 59, _, _, _, _, _⟩) (v := ?_) rfl (by kernel_rfl) (by kernel_rfl) (by kernel_rfl) (fun _ _ _ h => h) (Or.inl ⟨by rfl, ?_⟩) (by assumption) ?_
        rotate_left
        · intro w hSw; (try dsimp only at hSw); go_simp; (try with_reducible rfl)
        try simp only [Act.put, List.setIfInBounds_toArray, List.set_cons_zero, List.set_cons_succ]
        refine wpAnyH_take (i := 6) (oi := ⟨some 60, _, _, _, _, _⟩) (v := ?_) rfl (by kernel_rfl) (by kernel_rfl) (by kernel_rfl) (fun _ _ _ h => h) (Or.inl ⟨by rfl, ?_⟩) (by assumption) ?_
        rotate_left
        · intro w hSw; (try dsimp only at hSw); go_simp; (try with_reducible rfl)
        try simp only [Act.put, List.setIfInBounds_toArray, List.set_cons_zero, List.set_cons_succ]
        refine wpAnyH_ready (rs := [7]) (by kernel_rfl) (by simp) ?_
        refine AllReadyH.cons (o := ⟨some 61, _, _, _, _, _⟩) rfl (fun K hK => ?_) (AllReadyH.nil)
        go_simp
        go_at_call 20
        refine (HKN.out _ E16).mono ?_
        rintro e w17 ⟨rfl, g17⟩
        have E17 := E16.trans g17
        have hS17 := range_chg hS16 g17
        go_wp2_with fail
        refine hK.out _ _ hS17 (fun _ => ?_)
        clear hK K
        try simp only [Act.put, List.setIfInBounds_toArray, List.set_cons_zero, List.set_cons_succ]
        refine wpAnyH_take (i := 8) (oi := ⟨some 62, _, _, _, _, _⟩) (v := ?_) rfl (by kernel_rfl) (by kernel_rfl) (by kernel_rfl) (fun _ _ _ h => h) (Or.inl ⟨by rfl, ?_⟩) (by assumption) ?_
        rotate_left
        · intro w hSw; (try dsimp only at hSw); go_simp; (try with_reducible rfl)
        try simp only [Act.put, List.setIfInBounds_toArray, List.set_cons_zero, List.set_cons_succ]
        refine wpAnyH_take (i := 9) (oi := ⟨some 6, _, _, _, _, _⟩) (v := ?_) rfl (by kernel_rfl) (by kernel_rfl) (by kernel_rfl) (fun _ _ _ h => h) (Or.inl ⟨by rfl, ?_⟩) (by assumption) ?_
        rotate_left
        · intro w hSw; (try dsimp only at hSw); go_simp; (try with_reducible rfl)
        try simp only [Act.put, List.setIfInBounds_toArray, List.set_cons_zero, List.set_cons_succ]
        refine wpAnyH_done (by kernel_rfl) ?_ _
        go_wp2_with fail
        go_ret
        exact ⟨rfl, gw.trans E17⟩
      · have d64 : decide ((64 : Int) < (p.x.length : Int)) = false := by simp; omega
        have hownE : (w12.alloc (.cells #[] 5)).ownsRow w12.heap.size 5 1 (.slice (some ⟨w12.heap.size, 0, none⟩) 0 0) 0 [] := by
          refine ⟨rfl, .inr ⟨w12.heap.size, 0, #[], rfl, Nat.le_refl _, heap_alloc_new w12 _, Nat.le_refl _, by unfold maxLen; decide, rfl, rfl⟩⟩
        have gE : Chg none w12 (w12.alloc (.cells #[] 5)) := (Chg.refl _ _).alloc _
        have HRD := Lib.hid (txt_reads (((hp.1.chg hgk).chg E12).chg gE))
        have HO1 := Lib.hid (byteVals_one p.x)
        have HOWE := Lib.hid hownE
        clear hownE
        go_wp2_with (at_builtin; refine wpList_append_any _ rfl (.tmp 63) (.tmp 64) 22 rfl w12.heap.size 5 i0 (.int .u8 0) 1 1 Tryd.underlying22 hi hz0 hz1 hz2 rfl (by decide) _ 0 [] rfl HOWE.out _ _ p.x.length p.c (byteVals p.x) rfl HRD.out HO1.out ?d1 ?d2 ?d3 ?_)
        case d1 => unfold maxLen; omega
        case d2 => omega
        case d3 => simp
        intro v3 w3 hown3 hgr3 _
        try simp only [List.nil_append, Nat.zero_add] at hown3
        obtain ⟨A3, c3, rfl⟩ := own_slice hown3
        have g3 : Chg none w12 w3 := own_chg gE HOWE.out (Nat.le_refl _) hgr3
        have HOWN3 := Lib.hid hown3
        clear hown3 hgr3 HRD HO1 HOWE gE
        have hb3 : w12.heap.size ≤ w3.heap.size := g3.size
        have hp64 : p.x.length ≤ 64 := by omega
        have HTC : Hid (∀ (A4 : Option Addr) (c4 j : Nat) (w4 : World), w4.ownsRow w12.heap.size 5 1 (.slice A4 (p.x.length + j) c4) (p.x.length + j) (byteVals p.x ++ List.replicate j (.int .u8 0)) → p.x.length + j ≤ 64 → Chg none wr w4 →
            ∀ (v : World) (Q : Nat), Chg none w4.drew v → Blk v Q #[.slice A7 J c7] 22 → Calls Tryd.prog 21 #[.slice A4 (p.x.length + j) c4, .slice (some ⟨Q, 0, none⟩) 1 1] v fun e w' => e = .returned (.agg (byteVals T).toArray) ∧ Chg none v w') := fun A4 c4 j w4 hown4 hj4 g4 v Q g hQ => by
          have hx : byteVals p.x ++ List.replicate j (.int .u8 0) = byteVals (p.x ++ zeros j) := by simp [byteVals, zeros]
          rw [hx] at hown4
          obtain ⟨ht4, hl4, hc4⟩ := own_txt hown4
          have := HTAG.out v Q ⟨A4, p.x ++ zeros j, c4⟩ (g4.drew.trans g) hQ ⟨(ht4.chg ((Chg.refl none w4).drew)).chg g, by show (p.x ++ zeros j).length ≤ c4; omega⟩ (by show (p.x ++ zeros j).length ≤ 400; omega) (key_of_wide p.x j hj4)
          have hd : (⟨A4, p.x ++ zeros j, c4⟩ : Prt).x.length = p.x.length + j := hl4.symm
          rw [hd] at this
          exact this
        have hS3 : w3.rangeAt p9 0 (byteVals T) := range_chg hS12 g3
        have E3 : Chg none wr w3 := E12.trans g3
        go_wp2_with (at_builtin; refine wpList_append_zeros rfl (.tmp 65) (.tmp 71) rfl rfl w12.heap.size _ p.x.length (byteVals p.x) rfl HOWN3.out _ rfl (by omega) (by omega) hb3 ?_)
        all_goals
          intro j v4 w4 hj hown4 hgr4
          have hj64 : p.x.length + j ≤ 64 := by omega
          obtain ⟨A4, c4, rfl⟩ := own_slice hown4
          have g4 : Chg none wr w4 := own_chg E3 HOWN3.out E12.size hgr4
          have g124 : Chg none w12 w4 := own_chg g3 HOWN3.out (Nat.le_refl _) hgr4
          have HTC := Lib.hid (HTC.out A4 c4 j w4 hown4 hj64 g4)
          have gw : Chg none w w4.drew := (hgk.trans g4).drew
          have hS0 : w4.drew.rangeAt p9 0 (byteVals T) := range_chg hS12 g124.drew
          have HKN : Hid (∀ v : World, Chg none w4.drew v → Calls Tryd.prog 20 #[] v fun e w' => e = .returned (.bool true) ∧ Chg none v w') := fun v g => known2_any v ((hT.chg gw (by simp)).chg g (by simp))
          have E0 : Chg none w4.drew w4.drew := Chg.refl _ _
          clear hgr4 hown4 g124 g4 hS3 E3 hS12 g3 HOWN3 E12
          generalize p.x.length + j = n4 at *
          go_wp2_with fail
          refine wp_region_held_drew (S := fun w' => w'.rangeAt p9 0 (byteVals T)) (by kernel_rfl) hS0 (fun _ => ?_)
          generalize w4.drew = v0 at *
          refine wpAnyH_take (i := 0) (oi := ⟨some 73, _, _, _, _, _⟩) (v := ?_) rfl (by kernel_rfl) (by kernel_rfl) (by kernel_rfl) (fun _ _ _ h => h) (Or.inl ⟨by rfl, ?_⟩) (by assumption) ?_
          rotate_left
          · intro w hSw; (try dsimp only at hSw); go_simp; (try with_reducible rfl)
          try simp only [Act.put, List.setIfInBounds_toArray, List.set_cons_zero, List.set_cons_succ]
          refine wpAnyH_take (i := 1) (oi := ⟨some 74, _, _, _, _, _⟩) (v := ?_) rfl (by kernel_rfl) (by kernel_rfl) (by kernel_rfl) (fun _ _ _ h => h) (Or.inl ⟨by rfl, ?_⟩) (by assumption) ?_
          rotate_left
          · intro w hSw; (try dsimp only at hSw); go_simp; (try with_reducible rfl)
          try simp only [Act.put, List.setIfInBounds_toArray, List.set_cons_zero, List.set_cons_succ]
          refine wpAnyH_take (i := 4) (oi := ⟨some 77, _, _, _, _, _⟩) (v := .agg (byteVals T).toArray) rfl (by kernel_rfl) (by kernel_rfl) (by kernel_rfl) (fun _ _ _ h => h) (yieldsIf_load_mid (by rfl) 30 _ rfl p9 0 rfl (byteVals T) _ (fun _ h => h) Tryd.underlying30 rfl HIL.out) (by assumption) ?_
          try simp only [Act.put, List.setIfInBounds_toArray, List.set_cons_zero, List.set_cons_succ]
          refine wpAnyH_ready (rs := [2]) (by kernel_rfl) (by simp) ?_
          refine AllReadyH.cons (o := ⟨some 75, _, _, _, _, _⟩) rfl (fun K hK => ?_) (AllReadyH.nil)
          have gA : Chg none v0 (World.alloc v0 (Obj.cells #[Value.slice A7 J c7] 22)) := (Chg.refl _ _).alloc _
          have hSA := range_chg hS0 gA
          have NQ := Blk.new v0 #[Value.slice A7 J c7] 22
          have EA := E0.trans gA
          go_simp
          refine hK.out _ _ hSA (fun _ => ?_)
          clear hK K
          try simp only [Act.put, List.setIfInBounds_toArray, List.set_cons_zero, List.set_cons_succ]
          refine wpAnyH_ready (rs := [3]) (by kernel_rfl) (by simp) ?_
          refine AllReadyH.cons (o := ⟨some 76, _, _, _, _, _⟩) rfl (fun K hK => ?_) (AllReadyH.nil)
          go_simp
          go_at_call 21
          refine (HTC.out _ v0.heap.size EA NQ).mono ?_
          rintro e w16 ⟨rfl, g16⟩
          have E16 := EA.trans g16
          have hS16 := range_chg hSA g16
          go_wp2_with fail
          refine hK.out _ _ hS16 (fun _ => ?_)
          clear hK K
          try simp only [Act.put, List.setIfInBounds_toArray, List.set_cons_zero, List.set_cons_succ]
          refine wpAnyH_take (i := 5) (oi := ⟨some 78, _, _, _, _, _⟩) (v := ?_) rfl (by kernel_rfl) (by kernel_rfl) (by kernel_rfl) (fun _ _ _ h => h) (Or.inl ⟨by rfl, ?_⟩) (by assumption) ?_
          rotate_left
          · intro w hSw; (try dsimp only at hSw); go_simp; (try with_reducible rfl)
          try simp only [Act.put, List.setIfInBounds_toArray, List.set_cons_zero, List.set_cons_succ]
          refine wpAnyH_take (i := 6) (oi := ⟨some 79, _, _, _, _, _⟩) (v := ?_) rfl (by kernel_rfl) (by kernel_rfl) (by kernel_rfl) (fun _ _ _ h => h) (Or.inl ⟨by rfl, ?_⟩) (by assumption) ?_
          rotate_left
          · intro w hSw; (try dsimp only at hSw); go_simp; (try with_reducible rfl)
          try simp only [Act.put, List.setIfInBounds_toArray, List.set_cons_zero, List.set_cons_succ]
          refine wpAnyH_ready (rs := [7]) (by kernel_rfl) (by simp) ?_
          refine AllReadyH.cons (o := ⟨some 80, _, _, _, _, _⟩) rfl (fun K hK => ?_) (AllReadyH.nil)
          go_simp
          go_at_call 20
          refine (HKN.out _ E16).mono ?_
          rintro e w17 ⟨rfl, g17⟩
          have E17 := E16.trans g17
          have hS17 := range_chg hS16 g17
          go_wp2_with fail
          refine hK.out _ _ hS17 (fun _ => ?_)
          clear hK K
          try simp only [Act.put, List.setIfInBounds_toArray, List.set_cons_zero, List.set_cons_succ]
          refine wpAnyH_take (i := 8) (oi := ⟨some 81, _, _, _, _, _⟩) (v := ?_) rfl (by kernel_rfl) (by kernel_rfl) (by kernel_rfl) (fun _ _ _ h => h) (Or.inl ⟨by rfl, ?_⟩) (by assumption) ?_
          rotate_left
          · intro w hSw; (try dsimp only at hSw); go_simp; (try with_reducible rfl)
          try simp only [Act.put, List.setIfInBounds_toArray, List.set_cons_zero, List.set_cons_succ]
          refine wpAnyH_take (i := 9) (oi := ⟨some 6, _, _, _, _, _⟩) (v := ?_) rfl (by kernel_rfl) (by kernel_rfl) (by kernel_rfl) (fun _ _ _ h => h) (Or.inl ⟨by rfl, ?_⟩) (by assumption) ?_
          rotate_left
          · intro w hSw; (try dsimp only at hSw); go_simp; (try with_reducible rfl)
          try simp only [Act.put, List.setIfInBounds_toArray, List.set_cons_zero, List.set_cons_succ]
          refine wpAnyH_done (by kernel_rfl) ?_ _
          go_wp2_with fail
          go_ret
          exact ⟨rfl, gw.trans E17⟩

end Go.Proofs.YtdkgecphkppglaaDoor
