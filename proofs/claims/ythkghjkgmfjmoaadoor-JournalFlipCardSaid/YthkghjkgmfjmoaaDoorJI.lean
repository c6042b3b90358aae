/-
  JournalMore: the walk.
-/
import Derived.Test.YthkghjkgmfjmoaaDoorJH
namespace Go.Proofs.YthkghjkgmfjmoaaDoor
open Go.RowKit

/-- The forms of the first records, in memory of the call's own. -/
structure FormsAt (w : World) (L : List Prt) (i : Nat) (A : Option Addr) (c : Nat) (W : World) : Prop where
  own : W.ownsRow w.heap.size 5 1 (.slice A (flatJ (L.take i)).length c) (flatJ (L.take i)).length (byteVals (flatJ (L.take i)))
  chg : Chg none w W
  may : ∀ p ∈ L.take i, mayJ p.x = true
  most : i ≤ L.length

set_option maxRecDepth 100000 in
set_option maxHeartbeats 32000000 in
theorem more_law (A : Option Addr) (L : List Prt) (c : Nat) (q : Prt) (w : World) (hL : PartsAt w A L) (hLc : L.length ≤ c) (hcm : c ≤ 9223372036854775807) (hq : q.ok w) (hqm : q.c ≤ 9223372036854775807) (hT : Tabs w) :
    Calls Tryd.prog 9 #[.slice A L.length c, .slice q.A q.x.length q.c] w fun e w' => e = .returned (.bool true) ∧ Chg none w w' := by
  obtain ⟨i0, hi, hz0, hz1, hz2⟩ := info_parts Tryd.info5
  have hLl : L.length ≤ 9223372036854775807 := by omega
  have hql : q.x.length ≤ 9223372036854775807 := by have := hq.2; omega
  have HKN : Hid (∀ v, Chg none w v → Calls Tryd.prog 16 #[] v fun e w' => e = .returned (.bool true) ∧ Chg none v w') := fun v g => known11_any v (hT.chg g (by simp))
  by_cases h1 : 20 < L.length
  · have d1 : decide ((20 : Int) < (L.length : Int)) = true := by rw [decide_eq_true_eq]; omega
    have HK := Lib.hid (HKN.out w (Chg.refl _ _))
    clear HKN hT hq hL
    go_enter Tryd.func9, Tryd.ntmps9
    go_wp2_with fail
    refine HK.out.mono ?_
    rintro e w1 ⟨rfl, g1⟩
    go_wp2_with fail
    go_ret
    exact ⟨rfl, g1⟩
  have d1 : decide ((20 : Int) < (L.length : Int)) = false := by rw [decide_eq_false_iff_not]; omega
  have HSZ := Lib.hid (size_any A L c w hL (by omega))
  have HTT : Hid (∀ v, Chg none w v → Tabs v) := fun v g => hT.chg g (by simp)
  have HPA : Hid (∀ v, Chg none w v → PartsAt v A L) := fun v g => hL.chg g
  have HQ : Hid (∀ v, Chg none w v → q.ok v) := fun v g => hq.chg g
  have HLE := Lib.hid (Nat.le_refl w.heap.size)
  have hst : FormsAt w L 0 none 0 w := ⟨World.ownsRow_nil _ _ _ _, Chg.refl _ _, fun p hp => (by simp at hp), Nat.zero_le _⟩
  have HST := Lib.hid hst
  have HK0 := Lib.hid (HKN.out w (Chg.refl _ _))
  clear hT hL hq hst
  go_enter Tryd.func9, Tryd.ntmps9
  go_wp2_with fail
  refine HSZ.out.mono ?_
  rintro e w1 ⟨z, rfl, rfl⟩
  by_cases hz : 20000 < z
  · have d2 : decide ((20000 : Int) < z) = true := by rw [decide_eq_true_eq]; exact hz
    go_wp2_with fail
    refine HK0.out.mono ?_
    rintro e w2 ⟨rfl, g2⟩
    go_wp2_with fail
    go_ret
    exact ⟨rfl, g2⟩
  have d2 : decide ((20000 : Int) < z) = false := by rw [decide_eq_false_iff_not]; exact hz
  by_cases h3 : 5000 < q.x.length
  · have d3 : decide ((5000 : Int) < (q.x.length : Int)) = true := by rw [decide_eq_true_eq]; omega
    go_wp2_with fail
    refine HK0.out.mono ?_
    rintro e w2 ⟨rfl, g2⟩
    go_wp2_with fail
    go_ret
    exact ⟨rfl, g2⟩
  have d3 : decide ((5000 : Int) < (q.x.length : Int)) = false := by rw [decide_eq_false_iff_not]; omega
  clear HK0 HSZ hz
  go_wp2_with fail
  clear d1 d2 d3
  go_loopw [5, 32] (fun s5 s32 wr => ∃ (Ab : Option Addr) (cb i : Nat), s5 = .slice Ab (flatJ (L.take i)).length cb ∧ s32 = .int .i64 i ∧ FormsAt w1 L i Ab cb wr) (fun _ s32 _ => L.length - (intOf s32).toNat)
  case atStart => exact ⟨none, 0, 0, rfl, rfl, HST.out⟩
  case round =>
    obtain ⟨Ab, cb, i, rfl, rfl, hF⟩ := hrel
    have him := hF.most
    have HF := Lib.hid hF
    by_cases hlt : i < L.length
    · obtain ⟨b, off, hA, _, hcell⟩ := (HPA.out wr hF.chg).at_ (by omega)
      have hc := hcell i (L[i]) (List.getElem?_eq_getElem hlt)
      have hok := (HPA.out wr hF.chg).all (L[i]) (List.getElem_mem hlt)
      have hd : decide ((i : Int) < (L.length : Int)) = true := by rw [decide_eq_true_eq]; omega
      have hsucc := flatJ_succ hlt
      have hmem : ∀ p ∈ L.take (i + 1), p ∈ L.take i ∨ p = L[i] := fun p hp => by
        rw [List.take_succ_eq_append_getElem hlt, List.mem_append, List.mem_singleton] at hp
        exact hp
      have hfl := flatJ_le (L.take i) hF.may
      rw [List.length_take] at hfl
      unfold Prt.val at hc
      generalize L[i] = p at *
      subst hA
      have HOK := Lib.hid hok
      by_cases hm : mayJ p.x = true
      rotate_left
      · have hm' : mayJ p.x = false := by simpa using hm
        have HFN := Lib.hid (form_no p.A p.x.length p.c wr (mayJ_no hm'))
        have HG := Lib.hid hF.chg
        clear hF hcell hok hm hm' hsucc hmem hfl HF HOK
        go_wp2_with fail
        refine HFN.out.mono ?_
        rintro e w2 ⟨rfl, g2⟩
        have HK := Lib.hid (HKN.out w2 (HG.out.trans g2))
        have G2 := HG.out.trans g2
        go_wp2_with fail
        refine HK.out.mono ?_
        rintro e w3 ⟨rfl, g3⟩
        go_wp2_with fail
        go_ret
        exact ⟨rfl, G2.trans g3⟩
      · have hyes := mayJ_yes hm
        have HFY := Lib.hid (form_yes p wr hok hyes.1 hyes.2 (HTT.out wr hF.chg))
        have hfp := formJ_le hm
        have HM := Lib.hid hm
        have HMEM := Lib.hid hmem
        have HSUCC := Lib.hid hsucc
        clear hF hcell hok hm hyes hmem hsucc
        obtain ⟨FL, hFL⟩ : ∃ FL, FL = flatJ (L.take i) := ⟨_, rfl⟩
        have HFL := Lib.hid hFL
        rw [← hFL] at hfl ⊢
        generalize formJ p.x = FJ at *
        clear hFL
        go_wp2_with fail
        refine HFY.out.mono ?_
        rintro e w2 ⟨A2, c2, rfl, hown2, g2⟩
        have HR2 := Lib.hid (txt_reads (own_txt hown2).1)
        have HOWN : Hid (w2.ownsRow w1.heap.size 5 1 (.slice Ab FL.length cb) FL.length (byteVals FL)) := by have := own_on HF.out.own g2; rw [← HFL.out] at this; exact this
        have G2 := HF.out.chg.trans g2
        have HO := Lib.hid (byteVals_one FJ)
        have HS := Lib.hid G2.size
        have hb1 : FL.length + FJ.length ≤ 400000 := by omega
        clear hown2 HFY hfl hfp
        go_wp2_with (at_builtin; refine wpList_append_any _ rfl (.tmp 46) (.tmp 47) 22 rfl w1.heap.size 5 i0 (.int .u8 0) 1 1 Tryd.underlying22 hi hz0 hz1 hz2 rfl (by decide) _ FL.length (byteVals FL) rfl HOWN.out _ A2 FJ.length c2 (byteVals FJ) rfl HR2.out HO.out (by unfold maxLen; omega) (by omega) HS.out ?_)
        intro v3 w3 hown3 hgr3 _
        have G3 : Chg none w1 w3 := own_chg G2 HOWN.out HLE.out hgr3
        rw [byteVals_append] at hown3
        obtain ⟨A3, c3, rfl⟩ := own_slice hown3
        have e3 : FL ++ FJ = flatJ (L.take (i + 1)) := by rw [HFL.out, HSUCC.out]
        have el : FL.length + FJ.length = (flatJ (L.take (i + 1))).length := by rw [← e3, List.length_append]
        have hnew : FormsAt w1 L (i + 1) A3 c3 w3 := ⟨by rw [← el, ← e3]; exact hown3, G3, fun p' hp' => by
          rcases HMEM.out p' hp' with h | h
          · exact HF.out.may p' h
          · subst h; exact HM.out, by omega⟩
        have HNEW := Lib.hid hnew
        have HEL := Lib.hid el
        clear hown3 hgr3 hnew e3 el HR2 HOWN G2 G3
        go_wp2_with fail
        go_roundw
        case rel => exact ⟨A3, c3, i + 1, by rw [← HEL.out], by go_num, HNEW.out⟩
        case measure => simp [intOf]; omega
    · have hiL : i = L.length := by omega
      have hd : decide ((i : Int) < (L.length : Int)) = false := by rw [decide_eq_false_iff_not]; omega
      have htake : L.take i = L := List.take_of_length_le (by omega)
      have hFown := hF.own
      have hFmay := hF.may
      rw [htake] at hFown hFmay
      rw [htake]
      have hfl := flatJ_le L hFmay
      have hrj := readJ_flat L q.x hFmay
      have hfew := readJ_few q.x _ 0 (Nat.le_refl _) (Nat.zero_le _)
      have HRM := Lib.hid (readj_any q wr (HQ.out wr hF.chg) (by omega) (HTT.out wr hF.chg))
      obtain ⟨FL, hFL⟩ : ∃ FL, FL = flatJ L := ⟨_, rfl⟩
      rw [← hFL] at hFown hfl hrj ⊢
      have HRB : Hid (∀ v A c, Chg none w1 v → Txt v A (FL ++ q.x) → FL.length + q.x.length ≤ c → Calls Tryd.prog 21 #[.slice A (FL.length + q.x.length) c] v (ReadTold v (FL ++ q.x))) := fun v A c g h hc => by
        have e : (FL ++ q.x).length = FL.length + q.x.length := List.length_append
        have := readj_any ⟨A, FL ++ q.x, c⟩ v ⟨h, by show (FL ++ q.x).length ≤ c; omega⟩ (by show (FL ++ q.x).length ≤ 400000; omega) (HTT.out v g)
        dsimp only at this
        rwa [e] at this
      have HFO := Lib.hid hFown
      have HG := Lib.hid hF.chg
      have HRJ := Lib.hid hrj
      have HFEW := Lib.hid hfew
      clear hF hFown hFmay HF htake hFL hrj hfew HST
      go_wp2_with fail
      refine HRM.out.mono ?_
      rintro e w2 ⟨xs1, A1, c1, rfl, hl1, hgot1, g2⟩
      have gE : Chg none w2 (w2.alloc (.cells #[] 5 (0, 0))) := (Chg.refl _ _).alloc _
      have G2 := HG.out.trans g2
      have HE := Lib.hid (own_emptyR w2 w2.heap.size (Nat.le_refl _))
      have HR := Lib.hid (txt_reads (own_txt (own_on (own_on HFO.out g2) gE)).1)
      have HO := Lib.hid (byteVals_one FL)
      have HOQ := Lib.hid (byteVals_one q.x)
      have HSE := Lib.hid gE.size
      have HL2 := Lib.hid (Nat.le_refl w2.heap.size)
      have HGOT1 := Lib.hid hgot1
      have HLI1 := Lib.hid hl1
      have HGE := Lib.hid gE
      have hk1 : (readJ q.x 0).2 ≤ 5000 := by have := HFEW.out.2; omega
      have hx1 : xs1.length ≤ 5000 := by
        have h := congrArg List.length hgot1.all
        rw [List.length_map] at h
        have := HFEW.out.1
        omega
      clear hl1 hgot1 HRM HFO g2 gE
      generalize hK1 : (readJ q.x 0).2 = K1 at *
      go_wp2_with (at_builtin; refine wpList_append_any _ rfl (.tmp 56) (.tmp 57) 22 rfl w2.heap.size 5 i0 (.int .u8 0) 1 1 Tryd.underlying22 hi hz0 hz1 hz2 rfl (by decide) _ 0 (byteVals []) rfl HE.out _ Ab FL.length cb (byteVals FL) rfl HR.out HO.out (by unfold maxLen; omega) (by omega) HSE.out ?_)
      intro v3 w3 hown3 hgr3 _
      have g3 : Chg none w2 w3 := own_chg HGE.out HE.out HL2.out hgr3
      have e3 : byteVals [] ++ byteVals FL = byteVals FL := rfl
      rw [e3] at hown3
      try simp only [Nat.zero_add] at hown3
      obtain ⟨A3, c3, rfl⟩ := own_slice hown3
      have HOWN3 := Lib.hid hown3
      have HRQ := Lib.hid (txt_reads ((HQ.out w2 G2).1.chg g3))
      have HS3 := Lib.hid g3.size
      clear hown3 hgr3 e3 HE HR HSE HO
      try simp only [Nat.zero_add]
      go_wp2_with (at_builtin; refine wpList_append_any _ rfl (.tmp 58) (.tmp 59) 22 rfl w2.heap.size 5 i0 (.int .u8 0) 1 1 Tryd.underlying22 hi hz0 hz1 hz2 rfl (by decide) _ FL.length (byteVals FL) rfl HOWN3.out _ q.A q.x.length q.c (byteVals q.x) rfl HRQ.out HOQ.out (by unfold maxLen; omega) (by omega) HS3.out ?_)
      intro v4 w4 hown4 hgr4 _
      have g4 : Chg none w2 w4 := own_chg g3 HOWN3.out HL2.out hgr4
      rw [byteVals_append] at hown4
      obtain ⟨A4, c4, rfl⟩ := own_slice hown4
      have hT4 := own_txt hown4
      have HRB4 := Lib.hid (HRB.out w4 A4 c4 (G2.trans g4) hT4.1 hT4.2.2)
      clear hown4 hgr4 HOWN3 HRQ HS3 HOQ g3 hT4 HRB
      go_wp2_with fail
      refine HRB4.out.mono ?_
      rintro e w5 ⟨xs2, A5, c5, rfl, hl5, hgot5, g5⟩
      have G5 := G2.trans (g4.trans g5)
      have hall := hgot5.all
      rw [HRJ.out] at hall
      dsimp only at hall
      rw [← HGOT1.out.all] at hall
      have hlen : xs2.length = L.length + xs1.length := by
        have h := congrArg List.length hall
        rw [List.length_map, List.length_append, List.length_map, List.length_map] at h
        exact h
      have hK5 : (readJ (FL ++ q.x) 0).2 = FL.length + K1 := by rw [HRJ.out, ← hK1]
      rw [hK5]
      have HLI5 : Hid (∀ v, Chg none w5 v → v.ownsRow w4.heap.size 22 1 (.slice A5 xs2.length c5) xs2.length (xs2.map RecE.val)) := fun v g => own_on hl5 g
      have HRO5 : Hid (∀ v, Chg none w5 v → ∀ r ∈ xs2, Txt v r.A r.x) := fun v g r hr => (own_txt (own_on (hgot5.own r hr) g)).1
      have HLI2 : Hid (∀ v, Chg none w5 v → v.ownsRow wr.heap.size 22 1 (.slice A1 xs1.length c1) xs1.length (xs1.map RecE.val)) := fun v g => own_on HLI1.out ((g4.trans g5).trans g)
      have HRO2 : Hid (∀ v, Chg none w5 v → ∀ r ∈ xs1, Txt v r.A r.x) := fun v g r hr => (own_txt (own_on (HGOT1.out.own r hr) ((g4.trans g5).trans g))).1
      have HALL := Lib.hid hall
      have hwa : IntKind.i64.wrap ((L.length : Int) + (xs1.length : Int)) = (xs2.length : Int) := by rw [IntKind.wrap_i64]; omega
      have hwb : IntKind.i64.wrap ((FL.length : Int) + (K1 : Int)) = ((FL.length + K1 : Nat) : Int) := by rw [IntKind.wrap_i64]; omega
      have HLEN := Lib.hid hlen
      clear hl5 hgot5 hall hK5 HRJ hK1 HGOT1 HLI1 HRB4 g4 g5 hlen HFEW
      generalize FL.length + K1 = KK at *
      go_wp2_with fail
      obtain ⟨wo, rfl⟩ : ∃ wo : World, wo = wr := ⟨_, rfl⟩
      clear hd hlt him hwa hwb HG
      go_loopw [82] (fun s82 wr => ∃ j : Nat, j ≤ xs2.length ∧ s82 = .int .i64 j ∧ Chg none w5 wr) (fun s82 _ => xs2.length - (intOf s82).toNat)
      case atStart => exact ⟨0, Nat.zero_le _, rfl, Chg.refl _ _⟩
      case round =>
        obtain ⟨j, hj, rfl, hg⟩ := hrel
        by_cases hlt : j < xs2.length
        · have hr : xs2[j]? = some xs2[j] := List.getElem?_eq_getElem hlt
          obtain ⟨g5, hA5, hcA⟩ := list_at (HLI5.out wr.drew hg.drew) hr
          have hTx := HRO5.out wr.drew hg.drew _ (List.getElem_mem hlt)
          have hx : (xs2.map (·.x))[j]? = some (xs2[j]).x := by rw [List.getElem?_map, hr]; rfl
          rw [HALL.out] at hx
          have hd : decide ((j : Int) < (xs2.length : Int)) = true := by rw [decide_eq_true_eq]; omega
          have HJ : Hid (j < xs2.length) := hlt
          have hcv := conv_reads (c := (xs2[j]).c) wr.drew (txt_reads hTx)
          unfold RecE.val at hcA
          generalize xs2[j] = r at *
          subst hA5
          have HG2 := Lib.hid hg
          by_cases hjL : j < L.length
          · have hd2 : decide ((j : Int) ≥ (L.length : Int)) = false := by rw [decide_eq_false_iff_not]; omega
            have hd2' : decide ((L.length : Int) ≤ (j : Int)) = false := by rw [decide_eq_false_iff_not]; omega
            obtain ⟨b, off, hA, _, hcell⟩ := (HPA.out wr.drew (G5.trans hg.drew)).at_ (by omega)
            have hc2 := hcell j (L[j]) (List.getElem?_eq_getElem hjL)
            have hok := (HPA.out wr.drew (G5.trans hg.drew)).all (L[j]) (List.getElem_mem hjL)
            have hcv2 := conv_reads (c := (L[j]).c) wr.drew (txt_reads hok.1)
            rw [List.getElem?_append_left (by rw [List.length_map]; exact hjL), List.getElem?_map, List.getElem?_eq_getElem hjL] at hx
            have hxe : (L[j]).x = r.x := by injection hx
            unfold Prt.val at hc2
            generalize L[j] = p at *
            subst hA
            have hcv2' : (convert 22 9 (.slice p.A p.x.length p.c)).run Tryd.prog wr.drew = .ok (.string ⟨r.x.toArray⟩) wr.drew := by rw [hcv2, hxe]
            clear hx hxe hcv2 hok hcell hTx hr hg
            go_upto_region 23 with fail
            refine wp_region_held_drew (S := fun v => v = wr.drew) (by kernel_rfl) rfl (fun _ => ?_)
            refine wpAnyH_take (i := 0) (oi := ⟨some 96, _, _, _, _, _⟩) (v := ?_) rfl (by kernel_rfl) (by kernel_rfl) (by kernel_rfl) (fun _ _ _ h => h) (Or.inl ⟨by rfl, ?_⟩) (by assumption) ?_
            rotate_left
            · intro w hSw; (try dsimp only at hSw); go_simp; (try with_reducible rfl)
            try simp only [Act.put, List.setIfInBounds_toArray, List.set_cons_zero, List.set_cons_succ]
            refine wpAnyH_take (i := 1) (oi := ⟨some 97, _, _, _, _, _⟩) (v := ?_) rfl (by kernel_rfl) (by kernel_rfl) (by kernel_rfl) (fun _ _ _ h => h) (Or.inl ⟨by rfl, ?_⟩) (by assumption) ?_
            rotate_left
            · intro w hSw; (try dsimp only at hSw); go_simp; (try with_reducible rfl)
            try simp only [Act.put, List.setIfInBounds_toArray, List.set_cons_zero, List.set_cons_succ]
            refine wpAnyH_take (i := 2) (oi := ⟨some 98, _, _, _, _, _⟩) (v := .pointer (some ⟨g5, j, none⟩)) rfl (by kernel_rfl) (by kernel_rfl) (by kernel_rfl) (fun _ _ _ h => h) (Or.inl ⟨by rfl, ?_⟩) (by assumption) ?_
            · intro v hSv; subst hSv; go_simp
            try simp only [Act.put, List.setIfInBounds_toArray, List.set_cons_zero, List.set_cons_succ]
            refine wpAnyH_take (i := 3) (oi := ⟨some 99, _, _, _, _, _⟩) (v := .slice r.A r.x.length r.c) rfl (by kernel_rfl) (by kernel_rfl) (by kernel_rfl) (fun _ _ _ h => h) (Or.inl ⟨by rfl, ?_⟩) (by assumption) ?_
            · intro v hSv; subst hSv; go_simp
            try simp only [Act.put, List.setIfInBounds_toArray, List.set_cons_zero, List.set_cons_succ]
            refine wpAnyH_take (i := 4) (oi := ⟨some 100, _, _, _, _, _⟩) (v := .string ⟨r.x.toArray⟩) rfl (by kernel_rfl) (by kernel_rfl) (by kernel_rfl) (fun _ _ _ h => h) (Or.inl ⟨by rfl, ?_⟩) (by assumption) ?_
            · intro v hSv; subst hSv; go_simp
            try simp only [Act.put, List.setIfInBounds_toArray, List.set_cons_zero, List.set_cons_succ]
            refine wpAnyH_take (i := 5) (oi := ⟨some 101, _, _, _, _, _⟩) (v := ?_) rfl (by kernel_rfl) (by kernel_rfl) (by kernel_rfl) (fun _ _ _ h => h) (Or.inl ⟨by rfl, ?_⟩) (by assumption) ?_
            rotate_left
            · intro w hSw; (try dsimp only at hSw); go_simp; (try with_reducible rfl)
            try simp only [Act.put, List.setIfInBounds_toArray, List.set_cons_zero, List.set_cons_succ]
            refine wpAnyH_take (i := 6) (oi := ⟨some 102, _, _, _, _, _⟩) (v := ?_) rfl (by kernel_rfl) (by kernel_rfl) (by kernel_rfl) (fun _ _ _ h => h) (Or.inl ⟨by rfl, ?_⟩) (by assumption) ?_
            rotate_left
            · intro w hSw; (try dsimp only at hSw); go_simp; (try with_reducible rfl)
            try simp only [Act.put, List.setIfInBounds_toArray, List.set_cons_zero, List.set_cons_succ]
            refine wpAnyH_take (i := 7) (oi := ⟨some 103, _, _, _, _, _⟩) (v := .pointer (some ⟨b, off + j, none⟩)) rfl (by kernel_rfl) (by kernel_rfl) (by kernel_rfl) (fun _ _ _ h => h) (Or.inl ⟨by rfl, ?_⟩) (by assumption) ?_
            · intro v hSv; subst hSv; go_simp
            try simp only [Act.put, List.setIfInBounds_toArray, List.set_cons_zero, List.set_cons_succ]
            refine wpAnyH_take (i := 8) (oi := ⟨some 104, _, _, _, _, _⟩) (v := .slice p.A p.x.length p.c) rfl (by kernel_rfl) (by kernel_rfl) (by kernel_rfl) (fun _ _ _ h => h) (Or.inl ⟨by rfl, ?_⟩) (by assumption) ?_
            · intro v hSv; subst hSv; go_simp
            try simp only [Act.put, List.setIfInBounds_toArray, List.set_cons_zero, List.set_cons_succ]
            refine wpAnyH_take (i := 9) (oi := ⟨some 105, _, _, _, _, _⟩) (v := .string ⟨r.x.toArray⟩) rfl (by kernel_rfl) (by kernel_rfl) (by kernel_rfl) (fun _ _ _ h => h) (Or.inl ⟨by rfl, ?_⟩) (by assumption) ?_
            · intro v hSv; subst hSv; go_simp
            try simp only [Act.put, List.setIfInBounds_toArray, List.set_cons_zero, List.set_cons_succ]
            refine wpAnyH_take (i := 10) (oi := ⟨some 106, _, _, _, _, _⟩) (v := .bool false) rfl (by kernel_rfl) (by kernel_rfl) (by kernel_rfl) (fun _ _ _ h => h) (Or.inl ⟨by rfl, ?_⟩) (by assumption) ?_
            · intro v hSv; subst hSv; go_simp
            try simp only [Act.put, List.setIfInBounds_toArray, List.set_cons_zero, List.set_cons_succ]
            refine wpAnyH_done (by kernel_rfl) ?_ _
            try simp only [Act.put]
            go_wp2_with fail
            go_roundw
            case rel => exact ⟨j + 1, HJ.out, by go_num, HG2.out.drew⟩
            case measure =>
              have := HJ.out
              simp [intOf]; omega
          · have hd2 : decide ((j : Int) ≥ (L.length : Int)) = true := by rw [decide_eq_true_eq]; omega
            have hd2' : decide ((L.length : Int) ≤ (j : Int)) = true := by rw [decide_eq_true_eq]; omega
            obtain ⟨k, hk⟩ : ∃ k, j = L.length + k := ⟨j - L.length, by omega⟩
            have hkl : k < xs1.length := by have := HLEN.out; omega
            have hr2 : xs1[k]? = some xs1[k] := List.getElem?_eq_getElem hkl
            obtain ⟨g1, hA1, hcA1⟩ := list_at (HLI2.out wr.drew hg.drew) hr2
            have hTx2 := HRO2.out wr.drew hg.drew _ (List.getElem_mem hkl)
            have hcv2 := conv_reads (c := (xs1[k]).c) wr.drew (txt_reads hTx2)
            rw [List.getElem?_append_right (by rw [List.length_map]; omega), List.length_map, show j - L.length = k by omega, List.getElem?_map, hr2] at hx
            have hxe : (xs1[k]).x = r.x := by injection hx
            unfold RecE.val at hcA1
            generalize xs1[k] = p at *
            subst hA1
            have hcv2' : (convert 22 9 (.slice p.A p.x.length p.c)).run Tryd.prog wr.drew = .ok (.string ⟨r.x.toArray⟩) wr.drew := by rw [hcv2, hxe]
            have hwj : IntKind.i64.wrap ((j : Int) - (L.length : Int)) = (k : Int) := by rw [IntKind.wrap_i64]; omega
            have hj6 : j ≤ 6000 := by omega
            clear hx hxe hcv2 hTx2 hTx hr hr2 hg hk
            go_upto_region 23 with fail
            refine wp_region_held_drew (S := fun v => v = wr.drew) (by kernel_rfl) rfl (fun _ => ?_)
            refine wpAnyH_take (i := 0) (oi := ⟨some 96, _, _, _, _, _⟩) (v := ?_) rfl (by kernel_rfl) (by kernel_rfl) (by kernel_rfl) (fun _ _ _ h => h) (Or.inl ⟨by rfl, ?_⟩) (by assumption) ?_
            rotate_left
            · intro w hSw; (try dsimp only at hSw); go_simp; (try with_reducible rfl)
            try simp only [Act.put, List.setIfInBounds_toArray, List.set_cons_zero, List.set_cons_succ]
            refine wpAnyH_take (i := 1) (oi := ⟨some 97, _, _, _, _, _⟩) (v := ?_) rfl (by kernel_rfl) (by kernel_rfl) (by kernel_rfl) (fun _ _ _ h => h) (Or.inl ⟨by rfl, ?_⟩) (by assumption) ?_
            rotate_left
            · intro w hSw; (try dsimp only at hSw); go_simp; (try with_reducible rfl)
            try simp only [Act.put, List.setIfInBounds_toArray, List.set_cons_zero, List.set_cons_succ]
            refine wpAnyH_take (i := 2) (oi := ⟨some 98, _, _, _, _, _⟩) (v := .pointer (some ⟨g5, j, none⟩)) rfl (by kernel_rfl) (by kernel_rfl) (by kernel_rfl) (fun _ _ _ h => h) (Or.inl ⟨by rfl, ?_⟩) (by assumption) ?_
            · intro v hSv; subst hSv; go_simp
            try simp only [Act.put, List.setIfInBounds_toArray, List.set_cons_zero, List.set_cons_succ]
            refine wpAnyH_take (i := 3) (oi := ⟨some 99, _, _, _, _, _⟩) (v := .slice r.A r.x.length r.c) rfl (by kernel_rfl) (by kernel_rfl) (by kernel_rfl) (fun _ _ _ h => h) (Or.inl ⟨by rfl, ?_⟩) (by assumption) ?_
            · intro v hSv; subst hSv; go_simp
            try simp only [Act.put, List.setIfInBounds_toArray, List.set_cons_zero, List.set_cons_succ]
            refine wpAnyH_take (i := 4) (oi := ⟨some 100, _, _, _, _, _⟩) (v := .string ⟨r.x.toArray⟩) rfl (by kernel_rfl) (by kernel_rfl) (by kernel_rfl) (fun _ _ _ h => h) (Or.inl ⟨by rfl, ?_⟩) (by assumption) ?_
            · intro v hSv; subst hSv; go_simp
            try simp only [Act.put, List.setIfInBounds_toArray, List.set_cons_zero, List.set_cons_succ]
            refine wpAnyH_take (i := 5) (oi := ⟨some 101, _, _, _, _, _⟩) (v := ?_) rfl (by kernel_rfl) (by kernel_rfl) (by kernel_rfl) (fun _ _ _ h => h) (Or.inl ⟨by rfl, ?_⟩) (by assumption) ?_
            rotate_left
            · intro w hSw; (try dsimp only at hSw); go_simp; (try with_reducible rfl)
            try simp only [Act.put, List.setIfInBounds_toArray, List.set_cons_zero, List.set_cons_succ]
            refine wpAnyH_take (i := 6) (oi := ⟨some 102, _, _, _, _, _⟩) (v := ?_) rfl (by kernel_rfl) (by kernel_rfl) (by kernel_rfl) (fun _ _ _ h => h) (Or.inl ⟨by rfl, ?_⟩) (by assumption) ?_
            rotate_left
            · intro w hSw; (try dsimp only at hSw); go_simp; (try with_reducible rfl)
            try simp only [Act.put, List.setIfInBounds_toArray, List.set_cons_zero, List.set_cons_succ]
            refine wpAnyH_take (i := 7) (oi := ⟨some 103, _, _, _, _, _⟩) (v := .pointer (some ⟨g1, k, none⟩)) rfl (by kernel_rfl) (by kernel_rfl) (by kernel_rfl) (fun _ _ _ h => h) (Or.inl ⟨by rfl, ?_⟩) (by assumption) ?_
            · intro v hSv; subst hSv; go_simp
            try simp only [Act.put, List.setIfInBounds_toArray, List.set_cons_zero, List.set_cons_succ]
            refine wpAnyH_take (i := 8) (oi := ⟨some 104, _, _, _, _, _⟩) (v := .slice p.A p.x.length p.c) rfl (by kernel_rfl) (by kernel_rfl) (by kernel_rfl) (fun _ _ _ h => h) (Or.inl ⟨by rfl, ?_⟩) (by assumption) ?_
            · intro v hSv; subst hSv; go_simp
            try simp only [Act.put, List.setIfInBounds_toArray, List.set_cons_zero, List.set_cons_succ]
            refine wpAnyH_take (i := 9) (oi := ⟨some 105, _, _, _, _, _⟩) (v := .string ⟨r.x.toArray⟩) rfl (by kernel_rfl) (by kernel_rfl) (by kernel_rfl) (fun _ _ _ h => h) (Or.inl ⟨by rfl, ?_⟩) (by assumption) ?_
            · intro v hSv; subst hSv; go_simp
            try simp only [Act.put, List.setIfInBounds_toArray, List.set_cons_zero, List.set_cons_succ]
            refine wpAnyH_take (i := 10) (oi := ⟨some 106, _, _, _, _, _⟩) (v := .bool false) rfl (by kernel_rfl) (by kernel_rfl) (by kernel_rfl) (fun _ _ _ h => h) (Or.inl ⟨by rfl, ?_⟩) (by assumption) ?_
            · intro v hSv; subst hSv; go_simp
            try simp only [Act.put, List.setIfInBounds_toArray, List.set_cons_zero, List.set_cons_succ]
            refine wpAnyH_done (by kernel_rfl) ?_ _
            try simp only [Act.put]
            go_wp2_with fail
            go_roundw
            case rel => exact ⟨j + 1, HJ.out, by go_num, HG2.out.drew⟩
            case measure =>
              have := HJ.out
              simp [intOf]; omega
        · have hd : decide ((j : Int) < (xs2.length : Int)) = false := by rw [decide_eq_false_iff_not]; omega
          have HK := Lib.hid (HKN.out wr (G5.trans hg))
          have G6 := G5.trans hg
          clear hg
          go_wp2_with fail
          refine HK.out.mono ?_
          rintro e w7 ⟨rfl, g7⟩
          go_wp2_with fail
          go_ret
          exact ⟨rfl, G6.trans g7⟩

end Go.Proofs.YthkghjkgmfjmoaaDoor
