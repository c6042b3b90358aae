/-
  JournalCuts: the walk.
-/
import Derived.Test.YthkghjkgmfjmoaaDoorJI
import Derived.Test.YthkghjkgmfjmoaaDoorJJ
namespace Go.Proofs.YthkghjkgmfjmoaaDoor
open Go.RowKit

/-- The forms of the first records and their ends, in memory of the call's own. -/
structure EndsAt (w : World) (L : List Prt) (i : Nat) (A : Option Addr) (c : Nat) (Ae : Option Addr) (ce : Nat) (W : World) : Prop where
  forms : FormsAt w L i A c W
  ends : W.ownsRow w.heap.size 3 1 (.slice Ae i ce) i (ints (endsJ L i))

set_option maxRecDepth 100000 in
set_option maxHeartbeats 32000000 in
theorem cuts_law (A : Option Addr) (L : List Prt) (c : Nat) (cut : Int) (w : World) (hL : PartsAt w A L) (hLc : L.length ≤ c) (hcm : c ≤ 9223372036854775807) (hT : Tabs w) :
    Calls Tryd.prog 8 #[.slice A L.length c, .int .i64 cut] w fun e w' => e = .returned (.bool true) ∧ Chg none w w' := by
  obtain ⟨i0, hi, hz0, hz1, hz2⟩ := info_parts Tryd.info5
  obtain ⟨j0, hj, hy0, hy1, hy2⟩ := info_parts Tryd.info3
  have hLl : L.length ≤ 9223372036854775807 := by omega
  have HKN : Hid (∀ v, Chg none w v → Calls Tryd.prog 16 #[] v fun e w' => e = .returned (.bool true) ∧ Chg none v w') := fun v g => known11_any v (hT.chg g (by simp))
  by_cases h1 : 40 < L.length
  · have d1 : decide ((40 : Int) < (L.length : Int)) = true := by rw [decide_eq_true_eq]; omega
    have HK := Lib.hid (HKN.out w (Chg.refl _ _))
    clear HKN hT hL
    go_enter Tryd.func8, Tryd.ntmps8
    go_wp2_with fail
    refine HK.out.mono ?_
    rintro e w1 ⟨rfl, g1⟩
    go_wp2_with fail
    go_ret
    exact ⟨rfl, g1⟩
  have d1 : decide ((40 : Int) < (L.length : Int)) = false := by rw [decide_eq_false_iff_not]; omega
  have HSZ := Lib.hid (size_any A L c w hL (by omega))
  have HTT : Hid (∀ v, Chg none w v → Tabs v) := fun v g => hT.chg g (by simp)
  have HPA : Hid (∀ v, Chg none w v → PartsAt v A L) := fun v g => hL.chg g
  have HLE := Lib.hid (Nat.le_refl w.heap.size)
  have hst : EndsAt w L 0 none 0 none 0 w := ⟨⟨World.ownsRow_nil _ _ _ _, Chg.refl _ _, fun p hp => (by simp at hp), Nat.zero_le _⟩, World.ownsRow_nil _ _ _ _⟩
  have HST := Lib.hid hst
  have HK0 := Lib.hid (HKN.out w (Chg.refl _ _))
  clear hT hL hst
  go_enter Tryd.func8, Tryd.ntmps8
  go_wp2_with fail
  refine HSZ.out.mono ?_
  rintro e w1 ⟨z, rfl, rfl⟩
  by_cases hz : 20000 < z
  · have d2 : decide ((20000 : Int) < z) = true := by rw [decide_eq_true_eq]; exact hz
    go_wp2_with fail
    refine HK0.out.mono ?_
    rintro e w2 ⟨rfl, g2⟩
    go_wp2_with fail
    go_ret
    exact ⟨rfl, g2⟩
  have d2 : decide ((20000 : Int) < z) = false := by rw [decide_eq_false_iff_not]; exact hz
  clear HK0 HSZ hz
  go_wp2_with fail
  clear d1 d2
  go_loopw [5, 6, 28] (fun s5 s6 s28 wr => ∃ (Ab : Option Addr) (cb : Nat) (Ae : Option Addr) (ce i : Nat), s5 = .slice Ab (flatJ (L.take i)).length cb ∧ s6 = .slice Ae i ce ∧ s28 = .int .i64 i ∧ EndsAt w1 L i Ab cb Ae ce wr) (fun _ _ s28 _ => L.length - (intOf s28).toNat)
  case atStart => exact ⟨none, 0, none, 0, 0, rfl, rfl, rfl, HST.out⟩
  case round =>
    obtain ⟨Ab, cb, Ae, ce, i, rfl, rfl, rfl, hE⟩ := hrel
    have hF := hE.forms
    have him := hF.most
    have HF := Lib.hid hF
    have HEN := Lib.hid hE.ends
    clear hE
    by_cases hlt : i < L.length
    · obtain ⟨b, off, hA, _, hcell⟩ := (HPA.out wr hF.chg).at_ (by omega)
      have hc := hcell i (L[i]) (List.getElem?_eq_getElem hlt)
      have hok := (HPA.out wr hF.chg).all (L[i]) (List.getElem_mem hlt)
      have hd : decide ((i : Int) < (L.length : Int)) = true := by rw [decide_eq_true_eq]; omega
      have hsucc := flatJ_succ hlt
      have hmem : ∀ p ∈ L.take (i + 1), p ∈ L.take i ∨ p = L[i] := fun p hp => by
        rw [List.take_succ_eq_append_getElem hlt, List.mem_append, List.mem_singleton] at hp
        exact hp
      have hfl := flatJ_le (L.take i) hF.may
      rw [List.length_take] at hfl
      unfold Prt.val at hc
      generalize L[i] = p at *
      subst hA
      have HOK := Lib.hid hok
      by_cases hm : mayJ p.x = true
      rotate_left
      · have hm' : mayJ p.x = false := by simpa using hm
        have HFN := Lib.hid (form_no p.A p.x.length p.c wr (mayJ_no hm'))
        have HG := Lib.hid hF.chg
        clear hF hcell hok hm hm' hsucc hmem hfl HF HOK HEN
        go_wp2_with fail
        refine HFN.out.mono ?_
        rintro e w2 ⟨rfl, g2⟩
        have HK := Lib.hid (HKN.out w2 (HG.out.trans g2))
        have G2 := HG.out.trans g2
        go_wp2_with fail
        refine HK.out.mono ?_
        rintro e w3 ⟨rfl, g3⟩
        go_wp2_with fail
        go_ret
        exact ⟨rfl, G2.trans g3⟩
      · have hyes := mayJ_yes hm
        have HFY := Lib.hid (form_yes p wr hok hyes.1 hyes.2 (HTT.out wr hF.chg))
        have hfp := formJ_le hm
        have HM := Lib.hid hm
        have HMEM := Lib.hid hmem
        have HSUCC := Lib.hid hsucc
        clear hF hcell hok hm hyes hmem hsucc
        obtain ⟨FL, hFL⟩ : ∃ FL, FL = flatJ (L.take i) := ⟨_, rfl⟩
        have HFL := Lib.hid hFL
        rw [← hFL] at hfl ⊢
        generalize formJ p.x = FJ at *
        clear hFL
        go_wp2_with fail
        refine HFY.out.mono ?_
        rintro e w2 ⟨A2, c2, rfl, hown2, g2⟩
        have HR2 := Lib.hid (txt_reads (own_txt hown2).1)
        have HOWN : Hid (w2.ownsRow w1.heap.size 5 1 (.slice Ab FL.length cb) FL.length (byteVals FL)) := by have := own_on HF.out.own g2; rw [← HFL.out] at this; exact this
        have HEN2 := Lib.hid (own_on HEN.out g2)
        have G2 := HF.out.chg.trans g2
        have HO := Lib.hid (byteVals_one FJ)
        have HS := Lib.hid G2.size
        have hb1 : FL.length + FJ.length ≤ 400000 := by omega
        clear hown2 HFY hfl hfp
        go_wp2_with (at_builtin; refine wpList_append_any _ rfl (.tmp 42) (.tmp 43) 22 rfl w1.heap.size 5 i0 (.int .u8 0) 1 1 Tryd.underlying22 hi hz0 hz1 hz2 rfl (by decide) _ FL.length (byteVals FL) rfl HOWN.out _ A2 FJ.length c2 (byteVals FJ) rfl HR2.out HO.out (by unfold maxLen; omega) (by omega) HS.out ?_)
        intro v3 w3 hown3 hgr3 _
        have G3 : Chg none w1 w3 := own_chg G2 HOWN.out HLE.out hgr3
        have hen3 := HEN2.out.kept hgr3 (own_blk_ne HEN2.out HOWN.out (by decide))
        rw [byteVals_append] at hown3
        obtain ⟨A3, c3, rfl⟩ := own_slice hown3
        have e3 : FL ++ FJ = flatJ (L.take (i + 1)) := by rw [HFL.out, HSUCC.out]
        have el : FL.length + FJ.length = (flatJ (L.take (i + 1))).length := by rw [← e3, List.length_append]
        have HOWN3 := Lib.hid hown3
        have HEN3 := Lib.hid hen3
        have HRI : Hid (Reads (w3.alloc (.cells #[.int .i64 ((FL.length : Int) + (FJ.length : Int))] 3)) (w3.alloc (.cells #[.int .i64 ((FL.length : Int) + (FJ.length : Int))] 3)).heap.size 1 (some ⟨w3.heap.size, 0, none⟩) 1 (ints [FL.length + FJ.length])) := by
          rw [show ((FL.length : Int) + (FJ.length : Int)) = ((FL.length + FJ.length : Nat) : Int) by omega]; exact reads_int w3 _
        have HOI := Lib.hid (ints_one [FL.length + FJ.length])
        have HSI : Hid (w1.heap.size ≤ (w3.alloc (.cells #[.int .i64 ((FL.length : Int) + (FJ.length : Int))] 3)).heap.size) := by have := G3.size; show _ ≤ _; simp; omega
        have HE3 := Lib.hid e3
        have HEL := Lib.hid el
        have HG3 := Lib.hid G3
        clear hown3 hgr3 hen3 e3 el HR2 HOWN G2 G3 HEN2
        have hi40 : i ≤ 40 := by omega
        go_wp2_with (at_builtin; refine wpList_append_any _ rfl (.tmp 45) (.tmp 48) 49 rfl w1.heap.size 3 j0 (.int .i64 0) 1 8 Tryd.underlying49 hj hy0 hy1 hy2 rfl (by decide) _ i (ints (endsJ L i)) rfl (HEN3.out.alloc _) _ (some ⟨w3.heap.size, 0, none⟩) 1 1 (ints [FL.length + FJ.length]) rfl HRI.out HOI.out (by unfold maxLen; omega) (by omega) HSI.out ?_)
        intro v4 w4 hown4 hgr4 _
        have G4 : Chg none w1 w4 := own_chg (HG3.out.alloc _) (HEN3.out.alloc _) HLE.out hgr4
        have hb4 := (HOWN3.out.alloc (.cells #[.int .i64 ((FL.length : Int) + (FJ.length : Int))] 3)).kept hgr4 (own_blk_ne (HOWN3.out.alloc (.cells #[.int .i64 ((FL.length : Int) + (FJ.length : Int))] 3)) (HEN3.out.alloc _) (by decide))
        obtain ⟨A4, c4, rfl⟩ := own_slice hown4
        have hnew : EndsAt w1 L (i + 1) A3 c3 A4 c4 w4 := ⟨⟨by rw [← HEL.out, ← HE3.out]; exact hb4, G4, fun p' hp' => by
          rcases HMEM.out p' hp' with h | h
          · exact HF.out.may p' h
          · subst h; exact HM.out, by omega⟩, by
            rw [endsJ_succ, ← HEL.out]
            have e : ints (endsJ L i) ++ ints [FL.length + FJ.length] = ints (endsJ L i ++ [FL.length + FJ.length]) := by unfold ints; rw [List.map_append]
            rw [← e]; exact hown4⟩
        have HNEW := Lib.hid hnew
        clear hown4 hgr4 hnew hb4 G4 HRI HOI HSI HEN3 HOWN3
        go_wp2_with fail
        go_roundw
        case rel => exact ⟨A3, c3, A4, c4, i + 1, by rw [← HEL.out], rfl, by go_num, HNEW.out⟩
        case measure => simp [intOf]; omega
    · have hiL : i = L.length := by omega
      have hd : decide ((i : Int) < (L.length : Int)) = false := by rw [decide_eq_false_iff_not]; omega
      have htake : L.take i = L := List.take_of_length_le (by omega)
      have hFown := hF.own
      have hFmay := hF.may
      rw [htake] at hFown hFmay
      rw [htake]
      have hfl := flatJ_le L hFmay
      have HCUT := Lib.hid (fun n => readJ_cut L n hFmay)
      have HIFF := Lib.hid (fun n k => wantN_iff L n k)
      have HWL := Lib.hid (wantN_le L)
      obtain ⟨FL, hFL⟩ : ∃ FL, FL = flatJ L := ⟨_, rfl⟩
      have HFLL : Hid (∀ k, (flatJ (L.take k)).length ≤ FL.length) := fun k => by
        have e : flatJ L = flatJ (L.take k) ++ flatJ (L.drop k) := by unfold flatJ; rw [← List.flatMap_append, List.take_append_drop]
        rw [hFL, e, List.length_append]; omega
      rw [← hFL] at hFown hfl HCUT ⊢
      have HFO := Lib.hid hFown
      have HG := Lib.hid hF.chg
      have HEN0 := Lib.hid HEN.out
      have hfl2 : FL.length ≤ 320680 := by omega
      have u0 : IntKind.u64.wrap cut = cut % 18446744073709551616 := by rw [IntKind.wrap_u64]
      have un := Int.emod_nonneg cut (by decide : (18446744073709551616 : Int) ≠ 0)
      have ut : (cut % 18446744073709551616).tmod ((FL.length : Int) + 1) = cut % 18446744073709551616 % ((FL.length : Int) + 1) := Int.tmod_eq_emod_of_nonneg un
      have ua := Int.emod_nonneg (cut % 18446744073709551616) (by omega : (FL.length : Int) + 1 ≠ 0)
      have ub := Int.emod_lt_of_pos (cut % 18446744073709551616) (by omega : 0 < (FL.length : Int) + 1)
      obtain ⟨n, hn⟩ : ∃ n : Nat, (n : Int) = cut % 18446744073709551616 % ((FL.length : Int) + 1) := ⟨(cut % 18446744073709551616 % ((FL.length : Int) + 1)).toNat, by omega⟩
      have hnl : n ≤ FL.length := by omega
      have q6 : IntKind.i64.wrap ((IntKind.u64.wrap cut).tmod ((FL.length : Int) + 1)) = (n : Int) := by rw [u0, ut, ← hn, IntKind.wrap_i64]; omega
      have q1 : IntKind.i64.wrap ((FL.length : Int) + 1) = (FL.length : Int) + 1 := by rw [IntKind.wrap_i64]; omega
      have q2 : IntKind.u64.wrap ((FL.length : Int) + 1) = (FL.length : Int) + 1 := by rw [IntKind.wrap_u64]; omega
      have q3 : ((FL.length : Int) + 1) % 18446744073709551616 = (FL.length : Int) + 1 := by omega
      have q4 : ((FL.length : Int) + 1 == 0) = false := by rw [beq_eq_false_iff_ne]; omega
      have q5 : (FL.length : Int) + 1 ≠ 0 := by omega
      clear hF hFown hFmay HF htake hFL HST HEN him hlt hfl u0 un ut ua ub hn
      subst hiL
      go_wp2_with fail
      obtain ⟨wo, rfl⟩ : ∃ wo : World, wo = wr := ⟨_, rfl⟩
      obtain ⟨K, hK⟩ : ∃ K, K = wantN L n := ⟨_, rfl⟩
      have hcutn := HCUT.out n
      have hKL := HWL.out n
      rw [← hK] at hcutn hKL
      have HIFK : Hid (∀ k, k < L.length → ((flatJ (L.take (k + 1))).length ≤ n ↔ k < K)) := fun k h => by rw [hK]; exact HIFF.out n k h
      have HCUTN := Lib.hid hcutn
      have HKL := Lib.hid hKL
      clear HCUT HIFF HWL hK hcutn hKL hd q1 q2 q3 q4 q5 q6
      go_loopw [11, 12, 61] (fun s11 s12 s61 wr => ∃ (j m e : Nat), Hid (j ≤ L.length ∧ m = min j K ∧ e = (flatJ (L.take m)).length) ∧ s11 = .int .i64 m ∧ s12 = .int .i64 e ∧ s61 = .int .i64 j ∧ Chg none wo wr) (fun _ _ s61 _ => L.length - (intOf s61).toNat)
      case atStart => exact ⟨0, 0, 0, Lib.hid ⟨Nat.zero_le _, (Nat.zero_min _).symm, rfl⟩, rfl, rfl, rfl, Chg.refl _ _⟩
      case round =>
        obtain ⟨j, m, e, HH, rfl, rfl, rfl, hg⟩ := hrel
        have hjl := HH.out.1
        by_cases hlt : j < L.length
        · have hd : decide ((j : Int) < (L.length : Int)) = true := by rw [decide_eq_true_eq]; omega
          obtain ⟨E, hE⟩ : ∃ E, E = (flatJ (L.take (j + 1))).length := ⟨_, rfl⟩
          have hEL := HFLL.out (j + 1)
          rw [← hE] at hEL
          obtain ⟨ge, hAe, hce⟩ : ∃ ge, Ae = some ⟨ge, 0, none⟩ ∧ ∀ v, Chg none wo v → v.cell? ⟨ge, j, none⟩ = some (.int .i64 E) := by
            rcases HEN0.out.2 with ⟨_, h0⟩ | ⟨g, cap, cur, h, _⟩
            · omega
            · injection h with h1 _ _
              refine ⟨g, h1, fun v gv => ?_⟩
              have := (own_on HEN0.out gv).cells (g := g) (by rw [h1]; rfl) j (.int .i64 E) (by unfold ints; rw [List.getElem?_map, endsJ_at L L.length j hlt, hE]; rfl)
              rwa [Go.WideShapes.add_plain, Nat.zero_add] at this
          have hc1 := hce wr hg
          have hc2 := hce wr.drew hg.drew
          have hiff := HIFK.out j hlt
          rw [← hE] at hiff
          subst hAe
          have hwj : IntKind.i64.wrap ((j : Int) + 1) = (j : Int) + 1 := by rw [IntKind.wrap_i64]; omega
          have HG2 := Lib.hid hg
          have HJ : Hid (j < L.length ∧ L.length ≤ 40) := ⟨hlt, by omega⟩
          by_cases hEn : E ≤ n
          · have hd2 : decide ((E : Int) ≤ (n : Int)) = true := by rw [decide_eq_true_eq]; omega
            have hjK := hiff.1 hEn
            have HNEW : Hid (j + 1 ≤ L.length ∧ j + 1 = min (j + 1) K ∧ E = (flatJ (L.take (j + 1))).length) := ⟨by omega, by omega, hE⟩
            clear hiff hE hg hce HEN0
            go_upto_region 20 with fail
            refine wp_region_held_drew (S := fun v => v = wr.drew) (by kernel_rfl) rfl (fun _ => ?_)
            refine wpAnyH_take (i := 0) (oi := ⟨some 70, _, _, _, _, _⟩) (v := ?_) rfl (by kernel_rfl) (by kernel_rfl) (by kernel_rfl) (fun _ _ _ h => h) (Or.inl ⟨by rfl, ?_⟩) (by assumption) ?_
            rotate_left
            · intro w hSw; (try dsimp only at hSw); go_simp; (try with_reducible rfl)
            try simp only [Act.put, List.setIfInBounds_toArray, List.set_cons_zero, List.set_cons_succ]
            refine wpAnyH_take (i := 1) (oi := ⟨some 71, _, _, _, _, _⟩) (v := .int .i64 ((j : Int) + 1)) rfl (by kernel_rfl) (by kernel_rfl) (by kernel_rfl) (fun _ _ _ h => h) (Or.inl ⟨by rfl, ?_⟩) (by assumption) ?_
            · intro v hSv; subst hSv; go_simp
            try simp only [Act.put, List.setIfInBounds_toArray, List.set_cons_zero, List.set_cons_succ]
            refine wpAnyH_take (i := 2) (oi := ⟨some 72, _, _, _, _, _⟩) (v := ?_) rfl (by kernel_rfl) (by kernel_rfl) (by kernel_rfl) (fun _ _ _ h => h) (Or.inl ⟨by rfl, ?_⟩) (by assumption) ?_
            rotate_left
            · intro w hSw; (try dsimp only at hSw); go_simp; (try with_reducible rfl)
            try simp only [Act.put, List.setIfInBounds_toArray, List.set_cons_zero, List.set_cons_succ]
            refine wpAnyH_take (i := 3) (oi := ⟨some 73, _, _, _, _, _⟩) (v := ?_) rfl (by kernel_rfl) (by kernel_rfl) (by kernel_rfl) (fun _ _ _ h => h) (Or.inl ⟨by rfl, ?_⟩) (by assumption) ?_
            rotate_left
            · intro w hSw; (try dsimp only at hSw); go_simp; (try with_reducible rfl)
            try simp only [Act.put, List.setIfInBounds_toArray, List.set_cons_zero, List.set_cons_succ]
            refine wpAnyH_take (i := 4) (oi := ⟨some 74, _, _, _, _, _⟩) (v := .pointer (some ⟨ge, j, none⟩)) rfl (by kernel_rfl) (by kernel_rfl) (by kernel_rfl) (fun _ _ _ h => h) (Or.inl ⟨by rfl, ?_⟩) (by assumption) ?_
            · intro v hSv; subst hSv; go_simp
            try simp only [Act.put, List.setIfInBounds_toArray, List.set_cons_zero, List.set_cons_succ]
            refine wpAnyH_take (i := 5) (oi := ⟨some 75, _, _, _, _, _⟩) (v := .int .i64 E) rfl (by kernel_rfl) (by kernel_rfl) (by kernel_rfl) (fun _ _ _ h => h) (Or.inl ⟨by rfl, ?_⟩) (by assumption) ?_
            · intro v hSv; subst hSv; go_simp
            try simp only [Act.put, List.setIfInBounds_toArray, List.set_cons_zero, List.set_cons_succ]
            refine wpAnyH_take (i := 6) (oi := ⟨some 11, _, _, _, _, _⟩) (v := ?_) rfl (by kernel_rfl) (by kernel_rfl) (by kernel_rfl) (fun _ _ _ h => h) (Or.inl ⟨by rfl, ?_⟩) (by assumption) ?_
            rotate_left
            · intro w hSw; (try dsimp only at hSw); go_simp; (try with_reducible rfl)
            try simp only [Act.put, List.setIfInBounds_toArray, List.set_cons_zero, List.set_cons_succ]
            refine wpAnyH_take (i := 7) (oi := ⟨some 12, _, _, _, _, _⟩) (v := ?_) rfl (by kernel_rfl) (by kernel_rfl) (by kernel_rfl) (fun _ _ _ h => h) (Or.inl ⟨by rfl, ?_⟩) (by assumption) ?_
            rotate_left
            · intro w hSw; (try dsimp only at hSw); go_simp; (try with_reducible rfl)
            try simp only [Act.put, List.setIfInBounds_toArray, List.set_cons_zero, List.set_cons_succ]
            refine wpAnyH_done (by kernel_rfl) ?_ _
            try simp only [Act.put]
            go_wp2_with fail
            go_roundw
            case rel => exact ⟨j + 1, j + 1, E, HNEW.out, by go_num, rfl, by go_num, HG2.out.drew⟩
            case measure =>
              have := HJ.out
              simp [intOf]; omega
          · have hd2 : decide ((E : Int) ≤ (n : Int)) = false := by rw [decide_eq_false_iff_not]; omega
            have hjK : ¬ j < K := fun h => hEn (hiff.2 h)
            have HNEW : Hid (j + 1 ≤ L.length ∧ m = min (j + 1) K ∧ e = (flatJ (L.take m)).length) := ⟨by omega, by have := HH.out.2.1; omega, HH.out.2.2⟩
            clear hiff hE hg hce HEN0
            go_wp2_with fail
            go_roundw
            case rel => exact ⟨j + 1, m, e, HNEW.out, rfl, rfl, by go_num, HG2.out⟩
            case measure =>
              have := HJ.out
              simp [intOf]; omega
        · have hjL : j = L.length := by omega
          have hm : m = K := by have := HH.out.2.1; have := HKL.out; omega
          have he := HH.out.2.2
          have hd : decide ((j : Int) < (L.length : Int)) = false := by rw [decide_eq_false_iff_not]; omega
          have G1 := HG.out.trans hg
          have hT := own_txt (own_on HFO.out hg)
          have hcap := hT.2.2
          have hcu := fun v : World => cut_hi Ab FL.length cb n (by omega) v
          have hnt : (FL.take n).length = n := by rw [List.length_take]; omega
          have HR : Hid (Calls Tryd.prog 21 #[.slice Ab n cb] wr (ReadTold wr (FL.take n))) := by
            have := readj_any ⟨Ab, FL.take n, cb⟩ wr ⟨Txt.first hT.1 n, by show (FL.take n).length ≤ cb; omega⟩ (by show (FL.take n).length ≤ 400000; omega) (HTT.out wr G1)
            dsimp only at this
            rw [hnt] at this
            exact this
          have HCUTM : Hid (readJ (FL.take n) 0 = ((L.take m).map (·.x), e)) := by show _ = _; rw [he, hm]; exact HCUTN.out
          have HML : Hid (m ≤ L.length ∧ L.length ≤ 40) := ⟨by rw [hm]; exact HKL.out, by omega⟩
          have HG1 := Lib.hid G1
          clear hT HH HIFK HCUTN HKL hm he hg HFO HEN0 HFLL hjl hlt hnt G1
          subst hjL
          go_wp2_with fail
          refine HR.out.mono ?_
          rintro e' w5 ⟨xs, A5, c5, rfl, hl5, hgot5, g5⟩
          have hall := hgot5.all
          have hmL := HML.out
          rw [HCUTM.out] at hall ⊢
          dsimp only at hall ⊢
          have hlen : m = xs.length := by
            have h := congrArg List.length hall
            rw [List.length_map, List.length_map, List.length_take] at h
            omega
          have HLI5 : Hid (∀ v, Chg none w5 v → v.ownsRow wr.heap.size 22 1 (.slice A5 xs.length c5) xs.length (xs.map RecE.val)) := fun v g => own_on hl5 g
          have HRO5 : Hid (∀ v, Chg none w5 v → ∀ r ∈ xs, Txt v r.A r.x) := fun v g r hr => (own_txt (own_on (hgot5.own r hr) g)).1
          have HALL := Lib.hid hall
          have G5 := HG1.out.trans g5
          clear hl5 hgot5 hall HCUTM HML HG1 HR g5
          subst hlen
          have hxl : xs.length ≤ L.length ∧ L.length ≤ 40 := hmL
          clear hmL hd
          go_wp2_with fail
          obtain ⟨wq, rfl⟩ : ∃ wq : World, wq = wr := ⟨_, rfl⟩
          go_loopw [95] (fun s95 wr => ∃ j : Nat, j ≤ xs.length ∧ s95 = .int .i64 j ∧ Chg none w5 wr) (fun s95 _ => xs.length - (intOf s95).toNat)
          case atStart => exact ⟨0, Nat.zero_le _, rfl, Chg.refl _ _⟩
          case round =>
            obtain ⟨j, hj, rfl, hg⟩ := hrel
            by_cases hlt : j < xs.length
            · have hr : xs[j]? = some xs[j] := List.getElem?_eq_getElem hlt
              obtain ⟨g5, hA5, hcA⟩ := list_at (HLI5.out wr.drew hg.drew) hr
              have hTx := HRO5.out wr.drew hg.drew _ (List.getElem_mem hlt)
              have hx : (xs.map (·.x))[j]? = some (xs[j]).x := by rw [List.getElem?_map, hr]; rfl
              rw [HALL.out] at hx
              have hd : decide ((j : Int) < (xs.length : Int)) = true := by rw [decide_eq_true_eq]; omega
              have HJ : Hid (j < xs.length ∧ xs.length ≤ 40) := ⟨hlt, by omega⟩
              have hcv := conv_reads (c := (xs[j]).c) wr.drew (txt_reads hTx)
              unfold RecE.val at hcA
              generalize xs[j] = r at *
              subst hA5
              have HG2 := Lib.hid hg
              have hjL : j < L.length := by omega
              obtain ⟨b, off, hA, _, hcell⟩ := (HPA.out wr.drew (G5.trans hg.drew)).at_ (by omega)
              have hc2 := hcell j (L[j]) (List.getElem?_eq_getElem hjL)
              have hok := (HPA.out wr.drew (G5.trans hg.drew)).all (L[j]) (List.getElem_mem hjL)
              have hcv2 := conv_reads (c := (L[j]).c) wr.drew (txt_reads hok.1)
              rw [List.getElem?_map, List.getElem?_take_of_lt hlt, List.getElem?_eq_getElem hjL] at hx
              have hxe : (L[j]).x = r.x := by injection hx
              unfold Prt.val at hc2
              generalize L[j] = p at *
              subst hA
              have hcv2' : (convert 22 9 (.slice p.A p.x.length p.c)).run Tryd.prog wr.drew = .ok (.string ⟨r.x.toArray⟩) wr.drew := by rw [hcv2, hxe]
              clear hx hxe hcv2 hok hcell hTx hr hg
              go_upto_region 28 with fail
              refine wp_region_held_drew (S := fun v => v = wr.drew) (by kernel_rfl) rfl (fun _ => ?_)
              refine wpAnyH_take (i := 0) (oi := ⟨some 98, _, _, _, _, _⟩) (v := ?_) rfl (by kernel_rfl) (by kernel_rfl) (by kernel_rfl) (fun _ _ _ h => h) (Or.inl ⟨by rfl, ?_⟩) (by assumption) ?_
              rotate_left
              · intro w hSw; (try dsimp only at hSw); go_simp; (try with_reducible rfl)
              try simp only [Act.put, List.setIfInBounds_toArray, List.set_cons_zero, List.set_cons_succ]
              refine wpAnyH_take (i := 1) (oi := ⟨some 99, _, _, _, _, _⟩) (v := ?_) rfl (by kernel_rfl) (by kernel_rfl) (by kernel_rfl) (fun _ _ _ h => h) (Or.inl ⟨by rfl, ?_⟩) (by assumption) ?_
              rotate_left
              · intro w hSw; (try dsimp only at hSw); go_simp; (try with_reducible rfl)
              try simp only [Act.put, List.setIfInBounds_toArray, List.set_cons_zero, List.set_cons_succ]
              refine wpAnyH_take (i := 2) (oi := ⟨some 100, _, _, _, _, _⟩) (v := .pointer (some ⟨g5, j, none⟩)) rfl (by kernel_rfl) (by kernel_rfl) (by kernel_rfl) (fun _ _ _ h => h) (Or.inl ⟨by rfl, ?_⟩) (by assumption) ?_
              · intro v hSv; subst hSv; go_simp
              try simp only [Act.put, List.setIfInBounds_toArray, List.set_cons_zero, List.set_cons_succ]
              refine wpAnyH_take (i := 3) (oi := ⟨some 101, _, _, _, _, _⟩) (v := .slice r.A r.x.length r.c) rfl (by kernel_rfl) (by kernel_rfl) (by kernel_rfl) (fun _ _ _ h => h) (Or.inl ⟨by rfl, ?_⟩) (by assumption) ?_
              · intro v hSv; subst hSv; go_simp
              try simp only [Act.put, List.setIfInBounds_toArray, List.set_cons_zero, List.set_cons_succ]
              refine wpAnyH_take (i := 4) (oi := ⟨some 102, _, _, _, _, _⟩) (v := .string ⟨r.x.toArray⟩) rfl (by kernel_rfl) (by kernel_rfl) (by kernel_rfl) (fun _ _ _ h => h) (Or.inl ⟨by rfl, ?_⟩) (by assumption) ?_
              · intro v hSv; subst hSv; go_simp
              try simp only [Act.put, List.setIfInBounds_toArray, List.set_cons_zero, List.set_cons_succ]
              refine wpAnyH_take (i := 5) (oi := ⟨some 103, _, _, _, _, _⟩) (v := ?_) rfl (by kernel_rfl) (by kernel_rfl) (by kernel_rfl) (fun _ _ _ h => h) (Or.inl ⟨by rfl, ?_⟩) (by assumption) ?_
              rotate_left
              · intro w hSw; (try dsimp only at hSw); go_simp; (try with_reducible rfl)
              try simp only [Act.put, List.setIfInBounds_toArray, List.set_cons_zero, List.set_cons_succ]
              refine wpAnyH_take (i := 6) (oi := ⟨some 104, _, _, _, _, _⟩) (v := ?_) rfl (by kernel_rfl) (by kernel_rfl) (by kernel_rfl) (fun _ _ _ h => h) (Or.inl ⟨by rfl, ?_⟩) (by assumption) ?_
              rotate_left
              · intro w hSw; (try dsimp only at hSw); go_simp; (try with_reducible rfl)
              try simp only [Act.put, List.setIfInBounds_toArray, List.set_cons_zero, List.set_cons_succ]
              refine wpAnyH_take (i := 7) (oi := ⟨some 105, _, _, _, _, _⟩) (v := .pointer (some ⟨b, off + j, none⟩)) rfl (by kernel_rfl) (by kernel_rfl) (by kernel_rfl) (fun _ _ _ h => h) (Or.inl ⟨by rfl, ?_⟩) (by assumption) ?_
              · intro v hSv; subst hSv; go_simp
              try simp only [Act.put, List.setIfInBounds_toArray, List.set_cons_zero, List.set_cons_succ]
              refine wpAnyH_take (i := 8) (oi := ⟨some 106, _, _, _, _, _⟩) (v := .slice p.A p.x.length p.c) rfl (by kernel_rfl) (by kernel_rfl) (by kernel_rfl) (fun _ _ _ h => h) (Or.inl ⟨by rfl, ?_⟩) (by assumption) ?_
              · intro v hSv; subst hSv; go_simp
              try simp only [Act.put, List.setIfInBounds_toArray, List.set_cons_zero, List.set_cons_succ]
              refine wpAnyH_take (i := 9) (oi := ⟨some 107, _, _, _, _, _⟩) (v := .string ⟨r.x.toArray⟩) rfl (by kernel_rfl) (by kernel_rfl) (by kernel_rfl) (fun _ _ _ h => h) (Or.inl ⟨by rfl, ?_⟩) (by assumption) ?_
              · intro v hSv; subst hSv; go_simp
              try simp only [Act.put, List.setIfInBounds_toArray, List.set_cons_zero, List.set_cons_succ]
              refine wpAnyH_take (i := 10) (oi := ⟨some 108, _, _, _, _, _⟩) (v := .bool false) rfl (by kernel_rfl) (by kernel_rfl) (by kernel_rfl) (fun _ _ _ h => h) (Or.inl ⟨by rfl, ?_⟩) (by assumption) ?_
              · intro v hSv; subst hSv; go_simp
              try simp only [Act.put, List.setIfInBounds_toArray, List.set_cons_zero, List.set_cons_succ]
              refine wpAnyH_done (by kernel_rfl) ?_ _
              try simp only [Act.put]
              go_wp2_with fail
              go_roundw
              case rel => exact ⟨j + 1, HJ.out.1, by go_num, HG2.out.drew⟩
              case measure =>
                have := HJ.out
                simp [intOf]; omega
            · have hd : decide ((j : Int) < (xs.length : Int)) = false := by rw [decide_eq_false_iff_not]; omega
              have HK := Lib.hid (HKN.out wr (G5.trans hg))
              have G6 := G5.trans hg
              clear hg
              go_wp2_with fail
              refine HK.out.mono ?_
              rintro e w7 ⟨rfl, g7⟩
              go_wp2_with fail
              go_ret
              exact ⟨rfl, G6.trans g7⟩

end Go.Proofs.YthkghjkgmfjmoaaDoor
