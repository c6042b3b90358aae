/-
  JournalFlip: the walk.
-/
import Derived.Test.YthkghjkgmfjmoaaDoorJI
namespace Go.Proofs.YthkghjkgmfjmoaaDoor
open Go.RowKit

/-- A record of which a byte is another one: it is read with that byte, if the digests begin alike, or not at all. -/
theorem recJ_flip (pre x' c8 rest : List UInt8) (h1 : 1 ≤ x'.length) (h2 : x'.length ≤ 8000) (h8 : c8.length = 8) :
    recJ (pre ++ (row x' ++ (c8 ++ rest))) pre.length = if c8 = (dig x').take 8 then some (x', pre.length + (row x').length + 8) else none := by
  have hr := readB_row pre (c8 ++ rest) x' 8000 (by omega)
  rw [if_pos (by omega)] at hr
  unfold recJ
  rw [hr]
  dsimp only
  have hd : ((pre ++ (row x' ++ (c8 ++ rest))).drop (pre.length + (row x').length)).take 8 = c8 := by
    rw [← List.append_assoc, ← List.length_append, List.drop_left, List.take_left' h8]
  have hne : x' ≠ [] := fun e => by rw [e] at h1; simp at h1
  have hle : ((pre.length + (row x').length : Nat) : Int) + 8 ≤ (pre ++ (row x' ++ (c8 ++ rest))).length := by
    simp only [List.length_append, h8]; omega
  by_cases h : c8 = (dig x').take 8
  · rw [if_pos ⟨rfl, hne, hle, by rw [Int.toNat_natCast, hd]; exact h⟩, if_pos h, Int.toNat_natCast]
  · rw [if_neg (fun h' => h (by have := h'.2.2.2; rwa [Int.toNat_natCast, hd] at this)), if_neg h]
theorem readJ_flip (L : List Prt) (x' c8 rest : List UInt8) (hL : ∀ p ∈ L, mayJ p.x = true) (h1 : 1 ≤ x'.length) (h2 : x'.length ≤ 8000) (h8 : c8.length = 8) :
    ∃ more, (readJ (flatJ L ++ (row x' ++ (c8 ++ rest))) 0).1 = L.map (·.x) ++ more ∧ (more = [] ∨ ∃ m, more = x' :: m ∧ c8 = (dig x').take 8) := by
  have h := readJ_flat L (row x' ++ (c8 ++ rest)) hL
  have hf := recJ_flip [] x' c8 rest h1 h2 h8
  rw [List.nil_append, List.length_nil] at hf
  refine ⟨(readJ (row x' ++ (c8 ++ rest)) 0).1, by rw [h], ?_⟩
  by_cases hc : c8 = (dig x').take 8
  · rw [if_pos hc] at hf
    exact .inr ⟨_, by rw [readJ_some hf], hc⟩
  · rw [if_neg hc] at hf
    exact .inl (by rw [readJ_none hf])
theorem flat_split (L : List Prt) (K : Nat) (h : K < L.length) : flatJ L = flatJ (L.take K) ++ (row (L[K]).x ++ ((dig (L[K]).x).take 8 ++ flatJ (L.drop (K + 1)))) := by
  have e : L = L.take K ++ (L[K] :: L.drop (K + 1)) := by rw [List.getElem_cons_drop, List.take_append_drop]
  have e2 : flatJ L = flatJ (L.take K) ++ (formJ (L[K]).x ++ flatJ (L.drop (K + 1))) := by
    conv => lhs; rw [e]
    unfold flatJ
    rw [List.flatMap_append, List.flatMap_cons]
  rw [e2]
  unfold formJ
  rw [List.append_assoc]
theorem flatJ_set (L : List Prt) (K m : Nat) (c : UInt8) (h : K < L.length) (hm : m < (L[K]).x.length) :
    (flatJ L).set ((flatJ (L.take K)).length + (form (L[K]).x.length).length + m) c = flatJ (L.take K) ++ (row ((L[K]).x.set m c) ++ ((dig (L[K]).x).take 8 ++ flatJ (L.drop (K + 1)))) := by
  rw [flat_split L K h]
  unfold row
  rw [List.length_set, List.append_assoc, List.append_assoc, List.set_append_right _ _ (by omega), List.set_append_right _ _ (by omega), List.set_append_left _ _ (by omega), show (flatJ (L.take K)).length + (form (L[K]).x.length).length + m - (flatJ (L.take K)).length - (form (L[K]).x.length).length = m by omega]
theorem set_ne (x : List UInt8) (m : Nat) (c d : UInt8) (h : x[m]? = some d) (hcd : c ≠ d) : x.set m c ≠ x := fun e => by
  have hm := (List.getElem?_eq_some_iff.1 h).1
  have h' : (x.set m c)[m]? = some c := by rw [List.getElem?_set_self hm]
  rw [e, h] at h'
  injection h' with h'
  exact hcd h'.symm
theorem txt_set {V : World} {g so n : Nat} {x : List UInt8} {c : UInt8} (h : Txt V (some ⟨g, so, none⟩) x) (hn : n < x.length) : Txt (V.setCell ⟨g, so + n, none⟩ (.int .u8 c.toNat)) (some ⟨g, so, none⟩) (x.set n c) := fun _ => by
  obtain ⟨sb, so', e, hlt, hc⟩ := h (by omega)
  injection e with e
  injection e with e1 e2 _
  subst e1 e2
  refine ⟨g, so, rfl, by simpa [World.setCell] using hlt, fun j d hj => ?_⟩
  by_cases hjn : j = n
  · subst hjn
    rw [List.getElem?_set_self hn] at hj
    injection hj with hj
    subst hj
    exact World.cell?_setCell_same' V ⟨g, so + j, none⟩ _ (by rw [hc j _ (List.getElem?_eq_getElem hn)]; rfl)
  · rw [List.getElem?_set_ne (by omega)] at hj
    have := hc j d hj
    rw [← this]
    exact World.cell?_setCell_other V _ _ _ (by intro e; injection e with _ e _; omega)

/-- The forms of the first records, and where the bytes of record K stand. -/
structure FlipAt (w : World) (L : List Prt) (K i : Nat) (A : Option Addr) (c : Nat) (B G : Int) (W : World) : Prop where
  forms : FormsAt w L i A c W
  place : ∀ h : K < L.length, K < i → B = ((flatJ (L.take K)).length + (form (L[K]).x.length).length : Nat) ∧ G = ((L[K]).x.length : Nat)

set_option maxRecDepth 100000 in
set_option maxHeartbeats 32000000 in
theorem flip_law (A : Option Addr) (L : List Prt) (c : Nat) (which at_ by_ : Int) (w : World) (hL : PartsAt w A L) (hLc : L.length ≤ c) (hcm : c ≤ 9223372036854775807) (hby : 0 ≤ by_ ∧ by_ ≤ 255) (hT : Tabs w) :
    Calls Tryd.prog 10 #[.slice A L.length c, .int .i64 which, .int .i64 at_, .int .u8 by_] w fun e w' => e = .returned (.bool true) ∧ Chg none w w' := by
  obtain ⟨i0, hi, hz0, hz1, hz2⟩ := info_parts Tryd.info5
  have hLl : L.length ≤ 9223372036854775807 := by omega
  have HKN : Hid (∀ v, Chg none w v → Calls Tryd.prog 16 #[] v fun e w' => e = .returned (.bool true) ∧ Chg none v w') := fun v g => known11_any v (hT.chg g (by simp))
  have HK0 := Lib.hid (HKN.out w (Chg.refl _ _))
  by_cases h1 : 20 < L.length
  · have d1 : decide ((20 : Int) < (L.length : Int)) = true := by rw [decide_eq_true_eq]; omega
    clear HKN hT hL
    go_enter Tryd.func10, Tryd.ntmps10
    go_wp2_with fail
    refine HK0.out.mono ?_
    rintro e w1 ⟨rfl, g1⟩
    go_wp2_with fail
    go_ret
    exact ⟨rfl, g1⟩
  have d1 : decide ((20 : Int) < (L.length : Int)) = false := by rw [decide_eq_false_iff_not]; omega
  have HSZ := Lib.hid (size_any A L c w hL (by omega))
  have HTT : Hid (∀ v, Chg none w v → Tabs v) := fun v g => hT.chg g (by simp)
  have HPA : Hid (∀ v, Chg none w v → PartsAt v A L) := fun v g => hL.chg g
  have HLE := Lib.hid (Nat.le_refl w.heap.size)
  clear hT hL
  go_enter Tryd.func10, Tryd.ntmps10
  go_wp2_with fail
  refine HSZ.out.mono ?_
  rintro e w1 ⟨z, rfl, rfl⟩
  by_cases hz : 20000 < z
  · have d2 : decide ((20000 : Int) < z) = true := by rw [decide_eq_true_eq]; exact hz
    go_wp2_with fail
    refine HK0.out.mono ?_
    rintro e w2 ⟨rfl, g2⟩
    go_wp2_with fail
    go_ret
    exact ⟨rfl, g2⟩
  have d2 : decide ((20000 : Int) < z) = false := by rw [decide_eq_false_iff_not]; exact hz
  by_cases h3 : L.length = 0
  · have d3 : ((L.length : Int) == 0) = true := by rw [beq_iff_eq]; omega
    clear h3
    go_wp2_with fail
    refine HK0.out.mono ?_
    rintro e w2 ⟨rfl, g2⟩
    go_wp2_with fail
    go_ret
    exact ⟨rfl, g2⟩
  have d3 : ((L.length : Int) == 0) = false := by rw [beq_eq_false_iff_ne]; omega
  by_cases h4 : by_ = 0
  · have d4 : (by_ == 0) = true := by rw [beq_iff_eq]; exact h4
    clear h4
    go_wp2_with fail
    refine HK0.out.mono ?_
    rintro e w2 ⟨rfl, g2⟩
    go_wp2_with fail
    go_ret
    exact ⟨rfl, g2⟩
  have d4 : (by_ == 0) = false := by rw [beq_eq_false_iff_ne]; exact h4
  -- which record
  have u0 : IntKind.u64.wrap which = which % 18446744073709551616 := by rw [IntKind.wrap_u64]
  have un := Int.emod_nonneg which (by decide : (18446744073709551616 : Int) ≠ 0)
  have ut : (which % 18446744073709551616).tmod (L.length : Int) = which % 18446744073709551616 % (L.length : Int) := Int.tmod_eq_emod_of_nonneg un
  have ua := Int.emod_nonneg (which % 18446744073709551616) (by omega : (L.length : Int) ≠ 0)
  have ub := Int.emod_lt_of_pos (which % 18446744073709551616) (by omega : 0 < (L.length : Int))
  obtain ⟨K, hK⟩ : ∃ K : Nat, (K : Int) = which % 18446744073709551616 % (L.length : Int) := ⟨(which % 18446744073709551616 % (L.length : Int)).toNat, by omega⟩
  have hKl : K < L.length := by omega
  have q1 : IntKind.u64.wrap (L.length : Int) = (L.length : Int) := by rw [IntKind.wrap_u64]; omega
  have q2 : (L.length : Int) % 18446744073709551616 = (L.length : Int) := by omega
  have q3 : IntKind.i64.wrap ((IntKind.u64.wrap which).tmod (L.length : Int)) = (K : Int) := by rw [u0, ut, ← hK, IntKind.wrap_i64]; omega
  have hst : FlipAt w1 L K 0 none 0 0 0 w1 := ⟨⟨World.ownsRow_nil _ _ _ _, Chg.refl _ _, fun p hp => (by simp at hp), Nat.zero_le _⟩, fun _ h => absurd h (Nat.not_lt_zero _)⟩
  have HST := Lib.hid hst
  have HKL := Lib.hid hKl
  clear HK0 HSZ hz u0 un ut ua ub hK hst
  go_wp2_with fail
  clear d1 d2 d4 q1 q2 q3
  go_loopw [9, 10, 11, 50] (fun s9 s10 s11 s50 wr => ∃ (Ab : Option Addr) (cb i : Nat) (B G : Int), s9 = .slice Ab (flatJ (L.take i)).length cb ∧ s10 = .int .i64 B ∧ s11 = .int .i64 G ∧ s50 = .int .i64 i ∧ FlipAt w1 L K i Ab cb B G wr) (fun _ _ _ s50 _ => L.length - (intOf s50).toNat)
  case atStart => exact ⟨none, 0, 0, 0, 0, rfl, rfl, rfl, rfl, HST.out⟩
  case round =>
    obtain ⟨Ab, cb, i, B, G, rfl, rfl, rfl, rfl, hE⟩ := hrel
    have hF := hE.forms
    have him := hF.most
    have HF := Lib.hid hF
    have HPL := Lib.hid hE.place
    clear hE
    by_cases hlt : i < L.length
    · obtain ⟨b, off, hA, _, hcell⟩ := (HPA.out wr hF.chg).at_ (by omega)
      have HCL : Hid (∀ v, Chg none wr v → v.cell? ⟨b, off + i, none⟩ = some (L[i]).val) := fun v g => World.grownBy.cell g (hcell i (L[i]) (List.getElem?_eq_getElem hlt)) (by simp)
      have hc := hcell i (L[i]) (List.getElem?_eq_getElem hlt)
      have hok := (HPA.out wr hF.chg).all (L[i]) (List.getElem_mem hlt)
      have hd : decide ((i : Int) < (L.length : Int)) = true := by rw [decide_eq_true_eq]; omega
      have hsucc := flatJ_succ hlt
      have hmem : ∀ p ∈ L.take (i + 1), p ∈ L.take i ∨ p = L[i] := fun p hp => by
        rw [List.take_succ_eq_append_getElem hlt, List.mem_append, List.mem_singleton] at hp
        exact hp
      have hfl := flatJ_le (L.take i) hF.may
      rw [List.length_take] at hfl
      have hKi : K = i → ∀ h : K < L.length, L[K] = L[i] := fun e h => by subst e; rfl
      have HKI := Lib.hid hKi
      unfold Prt.val at hc HCL
      generalize L[i] = p at *
      subst hA
      have HOK := Lib.hid hok
      by_cases hm : mayJ p.x = true
      rotate_left
      · have hm' : mayJ p.x = false := by simpa using hm
        have HFN := Lib.hid (form_no p.A p.x.length p.c wr (mayJ_no hm'))
        have HG := Lib.hid hF.chg
        clear hF hcell hok hm hm' hsucc hmem hfl HF HOK hKi
        go_wp2_with fail
        refine HFN.out.mono ?_
        rintro e w2 ⟨rfl, g2⟩
        have HK := Lib.hid (HKN.out w2 (HG.out.trans g2))
        have G2 := HG.out.trans g2
        go_wp2_with fail
        refine HK.out.mono ?_
        rintro e w3 ⟨rfl, g3⟩
        go_wp2_with fail
        go_ret
        exact ⟨rfl, G2.trans g3⟩
      · have hyes := mayJ_yes hm
        have HFY := Lib.hid (form_yes p wr hok hyes.1 hyes.2 (HTT.out wr hF.chg))
        have hfp := formJ_le hm
        have HM := Lib.hid hm
        have HMEM := Lib.hid hmem
        have HSUCC := Lib.hid hsucc
        have hlenF := formJ_len p.x
        have hrowl : (row p.x).length = (form p.x.length).length + p.x.length := by unfold row; rw [List.length_append]
        have hforml := form_len p.x.length
        clear hF hcell hok hm hmem hsucc hKi
        obtain ⟨FL, hFL⟩ : ∃ FL, FL = flatJ (L.take i) := ⟨_, rfl⟩
        have HFL := Lib.hid hFL
        rw [← hFL] at hfl ⊢
        generalize formJ p.x = FJ at *
        clear hFL
        obtain ⟨P, hP⟩ : ∃ P, P = (form p.x.length).length := ⟨_, rfl⟩
        have HP := Lib.hid hP
        rw [← hP] at hrowl hforml
        have hx8 := hyes.2
        have hFJl : FJ.length = P + p.x.length + 8 := by omega
        clear hrowl hlenF hP hyes
        go_wp2_with fail
        refine HFY.out.mono ?_
        rintro e w2 ⟨A2, c2, rfl, hown2, g2⟩
        have HR2 := Lib.hid (txt_reads (own_txt hown2).1)
        have HOWN : Hid (w2.ownsRow w1.heap.size 5 1 (.slice Ab FL.length cb) FL.length (byteVals FL)) := by have := own_on HF.out.own g2; rw [← HFL.out] at this; exact this
        have G2 := HF.out.chg.trans g2
        have HO := Lib.hid (byteVals_one FJ)
        have HS := Lib.hid G2.size
        have hc2 := HCL.out w2 g2
        have hb1 : FL.length + FJ.length ≤ 400000 := by omega
        have k1 : IntKind.i64.wrap ((p.x.length : Int) + 9) = (p.x.length : Int) + 9 := by rw [IntKind.wrap_i64]; omega
        have k2 : decide ((FJ.length : Int) < (p.x.length : Int) + 9) = false := by rw [decide_eq_false_iff_not]; omega
        have k3 : IntKind.i64.wrap ((FL.length : Int) + (FJ.length : Int)) = (FL.length : Int) + (FJ.length : Int) := by rw [IntKind.wrap_i64]; omega
        have k4 : IntKind.i64.wrap ((FL.length : Int) + (FJ.length : Int) - 8) = (FL.length : Int) + (FJ.length : Int) - 8 := by rw [IntKind.wrap_i64]; omega
        have k5 : IntKind.i64.wrap ((FL.length : Int) + (FJ.length : Int) - 8 - (p.x.length : Int)) = ((FL.length + P : Nat) : Int) := by rw [IntKind.wrap_i64]; omega
        clear hown2 HFY hfl hfp
        have hnewf : ∀ (A3 : Option Addr) (c3 : Nat) (w3 : World) (B' G' : Int), w3.ownsRow w1.heap.size 5 1 (.slice A3 (FL.length + FJ.length) c3) (FL.length + FJ.length) (byteVals (FL ++ FJ)) → Chg none w1 w3 →
            (∀ h : K < L.length, K < i + 1 → B' = ((flatJ (L.take K)).length + (form (L[K]).x.length).length : Nat) ∧ G' = ((L[K]).x.length : Nat)) → FlipAt w1 L K (i + 1) A3 c3 B' G' w3 ∧ FL.length + FJ.length = (flatJ (L.take (i + 1))).length := fun A3 c3 w3 B' G' ho g hpl => by
          have e3 : FL ++ FJ = flatJ (L.take (i + 1)) := by rw [HFL.out, HSUCC.out]
          have el : FL.length + FJ.length = (flatJ (L.take (i + 1))).length := by rw [← e3, List.length_append]
          exact ⟨⟨⟨by rw [← el, ← e3]; exact ho, g, fun p' hp' => by
            rcases HMEM.out p' hp' with h | h
            · exact HF.out.may p' h
            · subst h; exact HM.out, by omega⟩, hpl⟩, el⟩
        have HNF := Lib.hid hnewf
        clear hnewf
        by_cases hKe : i = K
        · have k6 : ((i : Int) == (K : Int)) = true := by rw [beq_iff_eq]; omega
          have HPQ : Hid (∀ h : K < L.length, K < i + 1 → (((FL.length + P : Nat) : Int)) = ((flatJ (L.take K)).length + (form (L[K]).x.length).length : Nat) ∧ (p.x.length : Int) = ((L[K]).x.length : Nat)) := fun h _ => by
            rw [HKI.out hKe.symm h, HFL.out, HP.out, hKe]; exact ⟨rfl, rfl⟩
          clear hKe hforml hFJl
          go_wp2_with (at_builtin; refine wpList_append_any _ rfl (.tmp 93) (.tmp 94) 22 rfl w1.heap.size 5 i0 (.int .u8 0) 1 1 Tryd.underlying22 hi hz0 hz1 hz2 rfl (by decide) _ FL.length (byteVals FL) rfl HOWN.out _ A2 FJ.length c2 (byteVals FJ) rfl HR2.out HO.out (by unfold maxLen; omega) (by omega) HS.out ?_)
          intro v3 w3 hown3 hgr3 _
          have G3 : Chg none w1 w3 := own_chg G2 HOWN.out HLE.out hgr3
          rw [byteVals_append] at hown3
          obtain ⟨A3, c3, rfl⟩ := own_slice hown3
          have hn := HNF.out A3 c3 w3 _ _ hown3 G3 HPQ.out
          have HNEW := Lib.hid hn.1
          have HEL := Lib.hid hn.2
          clear hown3 hgr3 hn HR2 HOWN G2 G3
          go_wp2_with fail
          go_roundw
          case rel => exact ⟨A3, c3, i + 1, _, _, by rw [← HEL.out], rfl, rfl, by go_num, HNEW.out⟩
          case measure => simp [intOf]; omega
        · have k6 : ((i : Int) == (K : Int)) = false := by rw [beq_eq_false_iff_ne]; omega
          have HPQ : Hid (∀ h : K < L.length, K < i + 1 → B = ((flatJ (L.take K)).length + (form (L[K]).x.length).length : Nat) ∧ G = ((L[K]).x.length : Nat)) := fun h h' => HPL.out h (by omega)
          clear hforml hFJl
          go_wp2_with (at_builtin; refine wpList_append_any _ rfl (.tmp 93) (.tmp 94) 22 rfl w1.heap.size 5 i0 (.int .u8 0) 1 1 Tryd.underlying22 hi hz0 hz1 hz2 rfl (by decide) _ FL.length (byteVals FL) rfl HOWN.out _ A2 FJ.length c2 (byteVals FJ) rfl HR2.out HO.out (by unfold maxLen; omega) (by omega) HS.out ?_)
          intro v3 w3 hown3 hgr3 _
          have G3 : Chg none w1 w3 := own_chg G2 HOWN.out HLE.out hgr3
          rw [byteVals_append] at hown3
          obtain ⟨A3, c3, rfl⟩ := own_slice hown3
          have hn := HNF.out A3 c3 w3 _ _ hown3 G3 HPQ.out
          have HNEW := Lib.hid hn.1
          have HEL := Lib.hid hn.2
          clear hown3 hgr3 hn HR2 HOWN G2 G3
          go_wp2_with fail
          go_roundw
          case rel => exact ⟨A3, c3, i + 1, _, _, by rw [← HEL.out], rfl, rfl, by go_num, HNEW.out⟩
          case measure => simp [intOf]; omega
    · have hiL : i = L.length := by omega
      have hd : decide ((i : Int) < (L.length : Int)) = false := by rw [decide_eq_false_iff_not]; omega
      have htake : L.take i = L := List.take_of_length_le (by omega)
      have hFown := hF.own
      have hFmay := hF.may
      rw [htake] at hFown hFmay
      rw [htake]
      have hfl := flatJ_le L hFmay
      have hKl := HKL.out
      obtain ⟨hB, hG⟩ := HPL.out hKl (by omega)
      have hmK := mayJ_yes (hFmay (L[K]) (List.getElem_mem hKl))
      have hPA0 := HPA.out wr hF.chg
      obtain ⟨b, off, hA, _, hcell⟩ := hPA0.at_ (by omega)
      have hcK := hcell K (L[K]) (List.getElem?_eq_getElem hKl)
      have HFS := Lib.hid (fun m c (hm : m < (L[K]).x.length) => flatJ_set L K m c hKl hm)
      have HSP := Lib.hid (flat_split L K hKl)
      obtain ⟨kp, hkp⟩ : ∃ kp, kp = L[K] := ⟨_, rfl⟩
      rw [← hkp] at hB hG hmK hcK HFS HSP
      obtain ⟨FL, hFL⟩ : ∃ FL, FL = flatJ L := ⟨_, rfl⟩
      rw [← hFL] at hFown hfl HFS HSP ⊢
      obtain ⟨Q, hQ⟩ : ∃ Q, Q = (flatJ (L.take K)).length + (form kp.x.length).length := ⟨_, rfl⟩
      rw [← hQ] at hB HFS
      subst hB hG
      have u0 : IntKind.u64.wrap at_ = at_ % 18446744073709551616 := by rw [IntKind.wrap_u64]
      have un := Int.emod_nonneg at_ (by decide : (18446744073709551616 : Int) ≠ 0)
      have ut : (at_ % 18446744073709551616).tmod (kp.x.length : Int) = at_ % 18446744073709551616 % (kp.x.length : Int) := Int.tmod_eq_emod_of_nonneg un
      have ua := Int.emod_nonneg (at_ % 18446744073709551616) (by omega : (kp.x.length : Int) ≠ 0)
      have ub := Int.emod_lt_of_pos (at_ % 18446744073709551616) (by omega : 0 < (kp.x.length : Int))
      obtain ⟨m, hm⟩ : ∃ m : Nat, (m : Int) = at_ % 18446744073709551616 % (kp.x.length : Int) := ⟨(at_ % 18446744073709551616 % (kp.x.length : Int)).toNat, by omega⟩
      have hml : m < kp.x.length := by omega
      have hQl : Q + m < FL.length := by
        have h := congrArg List.length HSP.out
        unfold row at h
        simp only [List.length_append] at h
        omega
      have q1 : IntKind.u64.wrap (kp.x.length : Int) = (kp.x.length : Int) := by rw [IntKind.wrap_u64]; omega
      have q2 : (kp.x.length : Int) % 18446744073709551616 = (kp.x.length : Int) := by omega
      have q3 : IntKind.i64.wrap ((IntKind.u64.wrap at_).tmod (kp.x.length : Int)) = (m : Int) := by rw [u0, ut, ← hm, IntKind.wrap_i64]; omega
      have q4 : IntKind.i64.wrap ((Q : Int) + (m : Int)) = ((Q + m : Nat) : Int) := by rw [IntKind.wrap_i64]; omega
      have q5 : ((kp.x.length : Int) == 0) = false := by rw [beq_eq_false_iff_ne]; omega
      -- the byte
      obtain ⟨d, hdx⟩ : ∃ d, kp.x[m]? = some d := ⟨_, List.getElem?_eq_getElem hml⟩
      have hFd : FL[Q + m]? = some d := by
        rw [HSP.out]
        unfold row
        rw [List.append_assoc, List.getElem?_append_right (by omega), List.getElem?_append_right (by omega), List.getElem?_append_left (by omega)]
        rw [← hdx]; congr 1; omega
      obtain ⟨cn, hcn⟩ : ∃ cn : UInt8, (cn.toNat : Int) = ((d.toNat : Int) + by_) % 256 := ⟨UInt8.ofNat (((d.toNat : Int) + by_) % 256).toNat, by rw [UInt8.toNat_ofNat']; omega⟩
      have hne : cn ≠ d := fun e => by
        rw [e] at hcn
        have := d.toNat_lt
        omega
      have q6 : IntKind.u8.wrap ((d.toNat : Int) + by_) = (cn.toNat : Int) := by rw [IntKind.wrap_u8, hcn]
      have hxne := set_ne kp.x m cn d hdx hne
      have hfs := HFS.out m cn hml
      have hT := own_txt hFown
      obtain ⟨g, hAb, hgb⟩ : ∃ g, Ab = some ⟨g, 0, none⟩ ∧ w1.heap.size ≤ g := by
        rcases hFown.2 with ⟨_, h0⟩ | ⟨g, cap, cur, e, hb, _⟩
        · omega
        · injection e with e1 _ _
          exact ⟨g, e1, hb⟩
      subst hAb
      have hbk : ∃ cs, Blk wr g cs 5 := by
        rcases hFown.2 with ⟨e, _⟩ | ⟨g', cap, cur, e, hb, hh, _⟩
        · cases e
        · injection e with e1 _ _
          injection e1 with e1
          injection e1 with e1
          subst e1
          exact ⟨cur, hh⟩
      obtain ⟨cs, hblk⟩ := hbk
      have hcb : wr.cell? ⟨g, Q + m, none⟩ = some (.int .u8 d.toNat) := by
        have := hFown.cells (g := g) rfl (Q + m) _ (byteVals_get hFd)
        rwa [Go.WideShapes.add_plain, Nat.zero_add] at this
      have hfb := hblk.frozen (Q + m)
      obtain ⟨W5, hW5⟩ : ∃ W5, W5 = wr.setCell ⟨g, Q + m, none⟩ (.int .u8 (cn.toNat : Int)) := ⟨_, rfl⟩
      have HW5 : Hid (wr.setCell ⟨g, Q + m, none⟩ (.int .u8 (cn.toNat : Int)) = W5) := hW5.symm
      have gS : Chg (some g) wr W5 := by rw [hW5]; exact ((Chg.refl none wr).weaken).setCell _ _
      have G5 : Chg none w1 W5 := Chg.own (b := g) hF.chg gS hgb
      have hT5 : Txt W5 (some ⟨g, 0, none⟩) (FL.set (Q + m) cn) := by
        rw [hW5]
        have := txt_set (c := cn) hT.1 hQl
        rwa [Nat.zero_add] at this
      have hflip := readJ_flip (L.take K) (kp.x.set m cn) ((dig kp.x).take 8) (flatJ (L.drop (K + 1))) (fun p hp => hFmay p (List.mem_of_mem_take hp)) (by rw [List.length_set]; exact hmK.1) (by rw [List.length_set]; exact hmK.2) (chk_len _)
      rw [← hfs] at hflip
      have HR : Hid (Calls Tryd.prog 21 #[.slice (some ⟨g, 0, none⟩) FL.length cb] W5 (ReadTold W5 (FL.set (Q + m) cn))) := by
        have := readj_any ⟨some ⟨g, 0, none⟩, FL.set (Q + m) cn, cb⟩ W5 ⟨hT5, by show (FL.set (Q + m) cn).length ≤ cb; rw [List.length_set]; exact hT.2.2⟩ (by show (FL.set (Q + m) cn).length ≤ 400000; rw [List.length_set]; omega) (HTT.out W5 G5)
        dsimp only at this
        rwa [List.length_set] at this
      have HFLIP := Lib.hid hflip
      have HKPX : Hid (kp.x.set m cn ≠ kp.x ∧ kp.x.length ≤ 8000 ∧ 1 ≤ kp.x.length) := ⟨hxne, hmK.2, hmK.1⟩
      have HKP := Lib.hid hkp
      have HG5 := Lib.hid G5
      clear hF hFown hFmay HF htake hFL HST him hlt hfl u0 un ut ua ub hm hdx hFd hcn hne hfs hT hblk hW5 gS G5 hT5 hflip hxne hmK hPA0 hcell hcK hA hQ hkp HFS HSP HPL h4 d3
      subst hiL
      go_upto_region 21 with fail
      rw [HW5.out]
      clear HW5 hcb hfb q1 q2 q3 q4 q5 q6
      go_wp2_with fail
      refine HR.out.mono ?_
      rintro e w6 ⟨xs, A5, c5, rfl, hl5, hgot5, g5⟩
      have G6 := HG5.out.trans g5
      obtain ⟨more, hall0, hmore⟩ := HFLIP.out
      have hall : xs.map (·.x) = (L.take K).map (·.x) ++ more := hgot5.all.trans hall0
      have hKx : K ≤ xs.length := by
        have h := congrArg List.length hall
        rw [List.length_map, List.length_append, List.length_map, List.length_take] at h
        omega
      have hxm : xs.length = K + more.length := by
        have h := congrArg List.length hall
        rw [List.length_map, List.length_append, List.length_map, List.length_take] at h
        omega
      have HLI6 : Hid (∀ v, Chg none w6 v → v.ownsRow W5.heap.size 22 1 (.slice A5 xs.length c5) xs.length (xs.map RecE.val)) := fun v g => own_on hl5 g
      have HRO6 : Hid (∀ v, Chg none w6 v → ∀ r ∈ xs, Txt v r.A r.x) := fun v g r hr => (own_txt (own_on (hgot5.own r hr) g)).1
      have HRC6 : Hid (∀ r ∈ xs, r.x.length ≤ r.c) := fun r hr => (own_txt (hgot5.own r hr)).2.2
      have HALL := Lib.hid hall
      have HMORE := Lib.hid hmore
      have HXM := Lib.hid hxm
      have HG6 := Lib.hid G6
      generalize (readJ (FL.set (Q + m) cn) 0).2 = KK at *
      clear hl5 hgot5 hall0 hall hmore HR HFLIP HG5 g5 hxm G6
      have hd4 : decide ((xs.length : Int) < (K : Int)) = false := by rw [decide_eq_false_iff_not]; omega
      go_wp2_with fail
      clear hd hd4
      obtain ⟨wq, rfl⟩ : ∃ wq : World, wq = wr := ⟨_, rfl⟩
      go_loopw [122] (fun s122 wr => ∃ j : Nat, j ≤ K ∧ s122 = .int .i64 j ∧ Chg none w6 wr) (fun s122 _ => K - (intOf s122).toNat)
      case atStart => exact ⟨0, Nat.zero_le _, rfl, Chg.refl _ _⟩
      case round =>
        obtain ⟨j, hj, rfl, hg⟩ := hrel
        have hKl := HKL.out
        by_cases hlt : j < K
        · have hjx : j < xs.length := by omega
          have hr : xs[j]? = some xs[j] := List.getElem?_eq_getElem hjx
          obtain ⟨g5, hA5, hcA⟩ := list_at (HLI6.out wr.drew hg.drew) hr
          have hTx := HRO6.out wr.drew hg.drew _ (List.getElem_mem hjx)
          have hx : (xs.map (·.x))[j]? = some (xs[j]).x := by rw [List.getElem?_map, hr]; rfl
          rw [HALL.out] at hx
          have hd : decide ((j : Int) < (K : Int)) = true := by rw [decide_eq_true_eq]; omega
          have HJ : Hid (j < K ∧ K ≤ 20) := ⟨hlt, by omega⟩
          have hcv := conv_reads (c := (xs[j]).c) wr.drew (txt_reads hTx)
          unfold RecE.val at hcA
          generalize xs[j] = r at *
          subst hA5
          have HG2 := Lib.hid hg
          have hjL : j < L.length := by omega
          obtain ⟨b, off, hA, _, hcell⟩ := (HPA.out wr.drew (HG6.out.trans hg.drew)).at_ (by omega)
          have hc2 := hcell j (L[j]) (List.getElem?_eq_getElem hjL)
          have hok := (HPA.out wr.drew (HG6.out.trans hg.drew)).all (L[j]) (List.getElem_mem hjL)
          have hcv2 := conv_reads (c := (L[j]).c) wr.drew (txt_reads hok.1)
          rw [List.getElem?_append_left (by rw [List.length_map, List.length_take]; omega), List.getElem?_map, List.getElem?_take_of_lt hlt, List.getElem?_eq_getElem hjL] at hx
          have hxe : (L[j]).x = r.x := by injection hx
          unfold Prt.val at hc2
          generalize L[j] = p at *
          subst hA
          have hcv2' : (convert 22 9 (.slice p.A p.x.length p.c)).run Tryd.prog wr.drew = .ok (.string ⟨r.x.toArray⟩) wr.drew := by rw [hcv2, hxe]
          clear hx hxe hcv2 hok hcell hTx hr hg
          go_upto_region 27 with fail
          refine wp_region_held_drew (S := fun v => v = wr.drew) (by kernel_rfl) rfl (fun _ => ?_)
          refine wpAnyH_take (i := 0) (oi := ⟨some 125, _, _, _, _, _⟩) (v := ?_) rfl (by kernel_rfl) (by kernel_rfl) (by kernel_rfl) (fun _ _ _ h => h) (Or.inl ⟨by rfl, ?_⟩) (by assumption) ?_
          rotate_left
          · intro w hSw; (try dsimp only at hSw); go_simp; (try with_reducible rfl)
          try simp only [Act.put, List.setIfInBounds_toArray, List.set_cons_zero, List.set_cons_succ]
          refine wpAnyH_take (i := 1) (oi := ⟨some 126, _, _, _, _, _⟩) (v := ?_) rfl (by kernel_rfl) (by kernel_rfl) (by kernel_rfl) (fun _ _ _ h => h) (Or.inl ⟨by rfl, ?_⟩) (by assumption) ?_
          rotate_left
          · intro w hSw; (try dsimp only at hSw); go_simp; (try with_reducible rfl)
          try simp only [Act.put, List.setIfInBounds_toArray, List.set_cons_zero, List.set_cons_succ]
          refine wpAnyH_take (i := 2) (oi := ⟨some 127, _, _, _, _, _⟩) (v := .pointer (some ⟨g5, j, none⟩)) rfl (by kernel_rfl) (by kernel_rfl) (by kernel_rfl) (fun _ _ _ h => h) (Or.inl ⟨by rfl, ?_⟩) (by assumption) ?_
          · intro v hSv; subst hSv; go_simp
          try simp only [Act.put, List.setIfInBounds_toArray, List.set_cons_zero, List.set_cons_succ]
          refine wpAnyH_take (i := 3) (oi := ⟨some 128, _, _, _, _, _⟩) (v := .slice r.A r.x.length r.c) rfl (by kernel_rfl) (by kernel_rfl) (by kernel_rfl) (fun _ _ _ h => h) (Or.inl ⟨by rfl, ?_⟩) (by assumption) ?_
          · intro v hSv; subst hSv; go_simp
          try simp only [Act.put, List.setIfInBounds_toArray, List.set_cons_zero, List.set_cons_succ]
          refine wpAnyH_take (i := 4) (oi := ⟨some 129, _, _, _, _, _⟩) (v := .string ⟨r.x.toArray⟩) rfl (by kernel_rfl) (by kernel_rfl) (by kernel_rfl) (fun _ _ _ h => h) (Or.inl ⟨by rfl, ?_⟩) (by assumption) ?_
          · intro v hSv; subst hSv; go_simp
          try simp only [Act.put, List.setIfInBounds_toArray, List.set_cons_zero, List.set_cons_succ]
          refine wpAnyH_take (i := 5) (oi := ⟨some 130, _, _, _, _, _⟩) (v := ?_) rfl (by kernel_rfl) (by kernel_rfl) (by kernel_rfl) (fun _ _ _ h => h) (Or.inl ⟨by rfl, ?_⟩) (by assumption) ?_
          rotate_left
          · intro w hSw; (try dsimp only at hSw); go_simp; (try with_reducible rfl)
          try simp only [Act.put, List.setIfInBounds_toArray, List.set_cons_zero, List.set_cons_succ]
          refine wpAnyH_take (i := 6) (oi := ⟨some 131, _, _, _, _, _⟩) (v := ?_) rfl (by kernel_rfl) (by kernel_rfl) (by kernel_rfl) (fun _ _ _ h => h) (Or.inl ⟨by rfl, ?_⟩) (by assumption) ?_
          rotate_left
          · intro w hSw; (try dsimp only at hSw); go_simp; (try with_reducible rfl)
          try simp only [Act.put, List.setIfInBounds_toArray, List.set_cons_zero, List.set_cons_succ]
          refine wpAnyH_take (i := 7) (oi := ⟨some 132, _, _, _, _, _⟩) (v := .pointer (some ⟨b, off + j, none⟩)) rfl (by kernel_rfl) (by kernel_rfl) (by kernel_rfl) (fun _ _ _ h => h) (Or.inl ⟨by rfl, ?_⟩) (by assumption) ?_
          · intro v hSv; subst hSv; go_simp
          try simp only [Act.put, List.setIfInBounds_toArray, List.set_cons_zero, List.set_cons_succ]
          refine wpAnyH_take (i := 8) (oi := ⟨some 133, _, _, _, _, _⟩) (v := .slice p.A p.x.length p.c) rfl (by kernel_rfl) (by kernel_rfl) (by kernel_rfl) (fun _ _ _ h => h) (Or.inl ⟨by rfl, ?_⟩) (by assumption) ?_
          · intro v hSv; subst hSv; go_simp
          try simp only [Act.put, List.setIfInBounds_toArray, List.set_cons_zero, List.set_cons_succ]
          refine wpAnyH_take (i := 9) (oi := ⟨some 134, _, _, _, _, _⟩) (v := .string ⟨r.x.toArray⟩) rfl (by kernel_rfl) (by kernel_rfl) (by kernel_rfl) (fun _ _ _ h => h) (Or.inl ⟨by rfl, ?_⟩) (by assumption) ?_
          · intro v hSv; subst hSv; go_simp
          try simp only [Act.put, List.setIfInBounds_toArray, List.set_cons_zero, List.set_cons_succ]
          refine wpAnyH_take (i := 10) (oi := ⟨some 135, _, _, _, _, _⟩) (v := .bool false) rfl (by kernel_rfl) (by kernel_rfl) (by kernel_rfl) (fun _ _ _ h => h) (Or.inl ⟨by rfl, ?_⟩) (by assumption) ?_
          · intro v hSv; subst hSv; go_simp
          try simp only [Act.put, List.setIfInBounds_toArray, List.set_cons_zero, List.set_cons_succ]
          refine wpAnyH_done (by kernel_rfl) ?_ _
          try simp only [Act.put]
          go_wp2_with fail
          go_roundw
          case rel => exact ⟨j + 1, HJ.out.1, by go_num, HG2.out.drew⟩
          case measure =>
            have := HJ.out
            simp [intOf]; omega
        · have hjK : j = K := by omega
          have hd : decide ((j : Int) < (K : Int)) = false := by rw [decide_eq_false_iff_not]; omega
          have G7 := HG6.out.trans hg
          by_cases hmo : more = []
          · have hxl : xs.length = K := by have := HXM.out; rw [hmo] at this; exact this
            have hd5 : ((xs.length : Int) == (K : Int)) = true := by rw [beq_iff_eq]; omega
            have HK := Lib.hid (HKN.out wr G7)
            clear hmo hxl hjK hg
            go_wp2_with fail
            refine HK.out.mono ?_
            rintro e w7 ⟨rfl, g7⟩
            go_wp2_with fail
            go_ret
            exact ⟨rfl, G7.trans g7⟩
          · obtain ⟨mm, hmm, hdig⟩ : ∃ mm, more = kp.x.set m cn :: mm ∧ (dig kp.x).take 8 = (dig (kp.x.set m cn)).take 8 := by
              rcases HMORE.out with h | ⟨mm, h, hd⟩
              · exact absurd h hmo
              · exact ⟨mm, h, hd⟩
            have hxK : K < xs.length := by have := HXM.out; rw [hmm, List.length_cons] at this; omega
            have hd5 : ((xs.length : Int) == (K : Int)) = false := by rw [beq_eq_false_iff_ne]; omega
            have hr : xs[K]? = some xs[K] := List.getElem?_eq_getElem hxK
            have hx : (xs.map (·.x))[K]? = some (xs[K]).x := by rw [List.getElem?_map, hr]; rfl
            rw [HALL.out, List.getElem?_append_right (by rw [List.length_map, List.length_take]; omega), List.length_map, List.length_take, hmm, show K - min K L.length = 0 by omega] at hx
            have hrx : (xs[K]).x = kp.x.set m cn := by injection hx with hx; exact hx.symm
            obtain ⟨gA, hA5, _⟩ := list_at (HLI6.out wr hg) hr
            have HC1 : Hid (∀ v, Chg none w6 v → v.cell? ⟨gA, K, none⟩ = some (xs[K]).val) := fun v g => by
              obtain ⟨g', h1, h2⟩ := list_at (HLI6.out v g) hr
              rw [hA5] at h1
              injection h1 with h1
              injection h1 with h1
              rw [h1]; exact h2
            have HT1 : Hid (∀ v, Chg none w6 v → Txt v (xs[K]).A (xs[K]).x) := fun v g => HRO6.out v g _ (List.getElem_mem hxK)
            have hrc := HRC6.out _ (List.getElem_mem hxK)
            obtain ⟨b, off, hA, _, _⟩ := (HPA.out wr G7).at_ (by omega)
            have HC2 : Hid (∀ v, Chg none w1 v → v.cell? ⟨b, off + K, none⟩ = some kp.val) := fun v g => by
              obtain ⟨b', off', h1, _, h2⟩ := (HPA.out v g).at_ (by omega)
              rw [hA] at h1
              injection h1 with h1
              injection h1 with h1 h3 _
              rw [h1, h3, HKP.out]
              exact h2 K (L[K]) (List.getElem?_eq_getElem hKl)
            have HK2 : Hid (∀ v, Chg none w1 v → kp.ok v) := fun v g => by rw [HKP.out]; exact (HPA.out v g).all _ (List.getElem_mem hKl)
            have hxl8 : (xs[K]).x.length ≤ 8000 := by rw [hrx, List.length_set]; exact HKPX.out.2.1
            have hnex : ((xs[K]).x == kp.x) = false := by rw [beq_eq_false_iff_ne, hrx]; exact HKPX.out.1
            rw [← hrx] at hdig
            unfold RecE.val at HC1
            unfold Prt.val at HC2
            generalize xs[K] = r at *
            subst hA5 hA
            have HNE := Lib.hid (newr_any wr)
            have HG7 := Lib.hid G7
            have HGW := Lib.hid hg
            have HDIG := Lib.hid hdig
            have HKx := HKPX.out.2.1
            clear hjK hmo hmm hx hrx hr hg G7 hdig
            go_wp2_with fail
            refine HNE.out.mono ?_
            rintro e w8 ⟨px, rfl, hh, g8⟩
            have HS1 : Hid (∀ v, Chg none w8 v → Calls Tryd.prog 24 #[.pointer (some ⟨px, 0, none⟩), .slice r.A r.x.length r.c] v fun e w' => e = .returned (.agg (byteVals (dig r.x)).toArray) ∧ Chg none v w') := fun v g => hsum_any px ⟨r.A, r.x, r.c⟩ v (hh.chg g (by simp)) ⟨HT1.out v (HGW.out.trans (g8.trans g)), hrc⟩ (by show r.x.length ≤ 1000000; omega)
            have HS2 : Hid (∀ v, Chg none w8 v → Calls Tryd.prog 24 #[.pointer (some ⟨px, 0, none⟩), .slice kp.A kp.x.length kp.c] v fun e w' => e = .returned (.agg (byteVals (dig kp.x)).toArray) ∧ Chg none v w') := fun v g => hsum_any px kp v (hh.chg g (by simp)) (HK2.out v (HG7.out.trans (g8.trans g))) (by omega)
            have HCA : Hid (∀ v, Chg none w8 v → v.cell? ⟨gA, K, none⟩ = some (.slice r.A r.x.length r.c)) := fun v g => HC1.out v (HGW.out.trans (g8.trans g))
            have HCB : Hid (∀ v, Chg none w8 v → v.cell? ⟨b, off + K, none⟩ = some (.slice kp.A kp.x.length kp.c)) := fun v g => HC2.out v (HG7.out.trans (g8.trans g))
            have HV1 : Hid (∀ v, Chg none w8 v → (convert 22 9 (.slice r.A r.x.length r.c)).run Tryd.prog v = .ok (.string ⟨r.x.toArray⟩) v) := fun v g => conv_reads (c := r.c) v (txt_reads (HT1.out v (HGW.out.trans (g8.trans g))))
            have HV2 : Hid (∀ v, Chg none w8 v → (convert 22 9 (.slice kp.A kp.x.length kp.c)).run Tryd.prog v = .ok (.string ⟨kp.x.toArray⟩) v) := fun v g => conv_reads (c := kp.c) v (txt_reads (HK2.out v (HG7.out.trans (g8.trans g))).1)
            have HKN8 : Hid (∀ v, Chg none w8 v → Calls Tryd.prog 16 #[] v fun e w' => e = .returned (.bool true) ∧ Chg none v w') := fun v g => HKN.out v (HG7.out.trans (g8.trans g))
            have HG8 : Hid (Chg none w1 w8) := HG7.out.trans g8
            have HNX : Hid ((r.x == kp.x) = false) := hnex
            obtain ⟨DP, hDP⟩ : ∃ DP, DP = byteVals (dig r.x) := ⟨_, rfl⟩
            obtain ⟨DQ, hDQ⟩ : ∃ DQ, DQ = byteVals (dig kp.x) := ⟨_, rfl⟩
            obtain ⟨D8, hD8⟩ : ∃ D8, D8 = (dig kp.x).take 8 := ⟨_, rfl⟩
            have hDP8 : (dig r.x).take 8 = D8 := by rw [hD8]; exact HDIG.out.symm
            have HBP : Hid (∀ v q, BlkL v q DP 30 → (convert 22 9 (.slice (some ⟨q, 0, none⟩) 8 32)).run Tryd.prog v = .ok (.string ⟨D8.toArray⟩) v) := fun v q h => by
              rw [hDP] at h
              have := blk_reads h (n := 8) (by rw [dig_len]; decide)
              rw [hDP8] at this
              exact conv_reads v this
            have HBQ : Hid (∀ v q, BlkL v q DQ 30 → (convert 22 9 (.slice (some ⟨q, 0, none⟩) 8 32)).run Tryd.prog v = .ok (.string ⟨D8.toArray⟩) v) := fun v q h => by
              rw [hDQ] at h
              have := blk_reads h (n := 8) (by rw [dig_len]; decide)
              rw [← hD8] at this
              exact conv_reads v this
            have hPs : DP.toArray.size = 32 := by rw [List.size_toArray, hDP, byteVals_len, dig_len]
            have hQs : DQ.toArray.size = 32 := by rw [List.size_toArray, hDQ, byteVals_len, dig_len]
            have HIP : Hid ((Tryd.prog.info? 30).map (·.size) = some DP.toArray.size) := by rw [hPs]; show _ = _; kernel_rfl
            have HIQ : Hid ((Tryd.prog.info? 30).map (·.size) = some DQ.toArray.size) := by rw [hQs]; show _ = _; kernel_rfl
            have HZP : Hid (zero32.size = DP.toArray.size) := by rw [hPs]; rfl
            have HZQ : Hid (zero32.size = DQ.toArray.size) := by rw [hQs]; rfl
            have HOP : Hid (DP.toArray.all (·.oneCell') = true) := by rw [hDP]; exact (row_facts (dig r.x) 32 (dig_len _)).2
            have HOQ : Hid (DQ.toArray.all (·.oneCell') = true) := by rw [hDQ]; exact (row_facts (dig kp.x) 32 (dig_len _)).2
            rw [← hDP] at HS1
            rw [← hDQ] at HS2
            have HCU := Lib.hid cut30_8
            clear hh g8 HC1 HC2 HT1 HK2 HNE hDP hDQ hD8 hDP8 hPs hQs hnex HDIG HG7 HGW HKPX HLI6 HRO6 HRC6 HMORE HXM HALL
            go_upto_region 33 with fail
            have S0 : Chg none w8 w8.drew := (Chg.refl none w8).drew
            refine wp_region_held_drew (S := fun v => Chg none w8 v) (by kernel_rfl) S0 (fun _ => ?_)
            generalize w8.drew = v0 at *
            refine wpAnyH_take (i := 0) (oi := ⟨some 143, _, _, _, _, _⟩) (v := ?_) rfl (by kernel_rfl) (by kernel_rfl) (by kernel_rfl) (fun _ _ _ h => h) (Or.inl ⟨by rfl, ?_⟩) (by assumption) ?_
            rotate_left
            · intro w hSw; (try dsimp only at hSw); go_simp; (try with_reducible rfl)
            try simp only [Act.put, List.setIfInBounds_toArray, List.set_cons_zero, List.set_cons_succ]
            refine wpAnyH_take (i := 1) (oi := ⟨some 144, _, _, _, _, _⟩) (v := ?_) rfl (by kernel_rfl) (by kernel_rfl) (by kernel_rfl) (fun _ _ _ h => h) (Or.inl ⟨by rfl, ?_⟩) (by assumption) ?_
            rotate_left
            · intro w hSw; (try dsimp only at hSw); go_simp; (try with_reducible rfl)
            try simp only [Act.put, List.setIfInBounds_toArray, List.set_cons_zero, List.set_cons_succ]
            refine wpAnyH_take (i := 2) (oi := ⟨some 145, _, _, _, _, _⟩) (v := ?_) rfl (by kernel_rfl) (by kernel_rfl) (by kernel_rfl) (fun _ _ _ h => h) (Or.inl ⟨by rfl, ?_⟩) (by assumption) ?_
            rotate_left
            · intro w hSw; (try dsimp only at hSw); go_simp; (try with_reducible rfl)
            try simp only [Act.put, List.setIfInBounds_toArray, List.set_cons_zero, List.set_cons_succ]
            refine wpAnyH_take (i := 3) (oi := ⟨some 146, _, _, _, _, _⟩) (v := .pointer (some ⟨gA, K, none⟩)) rfl (by kernel_rfl) (by kernel_rfl) (by kernel_rfl) (fun _ _ _ h => h) (Or.inl ⟨by rfl, ?_⟩) (by assumption) ?_
            · intro v hSv; go_simp
            try simp only [Act.put, List.setIfInBounds_toArray, List.set_cons_zero, List.set_cons_succ]
            refine wpAnyH_take (i := 4) (oi := ⟨some 147, _, _, _, _, _⟩) (v := .slice r.A r.x.length r.c) rfl (by kernel_rfl) (by kernel_rfl) (by kernel_rfl) (fun _ _ _ h => h) (Or.inl ⟨by rfl, ?_⟩) (by assumption) ?_
            · intro v hSv; have hc := HCA.out v hSv; go_simp
            try simp only [Act.put, List.setIfInBounds_toArray, List.set_cons_zero, List.set_cons_succ]
            refine wpAnyH_take (i := 6) (oi := ⟨some 149, _, _, _, _, _⟩) (v := ?_) rfl (by kernel_rfl) (by kernel_rfl) (by kernel_rfl) (fun _ _ _ h => h) (Or.inl ⟨by rfl, ?_⟩) (by assumption) ?_
            rotate_left
            · intro w hSw; (try dsimp only at hSw); go_simp; (try with_reducible rfl)
            try simp only [Act.put, List.setIfInBounds_toArray, List.set_cons_zero, List.set_cons_succ]
            refine wpAnyH_take (i := 7) (oi := ⟨some 150, _, _, _, _, _⟩) (v := ?_) rfl (by kernel_rfl) (by kernel_rfl) (by kernel_rfl) (fun _ _ _ h => h) (Or.inl ⟨by rfl, ?_⟩) (by assumption) ?_
            rotate_left
            · intro w hSw; (try dsimp only at hSw); go_simp; (try with_reducible rfl)
            try simp only [Act.put, List.setIfInBounds_toArray, List.set_cons_zero, List.set_cons_succ]
            refine wpAnyH_take (i := 8) (oi := ⟨some 151, _, _, _, _, _⟩) (v := ?_) rfl (by kernel_rfl) (by kernel_rfl) (by kernel_rfl) (fun _ _ _ h => h) (Or.inl ⟨by rfl, ?_⟩) (by assumption) ?_
            rotate_left
            · intro w hSw; (try dsimp only at hSw); go_simp; (try with_reducible rfl)
            try simp only [Act.put, List.setIfInBounds_toArray, List.set_cons_zero, List.set_cons_succ]
            refine wpAnyH_take (i := 9) (oi := ⟨some 152, _, _, _, _, _⟩) (v := .pointer (some ⟨b, off + K, none⟩)) rfl (by kernel_rfl) (by kernel_rfl) (by kernel_rfl) (fun _ _ _ h => h) (Or.inl ⟨by rfl, ?_⟩) (by assumption) ?_
            · intro v hSv; go_simp
            try simp only [Act.put, List.setIfInBounds_toArray, List.set_cons_zero, List.set_cons_succ]
            refine wpAnyH_take (i := 10) (oi := ⟨some 153, _, _, _, _, _⟩) (v := .slice kp.A kp.x.length kp.c) rfl (by kernel_rfl) (by kernel_rfl) (by kernel_rfl) (fun _ _ _ h => h) (Or.inl ⟨by rfl, ?_⟩) (by assumption) ?_
            · intro v hSv; have hc := HCB.out v hSv; go_simp
            try simp only [Act.put, List.setIfInBounds_toArray, List.set_cons_zero, List.set_cons_succ]
            refine wpAnyH_ready (rs := [5, 12, 13]) (by kernel_rfl) (by simp) ?_
            refine AllReadyH.cons (o := ⟨some 148, _, _, _, _, _⟩) rfl (fun K hK => ?_) (AllReadyH.cons (o := ⟨some 21, _, _, _, _, _⟩) rfl (fun K hK => ?_) (AllReadyH.cons (o := ⟨some 22, _, _, _, _, _⟩) rfl (fun K hK => ?_) (AllReadyH.nil)))
            · as_aux_lemma =>
                go_simp
                go_at_call 24
                refine (HS1.out _ S0).mono ?_
                rintro e u1 ⟨rfl, g201⟩
                have S101 := S0.trans g201
                go_wp2_with fail
                refine hK.out _ _ S101 (fun _ => ?_)
                clear hK K
                try simp only [Act.put, List.setIfInBounds_toArray, List.set_cons_zero, List.set_cons_succ]
                refine wpAnyH_ready (rs := [11, 12, 13]) (by kernel_rfl) (by simp) ?_
                refine AllReadyH.cons (o := ⟨some 154, _, _, _, _, _⟩) rfl (fun K hK => ?_) (AllReadyH.cons (o := ⟨some 21, _, _, _, _, _⟩) rfl (fun K hK => ?_) (AllReadyH.cons (o := ⟨some 22, _, _, _, _, _⟩) rfl (fun K hK => ?_) (AllReadyH.nil)))
                · as_aux_lemma =>
                    go_simp
                    go_at_call 24
                    refine (HS2.out _ S101).mono ?_
                    rintro e u2 ⟨rfl, g202⟩
                    have S102 := S101.trans g202
                    go_wp2_with fail
                    refine hK.out _ _ S102 (fun _ => ?_)
                    clear hK K
                    try simp only [Act.put, List.setIfInBounds_toArray, List.set_cons_zero, List.set_cons_succ]
                    refine wpAnyH_ready (rs := [12, 13]) (by kernel_rfl) (by simp) ?_
                    refine AllReadyH.cons (o := ⟨some 21, _, _, _, _, _⟩) rfl (fun K hK => ?_) (AllReadyH.cons (o := ⟨some 22, _, _, _, _, _⟩) rfl (fun K hK => ?_) (AllReadyH.nil))
                    · as_aux_lemma =>
                        obtain ⟨u3, hu3⟩ : ∃ u3, u3 = u2.alloc (.cells #[Value.int IntKind.u8 0, Value.int IntKind.u8 0, Value.int IntKind.u8 0, Value.int IntKind.u8 0, Value.int IntKind.u8 0, Value.int IntKind.u8 0, Value.int IntKind.u8 0, Value.int IntKind.u8 0, Value.int IntKind.u8 0, Value.int IntKind.u8 0, Value.int IntKind.u8 0, Value.int IntKind.u8 0, Value.int IntKind.u8 0, Value.int IntKind.u8 0, Value.int IntKind.u8 0, Value.int IntKind.u8 0, Value.int IntKind.u8 0, Value.int IntKind.u8 0, Value.int IntKind.u8 0, Value.int IntKind.u8 0, Value.int IntKind.u8 0, Value.int IntKind.u8 0, Value.int IntKind.u8 0, Value.int IntKind.u8 0, Value.int IntKind.u8 0, Value.int IntKind.u8 0, Value.int IntKind.u8 0, Value.int IntKind.u8 0, Value.int IntKind.u8 0, Value.int IntKind.u8 0, Value.int IntKind.u8 0, Value.int IntKind.u8 0] 30) := ⟨_, rfl⟩
                        obtain ⟨pP, hpP⟩ : ∃ pP, pP = u2.heap.size := ⟨_, rfl⟩
                        have gu3 : Chg none u2 u3 := by rw [hu3]; exact (Chg.refl _ _).alloc _
                        have S103 := S102.trans gu3
                        have bP3 : Blk u3 pP zero32 30 := by rw [hu3, hpP]; exact Blk.new _ _ _
                        have loP : w8.heap.size ≤ pP := by rw [hpP]; exact S102.size
                        go_simp
                        rw [← hu3, ← hpP]
                        clear hu3 hpP gu3
                        refine hK.out _ _ S103 (fun _ => ?_)
                        clear hK K
                        try simp only [Act.put, List.setIfInBounds_toArray, List.set_cons_zero, List.set_cons_succ]
                        refine wpAnyH_ready (rs := [13]) (by kernel_rfl) (by simp) ?_
                        refine AllReadyH.cons (o := ⟨some 22, _, _, _, _, _⟩) rfl (fun K hK => ?_) (AllReadyH.nil)
                        obtain ⟨u4, hu4⟩ : ∃ u4, u4 = u3.alloc (.cells #[Value.int IntKind.u8 0, Value.int IntKind.u8 0, Value.int IntKind.u8 0, Value.int IntKind.u8 0, Value.int IntKind.u8 0, Value.int IntKind.u8 0, Value.int IntKind.u8 0, Value.int IntKind.u8 0, Value.int IntKind.u8 0, Value.int IntKind.u8 0, Value.int IntKind.u8 0, Value.int IntKind.u8 0, Value.int IntKind.u8 0, Value.int IntKind.u8 0, Value.int IntKind.u8 0, Value.int IntKind.u8 0, Value.int IntKind.u8 0, Value.int IntKind.u8 0, Value.int IntKind.u8 0, Value.int IntKind.u8 0, Value.int IntKind.u8 0, Value.int IntKind.u8 0, Value.int IntKind.u8 0, Value.int IntKind.u8 0, Value.int IntKind.u8 0, Value.int IntKind.u8 0, Value.int IntKind.u8 0, Value.int IntKind.u8 0, Value.int IntKind.u8 0, Value.int IntKind.u8 0, Value.int IntKind.u8 0, Value.int IntKind.u8 0] 30) := ⟨_, rfl⟩
                        obtain ⟨pQ, hpQ⟩ : ∃ pQ, pQ = u3.heap.size := ⟨_, rfl⟩
                        have gu4 : Chg none u3 u4 := by rw [hu4]; exact (Chg.refl _ _).alloc _
                        have S104 := S103.trans gu4
                        have bQ4 : Blk u4 pQ zero32 30 := by rw [hu4, hpQ]; exact Blk.new _ _ _
                        have loQ : w8.heap.size ≤ pQ := by rw [hpQ]; exact S103.size
                        have neP : pP ≠ pQ := by have := Blk.lt bP3; omega
                        have bP4 : Blk u4 pP zero32 30 := Blk.chg bP3 gu4 (by simp)
                        go_simp
                        rw [← hu4, ← hpQ]
                        clear hu4 hpQ gu4
                        refine hK.out _ _ S104 (fun _ => ?_)
                        clear hK K
                        try simp only [Act.put, List.setIfInBounds_toArray, List.set_cons_zero, List.set_cons_succ]
                        refine wpAnyH_ready (rs := [14]) (by kernel_rfl) (by simp) ?_
                        refine AllReadyH.cons (o := ⟨none, _, _, _, _, _⟩) rfl (fun K hK => ?_) (AllReadyH.nil)
                        obtain ⟨u5, hu5⟩ : ∃ u5, u5 = World.setRow u4 pP DP.toArray := ⟨_, rfl⟩
                        have gu5 : Chg (some pP) u4 u5 := by rw [hu5]; exact chg_setRow _ _ _
                        have S105 : Chg none w8 u5 := Chg.own (b := pP) S104 gu5 loP
                        have bP5 : Blk u5 pP DP.toArray 30 := by rw [hu5]; exact setRow_heap _ _ _ _ _ _ bP4
                        have bQ5 : Blk u5 pQ zero32 30 := Blk.chg bQ4 gu5 (by simp; exact fun h => neP (by rw [h]))
                        rw [if_pos (by rfl)]
                        refine wp_store_row 30 (.tmp 21) (.tmp 148) (by rfl) pP DP.toArray (by rfl) (by rfl) 30 zero32 bP4 HIP.out HZP.out HOP.out ?_
                        rw [← hu5]
                        clear hu5 gu5
                        refine hK.out _ _ S105 (fun _ => ?_)
                        clear hK K
                        refine wpAnyH_ready (rs := [15]) (by kernel_rfl) (by simp) ?_
                        refine AllReadyH.cons (o := ⟨none, _, _, _, _, _⟩) rfl (fun K hK => ?_) (AllReadyH.nil)
                        obtain ⟨u6, hu6⟩ : ∃ u6, u6 = World.setRow u5 pQ DQ.toArray := ⟨_, rfl⟩
                        have gu6 : Chg (some pQ) u5 u6 := by rw [hu6]; exact chg_setRow _ _ _
                        have S106 : Chg none w8 u6 := Chg.own (b := pQ) S105 gu6 loQ
                        have bQ6 : Blk u6 pQ DQ.toArray 30 := by rw [hu6]; exact setRow_heap _ _ _ _ _ _ bQ5
                        have bP6 : Blk u6 pP DP.toArray 30 := Blk.chg bP5 gu6 (by simp; exact fun h => neP (by rw [h]))
                        rw [if_pos (by rfl)]
                        refine wp_store_row 30 (.tmp 22) (.tmp 154) (by rfl) pQ DQ.toArray (by rfl) (by rfl) 30 zero32 bQ5 HIQ.out HZQ.out HOQ.out ?_
                        rw [← hu6]
                        clear hu6 gu6
                        refine hK.out _ _ S106 (fun _ => ?_)
                        clear hK K
                        refine wpAnyH_done (by kernel_rfl) ?_ _
                        try simp only [Act.put]
                        have HP9 : Hid (∀ v, Chg none u6 v → (convert 22 9 (.slice (some ⟨pP, 0, none⟩) 8 32)).run Tryd.prog v = .ok (.string ⟨D8.toArray⟩) v) := fun v g => HBP.out v pP (Blk.chg bP6 g (by simp))
                        have HQ9 : Hid (∀ v, Chg none u6 v → (convert 22 9 (.slice (some ⟨pQ, 0, none⟩) 8 32)).run Tryd.prog v = .ok (.string ⟨D8.toArray⟩) v) := fun v g => HBQ.out v pQ (Blk.chg bQ6 g (by simp))
                        have HS9 := Lib.hid S106
                        obtain ⟨wz, hwz⟩ : ∃ wz, wz = u6 := ⟨_, rfl⟩
                        rw [← hwz] at HP9 HQ9 HS9 ⊢
                        clear hwz
                        go_upto_region 34 with fail
                        have Z0 : Chg none wz wz.drew := (Chg.refl none wz).drew
                        refine wp_region_held_drew (S := fun v => Chg none wz v) (by kernel_rfl) Z0 (fun _ => ?_)
                        refine wpAnyH_take (i := 0) (oi := ⟨some 155, _, _, _, _, _⟩) (v := ?_) rfl (by kernel_rfl) (by kernel_rfl) (by kernel_rfl) (fun _ _ _ h => h) (Or.inl ⟨by rfl, ?_⟩) (by assumption) ?_
                        rotate_left
                        · intro w hSw; (try dsimp only at hSw); go_simp; (try with_reducible rfl)
                        try simp only [Act.put, List.setIfInBounds_toArray, List.set_cons_zero, List.set_cons_succ]
                        refine wpAnyH_take (i := 1) (oi := ⟨some 156, _, _, _, _, _⟩) (v := ?_) rfl (by kernel_rfl) (by kernel_rfl) (by kernel_rfl) (fun _ _ _ h => h) (Or.inl ⟨by rfl, ?_⟩) (by assumption) ?_
                        rotate_left
                        · intro w hSw; (try dsimp only at hSw); go_simp; (try with_reducible rfl)
                        try simp only [Act.put, List.setIfInBounds_toArray, List.set_cons_zero, List.set_cons_succ]
                        refine wpAnyH_take (i := 2) (oi := ⟨some 157, _, _, _, _, _⟩) (v := .pointer (some ⟨gA, K, none⟩)) rfl (by kernel_rfl) (by kernel_rfl) (by kernel_rfl) (fun _ _ _ h => h) (Or.inl ⟨by rfl, ?_⟩) (by assumption) ?_
                        · intro v hSv; go_simp
                        try simp only [Act.put, List.setIfInBounds_toArray, List.set_cons_zero, List.set_cons_succ]
                        refine wpAnyH_take (i := 3) (oi := ⟨some 158, _, _, _, _, _⟩) (v := .slice r.A r.x.length r.c) rfl (by kernel_rfl) (by kernel_rfl) (by kernel_rfl) (fun _ _ _ h => h) (Or.inl ⟨by rfl, ?_⟩) (by assumption) ?_
                        · intro v hSv; have hc := HCA.out v (HS9.out.trans hSv); go_simp
                        try simp only [Act.put, List.setIfInBounds_toArray, List.set_cons_zero, List.set_cons_succ]
                        refine wpAnyH_take (i := 4) (oi := ⟨some 159, _, _, _, _, _⟩) (v := .string ⟨r.x.toArray⟩) rfl (by kernel_rfl) (by kernel_rfl) (by kernel_rfl) (fun _ _ _ h => h) (Or.inl ⟨by rfl, ?_⟩) (by assumption) ?_
                        · intro v hSv; have hc := HV1.out v (HS9.out.trans hSv); go_simp
                        try simp only [Act.put, List.setIfInBounds_toArray, List.set_cons_zero, List.set_cons_succ]
                        refine wpAnyH_take (i := 5) (oi := ⟨some 160, _, _, _, _, _⟩) (v := ?_) rfl (by kernel_rfl) (by kernel_rfl) (by kernel_rfl) (fun _ _ _ h => h) (Or.inl ⟨by rfl, ?_⟩) (by assumption) ?_
                        rotate_left
                        · intro w hSw; (try dsimp only at hSw); go_simp; (try with_reducible rfl)
                        try simp only [Act.put, List.setIfInBounds_toArray, List.set_cons_zero, List.set_cons_succ]
                        refine wpAnyH_take (i := 6) (oi := ⟨some 161, _, _, _, _, _⟩) (v := ?_) rfl (by kernel_rfl) (by kernel_rfl) (by kernel_rfl) (fun _ _ _ h => h) (Or.inl ⟨by rfl, ?_⟩) (by assumption) ?_
                        rotate_left
                        · intro w hSw; (try dsimp only at hSw); go_simp; (try with_reducible rfl)
                        try simp only [Act.put, List.setIfInBounds_toArray, List.set_cons_zero, List.set_cons_succ]
                        refine wpAnyH_take (i := 7) (oi := ⟨some 162, _, _, _, _, _⟩) (v := .pointer (some ⟨b, off + K, none⟩)) rfl (by kernel_rfl) (by kernel_rfl) (by kernel_rfl) (fun _ _ _ h => h) (Or.inl ⟨by rfl, ?_⟩) (by assumption) ?_
                        · intro v hSv; go_simp
                        try simp only [Act.put, List.setIfInBounds_toArray, List.set_cons_zero, List.set_cons_succ]
                        refine wpAnyH_take (i := 8) (oi := ⟨some 163, _, _, _, _, _⟩) (v := .slice kp.A kp.x.length kp.c) rfl (by kernel_rfl) (by kernel_rfl) (by kernel_rfl) (fun _ _ _ h => h) (Or.inl ⟨by rfl, ?_⟩) (by assumption) ?_
                        · intro v hSv; have hc := HCB.out v (HS9.out.trans hSv); go_simp
                        try simp only [Act.put, List.setIfInBounds_toArray, List.set_cons_zero, List.set_cons_succ]
                        refine wpAnyH_take (i := 9) (oi := ⟨some 164, _, _, _, _, _⟩) (v := .string ⟨kp.x.toArray⟩) rfl (by kernel_rfl) (by kernel_rfl) (by kernel_rfl) (fun _ _ _ h => h) (Or.inl ⟨by rfl, ?_⟩) (by assumption) ?_
                        · intro v hSv; have hc := HV2.out v (HS9.out.trans hSv); go_simp
                        try simp only [Act.put, List.setIfInBounds_toArray, List.set_cons_zero, List.set_cons_succ]
                        refine wpAnyH_take (i := 10) (oi := ⟨some 165, _, _, _, _, _⟩) (v := .bool true) rfl (by kernel_rfl) (by kernel_rfl) (by kernel_rfl) (fun _ _ _ h => h) (Or.inl ⟨by rfl, ?_⟩) (by assumption) ?_
                        · intro v hSv; have hn := HNX.out; go_simp
                        try simp only [Act.put, List.setIfInBounds_toArray, List.set_cons_zero, List.set_cons_succ]
                        refine wpAnyH_take (i := 11) (oi := ⟨some 166, _, _, _, _, _⟩) (v := ?_) rfl (by kernel_rfl) (by kernel_rfl) (by kernel_rfl) (fun _ _ _ h => h) (Or.inl ⟨by rfl, ?_⟩) (by assumption) ?_
                        rotate_left
                        · intro w hSw; (try dsimp only at hSw); go_simp; (try with_reducible rfl)
                        try simp only [Act.put, List.setIfInBounds_toArray, List.set_cons_zero, List.set_cons_succ]
                        refine wpAnyH_take (i := 12) (oi := ⟨some 167, _, _, _, _, _⟩) (v := .slice (some ⟨pP, 0, none⟩) 8 32) rfl (by kernel_rfl) (by kernel_rfl) (by kernel_rfl) (fun _ _ _ h => h) (Or.inl ⟨by rfl, ?_⟩) (by assumption) ?_
                        · intro v hSv; have hc := HCU.out v pP; go_simp
                        try simp only [Act.put, List.setIfInBounds_toArray, List.set_cons_zero, List.set_cons_succ]
                        refine wpAnyH_take (i := 13) (oi := ⟨some 168, _, _, _, _, _⟩) (v := .string ⟨D8.toArray⟩) rfl (by kernel_rfl) (by kernel_rfl) (by kernel_rfl) (fun _ _ _ h => h) (Or.inl ⟨by rfl, ?_⟩) (by assumption) ?_
                        · intro v hSv; have hc := HP9.out v hSv; go_simp
                        try simp only [Act.put, List.setIfInBounds_toArray, List.set_cons_zero, List.set_cons_succ]
                        refine wpAnyH_take (i := 14) (oi := ⟨some 169, _, _, _, _, _⟩) (v := .slice (some ⟨pQ, 0, none⟩) 8 32) rfl (by kernel_rfl) (by kernel_rfl) (by kernel_rfl) (fun _ _ _ h => h) (Or.inl ⟨by rfl, ?_⟩) (by assumption) ?_
                        · intro v hSv; have hc := HCU.out v pQ; go_simp
                        try simp only [Act.put, List.setIfInBounds_toArray, List.set_cons_zero, List.set_cons_succ]
                        refine wpAnyH_take (i := 15) (oi := ⟨some 170, _, _, _, _, _⟩) (v := .string ⟨D8.toArray⟩) rfl (by kernel_rfl) (by kernel_rfl) (by kernel_rfl) (fun _ _ _ h => h) (Or.inl ⟨by rfl, ?_⟩) (by assumption) ?_
                        · intro v hSv; have hc := HQ9.out v hSv; go_simp
                        try simp only [Act.put, List.setIfInBounds_toArray, List.set_cons_zero, List.set_cons_succ]
                        refine wpAnyH_take (i := 16) (oi := ⟨some 171, _, _, _, _, _⟩) (v := .bool true) rfl (by kernel_rfl) (by kernel_rfl) (by kernel_rfl) (fun _ _ _ h => h) (Or.inl ⟨by rfl, ?_⟩) (by assumption) ?_
                        · intro v hSv; go_simp
                        try simp only [Act.put, List.setIfInBounds_toArray, List.set_cons_zero, List.set_cons_succ]
                        refine wpAnyH_take (i := 17) (oi := ⟨some 172, _, _, _, _, _⟩) (v := ?_) rfl (by kernel_rfl) (by kernel_rfl) (by kernel_rfl) (fun _ _ _ h => h) (Or.inl ⟨by rfl, ?_⟩) (by assumption) ?_
                        rotate_left
                        · intro w hSw; (try dsimp only at hSw); go_simp; (try with_reducible rfl)
                        try simp only [Act.put, List.setIfInBounds_toArray, List.set_cons_zero, List.set_cons_succ]
                        refine wpAnyH_take (i := 18) (oi := ⟨some 173, _, _, _, _, _⟩) (v := ?_) rfl (by kernel_rfl) (by kernel_rfl) (by kernel_rfl) (fun _ _ _ h => h) (Or.inl ⟨by rfl, ?_⟩) (by assumption) ?_
                        rotate_left
                        · intro w hSw; (try dsimp only at hSw); go_simp; (try with_reducible rfl)
                        try simp only [Act.put, List.setIfInBounds_toArray, List.set_cons_zero, List.set_cons_succ]
                        refine wpAnyH_ready (rs := [19]) (by kernel_rfl) (by simp) ?_
                        refine AllReadyH.cons (o := ⟨some 174, _, _, _, _, _⟩) rfl (fun K hK => ?_) (AllReadyH.nil)
                        go_simp
                        go_at_call 16
                        refine (HKN8.out _ (HS9.out.trans Z0)).mono ?_
                        rintro e z1 ⟨rfl, gz⟩
                        have Z1 := Z0.trans gz
                        go_wp2_with fail
                        refine hK.out _ _ Z1 (fun _ => ?_)
                        clear hK K
                        try simp only [Act.put, List.setIfInBounds_toArray, List.set_cons_zero, List.set_cons_succ]
                        refine wpAnyH_take (i := 20) (oi := ⟨some 175, _, _, _, _, _⟩) (v := ?_) rfl (by kernel_rfl) (by kernel_rfl) (by kernel_rfl) (fun _ _ _ h => h) (Or.inl ⟨by rfl, ?_⟩) (by assumption) ?_
                        rotate_left
                        · intro w hSw; (try dsimp only at hSw); go_simp; (try with_reducible rfl)
                        try simp only [Act.put, List.setIfInBounds_toArray, List.set_cons_zero, List.set_cons_succ]
                        refine wpAnyH_take (i := 21) (oi := ⟨some 8, _, _, _, _, _⟩) (v := ?_) rfl (by kernel_rfl) (by kernel_rfl) (by kernel_rfl) (fun _ _ _ h => h) (Or.inl ⟨by rfl, ?_⟩) (by assumption) ?_
                        rotate_left
                        · intro w hSw; (try dsimp only at hSw); go_simp; (try with_reducible rfl)
                        try simp only [Act.put, List.setIfInBounds_toArray, List.set_cons_zero, List.set_cons_succ]
                        refine wpAnyH_done (by kernel_rfl) ?_ _
                        try simp only [Act.put]
                        go_wp2_with fail
                        go_ret
                        exact ⟨rfl, HG8.out.trans (HS9.out.trans Z1)⟩
                    · as_aux_lemma =>
                        obtain ⟨u7, hu7⟩ : ∃ u7, u7 = u2.alloc (.cells #[Value.int IntKind.u8 0, Value.int IntKind.u8 0, Value.int IntKind.u8 0, Value.int IntKind.u8 0, Value.int IntKind.u8 0, Value.int IntKind.u8 0, Value.int IntKind.u8 0, Value.int IntKind.u8 0, Value.int IntKind.u8 0, Value.int IntKind.u8 0, Value.int IntKind.u8 0, Value.int IntKind.u8 0, Value.int IntKind.u8 0, Value.int IntKind.u8 0, Value.int IntKind.u8 0, Value.int IntKind.u8 0, Value.int IntKind.u8 0, Value.int IntKind.u8 0, Value.int IntKind.u8 0, Value.int IntKind.u8 0, Value.int IntKind.u8 0, Value.int IntKind.u8 0, Value.int IntKind.u8 0, Value.int IntKind.u8 0, Value.int IntKind.u8 0, Value.int IntKind.u8 0, Value.int IntKind.u8 0, Value.int IntKind.u8 0, Value.int IntKind.u8 0, Value.int IntKind.u8 0, Value.int IntKind.u8 0, Value.int IntKind.u8 0] 30) := ⟨_, rfl⟩
                        obtain ⟨pQ, hpQ⟩ : ∃ pQ, pQ = u2.heap.size := ⟨_, rfl⟩
                        have gu7 : Chg none u2 u7 := by rw [hu7]; exact (Chg.refl _ _).alloc _
                        have S107 := S102.trans gu7
                        have bQ7 : Blk u7 pQ zero32 30 := by rw [hu7, hpQ]; exact Blk.new _ _ _
                        have loQ : w8.heap.size ≤ pQ := by rw [hpQ]; exact S102.size
                        go_simp
                        rw [← hu7, ← hpQ]
                        clear hu7 hpQ gu7
                        refine hK.out _ _ S107 (fun _ => ?_)
                        clear hK K
                        try simp only [Act.put, List.setIfInBounds_toArray, List.set_cons_zero, List.set_cons_succ]
                        refine wpAnyH_ready (rs := [12]) (by kernel_rfl) (by simp) ?_
                        refine AllReadyH.cons (o := ⟨some 21, _, _, _, _, _⟩) rfl (fun K hK => ?_) (AllReadyH.nil)
                        obtain ⟨u8, hu8⟩ : ∃ u8, u8 = u7.alloc (.cells #[Value.int IntKind.u8 0, Value.int IntKind.u8 0, Value.int IntKind.u8 0, Value.int IntKind.u8 0, Value.int IntKind.u8 0, Value.int IntKind.u8 0, Value.int IntKind.u8 0, Value.int IntKind.u8 0, Value.int IntKind.u8 0, Value.int IntKind.u8 0, Value.int IntKind.u8 0, Value.int IntKind.u8 0, Value.int IntKind.u8 0, Value.int IntKind.u8 0, Value.int IntKind.u8 0, Value.int IntKind.u8 0, Value.int IntKind.u8 0, Value.int IntKind.u8 0, Value.int IntKind.u8 0, Value.int IntKind.u8 0, Value.int IntKind.u8 0, Value.int IntKind.u8 0, Value.int IntKind.u8 0, Value.int IntKind.u8 0, Value.int IntKind.u8 0, Value.int IntKind.u8 0, Value.int IntKind.u8 0, Value.int IntKind.u8 0, Value.int IntKind.u8 0, Value.int IntKind.u8 0, Value.int IntKind.u8 0, Value.int IntKind.u8 0] 30) := ⟨_, rfl⟩
                        obtain ⟨pP, hpP⟩ : ∃ pP, pP = u7.heap.size := ⟨_, rfl⟩
                        have gu8 : Chg none u7 u8 := by rw [hu8]; exact (Chg.refl _ _).alloc _
                        have S108 := S107.trans gu8
                        have bP8 : Blk u8 pP zero32 30 := by rw [hu8, hpP]; exact Blk.new _ _ _
                        have loP : w8.heap.size ≤ pP := by rw [hpP]; exact S107.size
                        have neQ : pQ ≠ pP := by have := Blk.lt bQ7; omega
                        have bQ8 : Blk u8 pQ zero32 30 := Blk.chg bQ7 gu8 (by simp)
                        go_simp
                        rw [← hu8, ← hpP]
                        clear hu8 hpP gu8
                        refine hK.out _ _ S108 (fun _ => ?_)
                        clear hK K
                        try simp only [Act.put, List.setIfInBounds_toArray, List.set_cons_zero, List.set_cons_succ]
                        refine wpAnyH_ready (rs := [14]) (by kernel_rfl) (by simp) ?_
                        refine AllReadyH.cons (o := ⟨none, _, _, _, _, _⟩) rfl (fun K hK => ?_) (AllReadyH.nil)
                        obtain ⟨u9, hu9⟩ : ∃ u9, u9 = World.setRow u8 pP DP.toArray := ⟨_, rfl⟩
                        have gu9 : Chg (some pP) u8 u9 := by rw [hu9]; exact chg_setRow _ _ _
                        have S109 : Chg none w8 u9 := Chg.own (b := pP) S108 gu9 loP
                        have bP9 : Blk u9 pP DP.toArray 30 := by rw [hu9]; exact setRow_heap _ _ _ _ _ _ bP8
                        have bQ9 : Blk u9 pQ zero32 30 := Blk.chg bQ8 gu9 (by simp; exact fun h => neQ (by rw [h]))
                        rw [if_pos (by rfl)]
                        refine wp_store_row 30 (.tmp 21) (.tmp 148) (by rfl) pP DP.toArray (by rfl) (by rfl) 30 zero32 bP8 HIP.out HZP.out HOP.out ?_
                        rw [← hu9]
                        clear hu9 gu9
                        refine hK.out _ _ S109 (fun _ => ?_)
                        clear hK K
                        refine wpAnyH_ready (rs := [15]) (by kernel_rfl) (by simp) ?_
                        refine AllReadyH.cons (o := ⟨none, _, _, _, _, _⟩) rfl (fun K hK => ?_) (AllReadyH.nil)
                        obtain ⟨u10, hu10⟩ : ∃ u10, u10 = World.setRow u9 pQ DQ.toArray := ⟨_, rfl⟩
                        have gu10 : Chg (some pQ) u9 u10 := by rw [hu10]; exact chg_setRow _ _ _
                        have S110 : Chg none w8 u10 := Chg.own (b := pQ) S109 gu10 loQ
                        have bQ10 : Blk u10 pQ DQ.toArray 30 := by rw [hu10]; exact setRow_heap _ _ _ _ _ _ bQ9
                        have bP10 : Blk u10 pP DP.toArray 30 := Blk.chg bP9 gu10 (by simp; exact fun h => neQ (by rw [h]))
                        rw [if_pos (by rfl)]
                        refine wp_store_row 30 (.tmp 22) (.tmp 154) (by rfl) pQ DQ.toArray (by rfl) (by rfl) 30 zero32 bQ9 HIQ.out HZQ.out HOQ.out ?_
                        rw [← hu10]
                        clear hu10 gu10
                        refine hK.out _ _ S110 (fun _ => ?_)
                        clear hK K
                        refine wpAnyH_done (by kernel_rfl) ?_ _
                        try simp only [Act.put]
                        have HP9 : Hid (∀ v, Chg none u10 v → (convert 22 9 (.slice (some ⟨pP, 0, none⟩) 8 32)).run Tryd.prog v = .ok (.string ⟨D8.toArray⟩) v) := fun v g => HBP.out v pP (Blk.chg bP10 g (by simp))
                        have HQ9 : Hid (∀ v, Chg none u10 v → (convert 22 9 (.slice (some ⟨pQ, 0, none⟩) 8 32)).run Tryd.prog v = .ok (.string ⟨D8.toArray⟩) v) := fun v g => HBQ.out v pQ (Blk.chg bQ10 g (by simp))
                        have HS9 := Lib.hid S110
                        obtain ⟨wz, hwz⟩ : ∃ wz, wz = u10 := ⟨_, rfl⟩
                        rw [← hwz] at HP9 HQ9 HS9 ⊢
                        clear hwz
                        go_upto_region 34 with fail
                        have Z0 : Chg none wz wz.drew := (Chg.refl none wz).drew
                        refine wp_region_held_drew (S := fun v => Chg none wz v) (by kernel_rfl) Z0 (fun _ => ?_)
                        refine wpAnyH_take (i := 0) (oi := ⟨some 155, _, _, _, _, _⟩) (v := ?_) rfl (by kernel_rfl) (by kernel_rfl) (by kernel_rfl) (fun _ _ _ h => h) (Or.inl ⟨by rfl, ?_⟩) (by assumption) ?_
                        rotate_left
                        · intro w hSw; (try dsimp only at hSw); go_simp; (try with_reducible rfl)
                        try simp only [Act.put, List.setIfInBounds_toArray, List.set_cons_zero, List.set_cons_succ]
                        refine wpAnyH_take (i := 1) (oi := ⟨some 156, _, _, _, _, _⟩) (v := ?_) rfl (by kernel_rfl) (by kernel_rfl) (by kernel_rfl) (fun _ _ _ h => h) (Or.inl ⟨by rfl, ?_⟩) (by assumption) ?_
                        rotate_left
                        · intro w hSw; (try dsimp only at hSw); go_simp; (try with_reducible rfl)
                        try simp only [Act.put, List.setIfInBounds_toArray, List.set_cons_zero, List.set_cons_succ]
                        refine wpAnyH_take (i := 2) (oi := ⟨some 157, _, _, _, _, _⟩) (v := .pointer (some ⟨gA, K, none⟩)) rfl (by kernel_rfl) (by kernel_rfl) (by kernel_rfl) (fun _ _ _ h => h) (Or.inl ⟨by rfl, ?_⟩) (by assumption) ?_
                        · intro v hSv; go_simp
                        try simp only [Act.put, List.setIfInBounds_toArray, List.set_cons_zero, List.set_cons_succ]
                        refine wpAnyH_take (i := 3) (oi := ⟨some 158, _, _, _, _, _⟩) (v := .slice r.A r.x.length r.c) rfl (by kernel_rfl) (by kernel_rfl) (by kernel_rfl) (fun _ _ _ h => h) (Or.inl ⟨by rfl, ?_⟩) (by assumption) ?_
                        · intro v hSv; have hc := HCA.out v (HS9.out.trans hSv); go_simp
                        try simp only [Act.put, List.setIfInBounds_toArray, List.set_cons_zero, List.set_cons_succ]
                        refine wpAnyH_take (i := 4) (oi := ⟨some 159, _, _, _, _, _⟩) (v := .string ⟨r.x.toArray⟩) rfl (by kernel_rfl) (by kernel_rfl) (by kernel_rfl) (fun _ _ _ h => h) (Or.inl ⟨by rfl, ?_⟩) (by assumption) ?_
                        · intro v hSv; have hc := HV1.out v (HS9.out.trans hSv); go_simp
                        try simp only [Act.put, List.setIfInBounds_toArray, List.set_cons_zero, List.set_cons_succ]
                        refine wpAnyH_take (i := 5) (oi := ⟨some 160, _, _, _, _, _⟩) (v := ?_) rfl (by kernel_rfl) (by kernel_rfl) (by kernel_rfl) (fun _ _ _ h => h) (Or.inl ⟨by rfl, ?_⟩) (by assumption) ?_
                        rotate_left
                        · intro w hSw; (try dsimp only at hSw); go_simp; (try with_reducible rfl)
                        try simp only [Act.put, List.setIfInBounds_toArray, List.set_cons_zero, List.set_cons_succ]
                        refine wpAnyH_take (i := 6) (oi := ⟨some 161, _, _, _, _, _⟩) (v := ?_) rfl (by kernel_rfl) (by kernel_rfl) (by kernel_rfl) (fun _ _ _ h => h) (Or.inl ⟨by rfl, ?_⟩) (by assumption) ?_
                        rotate_left
                        · intro w hSw; (try dsimp only at hSw); go_simp; (try with_reducible rfl)
                        try simp only [Act.put, List.setIfInBounds_toArray, List.set_cons_zero, List.set_cons_succ]
                        refine wpAnyH_take (i := 7) (oi := ⟨some 162, _, _, _, _, _⟩) (v := .pointer (some ⟨b, off + K, none⟩)) rfl (by kernel_rfl) (by kernel_rfl) (by kernel_rfl) (fun _ _ _ h => h) (Or.inl ⟨by rfl, ?_⟩) (by assumption) ?_
                        · intro v hSv; go_simp
                        try simp only [Act.put, List.setIfInBounds_toArray, List.set_cons_zero, List.set_cons_succ]
                        refine wpAnyH_take (i := 8) (oi := ⟨some 163, _, _, _, _, _⟩) (v := .slice kp.A kp.x.length kp.c) rfl (by kernel_rfl) (by kernel_rfl) (by kernel_rfl) (fun _ _ _ h => h) (Or.inl ⟨by rfl, ?_⟩) (by assumption) ?_
                        · intro v hSv; have hc := HCB.out v (HS9.out.trans hSv); go_simp
                        try simp only [Act.put, List.setIfInBounds_toArray, List.set_cons_zero, List.set_cons_succ]
                        refine wpAnyH_take (i := 9) (oi := ⟨some 164, _, _, _, _, _⟩) (v := .string ⟨kp.x.toArray⟩) rfl (by kernel_rfl) (by kernel_rfl) (by kernel_rfl) (fun _ _ _ h => h) (Or.inl ⟨by rfl, ?_⟩) (by assumption) ?_
                        · intro v hSv; have hc := HV2.out v (HS9.out.trans hSv); go_simp
                        try simp only [Act.put, List.setIfInBounds_toArray, List.set_cons_zero, List.set_cons_succ]
                        refine wpAnyH_take (i := 10) (oi := ⟨some 165, _, _, _, _, _⟩) (v := .bool true) rfl (by kernel_rfl) (by kernel_rfl) (by kernel_rfl) (fun _ _ _ h => h) (Or.inl ⟨by rfl, ?_⟩) (by assumption) ?_
                        · intro v hSv; have hn := HNX.out; go_simp
                        try simp only [Act.put, List.setIfInBounds_toArray, List.set_cons_zero, List.set_cons_succ]
                        refine wpAnyH_take (i := 11) (oi := ⟨some 166, _, _, _, _, _⟩) (v := ?_) rfl (by kernel_rfl) (by kernel_rfl) (by kernel_rfl) (fun _ _ _ h => h) (Or.inl ⟨by rfl, ?_⟩) (by assumption) ?_
                        rotate_left
                        · intro w hSw; (try dsimp only at hSw); go_simp; (try with_reducible rfl)
                        try simp only [Act.put, List.setIfInBounds_toArray, List.set_cons_zero, List.set_cons_succ]
                        refine wpAnyH_take (i := 12) (oi := ⟨some 167, _, _, _, _, _⟩) (v := .slice (some ⟨pP, 0, none⟩) 8 32) rfl (by kernel_rfl) (by kernel_rfl) (by kernel_rfl) (fun _ _ _ h => h) (Or.inl ⟨by rfl, ?_⟩) (by assumption) ?_
                        · intro v hSv; have hc := HCU.out v pP; go_simp
                        try simp only [Act.put, List.setIfInBounds_toArray, List.set_cons_zero, List.set_cons_succ]
                        refine wpAnyH_take (i := 13) (oi := ⟨some 168, _, _, _, _, _⟩) (v := .string ⟨D8.toArray⟩) rfl (by kernel_rfl) (by kernel_rfl) (by kernel_rfl) (fun _ _ _ h => h) (Or.inl ⟨by rfl, ?_⟩) (by assumption) ?_
                        · intro v hSv; have hc := HP9.out v hSv; go_simp
                        try simp only [Act.put, List.setIfInBounds_toArray, List.set_cons_zero, List.set_cons_succ]
                        refine wpAnyH_take (i := 14) (oi := ⟨some 169, _, _, _, _, _⟩) (v := .slice (some ⟨pQ, 0, none⟩) 8 32) rfl (by kernel_rfl) (by kernel_rfl) (by kernel_rfl) (fun _ _ _ h => h) (Or.inl ⟨by rfl, ?_⟩) (by assumption) ?_
                        · intro v hSv; have hc := HCU.out v pQ; go_simp
                        try simp only [Act.put, List.setIfInBounds_toArray, List.set_cons_zero, List.set_cons_succ]
                        refine wpAnyH_take (i := 15) (oi := ⟨some 170, _, _, _, _, _⟩) (v := .string ⟨D8.toArray⟩) rfl (by kernel_rfl) (by kernel_rfl) (by kernel_rfl) (fun _ _ _ h => h) (Or.inl ⟨by rfl, ?_⟩) (by assumption) ?_
                        · intro v hSv; have hc := HQ9.out v hSv; go_simp
                        try simp only [Act.put, List.setIfInBounds_toArray, List.set_cons_zero, List.set_cons_succ]
                        refine wpAnyH_take (i := 16) (oi := ⟨some 171, _, _, _, _, _⟩) (v := .bool true) rfl (by kernel_rfl) (by kernel_rfl) (by kernel_rfl) (fun _ _ _ h => h) (Or.inl ⟨by rfl, ?_⟩) (by assumption) ?_
                        · intro v hSv; go_simp
                        try simp only [Act.put, List.setIfInBounds_toArray, List.set_cons_zero, List.set_cons_succ]
                        refine wpAnyH_take (i := 17) (oi := ⟨some 172, _, _, _, _, _⟩) (v := ?_) rfl (by kernel_rfl) (by kernel_rfl) (by kernel_rfl) (fun _ _ _ h => h) (Or.inl ⟨by rfl, ?_⟩) (by assumption) ?_
                        rotate_left
                        · intro w hSw; (try dsimp only at hSw); go_simp; (try with_reducible rfl)
                        try simp only [Act.put, List.setIfInBounds_toArray, List.set_cons_zero, List.set_cons_succ]
                        refine wpAnyH_take (i := 18) (oi := ⟨some 173, _, _, _, _, _⟩) (v := ?_) rfl (by kernel_rfl) (by kernel_rfl) (by kernel_rfl) (fun _ _ _ h => h) (Or.inl ⟨by rfl, ?_⟩) (by assumption) ?_
                        rotate_left
                        · intro w hSw; (try dsimp only at hSw); go_simp; (try with_reducible rfl)
                        try simp only [Act.put, List.setIfInBounds_toArray, List.set_cons_zero, List.set_cons_succ]
                        refine wpAnyH_ready (rs := [19]) (by kernel_rfl) (by simp) ?_
                        refine AllReadyH.cons (o := ⟨some 174, _, _, _, _, _⟩) rfl (fun K hK => ?_) (AllReadyH.nil)
                        go_simp
                        go_at_call 16
                        refine (HKN8.out _ (HS9.out.trans Z0)).mono ?_
                        rintro e z1 ⟨rfl, gz⟩
                        have Z1 := Z0.trans gz
                        go_wp2_with fail
                        refine hK.out _ _ Z1 (fun _ => ?_)
                        clear hK K
                        try simp only [Act.put, List.setIfInBounds_toArray, List.set_cons_zero, List.set_cons_succ]
                        refine wpAnyH_take (i := 20) (oi := ⟨some 175, _, _, _, _, _⟩) (v := ?_) rfl (by kernel_rfl) (by kernel_rfl) (by kernel_rfl) (fun _ _ _ h => h) (Or.inl ⟨by rfl, ?_⟩) (by assumption) ?_
                        rotate_left
                        · intro w hSw; (try dsimp only at hSw); go_simp; (try with_reducible rfl)
                        try simp only [Act.put, List.setIfInBounds_toArray, List.set_cons_zero, List.set_cons_succ]
                        refine wpAnyH_take (i := 21) (oi := ⟨some 8, _, _, _, _, _⟩) (v := ?_) rfl (by kernel_rfl) (by kernel_rfl) (by kernel_rfl) (fun _ _ _ h => h) (Or.inl ⟨by rfl, ?_⟩) (by assumption) ?_
                        rotate_left
                        · intro w hSw; (try dsimp only at hSw); go_simp; (try with_reducible rfl)
                        try simp only [Act.put, List.setIfInBounds_toArray, List.set_cons_zero, List.set_cons_succ]
                        refine wpAnyH_done (by kernel_rfl) ?_ _
                        try simp only [Act.put]
                        go_wp2_with fail
                        go_ret
                        exact ⟨rfl, HG8.out.trans (HS9.out.trans Z1)⟩
                · as_aux_lemma =>
                    obtain ⟨u11, hu11⟩ : ∃ u11, u11 = u1.alloc (.cells #[Value.int IntKind.u8 0, Value.int IntKind.u8 0, Value.int IntKind.u8 0, Value.int IntKind.u8 0, Value.int IntKind.u8 0, Value.int IntKind.u8 0, Value.int IntKind.u8 0, Value.int IntKind.u8 0, Value.int IntKind.u8 0, Value.int IntKind.u8 0, Value.int IntKind.u8 0, Value.int IntKind.u8 0, Value.int IntKind.u8 0, Value.int IntKind.u8 0, Value.int IntKind.u8 0, Value.int IntKind.u8 0, Value.int IntKind.u8 0, Value.int IntKind.u8 0, Value.int IntKind.u8 0, Value.int IntKind.u8 0, Value.int IntKind.u8 0, Value.int IntKind.u8 0, Value.int IntKind.u8 0, Value.int IntKind.u8 0, Value.int IntKind.u8 0, Value.int IntKind.u8 0, Value.int IntKind.u8 0, Value.int IntKind.u8 0, Value.int IntKind.u8 0, Value.int IntKind.u8 0, Value.int IntKind.u8 0, Value.int IntKind.u8 0] 30) := ⟨_, rfl⟩
                    obtain ⟨pP, hpP⟩ : ∃ pP, pP = u1.heap.size := ⟨_, rfl⟩
                    have gu11 : Chg none u1 u11 := by rw [hu11]; exact (Chg.refl _ _).alloc _
                    have S111 := S101.trans gu11
                    have bP11 : Blk u11 pP zero32 30 := by rw [hu11, hpP]; exact Blk.new _ _ _
                    have loP : w8.heap.size ≤ pP := by rw [hpP]; exact S101.size
                    go_simp
                    rw [← hu11, ← hpP]
                    clear hu11 hpP gu11
                    refine hK.out _ _ S111 (fun _ => ?_)
                    clear hK K
                    try simp only [Act.put, List.setIfInBounds_toArray, List.set_cons_zero, List.set_cons_succ]
                    refine wpAnyH_ready (rs := [11, 13]) (by kernel_rfl) (by simp) ?_
                    refine AllReadyH.cons (o := ⟨some 154, _, _, _, _, _⟩) rfl (fun K hK => ?_) (AllReadyH.cons (o := ⟨some 22, _, _, _, _, _⟩) rfl (fun K hK => ?_) (AllReadyH.nil))
                    · as_aux_lemma =>
                        go_simp
                        go_at_call 24
                        refine (HS2.out _ S111).mono ?_
                        rintro e u12 ⟨rfl, g212⟩
                        have S112 := S111.trans g212
                        have bP12 : Blk u12 pP zero32 30 := Blk.chg bP11 g212 (by simp)
                        go_wp2_with fail
                        refine hK.out _ _ S112 (fun _ => ?_)
                        clear hK K
                        try simp only [Act.put, List.setIfInBounds_toArray, List.set_cons_zero, List.set_cons_succ]
                        refine wpAnyH_ready (rs := [13]) (by kernel_rfl) (by simp) ?_
                        refine AllReadyH.cons (o := ⟨some 22, _, _, _, _, _⟩) rfl (fun K hK => ?_) (AllReadyH.nil)
                        obtain ⟨u13, hu13⟩ : ∃ u13, u13 = u12.alloc (.cells #[Value.int IntKind.u8 0, Value.int IntKind.u8 0, Value.int IntKind.u8 0, Value.int IntKind.u8 0, Value.int IntKind.u8 0, Value.int IntKind.u8 0, Value.int IntKind.u8 0, Value.int IntKind.u8 0, Value.int IntKind.u8 0, Value.int IntKind.u8 0, Value.int IntKind.u8 0, Value.int IntKind.u8 0, Value.int IntKind.u8 0, Value.int IntKind.u8 0, Value.int IntKind.u8 0, Value.int IntKind.u8 0, Value.int IntKind.u8 0, Value.int IntKind.u8 0, Value.int IntKind.u8 0, Value.int IntKind.u8 0, Value.int IntKind.u8 0, Value.int IntKind.u8 0, Value.int IntKind.u8 0, Value.int IntKind.u8 0, Value.int IntKind.u8 0, Value.int IntKind.u8 0, Value.int IntKind.u8 0, Value.int IntKind.u8 0, Value.int IntKind.u8 0, Value.int IntKind.u8 0, Value.int IntKind.u8 0, Value.int IntKind.u8 0] 30) := ⟨_, rfl⟩
                        obtain ⟨pQ, hpQ⟩ : ∃ pQ, pQ = u12.heap.size := ⟨_, rfl⟩
                        have gu13 : Chg none u12 u13 := by rw [hu13]; exact (Chg.refl _ _).alloc _
                        have S113 := S112.trans gu13
                        have bQ13 : Blk u13 pQ zero32 30 := by rw [hu13, hpQ]; exact Blk.new _ _ _
                        have loQ : w8.heap.size ≤ pQ := by rw [hpQ]; exact S112.size
                        have neP : pP ≠ pQ := by have := Blk.lt bP12; omega
                        have bP13 : Blk u13 pP zero32 30 := Blk.chg bP12 gu13 (by simp)
                        go_simp
                        rw [← hu13, ← hpQ]
                        clear hu13 hpQ gu13
                        refine hK.out _ _ S113 (fun _ => ?_)
                        clear hK K
                        try simp only [Act.put, List.setIfInBounds_toArray, List.set_cons_zero, List.set_cons_succ]
                        refine wpAnyH_ready (rs := [14]) (by kernel_rfl) (by simp) ?_
                        refine AllReadyH.cons (o := ⟨none, _, _, _, _, _⟩) rfl (fun K hK => ?_) (AllReadyH.nil)
                        obtain ⟨u14, hu14⟩ : ∃ u14, u14 = World.setRow u13 pP DP.toArray := ⟨_, rfl⟩
                        have gu14 : Chg (some pP) u13 u14 := by rw [hu14]; exact chg_setRow _ _ _
                        have S114 : Chg none w8 u14 := Chg.own (b := pP) S113 gu14 loP
                        have bP14 : Blk u14 pP DP.toArray 30 := by rw [hu14]; exact setRow_heap _ _ _ _ _ _ bP13
                        have bQ14 : Blk u14 pQ zero32 30 := Blk.chg bQ13 gu14 (by simp; exact fun h => neP (by rw [h]))
                        rw [if_pos (by rfl)]
                        refine wp_store_row 30 (.tmp 21) (.tmp 148) (by rfl) pP DP.toArray (by rfl) (by rfl) 30 zero32 bP13 HIP.out HZP.out HOP.out ?_
                        rw [← hu14]
                        clear hu14 gu14
                        refine hK.out _ _ S114 (fun _ => ?_)
                        clear hK K
                        refine wpAnyH_ready (rs := [15]) (by kernel_rfl) (by simp) ?_
                        refine AllReadyH.cons (o := ⟨none, _, _, _, _, _⟩) rfl (fun K hK => ?_) (AllReadyH.nil)
                        obtain ⟨u15, hu15⟩ : ∃ u15, u15 = World.setRow u14 pQ DQ.toArray := ⟨_, rfl⟩
                        have gu15 : Chg (some pQ) u14 u15 := by rw [hu15]; exact chg_setRow _ _ _
                        have S115 : Chg none w8 u15 := Chg.own (b := pQ) S114 gu15 loQ
                        have bQ15 : Blk u15 pQ DQ.toArray 30 := by rw [hu15]; exact setRow_heap _ _ _ _ _ _ bQ14
                        have bP15 : Blk u15 pP DP.toArray 30 := Blk.chg bP14 gu15 (by simp; exact fun h => neP (by rw [h]))
                        rw [if_pos (by rfl)]
                        refine wp_store_row 30 (.tmp 22) (.tmp 154) (by rfl) pQ DQ.toArray (by rfl) (by rfl) 30 zero32 bQ14 HIQ.out HZQ.out HOQ.out ?_
                        rw [← hu15]
                        clear hu15 gu15
                        refine hK.out _ _ S115 (fun _ => ?_)
                        clear hK K
                        refine wpAnyH_done (by kernel_rfl) ?_ _
                        try simp only [Act.put]
                        have HP9 : Hid (∀ v, Chg none u15 v → (convert 22 9 (.slice (some ⟨pP, 0, none⟩) 8 32)).run Tryd.prog v = .ok (.string ⟨D8.toArray⟩) v) := fun v g => HBP.out v pP (Blk.chg bP15 g (by simp))
                        have HQ9 : Hid (∀ v, Chg none u15 v → (convert 22 9 (.slice (some ⟨pQ, 0, none⟩) 8 32)).run Tryd.prog v = .ok (.string ⟨D8.toArray⟩) v) := fun v g => HBQ.out v pQ (Blk.chg bQ15 g (by simp))
                        have HS9 := Lib.hid S115
                        obtain ⟨wz, hwz⟩ : ∃ wz, wz = u15 := ⟨_, rfl⟩
                        rw [← hwz] at HP9 HQ9 HS9 ⊢
                        clear hwz
                        go_upto_region 34 with fail
                        have Z0 : Chg none wz wz.drew := (Chg.refl none wz).drew
                        refine wp_region_held_drew (S := fun v => Chg none wz v) (by kernel_rfl) Z0 (fun _ => ?_)
                        refine wpAnyH_take (i := 0) (oi := ⟨some 155, _, _, _, _, _⟩) (v := ?_) rfl (by kernel_rfl) (by kernel_rfl) (by kernel_rfl) (fun _ _ _ h => h) (Or.inl ⟨by rfl, ?_⟩) (by assumption) ?_
                        rotate_left
                        · intro w hSw; (try dsimp only at hSw); go_simp; (try with_reducible rfl)
                        try simp only [Act.put, List.setIfInBounds_toArray, List.set_cons_zero, List.set_cons_succ]
                        refine wpAnyH_take (i := 1) (oi := ⟨some 156, _, _, _, _, _⟩) (v := ?_) rfl (by kernel_rfl) (by kernel_rfl) (by kernel_rfl) (fun _ _ _ h => h) (Or.inl ⟨by rfl, ?_⟩) (by assumption) ?_
                        rotate_left
                        · intro w hSw; (try dsimp only at hSw); go_simp; (try with_reducible rfl)
                        try simp only [Act.put, List.setIfInBounds_toArray, List.set_cons_zero, List.set_cons_succ]
                        refine wpAnyH_take (i := 2) (oi := ⟨some 157, _, _, _, _, _⟩) (v := .pointer (some ⟨gA, K, none⟩)) rfl (by kernel_rfl) (by kernel_rfl) (by kernel_rfl) (fun _ _ _ h => h) (Or.inl ⟨by rfl, ?_⟩) (by assumption) ?_
                        · intro v hSv; go_simp
                        try simp only [Act.put, List.setIfInBounds_toArray, List.set_cons_zero, List.set_cons_succ]
                        refine wpAnyH_take (i := 3) (oi := ⟨some 158, _, _, _, _, _⟩) (v := .slice r.A r.x.length r.c) rfl (by kernel_rfl) (by kernel_rfl) (by kernel_rfl) (fun _ _ _ h => h) (Or.inl ⟨by rfl, ?_⟩) (by assumption) ?_
                        · intro v hSv; have hc := HCA.out v (HS9.out.trans hSv); go_simp
                        try simp only [Act.put, List.setIfInBounds_toArray, List.set_cons_zero, List.set_cons_succ]
                        refine wpAnyH_take (i := 4) (oi := ⟨some 159, _, _, _, _, _⟩) (v := .string ⟨r.x.toArray⟩) rfl (by kernel_rfl) (by kernel_rfl) (by kernel_rfl) (fun _ _ _ h => h) (Or.inl ⟨by rfl, ?_⟩) (by assumption) ?_
                        · intro v hSv; have hc := HV1.out v (HS9.out.trans hSv); go_simp
                        try simp only [Act.put, List.setIfInBounds_toArray, List.set_cons_zero, List.set_cons_succ]
                        refine wpAnyH_take (i := 5) (oi := ⟨some 160, _, _, _, _, _⟩) (v := ?_) rfl (by kernel_rfl) (by kernel_rfl) (by kernel_rfl) (fun _ _ _ h => h) (Or.inl ⟨by rfl, ?_⟩) (by assumption) ?_
                        rotate_left
                        · intro w hSw; (try dsimp only at hSw); go_simp; (try with_reducible rfl)
                        try simp only [Act.put, List.setIfInBounds_toArray, List.set_cons_zero, List.set_cons_succ]
                        refine wpAnyH_take (i := 6) (oi := ⟨some 161, _, _, _, _, _⟩) (v := ?_) rfl (by kernel_rfl) (by kernel_rfl) (by kernel_rfl) (fun _ _ _ h => h) (Or.inl ⟨by rfl, ?_⟩) (by assumption) ?_
                        rotate_left
                        · intro w hSw; (try dsimp only at hSw); go_simp; (try with_reducible rfl)
                        try simp only [Act.put, List.setIfInBounds_toArray, List.set_cons_zero, List.set_cons_succ]
                        refine wpAnyH_take (i := 7) (oi := ⟨some 162, _, _, _, _, _⟩) (v := .pointer (some ⟨b, off + K, none⟩)) rfl (by kernel_rfl) (by kernel_rfl) (by kernel_rfl) (fun _ _ _ h => h) (Or.inl ⟨by rfl, ?_⟩) (by assumption) ?_
                        · intro v hSv; go_simp
                        try simp only [Act.put, List.setIfInBounds_toArray, List.set_cons_zero, List.set_cons_succ]
                        refine wpAnyH_take (i := 8) (oi := ⟨some 163, _, _, _, _, _⟩) (v := .slice kp.A kp.x.length kp.c) rfl (by kernel_rfl) (by kernel_rfl) (by kernel_rfl) (fun _ _ _ h => h) (Or.inl ⟨by rfl, ?_⟩) (by assumption) ?_
                        · intro v hSv; have hc := HCB.out v (HS9.out.trans hSv); go_simp
                        try simp only [Act.put, List.setIfInBounds_toArray, List.set_cons_zero, List.set_cons_succ]
                        refine wpAnyH_take (i := 9) (oi := ⟨some 164, _, _, _, _, _⟩) (v := .string ⟨kp.x.toArray⟩) rfl (by kernel_rfl) (by kernel_rfl) (by kernel_rfl) (fun _ _ _ h => h) (Or.inl ⟨by rfl, ?_⟩) (by assumption) ?_
                        · intro v hSv; have hc := HV2.out v (HS9.out.trans hSv); go_simp
                        try simp only [Act.put, List.setIfInBounds_toArray, List.set_cons_zero, List.set_cons_succ]
                        refine wpAnyH_take (i := 10) (oi := ⟨some 165, _, _, _, _, _⟩) (v := .bool true) rfl (by kernel_rfl) (by kernel_rfl) (by kernel_rfl) (fun _ _ _ h => h) (Or.inl ⟨by rfl, ?_⟩) (by assumption) ?_
                        · intro v hSv; have hn := HNX.out; go_simp
                        try simp only [Act.put, List.setIfInBounds_toArray, List.set_cons_zero, List.set_cons_succ]
                        refine wpAnyH_take (i := 11) (oi := ⟨some 166, _, _, _, _, _⟩) (v := ?_) rfl (by kernel_rfl) (by kernel_rfl) (by kernel_rfl) (fun _ _ _ h => h) (Or.inl ⟨by rfl, ?_⟩) (by assumption) ?_
                        rotate_left
                        · intro w hSw; (try dsimp only at hSw); go_simp; (try with_reducible rfl)
                        try simp only [Act.put, List.setIfInBounds_toArray, List.set_cons_zero, List.set_cons_succ]
                        refine wpAnyH_take (i := 12) (oi := ⟨some 167, _, _, _, _, _⟩) (v := .slice (some ⟨pP, 0, none⟩) 8 32) rfl (by kernel_rfl) (by kernel_rfl) (by kernel_rfl) (fun _ _ _ h => h) (Or.inl ⟨by rfl, ?_⟩) (by assumption) ?_
                        · intro v hSv; have hc := HCU.out v pP; go_simp
                        try simp only [Act.put, List.setIfInBounds_toArray, List.set_cons_zero, List.set_cons_succ]
                        refine wpAnyH_take (i := 13) (oi := ⟨some 168, _, _, _, _, _⟩) (v := .string ⟨D8.toArray⟩) rfl (by kernel_rfl) (by kernel_rfl) (by kernel_rfl) (fun _ _ _ h => h) (Or.inl ⟨by rfl, ?_⟩) (by assumption) ?_
                        · intro v hSv; have hc := HP9.out v hSv; go_simp
                        try simp only [Act.put, List.setIfInBounds_toArray, List.set_cons_zero, List.set_cons_succ]
                        refine wpAnyH_take (i := 14) (oi := ⟨some 169, _, _, _, _, _⟩) (v := .slice (some ⟨pQ, 0, none⟩) 8 32) rfl (by kernel_rfl) (by kernel_rfl) (by kernel_rfl) (fun _ _ _ h => h) (Or.inl ⟨by rfl, ?_⟩) (by assumption) ?_
                        · intro v hSv; have hc := HCU.out v pQ; go_simp
                        try simp only [Act.put, List.setIfInBounds_toArray, List.set_cons_zero, List.set_cons_succ]
                        refine wpAnyH_take (i := 15) (oi := ⟨some 170, _, _, _, _, _⟩) (v := .string ⟨D8.toArray⟩) rfl (by kernel_rfl) (by kernel_rfl) (by kernel_rfl) (fun _ _ _ h => h) (Or.inl ⟨by rfl, ?_⟩) (by assumption) ?_
                        · intro v hSv; have hc := HQ9.out v hSv; go_simp
                        try simp only [Act.put, List.setIfInBounds_toArray, List.set_cons_zero, List.set_cons_succ]
                        refine wpAnyH_take (i := 16) (oi := ⟨some 171, _, _, _, _, _⟩) (v := .bool true) rfl (by kernel_rfl) (by kernel_rfl) (by kernel_rfl) (fun _ _ _ h => h) (Or.inl ⟨by rfl, ?_⟩) (by assumption) ?_
                        · intro v hSv; go_simp
                        try simp only [Act.put, List.setIfInBounds_toArray, List.set_cons_zero, List.set_cons_succ]
                        refine wpAnyH_take (i := 17) (oi := ⟨some 172, _, _, _, _, _⟩) (v := ?_) rfl (by kernel_rfl) (by kernel_rfl) (by kernel_rfl) (fun _ _ _ h => h) (Or.inl ⟨by rfl, ?_⟩) (by assumption) ?_
                        rotate_left
                        · intro w hSw; (try dsimp only at hSw); go_simp; (try with_reducible rfl)
                        try simp only [Act.put, List.setIfInBounds_toArray, List.set_cons_zero, List.set_cons_succ]
                        refine wpAnyH_take (i := 18) (oi := ⟨some 173, _, _, _, _, _⟩) (v := ?_) rfl (by kernel_rfl) (by kernel_rfl) (by kernel_rfl) (fun _ _ _ h => h) (Or.inl ⟨by rfl, ?_⟩) (by assumption) ?_
                        rotate_left
                        · intro w hSw; (try dsimp only at hSw); go_simp; (try with_reducible rfl)
                        try simp only [Act.put, List.setIfInBounds_toArray, List.set_cons_zero, List.set_cons_succ]
                        refine wpAnyH_ready (rs := [19]) (by kernel_rfl) (by simp) ?_
                        refine AllReadyH.cons (o := ⟨some 174, _, _, _, _, _⟩) rfl (fun K hK => ?_) (AllReadyH.nil)
                        go_simp
                        go_at_call 16
                        refine (HKN8.out _ (HS9.out.trans Z0)).mono ?_
                        rintro e z1 ⟨rfl, gz⟩
                        have Z1 := Z0.trans gz
                        go_wp2_with fail
                        refine hK.out _ _ Z1 (fun _ => ?_)
                        clear hK K
                        try simp only [Act.put, List.setIfInBounds_toArray, List.set_cons_zero, List.set_cons_succ]
                        refine wpAnyH_take (i := 20) (oi := ⟨some 175, _, _, _, _, _⟩) (v := ?_) rfl (by kernel_rfl) (by kernel_rfl) (by kernel_rfl) (fun _ _ _ h => h) (Or.inl ⟨by rfl, ?_⟩) (by assumption) ?_
                        rotate_left
                        · intro w hSw; (try dsimp only at hSw); go_simp; (try with_reducible rfl)
                        try simp only [Act.put, List.setIfInBounds_toArray, List.set_cons_zero, List.set_cons_succ]
                        refine wpAnyH_take (i := 21) (oi := ⟨some 8, _, _, _, _, _⟩) (v := ?_) rfl (by kernel_rfl) (by kernel_rfl) (by kernel_rfl) (fun _ _ _ h => h) (Or.inl ⟨by rfl, ?_⟩) (by assumption) ?_
                        rotate_left
                        · intro w hSw; (try dsimp only at hSw); go_simp; (try with_reducible rfl)
                        try simp only [Act.put, List.setIfInBounds_toArray, List.set_cons_zero, List.set_cons_succ]
                        refine wpAnyH_done (by kernel_rfl) ?_ _
                        try simp only [Act.put]
                        go_wp2_with fail
                        go_ret
                        exact ⟨rfl, HG8.out.trans (HS9.out.trans Z1)⟩
                    · as_aux_lemma =>
                        obtain ⟨u16, hu16⟩ : ∃ u16, u16 = u11.alloc (.cells #[Value.int IntKind.u8 0, Value.int IntKind.u8 0, Value.int IntKind.u8 0, Value.int IntKind.u8 0, Value.int IntKind.u8 0, Value.int IntKind.u8 0, Value.int IntKind.u8 0, Value.int IntKind.u8 0, Value.int IntKind.u8 0, Value.int IntKind.u8 0, Value.int IntKind.u8 0, Value.int IntKind.u8 0, Value.int IntKind.u8 0, Value.int IntKind.u8 0, Value.int IntKind.u8 0, Value.int IntKind.u8 0, Value.int IntKind.u8 0, Value.int IntKind.u8 0, Value.int IntKind.u8 0, Value.int IntKind.u8 0, Value.int IntKind.u8 0, Value.int IntKind.u8 0, Value.int IntKind.u8 0, Value.int IntKind.u8 0, Value.int IntKind.u8 0, Value.int IntKind.u8 0, Value.int IntKind.u8 0, Value.int IntKind.u8 0, Value.int IntKind.u8 0, Value.int IntKind.u8 0, Value.int IntKind.u8 0, Value.int IntKind.u8 0] 30) := ⟨_, rfl⟩
                        obtain ⟨pQ, hpQ⟩ : ∃ pQ, pQ = u11.heap.size := ⟨_, rfl⟩
                        have gu16 : Chg none u11 u16 := by rw [hu16]; exact (Chg.refl _ _).alloc _
                        have S116 := S111.trans gu16
                        have bQ16 : Blk u16 pQ zero32 30 := by rw [hu16, hpQ]; exact Blk.new _ _ _
                        have loQ : w8.heap.size ≤ pQ := by rw [hpQ]; exact S111.size
                        have neP : pP ≠ pQ := by have := Blk.lt bP11; omega
                        have bP16 : Blk u16 pP zero32 30 := Blk.chg bP11 gu16 (by simp)
                        go_simp
                        rw [← hu16, ← hpQ]
                        clear hu16 hpQ gu16
                        refine hK.out _ _ S116 (fun _ => ?_)
                        clear hK K
                        try simp only [Act.put, List.setIfInBounds_toArray, List.set_cons_zero, List.set_cons_succ]
                        refine wpAnyH_ready (rs := [11]) (by kernel_rfl) (by simp) ?_
                        refine AllReadyH.cons (o := ⟨some 154, _, _, _, _, _⟩) rfl (fun K hK => ?_) (AllReadyH.nil)
                        go_simp
                        go_at_call 24
                        refine (HS2.out _ S116).mono ?_
                        rintro e u17 ⟨rfl, g217⟩
                        have S117 := S116.trans g217
                        have bP17 : Blk u17 pP zero32 30 := Blk.chg bP16 g217 (by simp)
                        have bQ17 : Blk u17 pQ zero32 30 := Blk.chg bQ16 g217 (by simp)
                        go_wp2_with fail
                        refine hK.out _ _ S117 (fun _ => ?_)
                        clear hK K
                        try simp only [Act.put, List.setIfInBounds_toArray, List.set_cons_zero, List.set_cons_succ]
                        refine wpAnyH_ready (rs := [14]) (by kernel_rfl) (by simp) ?_
                        refine AllReadyH.cons (o := ⟨none, _, _, _, _, _⟩) rfl (fun K hK => ?_) (AllReadyH.nil)
                        obtain ⟨u18, hu18⟩ : ∃ u18, u18 = World.setRow u17 pP DP.toArray := ⟨_, rfl⟩
                        have gu18 : Chg (some pP) u17 u18 := by rw [hu18]; exact chg_setRow _ _ _
                        have S118 : Chg none w8 u18 := Chg.own (b := pP) S117 gu18 loP
                        have bP18 : Blk u18 pP DP.toArray 30 := by rw [hu18]; exact setRow_heap _ _ _ _ _ _ bP17
                        have bQ18 : Blk u18 pQ zero32 30 := Blk.chg bQ17 gu18 (by simp; exact fun h => neP (by rw [h]))
                        rw [if_pos (by rfl)]
                        refine wp_store_row 30 (.tmp 21) (.tmp 148) (by rfl) pP DP.toArray (by rfl) (by rfl) 30 zero32 bP17 HIP.out HZP.out HOP.out ?_
                        rw [← hu18]
                        clear hu18 gu18
                        refine hK.out _ _ S118 (fun _ => ?_)
                        clear hK K
                        refine wpAnyH_ready (rs := [15]) (by kernel_rfl) (by simp) ?_
                        refine AllReadyH.cons (o := ⟨none, _, _, _, _, _⟩) rfl (fun K hK => ?_) (AllReadyH.nil)
                        obtain ⟨u19, hu19⟩ : ∃ u19, u19 = World.setRow u18 pQ DQ.toArray := ⟨_, rfl⟩
                        have gu19 : Chg (some pQ) u18 u19 := by rw [hu19]; exact chg_setRow _ _ _
                        have S119 : Chg none w8 u19 := Chg.own (b := pQ) S118 gu19 loQ
                        have bQ19 : Blk u19 pQ DQ.toArray 30 := by rw [hu19]; exact setRow_heap _ _ _ _ _ _ bQ18
                        have bP19 : Blk u19 pP DP.toArray 30 := Blk.chg bP18 gu19 (by simp; exact fun h => neP (by rw [h]))
                        rw [if_pos (by rfl)]
                        refine wp_store_row 30 (.tmp 22) (.tmp 154) (by rfl) pQ DQ.toArray (by rfl) (by rfl) 30 zero32 bQ18 HIQ.out HZQ.out HOQ.out ?_
                        rw [← hu19]
                        clear hu19 gu19
                        refine hK.out _ _ S119 (fun _ => ?_)
                        clear hK K
                        refine wpAnyH_done (by kernel_rfl) ?_ _
                        try simp only [Act.put]
                        have HP9 : Hid (∀ v, Chg none u19 v → (convert 22 9 (.slice (some ⟨pP, 0, none⟩) 8 32)).run Tryd.prog v = .ok (.string ⟨D8.toArray⟩) v) := fun v g => HBP.out v pP (Blk.chg bP19 g (by simp))
                        have HQ9 : Hid (∀ v, Chg none u19 v → (convert 22 9 (.slice (some ⟨pQ, 0, none⟩) 8 32)).run Tryd.prog v = .ok (.string ⟨D8.toArray⟩) v) := fun v g => HBQ.out v pQ (Blk.chg bQ19 g (by simp))
                        have HS9 := Lib.hid S119
                        obtain ⟨wz, hwz⟩ : ∃ wz, wz = u19 := ⟨_, rfl⟩
                        rw [← hwz] at HP9 HQ9 HS9 ⊢
                        clear hwz
                        go_upto_region 34 with fail
                        have Z0 : Chg none wz wz.drew := (Chg.refl none wz).drew
                        refine wp_region_held_drew (S := fun v => Chg none wz v) (by kernel_rfl) Z0 (fun _ => ?_)
                        refine wpAnyH_take (i := 0) (oi := ⟨some 155, _, _, _, _, _⟩) (v := ?_) rfl (by kernel_rfl) (by kernel_rfl) (by kernel_rfl) (fun _ _ _ h => h) (Or.inl ⟨by rfl, ?_⟩) (by assumption) ?_
                        rotate_left
                        · intro w hSw; (try dsimp only at hSw); go_simp; (try with_reducible rfl)
                        try simp only [Act.put, List.setIfInBounds_toArray, List.set_cons_zero, List.set_cons_succ]
                        refine wpAnyH_take (i := 1) (oi := ⟨some 156, _, _, _, _, _⟩) (v := ?_) rfl (by kernel_rfl) (by kernel_rfl) (by kernel_rfl) (fun _ _ _ h => h) (Or.inl ⟨by rfl, ?_⟩) (by assumption) ?_
                        rotate_left
                        · intro w hSw; (try dsimp only at hSw); go_simp; (try with_reducible rfl)
                        try simp only [Act.put, List.setIfInBounds_toArray, List.set_cons_zero, List.set_cons_succ]
                        refine wpAnyH_take (i := 2) (oi := ⟨some 157, _, _, _, _, _⟩) (v := .pointer (some ⟨gA, K, none⟩)) rfl (by kernel_rfl) (by kernel_rfl) (by kernel_rfl) (fun _ _ _ h => h) (Or.inl ⟨by rfl, ?_⟩) (by assumption) ?_
                        · intro v hSv; go_simp
                        try simp only [Act.put, List.setIfInBounds_toArray, List.set_cons_zero, List.set_cons_succ]
                        refine wpAnyH_take (i := 3) (oi := ⟨some 158, _, _, _, _, _⟩) (v := .slice r.A r.x.length r.c) rfl (by kernel_rfl) (by kernel_rfl) (by kernel_rfl) (fun _ _ _ h => h) (Or.inl ⟨by rfl, ?_⟩) (by assumption) ?_
                        · intro v hSv; have hc := HCA.out v (HS9.out.trans hSv); go_simp
                        try simp only [Act.put, List.setIfInBounds_toArray, List.set_cons_zero, List.set_cons_succ]
                        refine wpAnyH_take (i := 4) (oi := ⟨some 159, _, _, _, _, _⟩) (v := .string ⟨r.x.toArray⟩) rfl (by kernel_rfl) (by kernel_rfl) (by kernel_rfl) (fun _ _ _ h => h) (Or.inl ⟨by rfl, ?_⟩) (by assumption) ?_
                        · intro v hSv; have hc := HV1.out v (HS9.out.trans hSv); go_simp
                        try simp only [Act.put, List.setIfInBounds_toArray, List.set_cons_zero, List.set_cons_succ]
                        refine wpAnyH_take (i := 5) (oi := ⟨some 160, _, _, _, _, _⟩) (v := ?_) rfl (by kernel_rfl) (by kernel_rfl) (by kernel_rfl) (fun _ _ _ h => h) (Or.inl ⟨by rfl, ?_⟩) (by assumption) ?_
                        rotate_left
                        · intro w hSw; (try dsimp only at hSw); go_simp; (try with_reducible rfl)
                        try simp only [Act.put, List.setIfInBounds_toArray, List.set_cons_zero, List.set_cons_succ]
                        refine wpAnyH_take (i := 6) (oi := ⟨some 161, _, _, _, _, _⟩) (v := ?_) rfl (by kernel_rfl) (by kernel_rfl) (by kernel_rfl) (fun _ _ _ h => h) (Or.inl ⟨by rfl, ?_⟩) (by assumption) ?_
                        rotate_left
                        · intro w hSw; (try dsimp only at hSw); go_simp; (try with_reducible rfl)
                        try simp only [Act.put, List.setIfInBounds_toArray, List.set_cons_zero, List.set_cons_succ]
                        refine wpAnyH_take (i := 7) (oi := ⟨some 162, _, _, _, _, _⟩) (v := .pointer (some ⟨b, off + K, none⟩)) rfl (by kernel_rfl) (by kernel_rfl) (by kernel_rfl) (fun _ _ _ h => h) (Or.inl ⟨by rfl, ?_⟩) (by assumption) ?_
                        · intro v hSv; go_simp
                        try simp only [Act.put, List.setIfInBounds_toArray, List.set_cons_zero, List.set_cons_succ]
                        refine wpAnyH_take (i := 8) (oi := ⟨some 163, _, _, _, _, _⟩) (v := .slice kp.A kp.x.length kp.c) rfl (by kernel_rfl) (by kernel_rfl) (by kernel_rfl) (fun _ _ _ h => h) (Or.inl ⟨by rfl, ?_⟩) (by assumption) ?_
                        · intro v hSv; have hc := HCB.out v (HS9.out.trans hSv); go_simp
                        try simp only [Act.put, List.setIfInBounds_toArray, List.set_cons_zero, List.set_cons_succ]
                        refine wpAnyH_take (i := 9) (oi := ⟨some 164, _, _, _, _, _⟩) (v := .string ⟨kp.x.toArray⟩) rfl (by kernel_rfl) (by kernel_rfl) (by kernel_rfl) (fun _ _ _ h => h) (Or.inl ⟨by rfl, ?_⟩) (by assumption) ?_
                        · intro v hSv; have hc := HV2.out v (HS9.out.trans hSv); go_simp
                        try simp only [Act.put, List.setIfInBounds_toArray, List.set_cons_zero, List.set_cons_succ]
                        refine wpAnyH_take (i := 10) (oi := ⟨some 165, _, _, _, _, _⟩) (v := .bool true) rfl (by kernel_rfl) (by kernel_rfl) (by kernel_rfl) (fun _ _ _ h => h) (Or.inl ⟨by rfl, ?_⟩) (by assumption) ?_
                        · intro v hSv; have hn := HNX.out; go_simp
                        try simp only [Act.put, List.setIfInBounds_toArray, List.set_cons_zero, List.set_cons_succ]
                        refine wpAnyH_take (i := 11) (oi := ⟨some 166, _, _, _, _, _⟩) (v := ?_) rfl (by kernel_rfl) (by kernel_rfl) (by kernel_rfl) (fun _ _ _ h => h) (Or.inl ⟨by rfl, ?_⟩) (by assumption) ?_
                        rotate_left
                        · intro w hSw; (try dsimp only at hSw); go_simp; (try with_reducible rfl)
                        try simp only [Act.put, List.setIfInBounds_toArray, List.set_cons_zero, List.set_cons_succ]
                        refine wpAnyH_take (i := 12) (oi := ⟨some 167, _, _, _, _, _⟩) (v := .slice (some ⟨pP, 0, none⟩) 8 32) rfl (by kernel_rfl) (by kernel_rfl) (by kernel_rfl) (fun _ _ _ h => h) (Or.inl ⟨by rfl, ?_⟩) (by assumption) ?_
                        · intro v hSv; have hc := HCU.out v pP; go_simp
                        try simp only [Act.put, List.setIfInBounds_toArray, List.set_cons_zero, List.set_cons_succ]
                        refine wpAnyH_take (i := 13) (oi := ⟨some 168, _, _, _, _, _⟩) (v := .string ⟨D8.toArray⟩) rfl (by kernel_rfl) (by kernel_rfl) (by kernel_rfl) (fun _ _ _ h => h) (Or.inl ⟨by rfl, ?_⟩) (by assumption) ?_
                        · intro v hSv; have hc := HP9.out v hSv; go_simp
                        try simp only [Act.put, List.setIfInBounds_toArray, List.set_cons_zero, List.set_cons_succ]
                        refine wpAnyH_take (i := 14) (oi := ⟨some 169, _, _, _, _, _⟩) (v := .slice (some ⟨pQ, 0, none⟩) 8 32) rfl (by kernel_rfl) (by kernel_rfl) (by kernel_rfl) (fun _ _ _ h => h) (Or.inl ⟨by rfl, ?_⟩) (by assumption) ?_
                        · intro v hSv; have hc := HCU.out v pQ; go_simp
                        try simp only [Act.put, List.setIfInBounds_toArray, List.set_cons_zero, List.set_cons_succ]
                        refine wpAnyH_take (i := 15) (oi := ⟨some 170, _, _, _, _, _⟩) (v := .string ⟨D8.toArray⟩) rfl (by kernel_rfl) (by kernel_rfl) (by kernel_rfl) (fun _ _ _ h => h) (Or.inl ⟨by rfl, ?_⟩) (by assumption) ?_
                        · intro v hSv; have hc := HQ9.out v hSv; go_simp
                        try simp only [Act.put, List.setIfInBounds_toArray, List.set_cons_zero, List.set_cons_succ]
                        refine wpAnyH_take (i := 16) (oi := ⟨some 171, _, _, _, _, _⟩) (v := .bool true) rfl (by kernel_rfl) (by kernel_rfl) (by kernel_rfl) (fun _ _ _ h => h) (Or.inl ⟨by rfl, ?_⟩) (by assumption) ?_
                        · intro v hSv; go_simp
                        try simp only [Act.put, List.setIfInBounds_toArray, List.set_cons_zero, List.set_cons_succ]
                        refine wpAnyH_take (i := 17) (oi := ⟨some 172, _, _, _, _, _⟩) (v := ?_) rfl (by kernel_rfl) (by kernel_rfl) (by kernel_rfl) (fun _ _ _ h => h) (Or.inl ⟨by rfl, ?_⟩) (by assumption) ?_
                        rotate_left
                        · intro w hSw; (try dsimp only at hSw); go_simp; (try with_reducible rfl)
                        try simp only [Act.put, List.setIfInBounds_toArray, List.set_cons_zero, List.set_cons_succ]
                        refine wpAnyH_take (i := 18) (oi := ⟨some 173, _, _, _, _, _⟩) (v := ?_) rfl (by kernel_rfl) (by kernel_rfl) (by kernel_rfl) (fun _ _ _ h => h) (Or.inl ⟨by rfl, ?_⟩) (by assumption) ?_
                        rotate_left
                        · intro w hSw; (try dsimp only at hSw); go_simp; (try with_reducible rfl)
                        try simp only [Act.put, List.setIfInBounds_toArray, List.set_cons_zero, List.set_cons_succ]
                        refine wpAnyH_ready (rs := [19]) (by kernel_rfl) (by simp) ?_
                        refine AllReadyH.cons (o := ⟨some 174, _, _, _, _, _⟩) rfl (fun K hK => ?_) (AllReadyH.nil)
                        go_simp
                        go_at_call 16
                        refine (HKN8.out _ (HS9.out.trans Z0)).mono ?_
                        rintro e z1 ⟨rfl, gz⟩
                        have Z1 := Z0.trans gz
                        go_wp2_with fail
                        refine hK.out _ _ Z1 (fun _ => ?_)
                        clear hK K
                        try simp only [Act.put, List.setIfInBounds_toArray, List.set_cons_zero, List.set_cons_succ]
                        refine wpAnyH_take (i := 20) (oi := ⟨some 175, _, _, _, _, _⟩) (v := ?_) rfl (by kernel_rfl) (by kernel_rfl) (by kernel_rfl) (fun _ _ _ h => h) (Or.inl ⟨by rfl, ?_⟩) (by assumption) ?_
                        rotate_left
                        · intro w hSw; (try dsimp only at hSw); go_simp; (try with_reducible rfl)
                        try simp only [Act.put, List.setIfInBounds_toArray, List.set_cons_zero, List.set_cons_succ]
                        refine wpAnyH_take (i := 21) (oi := ⟨some 8, _, _, _, _, _⟩) (v := ?_) rfl (by kernel_rfl) (by kernel_rfl) (by kernel_rfl) (fun _ _ _ h => h) (Or.inl ⟨by rfl, ?_⟩) (by assumption) ?_
                        rotate_left
                        · intro w hSw; (try dsimp only at hSw); go_simp; (try with_reducible rfl)
                        try simp only [Act.put, List.setIfInBounds_toArray, List.set_cons_zero, List.set_cons_succ]
                        refine wpAnyH_done (by kernel_rfl) ?_ _
                        try simp only [Act.put]
                        go_wp2_with fail
                        go_ret
                        exact ⟨rfl, HG8.out.trans (HS9.out.trans Z1)⟩
                · as_aux_lemma =>
                    obtain ⟨u20, hu20⟩ : ∃ u20, u20 = u1.alloc (.cells #[Value.int IntKind.u8 0, Value.int IntKind.u8 0, Value.int IntKind.u8 0, Value.int IntKind.u8 0, Value.int IntKind.u8 0, Value.int IntKind.u8 0, Value.int IntKind.u8 0, Value.int IntKind.u8 0, Value.int IntKind.u8 0, Value.int IntKind.u8 0, Value.int IntKind.u8 0, Value.int IntKind.u8 0, Value.int IntKind.u8 0, Value.int IntKind.u8 0, Value.int IntKind.u8 0, Value.int IntKind.u8 0, Value.int IntKind.u8 0, Value.int IntKind.u8 0, Value.int IntKind.u8 0, Value.int IntKind.u8 0, Value.int IntKind.u8 0, Value.int IntKind.u8 0, Value.int IntKind.u8 0, Value.int IntKind.u8 0, Value.int IntKind.u8 0, Value.int IntKind.u8 0, Value.int IntKind.u8 0, Value.int IntKind.u8 0, Value.int IntKind.u8 0, Value.int IntKind.u8 0, Value.int IntKind.u8 0, Value.int IntKind.u8 0] 30) := ⟨_, rfl⟩
                    obtain ⟨pQ, hpQ⟩ : ∃ pQ, pQ = u1.heap.size := ⟨_, rfl⟩
                    have gu20 : Chg none u1 u20 := by rw [hu20]; exact (Chg.refl _ _).alloc _
                    have S120 := S101.trans gu20
                    have bQ20 : Blk u20 pQ zero32 30 := by rw [hu20, hpQ]; exact Blk.new _ _ _
                    have loQ : w8.heap.size ≤ pQ := by rw [hpQ]; exact S101.size
                    go_simp
                    rw [← hu20, ← hpQ]
                    clear hu20 hpQ gu20
                    refine hK.out _ _ S120 (fun _ => ?_)
                    clear hK K
                    try simp only [Act.put, List.setIfInBounds_toArray, List.set_cons_zero, List.set_cons_succ]
                    refine wpAnyH_ready (rs := [11, 12]) (by kernel_rfl) (by simp) ?_
                    refine AllReadyH.cons (o := ⟨some 154, _, _, _, _, _⟩) rfl (fun K hK => ?_) (AllReadyH.cons (o := ⟨some 21, _, _, _, _, _⟩) rfl (fun K hK => ?_) (AllReadyH.nil))
                    · as_aux_lemma =>
                        go_simp
                        go_at_call 24
                        refine (HS2.out _ S120).mono ?_
                        rintro e u21 ⟨rfl, g221⟩
                        have S121 := S120.trans g221
                        have bQ21 : Blk u21 pQ zero32 30 := Blk.chg bQ20 g221 (by simp)
                        go_wp2_with fail
                        refine hK.out _ _ S121 (fun _ => ?_)
                        clear hK K
                        try simp only [Act.put, List.setIfInBounds_toArray, List.set_cons_zero, List.set_cons_succ]
                        refine wpAnyH_ready (rs := [12]) (by kernel_rfl) (by simp) ?_
                        refine AllReadyH.cons (o := ⟨some 21, _, _, _, _, _⟩) rfl (fun K hK => ?_) (AllReadyH.nil)
                        obtain ⟨u22, hu22⟩ : ∃ u22, u22 = u21.alloc (.cells #[Value.int IntKind.u8 0, Value.int IntKind.u8 0, Value.int IntKind.u8 0, Value.int IntKind.u8 0, Value.int IntKind.u8 0, Value.int IntKind.u8 0, Value.int IntKind.u8 0, Value.int IntKind.u8 0, Value.int IntKind.u8 0, Value.int IntKind.u8 0, Value.int IntKind.u8 0, Value.int IntKind.u8 0, Value.int IntKind.u8 0, Value.int IntKind.u8 0, Value.int IntKind.u8 0, Value.int IntKind.u8 0, Value.int IntKind.u8 0, Value.int IntKind.u8 0, Value.int IntKind.u8 0, Value.int IntKind.u8 0, Value.int IntKind.u8 0, Value.int IntKind.u8 0, Value.int IntKind.u8 0, Value.int IntKind.u8 0, Value.int IntKind.u8 0, Value.int IntKind.u8 0, Value.int IntKind.u8 0, Value.int IntKind.u8 0, Value.int IntKind.u8 0, Value.int IntKind.u8 0, Value.int IntKind.u8 0, Value.int IntKind.u8 0] 30) := ⟨_, rfl⟩
                        obtain ⟨pP, hpP⟩ : ∃ pP, pP = u21.heap.size := ⟨_, rfl⟩
                        have gu22 : Chg none u21 u22 := by rw [hu22]; exact (Chg.refl _ _).alloc _
                        have S122 := S121.trans gu22
                        have bP22 : Blk u22 pP zero32 30 := by rw [hu22, hpP]; exact Blk.new _ _ _
                        have loP : w8.heap.size ≤ pP := by rw [hpP]; exact S121.size
                        have neQ : pQ ≠ pP := by have := Blk.lt bQ21; omega
                        have bQ22 : Blk u22 pQ zero32 30 := Blk.chg bQ21 gu22 (by simp)
                        go_simp
                        rw [← hu22, ← hpP]
                        clear hu22 hpP gu22
                        refine hK.out _ _ S122 (fun _ => ?_)
                        clear hK K
                        try simp only [Act.put, List.setIfInBounds_toArray, List.set_cons_zero, List.set_cons_succ]
                        refine wpAnyH_ready (rs := [14]) (by kernel_rfl) (by simp) ?_
                        refine AllReadyH.cons (o := ⟨none, _, _, _, _, _⟩) rfl (fun K hK => ?_) (AllReadyH.nil)
                        obtain ⟨u23, hu23⟩ : ∃ u23, u23 = World.setRow u22 pP DP.toArray := ⟨_, rfl⟩
                        have gu23 : Chg (some pP) u22 u23 := by rw [hu23]; exact chg_setRow _ _ _
                        have S123 : Chg none w8 u23 := Chg.own (b := pP) S122 gu23 loP
                        have bP23 : Blk u23 pP DP.toArray 30 := by rw [hu23]; exact setRow_heap _ _ _ _ _ _ bP22
                        have bQ23 : Blk u23 pQ zero32 30 := Blk.chg bQ22 gu23 (by simp; exact fun h => neQ (by rw [h]))
                        rw [if_pos (by rfl)]
                        refine wp_store_row 30 (.tmp 21) (.tmp 148) (by rfl) pP DP.toArray (by rfl) (by rfl) 30 zero32 bP22 HIP.out HZP.out HOP.out ?_
                        rw [← hu23]
                        clear hu23 gu23
                        refine hK.out _ _ S123 (fun _ => ?_)
                        clear hK K
                        refine wpAnyH_ready (rs := [15]) (by kernel_rfl) (by simp) ?_
                        refine AllReadyH.cons (o := ⟨none, _, _, _, _, _⟩) rfl (fun K hK => ?_) (AllReadyH.nil)
                        obtain ⟨u24, hu24⟩ : ∃ u24, u24 = World.setRow u23 pQ DQ.toArray := ⟨_, rfl⟩
                        have gu24 : Chg (some pQ) u23 u24 := by rw [hu24]; exact chg_setRow _ _ _
                        have S124 : Chg none w8 u24 := Chg.own (b := pQ) S123 gu24 loQ
                        have bQ24 : Blk u24 pQ DQ.toArray 30 := by rw [hu24]; exact setRow_heap _ _ _ _ _ _ bQ23
                        have bP24 : Blk u24 pP DP.toArray 30 := Blk.chg bP23 gu24 (by simp; exact fun h => neQ (by rw [h]))
                        rw [if_pos (by rfl)]
                        refine wp_store_row 30 (.tmp 22) (.tmp 154) (by rfl) pQ DQ.toArray (by rfl) (by rfl) 30 zero32 bQ23 HIQ.out HZQ.out HOQ.out ?_
                        rw [← hu24]
                        clear hu24 gu24
                        refine hK.out _ _ S124 (fun _ => ?_)
                        clear hK K
                        refine wpAnyH_done (by kernel_rfl) ?_ _
                        try simp only [Act.put]
                        have HP9 : Hid (∀ v, Chg none u24 v → (convert 22 9 (.slice (some ⟨pP, 0, none⟩) 8 32)).run Tryd.prog v = .ok (.string ⟨D8.toArray⟩) v) := fun v g => HBP.out v pP (Blk.chg bP24 g (by simp))
                        have HQ9 : Hid (∀ v, Chg none u24 v → (convert 22 9 (.slice (some ⟨pQ, 0, none⟩) 8 32)).run Tryd.prog v = .ok (.string ⟨D8.toArray⟩) v) := fun v g => HBQ.out v pQ (Blk.chg bQ24 g (by simp))
                        have HS9 := Lib.hid S124
                        obtain ⟨wz, hwz⟩ : ∃ wz, wz = u24 := ⟨_, rfl⟩
                        rw [← hwz] at HP9 HQ9 HS9 ⊢
                        clear hwz
                        go_upto_region 34 with fail
                        have Z0 : Chg none wz wz.drew := (Chg.refl none wz).drew
                        refine wp_region_held_drew (S := fun v => Chg none wz v) (by kernel_rfl) Z0 (fun _ => ?_)
                        refine wpAnyH_take (i := 0) (oi := ⟨some 155, _, _, _, _, _⟩) (v := ?_) rfl (by kernel_rfl) (by kernel_rfl) (by kernel_rfl) (fun _ _ _ h => h) (Or.inl ⟨by rfl, ?_⟩) (by assumption) ?_
                        rotate_left
                        · intro w hSw; (try dsimp only at hSw); go_simp; (try with_reducible rfl)
                        try simp only [Act.put, List.setIfInBounds_toArray, List.set_cons_zero, List.set_cons_succ]
                        refine wpAnyH_take (i := 1) (oi := ⟨some 156, _, _, _, _, _⟩) (v := ?_) rfl (by kernel_rfl) (by kernel_rfl) (by kernel_rfl) (fun _ _ _ h => h) (Or.inl ⟨by rfl, ?_⟩) (by assumption) ?_
                        rotate_left
                        · intro w hSw; (try dsimp only at hSw); go_simp; (try with_reducible rfl)
                        try simp only [Act.put, List.setIfInBounds_toArray, List.set_cons_zero, List.set_cons_succ]
                        refine wpAnyH_take (i := 2) (oi := ⟨some 157, _, _, _, _, _⟩) (v := .pointer (some ⟨gA, K, none⟩)) rfl (by kernel_rfl) (by kernel_rfl) (by kernel_rfl) (fun _ _ _ h => h) (Or.inl ⟨by rfl, ?_⟩) (by assumption) ?_
                        · intro v hSv; go_simp
                        try simp only [Act.put, List.setIfInBounds_toArray, List.set_cons_zero, List.set_cons_succ]
                        refine wpAnyH_take (i := 3) (oi := ⟨some 158, _, _, _, _, _⟩) (v := .slice r.A r.x.length r.c) rfl (by kernel_rfl) (by kernel_rfl) (by kernel_rfl) (fun _ _ _ h => h) (Or.inl ⟨by rfl, ?_⟩) (by assumption) ?_
                        · intro v hSv; have hc := HCA.out v (HS9.out.trans hSv); go_simp
                        try simp only [Act.put, List.setIfInBounds_toArray, List.set_cons_zero, List.set_cons_succ]
                        refine wpAnyH_take (i := 4) (oi := ⟨some 159, _, _, _, _, _⟩) (v := .string ⟨r.x.toArray⟩) rfl (by kernel_rfl) (by kernel_rfl) (by kernel_rfl) (fun _ _ _ h => h) (Or.inl ⟨by rfl, ?_⟩) (by assumption) ?_
                        · intro v hSv; have hc := HV1.out v (HS9.out.trans hSv); go_simp
                        try simp only [Act.put, List.setIfInBounds_toArray, List.set_cons_zero, List.set_cons_succ]
                        refine wpAnyH_take (i := 5) (oi := ⟨some 160, _, _, _, _, _⟩) (v := ?_) rfl (by kernel_rfl) (by kernel_rfl) (by kernel_rfl) (fun _ _ _ h => h) (Or.inl ⟨by rfl, ?_⟩) (by assumption) ?_
                        rotate_left
                        · intro w hSw; (try dsimp only at hSw); go_simp; (try with_reducible rfl)
                        try simp only [Act.put, List.setIfInBounds_toArray, List.set_cons_zero, List.set_cons_succ]
                        refine wpAnyH_take (i := 6) (oi := ⟨some 161, _, _, _, _, _⟩) (v := ?_) rfl (by kernel_rfl) (by kernel_rfl) (by kernel_rfl) (fun _ _ _ h => h) (Or.inl ⟨by rfl, ?_⟩) (by assumption) ?_
                        rotate_left
                        · intro w hSw; (try dsimp only at hSw); go_simp; (try with_reducible rfl)
                        try simp only [Act.put, List.setIfInBounds_toArray, List.set_cons_zero, List.set_cons_succ]
                        refine wpAnyH_take (i := 7) (oi := ⟨some 162, _, _, _, _, _⟩) (v := .pointer (some ⟨b, off + K, none⟩)) rfl (by kernel_rfl) (by kernel_rfl) (by kernel_rfl) (fun _ _ _ h => h) (Or.inl ⟨by rfl, ?_⟩) (by assumption) ?_
                        · intro v hSv; go_simp
                        try simp only [Act.put, List.setIfInBounds_toArray, List.set_cons_zero, List.set_cons_succ]
                        refine wpAnyH_take (i := 8) (oi := ⟨some 163, _, _, _, _, _⟩) (v := .slice kp.A kp.x.length kp.c) rfl (by kernel_rfl) (by kernel_rfl) (by kernel_rfl) (fun _ _ _ h => h) (Or.inl ⟨by rfl, ?_⟩) (by assumption) ?_
                        · intro v hSv; have hc := HCB.out v (HS9.out.trans hSv); go_simp
                        try simp only [Act.put, List.setIfInBounds_toArray, List.set_cons_zero, List.set_cons_succ]
                        refine wpAnyH_take (i := 9) (oi := ⟨some 164, _, _, _, _, _⟩) (v := .string ⟨kp.x.toArray⟩) rfl (by kernel_rfl) (by kernel_rfl) (by kernel_rfl) (fun _ _ _ h => h) (Or.inl ⟨by rfl, ?_⟩) (by assumption) ?_
                        · intro v hSv; have hc := HV2.out v (HS9.out.trans hSv); go_simp
                        try simp only [Act.put, List.setIfInBounds_toArray, List.set_cons_zero, List.set_cons_succ]
                        refine wpAnyH_take (i := 10) (oi := ⟨some 165, _, _, _, _, _⟩) (v := .bool true) rfl (by kernel_rfl) (by kernel_rfl) (by kernel_rfl) (fun _ _ _ h => h) (Or.inl ⟨by rfl, ?_⟩) (by assumption) ?_
                        · intro v hSv; have hn := HNX.out; go_simp
                        try simp only [Act.put, List.setIfInBounds_toArray, List.set_cons_zero, List.set_cons_succ]
                        refine wpAnyH_take (i := 11) (oi := ⟨some 166, _, _, _, _, _⟩) (v := ?_) rfl (by kernel_rfl) (by kernel_rfl) (by kernel_rfl) (fun _ _ _ h => h) (Or.inl ⟨by rfl, ?_⟩) (by assumption) ?_
                        rotate_left
                        · intro w hSw; (try dsimp only at hSw); go_simp; (try with_reducible rfl)
                        try simp only [Act.put, List.setIfInBounds_toArray, List.set_cons_zero, List.set_cons_succ]
                        refine wpAnyH_take (i := 12) (oi := ⟨some 167, _, _, _, _, _⟩) (v := .slice (some ⟨pP, 0, none⟩) 8 32) rfl (by kernel_rfl) (by kernel_rfl) (by kernel_rfl) (fun _ _ _ h => h) (Or.inl ⟨by rfl, ?_⟩) (by assumption) ?_
                        · intro v hSv; have hc := HCU.out v pP; go_simp
                        try simp only [Act.put, List.setIfInBounds_toArray, List.set_cons_zero, List.set_cons_succ]
                        refine wpAnyH_take (i := 13) (oi := ⟨some 168, _, _, _, _, _⟩) (v := .string ⟨D8.toArray⟩) rfl (by kernel_rfl) (by kernel_rfl) (by kernel_rfl) (fun _ _ _ h => h) (Or.inl ⟨by rfl, ?_⟩) (by assumption) ?_
                        · intro v hSv; have hc := HP9.out v hSv; go_simp
                        try simp only [Act.put, List.setIfInBounds_toArray, List.set_cons_zero, List.set_cons_succ]
                        refine wpAnyH_take (i := 14) (oi := ⟨some 169, _, _, _, _, _⟩) (v := .slice (some ⟨pQ, 0, none⟩) 8 32) rfl (by kernel_rfl) (by kernel_rfl) (by kernel_rfl) (fun _ _ _ h => h) (Or.inl ⟨by rfl, ?_⟩) (by assumption) ?_
                        · intro v hSv; have hc := HCU.out v pQ; go_simp
                        try simp only [Act.put, List.setIfInBounds_toArray, List.set_cons_zero, List.set_cons_succ]
                        refine wpAnyH_take (i := 15) (oi := ⟨some 170, _, _, _, _, _⟩) (v := .string ⟨D8.toArray⟩) rfl (by kernel_rfl) (by kernel_rfl) (by kernel_rfl) (fun _ _ _ h => h) (Or.inl ⟨by rfl, ?_⟩) (by assumption) ?_
                        · intro v hSv; have hc := HQ9.out v hSv; go_simp
                        try simp only [Act.put, List.setIfInBounds_toArray, List.set_cons_zero, List.set_cons_succ]
                        refine wpAnyH_take (i := 16) (oi := ⟨some 171, _, _, _, _, _⟩) (v := .bool true) rfl (by kernel_rfl) (by kernel_rfl) (by kernel_rfl) (fun _ _ _ h => h) (Or.inl ⟨by rfl, ?_⟩) (by assumption) ?_
                        · intro v hSv; go_simp
                        try simp only [Act.put, List.setIfInBounds_toArray, List.set_cons_zero, List.set_cons_succ]
                        refine wpAnyH_take (i := 17) (oi := ⟨some 172, _, _, _, _, _⟩) (v := ?_) rfl (by kernel_rfl) (by kernel_rfl) (by kernel_rfl) (fun _ _ _ h => h) (Or.inl ⟨by rfl, ?_⟩) (by assumption) ?_
                        rotate_left
                        · intro w hSw; (try dsimp only at hSw); go_simp; (try with_reducible rfl)
                        try simp only [Act.put, List.setIfInBounds_toArray, List.set_cons_zero, List.set_cons_succ]
                        refine wpAnyH_take (i := 18) (oi := ⟨some 173, _, _, _, _, _⟩) (v := ?_) rfl (by kernel_rfl) (by kernel_rfl) (by kernel_rfl) (fun _ _ _ h => h) (Or.inl ⟨by rfl, ?_⟩) (by assumption) ?_
                        rotate_left
                        · intro w hSw; (try dsimp only at hSw); go_simp; (try with_reducible rfl)
                        try simp only [Act.put, List.setIfInBounds_toArray, List.set_cons_zero, List.set_cons_succ]
                        refine wpAnyH_ready (rs := [19]) (by kernel_rfl) (by simp) ?_
                        refine AllReadyH.cons (o := ⟨some 174, _, _, _, _, _⟩) rfl (fun K hK => ?_) (AllReadyH.nil)
                        go_simp
                        go_at_call 16
                        refine (HKN8.out _ (HS9.out.trans Z0)).mono ?_
                        rintro e z1 ⟨rfl, gz⟩
                        have Z1 := Z0.trans gz
                        go_wp2_with fail
                        refine hK.out _ _ Z1 (fun _ => ?_)
                        clear hK K
                        try simp only [Act.put, List.setIfInBounds_toArray, List.set_cons_zero, List.set_cons_succ]
                        refine wpAnyH_take (i := 20) (oi := ⟨some 175, _, _, _, _, _⟩) (v := ?_) rfl (by kernel_rfl) (by kernel_rfl) (by kernel_rfl) (fun _ _ _ h => h) (Or.inl ⟨by rfl, ?_⟩) (by assumption) ?_
                        rotate_left
                        · intro w hSw; (try dsimp only at hSw); go_simp; (try with_reducible rfl)
                        try simp only [Act.put, List.setIfInBounds_toArray, List.set_cons_zero, List.set_cons_succ]
                        refine wpAnyH_take (i := 21) (oi := ⟨some 8, _, _, _, _, _⟩) (v := ?_) rfl (by kernel_rfl) (by kernel_rfl) (by kernel_rfl) (fun _ _ _ h => h) (Or.inl ⟨by rfl, ?_⟩) (by assumption) ?_
                        rotate_left
                        · intro w hSw; (try dsimp only at hSw); go_simp; (try with_reducible rfl)
                        try simp only [Act.put, List.setIfInBounds_toArray, List.set_cons_zero, List.set_cons_succ]
                        refine wpAnyH_done (by kernel_rfl) ?_ _
                        try simp only [Act.put]
                        go_wp2_with fail
                        go_ret
                        exact ⟨rfl, HG8.out.trans (HS9.out.trans Z1)⟩
                    · as_aux_lemma =>
                        obtain ⟨u25, hu25⟩ : ∃ u25, u25 = u20.alloc (.cells #[Value.int IntKind.u8 0, Value.int IntKind.u8 0, Value.int IntKind.u8 0, Value.int IntKind.u8 0, Value.int IntKind.u8 0, Value.int IntKind.u8 0, Value.int IntKind.u8 0, Value.int IntKind.u8 0, Value.int IntKind.u8 0, Value.int IntKind.u8 0, Value.int IntKind.u8 0, Value.int IntKind.u8 0, Value.int IntKind.u8 0, Value.int IntKind.u8 0, Value.int IntKind.u8 0, Value.int IntKind.u8 0, Value.int IntKind.u8 0, Value.int IntKind.u8 0, Value.int IntKind.u8 0, Value.int IntKind.u8 0, Value.int IntKind.u8 0, Value.int IntKind.u8 0, Value.int IntKind.u8 0, Value.int IntKind.u8 0, Value.int IntKind.u8 0, Value.int IntKind.u8 0, Value.int IntKind.u8 0, Value.int IntKind.u8 0, Value.int IntKind.u8 0, Value.int IntKind.u8 0, Value.int IntKind.u8 0, Value.int IntKind.u8 0] 30) := ⟨_, rfl⟩
                        obtain ⟨pP, hpP⟩ : ∃ pP, pP = u20.heap.size := ⟨_, rfl⟩
                        have gu25 : Chg none u20 u25 := by rw [hu25]; exact (Chg.refl _ _).alloc _
                        have S125 := S120.trans gu25
                        have bP25 : Blk u25 pP zero32 30 := by rw [hu25, hpP]; exact Blk.new _ _ _
                        have loP : w8.heap.size ≤ pP := by rw [hpP]; exact S120.size
                        have neQ : pQ ≠ pP := by have := Blk.lt bQ20; omega
                        have bQ25 : Blk u25 pQ zero32 30 := Blk.chg bQ20 gu25 (by simp)
                        go_simp
                        rw [← hu25, ← hpP]
                        clear hu25 hpP gu25
                        refine hK.out _ _ S125 (fun _ => ?_)
                        clear hK K
                        try simp only [Act.put, List.setIfInBounds_toArray, List.set_cons_zero, List.set_cons_succ]
                        refine wpAnyH_ready (rs := [11]) (by kernel_rfl) (by simp) ?_
                        refine AllReadyH.cons (o := ⟨some 154, _, _, _, _, _⟩) rfl (fun K hK => ?_) (AllReadyH.nil)
                        go_simp
                        go_at_call 24
                        refine (HS2.out _ S125).mono ?_
                        rintro e u26 ⟨rfl, g226⟩
                        have S126 := S125.trans g226
                        have bP26 : Blk u26 pP zero32 30 := Blk.chg bP25 g226 (by simp)
                        have bQ26 : Blk u26 pQ zero32 30 := Blk.chg bQ25 g226 (by simp)
                        go_wp2_with fail
                        refine hK.out _ _ S126 (fun _ => ?_)
                        clear hK K
                        try simp only [Act.put, List.setIfInBounds_toArray, List.set_cons_zero, List.set_cons_succ]
                        refine wpAnyH_ready (rs := [14]) (by kernel_rfl) (by simp) ?_
                        refine AllReadyH.cons (o := ⟨none, _, _, _, _, _⟩) rfl (fun K hK => ?_) (AllReadyH.nil)
                        obtain ⟨u27, hu27⟩ : ∃ u27, u27 = World.setRow u26 pP DP.toArray := ⟨_, rfl⟩
                        have gu27 : Chg (some pP) u26 u27 := by rw [hu27]; exact chg_setRow _ _ _
                        have S127 : Chg none w8 u27 := Chg.own (b := pP) S126 gu27 loP
                        have bP27 : Blk u27 pP DP.toArray 30 := by rw [hu27]; exact setRow_heap _ _ _ _ _ _ bP26
                        have bQ27 : Blk u27 pQ zero32 30 := Blk.chg bQ26 gu27 (by simp; exact fun h => neQ (by rw [h]))
                        rw [if_pos (by rfl)]
                        refine wp_store_row 30 (.tmp 21) (.tmp 148) (by rfl) pP DP.toArray (by rfl) (by rfl) 30 zero32 bP26 HIP.out HZP.out HOP.out ?_
                        rw [← hu27]
                        clear hu27 gu27
                        refine hK.out _ _ S127 (fun _ => ?_)
                        clear hK K
                        refine wpAnyH_ready (rs := [15]) (by kernel_rfl) (by simp) ?_
                        refine AllReadyH.cons (o := ⟨none, _, _, _, _, _⟩) rfl (fun K hK => ?_) (AllReadyH.nil)
                        obtain ⟨u28, hu28⟩ : ∃ u28, u28 = World.setRow u27 pQ DQ.toArray := ⟨_, rfl⟩
                        have gu28 : Chg (some pQ) u27 u28 := by rw [hu28]; exact chg_setRow _ _ _
                        have S128 : Chg none w8 u28 := Chg.own (b := pQ) S127 gu28 loQ
                        have bQ28 : Blk u28 pQ DQ.toArray 30 := by rw [hu28]; exact setRow_heap _ _ _ _ _ _ bQ27
                        have bP28 : Blk u28 pP DP.toArray 30 := Blk.chg bP27 gu28 (by simp; exact fun h => neQ (by rw [h]))
                        rw [if_pos (by rfl)]
                        refine wp_store_row 30 (.tmp 22) (.tmp 154) (by rfl) pQ DQ.toArray (by rfl) (by rfl) 30 zero32 bQ27 HIQ.out HZQ.out HOQ.out ?_
                        rw [← hu28]
                        clear hu28 gu28
                        refine hK.out _ _ S128 (fun _ => ?_)
                        clear hK K
                        refine wpAnyH_done (by kernel_rfl) ?_ _
                        try simp only [Act.put]
                        have HP9 : Hid (∀ v, Chg none u28 v → (convert 22 9 (.slice (some ⟨pP, 0, none⟩) 8 32)).run Tryd.prog v = .ok (.string ⟨D8.toArray⟩) v) := fun v g => HBP.out v pP (Blk.chg bP28 g (by simp))
                        have HQ9 : Hid (∀ v, Chg none u28 v → (convert 22 9 (.slice (some ⟨pQ, 0, none⟩) 8 32)).run Tryd.prog v = .ok (.string ⟨D8.toArray⟩) v) := fun v g => HBQ.out v pQ (Blk.chg bQ28 g (by simp))
                        have HS9 := Lib.hid S128
                        obtain ⟨wz, hwz⟩ : ∃ wz, wz = u28 := ⟨_, rfl⟩
                        rw [← hwz] at HP9 HQ9 HS9 ⊢
                        clear hwz
                        go_upto_region 34 with fail
                        have Z0 : Chg none wz wz.drew := (Chg.refl none wz).drew
                        refine wp_region_held_drew (S := fun v => Chg none wz v) (by kernel_rfl) Z0 (fun _ => ?_)
                        refine wpAnyH_take (i := 0) (oi := ⟨some 155, _, _, _, _, _⟩) (v := ?_) rfl (by kernel_rfl) (by kernel_rfl) (by kernel_rfl) (fun _ _ _ h => h) (Or.inl ⟨by rfl, ?_⟩) (by assumption) ?_
                        rotate_left
                        · intro w hSw; (try dsimp only at hSw); go_simp; (try with_reducible rfl)
                        try simp only [Act.put, List.setIfInBounds_toArray, List.set_cons_zero, List.set_cons_succ]
                        refine wpAnyH_take (i := 1) (oi := ⟨some 156, _, _, _, _, _⟩) (v := ?_) rfl (by kernel_rfl) (by kernel_rfl) (by kernel_rfl) (fun _ _ _ h => h) (Or.inl ⟨by rfl, ?_⟩) (by assumption) ?_
                        rotate_left
                        · intro w hSw; (try dsimp only at hSw); go_simp; (try with_reducible rfl)
                        try simp only [Act.put, List.setIfInBounds_toArray, List.set_cons_zero, List.set_cons_succ]
                        refine wpAnyH_take (i := 2) (oi := ⟨some 157, _, _, _, _, _⟩) (v := .pointer (some ⟨gA, K, none⟩)) rfl (by kernel_rfl) (by kernel_rfl) (by kernel_rfl) (fun _ _ _ h => h) (Or.inl ⟨by rfl, ?_⟩) (by assumption) ?_
                        · intro v hSv; go_simp
                        try simp only [Act.put, List.setIfInBounds_toArray, List.set_cons_zero, List.set_cons_succ]
                        refine wpAnyH_take (i := 3) (oi := ⟨some 158, _, _, _, _, _⟩) (v := .slice r.A r.x.length r.c) rfl (by kernel_rfl) (by kernel_rfl) (by kernel_rfl) (fun _ _ _ h => h) (Or.inl ⟨by rfl, ?_⟩) (by assumption) ?_
                        · intro v hSv; have hc := HCA.out v (HS9.out.trans hSv); go_simp
                        try simp only [Act.put, List.setIfInBounds_toArray, List.set_cons_zero, List.set_cons_succ]
                        refine wpAnyH_take (i := 4) (oi := ⟨some 159, _, _, _, _, _⟩) (v := .string ⟨r.x.toArray⟩) rfl (by kernel_rfl) (by kernel_rfl) (by kernel_rfl) (fun _ _ _ h => h) (Or.inl ⟨by rfl, ?_⟩) (by assumption) ?_
                        · intro v hSv; have hc := HV1.out v (HS9.out.trans hSv); go_simp
                        try simp only [Act.put, List.setIfInBounds_toArray, List.set_cons_zero, List.set_cons_succ]
                        refine wpAnyH_take (i := 5) (oi := ⟨some 160, _, _, _, _, _⟩) (v := ?_) rfl (by kernel_rfl) (by kernel_rfl) (by kernel_rfl) (fun _ _ _ h => h) (Or.inl ⟨by rfl, ?_⟩) (by assumption) ?_
                        rotate_left
                        · intro w hSw; (try dsimp only at hSw); go_simp; (try with_reducible rfl)
                        try simp only [Act.put, List.setIfInBounds_toArray, List.set_cons_zero, List.set_cons_succ]
                        refine wpAnyH_take (i := 6) (oi := ⟨some 161, _, _, _, _, _⟩) (v := ?_) rfl (by kernel_rfl) (by kernel_rfl) (by kernel_rfl) (fun _ _ _ h => h) (Or.inl ⟨by rfl, ?_⟩) (by assumption) ?_
                        rotate_left
                        · intro w hSw; (try dsimp only at hSw); go_simp; (try with_reducible rfl)
                        try simp only [Act.put, List.setIfInBounds_toArray, List.set_cons_zero, List.set_cons_succ]
                        refine wpAnyH_take (i := 7) (oi := ⟨some 162, _, _, _, _, _⟩) (v := .pointer (some ⟨b, off + K, none⟩)) rfl (by kernel_rfl) (by kernel_rfl) (by kernel_rfl) (fun _ _ _ h => h) (Or.inl ⟨by rfl, ?_⟩) (by assumption) ?_
                        · intro v hSv; go_simp
                        try simp only [Act.put, List.setIfInBounds_toArray, List.set_cons_zero, List.set_cons_succ]
                        refine wpAnyH_take (i := 8) (oi := ⟨some 163, _, _, _, _, _⟩) (v := .slice kp.A kp.x.length kp.c) rfl (by kernel_rfl) (by kernel_rfl) (by kernel_rfl) (fun _ _ _ h => h) (Or.inl ⟨by rfl, ?_⟩) (by assumption) ?_
                        · intro v hSv; have hc := HCB.out v (HS9.out.trans hSv); go_simp
                        try simp only [Act.put, List.setIfInBounds_toArray, List.set_cons_zero, List.set_cons_succ]
                        refine wpAnyH_take (i := 9) (oi := ⟨some 164, _, _, _, _, _⟩) (v := .string ⟨kp.x.toArray⟩) rfl (by kernel_rfl) (by kernel_rfl) (by kernel_rfl) (fun _ _ _ h => h) (Or.inl ⟨by rfl, ?_⟩) (by assumption) ?_
                        · intro v hSv; have hc := HV2.out v (HS9.out.trans hSv); go_simp
                        try simp only [Act.put, List.setIfInBounds_toArray, List.set_cons_zero, List.set_cons_succ]
                        refine wpAnyH_take (i := 10) (oi := ⟨some 165, _, _, _, _, _⟩) (v := .bool true) rfl (by kernel_rfl) (by kernel_rfl) (by kernel_rfl) (fun _ _ _ h => h) (Or.inl ⟨by rfl, ?_⟩) (by assumption) ?_
                        · intro v hSv; have hn := HNX.out; go_simp
                        try simp only [Act.put, List.setIfInBounds_toArray, List.set_cons_zero, List.set_cons_succ]
                        refine wpAnyH_take (i := 11) (oi := ⟨some 166, _, _, _, _, _⟩) (v := ?_) rfl (by kernel_rfl) (by kernel_rfl) (by kernel_rfl) (fun _ _ _ h => h) (Or.inl ⟨by rfl, ?_⟩) (by assumption) ?_
                        rotate_left
                        · intro w hSw; (try dsimp only at hSw); go_simp; (try with_reducible rfl)
                        try simp only [Act.put, List.setIfInBounds_toArray, List.set_cons_zero, List.set_cons_succ]
                        refine wpAnyH_take (i := 12) (oi := ⟨some 167, _, _, _, _, _⟩) (v := .slice (some ⟨pP, 0, none⟩) 8 32) rfl (by kernel_rfl) (by kernel_rfl) (by kernel_rfl) (fun _ _ _ h => h) (Or.inl ⟨by rfl, ?_⟩) (by assumption) ?_
                        · intro v hSv; have hc := HCU.out v pP; go_simp
                        try simp only [Act.put, List.setIfInBounds_toArray, List.set_cons_zero, List.set_cons_succ]
                        refine wpAnyH_take (i := 13) (oi := ⟨some 168, _, _, _, _, _⟩) (v := .string ⟨D8.toArray⟩) rfl (by kernel_rfl) (by kernel_rfl) (by kernel_rfl) (fun _ _ _ h => h) (Or.inl ⟨by rfl, ?_⟩) (by assumption) ?_
                        · intro v hSv; have hc := HP9.out v hSv; go_simp
                        try simp only [Act.put, List.setIfInBounds_toArray, List.set_cons_zero, List.set_cons_succ]
                        refine wpAnyH_take (i := 14) (oi := ⟨some 169, _, _, _, _, _⟩) (v := .slice (some ⟨pQ, 0, none⟩) 8 32) rfl (by kernel_rfl) (by kernel_rfl) (by kernel_rfl) (fun _ _ _ h => h) (Or.inl ⟨by rfl, ?_⟩) (by assumption) ?_
                        · intro v hSv; have hc := HCU.out v pQ; go_simp
                        try simp only [Act.put, List.setIfInBounds_toArray, List.set_cons_zero, List.set_cons_succ]
                        refine wpAnyH_take (i := 15) (oi := ⟨some 170, _, _, _, _, _⟩) (v := .string ⟨D8.toArray⟩) rfl (by kernel_rfl) (by kernel_rfl) (by kernel_rfl) (fun _ _ _ h => h) (Or.inl ⟨by rfl, ?_⟩) (by assumption) ?_
                        · intro v hSv; have hc := HQ9.out v hSv; go_simp
                        try simp only [Act.put, List.setIfInBounds_toArray, List.set_cons_zero, List.set_cons_succ]
                        refine wpAnyH_take (i := 16) (oi := ⟨some 171, _, _, _, _, _⟩) (v := .bool true) rfl (by kernel_rfl) (by kernel_rfl) (by kernel_rfl) (fun _ _ _ h => h) (Or.inl ⟨by rfl, ?_⟩) (by assumption) ?_
                        · intro v hSv; go_simp
                        try simp only [Act.put, List.setIfInBounds_toArray, List.set_cons_zero, List.set_cons_succ]
                        refine wpAnyH_take (i := 17) (oi := ⟨some 172, _, _, _, _, _⟩) (v := ?_) rfl (by kernel_rfl) (by kernel_rfl) (by kernel_rfl) (fun _ _ _ h => h) (Or.inl ⟨by rfl, ?_⟩) (by assumption) ?_
                        rotate_left
                        · intro w hSw; (try dsimp only at hSw); go_simp; (try with_reducible rfl)
                        try simp only [Act.put, List.setIfInBounds_toArray, List.set_cons_zero, List.set_cons_succ]
                        refine wpAnyH_take (i := 18) (oi := ⟨some 173, _, _, _, _, _⟩) (v := ?_) rfl (by kernel_rfl) (by kernel_rfl) (by kernel_rfl) (fun _ _ _ h => h) (Or.inl ⟨by rfl, ?_⟩) (by assumption) ?_
                        rotate_left
                        · intro w hSw; (try dsimp only at hSw); go_simp; (try with_reducible rfl)
                        try simp only [Act.put, List.setIfInBounds_toArray, List.set_cons_zero, List.set_cons_succ]
                        refine wpAnyH_ready (rs := [19]) (by kernel_rfl) (by simp) ?_
                        refine AllReadyH.cons (o := ⟨some 174, _, _, _, _, _⟩) rfl (fun K hK => ?_) (AllReadyH.nil)
                        go_simp
                        go_at_call 16
                        refine (HKN8.out _ (HS9.out.trans Z0)).mono ?_
                        rintro e z1 ⟨rfl, gz⟩
                        have Z1 := Z0.trans gz
                        go_wp2_with fail
                        refine hK.out _ _ Z1 (fun _ => ?_)
                        clear hK K
                        try simp only [Act.put, List.setIfInBounds_toArray, List.set_cons_zero, List.set_cons_succ]
                        refine wpAnyH_take (i := 20) (oi := ⟨some 175, _, _, _, _, _⟩) (v := ?_) rfl (by kernel_rfl) (by kernel_rfl) (by kernel_rfl) (fun _ _ _ h => h) (Or.inl ⟨by rfl, ?_⟩) (by assumption) ?_
                        rotate_left
                        · intro w hSw; (try dsimp only at hSw); go_simp; (try with_reducible rfl)
                        try simp only [Act.put, List.setIfInBounds_toArray, List.set_cons_zero, List.set_cons_succ]
                        refine wpAnyH_take (i := 21) (oi := ⟨some 8, _, _, _, _, _⟩) (v := ?_) rfl (by kernel_rfl) (by kernel_rfl) (by kernel_rfl) (fun _ _ _ h => h) (Or.inl ⟨by rfl, ?_⟩) (by assumption) ?_
                        rotate_left
                        · intro w hSw; (try dsimp only at hSw); go_simp; (try with_reducible rfl)
                        try simp only [Act.put, List.setIfInBounds_toArray, List.set_cons_zero, List.set_cons_succ]
                        refine wpAnyH_done (by kernel_rfl) ?_ _
                        try simp only [Act.put]
                        go_wp2_with fail
                        go_ret
                        exact ⟨rfl, HG8.out.trans (HS9.out.trans Z1)⟩
            · as_aux_lemma =>
                obtain ⟨u29, hu29⟩ : ∃ u29, u29 = v0.alloc (.cells #[Value.int IntKind.u8 0, Value.int IntKind.u8 0, Value.int IntKind.u8 0, Value.int IntKind.u8 0, Value.int IntKind.u8 0, Value.int IntKind.u8 0, Value.int IntKind.u8 0, Value.int IntKind.u8 0, Value.int IntKind.u8 0, Value.int IntKind.u8 0, Value.int IntKind.u8 0, Value.int IntKind.u8 0, Value.int IntKind.u8 0, Value.int IntKind.u8 0, Value.int IntKind.u8 0, Value.int IntKind.u8 0, Value.int IntKind.u8 0, Value.int IntKind.u8 0, Value.int IntKind.u8 0, Value.int IntKind.u8 0, Value.int IntKind.u8 0, Value.int IntKind.u8 0, Value.int IntKind.u8 0, Value.int IntKind.u8 0, Value.int IntKind.u8 0, Value.int IntKind.u8 0, Value.int IntKind.u8 0, Value.int IntKind.u8 0, Value.int IntKind.u8 0, Value.int IntKind.u8 0, Value.int IntKind.u8 0, Value.int IntKind.u8 0] 30) := ⟨_, rfl⟩
                obtain ⟨pP, hpP⟩ : ∃ pP, pP = v0.heap.size := ⟨_, rfl⟩
                have gu29 : Chg none v0 u29 := by rw [hu29]; exact (Chg.refl _ _).alloc _
                have S129 := S0.trans gu29
                have bP29 : Blk u29 pP zero32 30 := by rw [hu29, hpP]; exact Blk.new _ _ _
                have loP : w8.heap.size ≤ pP := by rw [hpP]; exact S0.size
                go_simp
                rw [← hu29, ← hpP]
                clear hu29 hpP gu29
                refine hK.out _ _ S129 (fun _ => ?_)
                clear hK K
                try simp only [Act.put, List.setIfInBounds_toArray, List.set_cons_zero, List.set_cons_succ]
                refine wpAnyH_ready (rs := [5, 13]) (by kernel_rfl) (by simp) ?_
                refine AllReadyH.cons (o := ⟨some 148, _, _, _, _, _⟩) rfl (fun K hK => ?_) (AllReadyH.cons (o := ⟨some 22, _, _, _, _, _⟩) rfl (fun K hK => ?_) (AllReadyH.nil))
                · as_aux_lemma =>
                    go_simp
                    go_at_call 24
                    refine (HS1.out _ S129).mono ?_
                    rintro e u30 ⟨rfl, g230⟩
                    have S130 := S129.trans g230
                    have bP30 : Blk u30 pP zero32 30 := Blk.chg bP29 g230 (by simp)
                    go_wp2_with fail
                    refine hK.out _ _ S130 (fun _ => ?_)
                    clear hK K
                    try simp only [Act.put, List.setIfInBounds_toArray, List.set_cons_zero, List.set_cons_succ]
                    refine wpAnyH_ready (rs := [11, 13]) (by kernel_rfl) (by simp) ?_
                    refine AllReadyH.cons (o := ⟨some 154, _, _, _, _, _⟩) rfl (fun K hK => ?_) (AllReadyH.cons (o := ⟨some 22, _, _, _, _, _⟩) rfl (fun K hK => ?_) (AllReadyH.nil))
                    · as_aux_lemma =>
                        go_simp
                        go_at_call 24
                        refine (HS2.out _ S130).mono ?_
                        rintro e u31 ⟨rfl, g231⟩
                        have S131 := S130.trans g231
                        have bP31 : Blk u31 pP zero32 30 := Blk.chg bP30 g231 (by simp)
                        go_wp2_with fail
                        refine hK.out _ _ S131 (fun _ => ?_)
                        clear hK K
                        try simp only [Act.put, List.setIfInBounds_toArray, List.set_cons_zero, List.set_cons_succ]
                        refine wpAnyH_ready (rs := [13]) (by kernel_rfl) (by simp) ?_
                        refine AllReadyH.cons (o := ⟨some 22, _, _, _, _, _⟩) rfl (fun K hK => ?_) (AllReadyH.nil)
                        obtain ⟨u32, hu32⟩ : ∃ u32, u32 = u31.alloc (.cells #[Value.int IntKind.u8 0, Value.int IntKind.u8 0, Value.int IntKind.u8 0, Value.int IntKind.u8 0, Value.int IntKind.u8 0, Value.int IntKind.u8 0, Value.int IntKind.u8 0, Value.int IntKind.u8 0, Value.int IntKind.u8 0, Value.int IntKind.u8 0, Value.int IntKind.u8 0, Value.int IntKind.u8 0, Value.int IntKind.u8 0, Value.int IntKind.u8 0, Value.int IntKind.u8 0, Value.int IntKind.u8 0, Value.int IntKind.u8 0, Value.int IntKind.u8 0, Value.int IntKind.u8 0, Value.int IntKind.u8 0, Value.int IntKind.u8 0, Value.int IntKind.u8 0, Value.int IntKind.u8 0, Value.int IntKind.u8 0, Value.int IntKind.u8 0, Value.int IntKind.u8 0, Value.int IntKind.u8 0, Value.int IntKind.u8 0, Value.int IntKind.u8 0, Value.int IntKind.u8 0, Value.int IntKind.u8 0, Value.int IntKind.u8 0] 30) := ⟨_, rfl⟩
                        obtain ⟨pQ, hpQ⟩ : ∃ pQ, pQ = u31.heap.size := ⟨_, rfl⟩
                        have gu32 : Chg none u31 u32 := by rw [hu32]; exact (Chg.refl _ _).alloc _
                        have S132 := S131.trans gu32
                        have bQ32 : Blk u32 pQ zero32 30 := by rw [hu32, hpQ]; exact Blk.new _ _ _
                        have loQ : w8.heap.size ≤ pQ := by rw [hpQ]; exact S131.size
                        have neP : pP ≠ pQ := by have := Blk.lt bP31; omega
                        have bP32 : Blk u32 pP zero32 30 := Blk.chg bP31 gu32 (by simp)
                        go_simp
                        rw [← hu32, ← hpQ]
                        clear hu32 hpQ gu32
                        refine hK.out _ _ S132 (fun _ => ?_)
                        clear hK K
                        try simp only [Act.put, List.setIfInBounds_toArray, List.set_cons_zero, List.set_cons_succ]
                        refine wpAnyH_ready (rs := [14]) (by kernel_rfl) (by simp) ?_
                        refine AllReadyH.cons (o := ⟨none, _, _, _, _, _⟩) rfl (fun K hK => ?_) (AllReadyH.nil)
                        obtain ⟨u33, hu33⟩ : ∃ u33, u33 = World.setRow u32 pP DP.toArray := ⟨_, rfl⟩
                        have gu33 : Chg (some pP) u32 u33 := by rw [hu33]; exact chg_setRow _ _ _
                        have S133 : Chg none w8 u33 := Chg.own (b := pP) S132 gu33 loP
                        have bP33 : Blk u33 pP DP.toArray 30 := by rw [hu33]; exact setRow_heap _ _ _ _ _ _ bP32
                        have bQ33 : Blk u33 pQ zero32 30 := Blk.chg bQ32 gu33 (by simp; exact fun h => neP (by rw [h]))
                        rw [if_pos (by rfl)]
                        refine wp_store_row 30 (.tmp 21) (.tmp 148) (by rfl) pP DP.toArray (by rfl) (by rfl) 30 zero32 bP32 HIP.out HZP.out HOP.out ?_
                        rw [← hu33]
                        clear hu33 gu33
                        refine hK.out _ _ S133 (fun _ => ?_)
                        clear hK K
                        refine wpAnyH_ready (rs := [15]) (by kernel_rfl) (by simp) ?_
                        refine AllReadyH.cons (o := ⟨none, _, _, _, _, _⟩) rfl (fun K hK => ?_) (AllReadyH.nil)
                        obtain ⟨u34, hu34⟩ : ∃ u34, u34 = World.setRow u33 pQ DQ.toArray := ⟨_, rfl⟩
                        have gu34 : Chg (some pQ) u33 u34 := by rw [hu34]; exact chg_setRow _ _ _
                        have S134 : Chg none w8 u34 := Chg.own (b := pQ) S133 gu34 loQ
                        have bQ34 : Blk u34 pQ DQ.toArray 30 := by rw [hu34]; exact setRow_heap _ _ _ _ _ _ bQ33
                        have bP34 : Blk u34 pP DP.toArray 30 := Blk.chg bP33 gu34 (by simp; exact fun h => neP (by rw [h]))
                        rw [if_pos (by rfl)]
                        refine wp_store_row 30 (.tmp 22) (.tmp 154) (by rfl) pQ DQ.toArray (by rfl) (by rfl) 30 zero32 bQ33 HIQ.out HZQ.out HOQ.out ?_
                        rw [← hu34]
                        clear hu34 gu34
                        refine hK.out _ _ S134 (fun _ => ?_)
                        clear hK K
                        refine wpAnyH_done (by kernel_rfl) ?_ _
                        try simp only [Act.put]
                        have HP9 : Hid (∀ v, Chg none u34 v → (convert 22 9 (.slice (some ⟨pP, 0, none⟩) 8 32)).run Tryd.prog v = .ok (.string ⟨D8.toArray⟩) v) := fun v g => HBP.out v pP (Blk.chg bP34 g (by simp))
                        have HQ9 : Hid (∀ v, Chg none u34 v → (convert 22 9 (.slice (some ⟨pQ, 0, none⟩) 8 32)).run Tryd.prog v = .ok (.string ⟨D8.toArray⟩) v) := fun v g => HBQ.out v pQ (Blk.chg bQ34 g (by simp))
                        have HS9 := Lib.hid S134
                        obtain ⟨wz, hwz⟩ : ∃ wz, wz = u34 := ⟨_, rfl⟩
                        rw [← hwz] at HP9 HQ9 HS9 ⊢
                        clear hwz
                        go_upto_region 34 with fail
                        have Z0 : Chg none wz wz.drew := (Chg.refl none wz).drew
                        refine wp_region_held_drew (S := fun v => Chg none wz v) (by kernel_rfl) Z0 (fun _ => ?_)
                        refine wpAnyH_take (i := 0) (oi := ⟨some 155, _, _, _, _, _⟩) (v := ?_) rfl (by kernel_rfl) (by kernel_rfl) (by kernel_rfl) (fun _ _ _ h => h) (Or.inl ⟨by rfl, ?_⟩) (by assumption) ?_
                        rotate_left
                        · intro w hSw; (try dsimp only at hSw); go_simp; (try with_reducible rfl)
                        try simp only [Act.put, List.setIfInBounds_toArray, List.set_cons_zero, List.set_cons_succ]
                        refine wpAnyH_take (i := 1) (oi := ⟨some 156, _, _, _, _, _⟩) (v := ?_) rfl (by kernel_rfl) (by kernel_rfl) (by kernel_rfl) (fun _ _ _ h => h) (Or.inl ⟨by rfl, ?_⟩) (by assumption) ?_
                        rotate_left
                        · intro w hSw; (try dsimp only at hSw); go_simp; (try with_reducible rfl)
                        try simp only [Act.put, List.setIfInBounds_toArray, List.set_cons_zero, List.set_cons_succ]
                        refine wpAnyH_take (i := 2) (oi := ⟨some 157, _, _, _, _, _⟩) (v := .pointer (some ⟨gA, K, none⟩)) rfl (by kernel_rfl) (by kernel_rfl) (by kernel_rfl) (fun _ _ _ h => h) (Or.inl ⟨by rfl, ?_⟩) (by assumption) ?_
                        · intro v hSv; go_simp
                        try simp only [Act.put, List.setIfInBounds_toArray, List.set_cons_zero, List.set_cons_succ]
                        refine wpAnyH_take (i := 3) (oi := ⟨some 158, _, _, _, _, _⟩) (v := .slice r.A r.x.length r.c) rfl (by kernel_rfl) (by kernel_rfl) (by kernel_rfl) (fun _ _ _ h => h) (Or.inl ⟨by rfl, ?_⟩) (by assumption) ?_
                        · intro v hSv; have hc := HCA.out v (HS9.out.trans hSv); go_simp
                        try simp only [Act.put, List.setIfInBounds_toArray, List.set_cons_zero, List.set_cons_succ]
                        refine wpAnyH_take (i := 4) (oi := ⟨some 159, _, _, _, _, _⟩) (v := .string ⟨r.x.toArray⟩) rfl (by kernel_rfl) (by kernel_rfl) (by kernel_rfl) (fun _ _ _ h => h) (Or.inl ⟨by rfl, ?_⟩) (by assumption) ?_
                        · intro v hSv; have hc := HV1.out v (HS9.out.trans hSv); go_simp
                        try simp only [Act.put, List.setIfInBounds_toArray, List.set_cons_zero, List.set_cons_succ]
                        refine wpAnyH_take (i := 5) (oi := ⟨some 160, _, _, _, _, _⟩) (v := ?_) rfl (by kernel_rfl) (by kernel_rfl) (by kernel_rfl) (fun _ _ _ h => h) (Or.inl ⟨by rfl, ?_⟩) (by assumption) ?_
                        rotate_left
                        · intro w hSw; (try dsimp only at hSw); go_simp; (try with_reducible rfl)
                        try simp only [Act.put, List.setIfInBounds_toArray, List.set_cons_zero, List.set_cons_succ]
                        refine wpAnyH_take (i := 6) (oi := ⟨some 161, _, _, _, _, _⟩) (v := ?_) rfl (by kernel_rfl) (by kernel_rfl) (by kernel_rfl) (fun _ _ _ h => h) (Or.inl ⟨by rfl, ?_⟩) (by assumption) ?_
                        rotate_left
                        · intro w hSw; (try dsimp only at hSw); go_simp; (try with_reducible rfl)
                        try simp only [Act.put, List.setIfInBounds_toArray, List.set_cons_zero, List.set_cons_succ]
                        refine wpAnyH_take (i := 7) (oi := ⟨some 162, _, _, _, _, _⟩) (v := .pointer (some ⟨b, off + K, none⟩)) rfl (by kernel_rfl) (by kernel_rfl) (by kernel_rfl) (fun _ _ _ h => h) (Or.inl ⟨by rfl, ?_⟩) (by assumption) ?_
                        · intro v hSv; go_simp
                        try simp only [Act.put, List.setIfInBounds_toArray, List.set_cons_zero, List.set_cons_succ]
                        refine wpAnyH_take (i := 8) (oi := ⟨some 163, _, _, _, _, _⟩) (v := .slice kp.A kp.x.length kp.c) rfl (by kernel_rfl) (by kernel_rfl) (by kernel_rfl) (fun _ _ _ h => h) (Or.inl ⟨by rfl, ?_⟩) (by assumption) ?_
                        · intro v hSv; have hc := HCB.out v (HS9.out.trans hSv); go_simp
                        try simp only [Act.put, List.setIfInBounds_toArray, List.set_cons_zero, List.set_cons_succ]
                        refine wpAnyH_take (i := 9) (oi := ⟨some 164, _, _, _, _, _⟩) (v := .string ⟨kp.x.toArray⟩) rfl (by kernel_rfl) (by kernel_rfl) (by kernel_rfl) (fun _ _ _ h => h) (Or.inl ⟨by rfl, ?_⟩) (by assumption) ?_
                        · intro v hSv; have hc := HV2.out v (HS9.out.trans hSv); go_simp
                        try simp only [Act.put, List.setIfInBounds_toArray, List.set_cons_zero, List.set_cons_succ]
                        refine wpAnyH_take (i := 10) (oi := ⟨some 165, _, _, _, _, _⟩) (v := .bool true) rfl (by kernel_rfl) (by kernel_rfl) (by kernel_rfl) (fun _ _ _ h => h) (Or.inl ⟨by rfl, ?_⟩) (by assumption) ?_
                        · intro v hSv; have hn := HNX.out; go_simp
                        try simp only [Act.put, List.setIfInBounds_toArray, List.set_cons_zero, List.set_cons_succ]
                        refine wpAnyH_take (i := 11) (oi := ⟨some 166, _, _, _, _, _⟩) (v := ?_) rfl (by kernel_rfl) (by kernel_rfl) (by kernel_rfl) (fun _ _ _ h => h) (Or.inl ⟨by rfl, ?_⟩) (by assumption) ?_
                        rotate_left
                        · intro w hSw; (try dsimp only at hSw); go_simp; (try with_reducible rfl)
                        try simp only [Act.put, List.setIfInBounds_toArray, List.set_cons_zero, List.set_cons_succ]
                        refine wpAnyH_take (i := 12) (oi := ⟨some 167, _, _, _, _, _⟩) (v := .slice (some ⟨pP, 0, none⟩) 8 32) rfl (by kernel_rfl) (by kernel_rfl) (by kernel_rfl) (fun _ _ _ h => h) (Or.inl ⟨by rfl, ?_⟩) (by assumption) ?_
                        · intro v hSv; have hc := HCU.out v pP; go_simp
                        try simp only [Act.put, List.setIfInBounds_toArray, List.set_cons_zero, List.set_cons_succ]
                        refine wpAnyH_take (i := 13) (oi := ⟨some 168, _, _, _, _, _⟩) (v := .string ⟨D8.toArray⟩) rfl (by kernel_rfl) (by kernel_rfl) (by kernel_rfl) (fun _ _ _ h => h) (Or.inl ⟨by rfl, ?_⟩) (by assumption) ?_
                        · intro v hSv; have hc := HP9.out v hSv; go_simp
                        try simp only [Act.put, List.setIfInBounds_toArray, List.set_cons_zero, List.set_cons_succ]
                        refine wpAnyH_take (i := 14) (oi := ⟨some 169, _, _, _, _, _⟩) (v := .slice (some ⟨pQ, 0, none⟩) 8 32) rfl (by kernel_rfl) (by kernel_rfl) (by kernel_rfl) (fun _ _ _ h => h) (Or.inl ⟨by rfl, ?_⟩) (by assumption) ?_
                        · intro v hSv; have hc := HCU.out v pQ; go_simp
                        try simp only [Act.put, List.setIfInBounds_toArray, List.set_cons_zero, List.set_cons_succ]
                        refine wpAnyH_take (i := 15) (oi := ⟨some 170, _, _, _, _, _⟩) (v := .string ⟨D8.toArray⟩) rfl (by kernel_rfl) (by kernel_rfl) (by kernel_rfl) (fun _ _ _ h => h) (Or.inl ⟨by rfl, ?_⟩) (by assumption) ?_
                        · intro v hSv; have hc := HQ9.out v hSv; go_simp
                        try simp only [Act.put, List.setIfInBounds_toArray, List.set_cons_zero, List.set_cons_succ]
                        refine wpAnyH_take (i := 16) (oi := ⟨some 171, _, _, _, _, _⟩) (v := .bool true) rfl (by kernel_rfl) (by kernel_rfl) (by kernel_rfl) (fun _ _ _ h => h) (Or.inl ⟨by rfl, ?_⟩) (by assumption) ?_
                        · intro v hSv; go_simp
                        try simp only [Act.put, List.setIfInBounds_toArray, List.set_cons_zero, List.set_cons_succ]
                        refine wpAnyH_take (i := 17) (oi := ⟨some 172, _, _, _, _, _⟩) (v := ?_) rfl (by kernel_rfl) (by kernel_rfl) (by kernel_rfl) (fun _ _ _ h => h) (Or.inl ⟨by rfl, ?_⟩) (by assumption) ?_
                        rotate_left
                        · intro w hSw; (try dsimp only at hSw); go_simp; (try with_reducible rfl)
                        try simp only [Act.put, List.setIfInBounds_toArray, List.set_cons_zero, List.set_cons_succ]
                        refine wpAnyH_take (i := 18) (oi := ⟨some 173, _, _, _, _, _⟩) (v := ?_) rfl (by kernel_rfl) (by kernel_rfl) (by kernel_rfl) (fun _ _ _ h => h) (Or.inl ⟨by rfl, ?_⟩) (by assumption) ?_
                        rotate_left
                        · intro w hSw; (try dsimp only at hSw); go_simp; (try with_reducible rfl)
                        try simp only [Act.put, List.setIfInBounds_toArray, List.set_cons_zero, List.set_cons_succ]
                        refine wpAnyH_ready (rs := [19]) (by kernel_rfl) (by simp) ?_
                        refine AllReadyH.cons (o := ⟨some 174, _, _, _, _, _⟩) rfl (fun K hK => ?_) (AllReadyH.nil)
                        go_simp
                        go_at_call 16
                        refine (HKN8.out _ (HS9.out.trans Z0)).mono ?_
                        rintro e z1 ⟨rfl, gz⟩
                        have Z1 := Z0.trans gz
                        go_wp2_with fail
                        refine hK.out _ _ Z1 (fun _ => ?_)
                        clear hK K
                        try simp only [Act.put, List.setIfInBounds_toArray, List.set_cons_zero, List.set_cons_succ]
                        refine wpAnyH_take (i := 20) (oi := ⟨some 175, _, _, _, _, _⟩) (v := ?_) rfl (by kernel_rfl) (by kernel_rfl) (by kernel_rfl) (fun _ _ _ h => h) (Or.inl ⟨by rfl, ?_⟩) (by assumption) ?_
                        rotate_left
                        · intro w hSw; (try dsimp only at hSw); go_simp; (try with_reducible rfl)
                        try simp only [Act.put, List.setIfInBounds_toArray, List.set_cons_zero, List.set_cons_succ]
                        refine wpAnyH_take (i := 21) (oi := ⟨some 8, _, _, _, _, _⟩) (v := ?_) rfl (by kernel_rfl) (by kernel_rfl) (by kernel_rfl) (fun _ _ _ h => h) (Or.inl ⟨by rfl, ?_⟩) (by assumption) ?_
                        rotate_left
                        · intro w hSw; (try dsimp only at hSw); go_simp; (try with_reducible rfl)
                        try simp only [Act.put, List.setIfInBounds_toArray, List.set_cons_zero, List.set_cons_succ]
                        refine wpAnyH_done (by kernel_rfl) ?_ _
                        try simp only [Act.put]
                        go_wp2_with fail
                        go_ret
                        exact ⟨rfl, HG8.out.trans (HS9.out.trans Z1)⟩
                    · as_aux_lemma =>
                        obtain ⟨u35, hu35⟩ : ∃ u35, u35 = u30.alloc (.cells #[Value.int IntKind.u8 0, Value.int IntKind.u8 0, Value.int IntKind.u8 0, Value.int IntKind.u8 0, Value.int IntKind.u8 0, Value.int IntKind.u8 0, Value.int IntKind.u8 0, Value.int IntKind.u8 0, Value.int IntKind.u8 0, Value.int IntKind.u8 0, Value.int IntKind.u8 0, Value.int IntKind.u8 0, Value.int IntKind.u8 0, Value.int IntKind.u8 0, Value.int IntKind.u8 0, Value.int IntKind.u8 0, Value.int IntKind.u8 0, Value.int IntKind.u8 0, Value.int IntKind.u8 0, Value.int IntKind.u8 0, Value.int IntKind.u8 0, Value.int IntKind.u8 0, Value.int IntKind.u8 0, Value.int IntKind.u8 0, Value.int IntKind.u8 0, Value.int IntKind.u8 0, Value.int IntKind.u8 0, Value.int IntKind.u8 0, Value.int IntKind.u8 0, Value.int IntKind.u8 0, Value.int IntKind.u8 0, Value.int IntKind.u8 0] 30) := ⟨_, rfl⟩
                        obtain ⟨pQ, hpQ⟩ : ∃ pQ, pQ = u30.heap.size := ⟨_, rfl⟩
                        have gu35 : Chg none u30 u35 := by rw [hu35]; exact (Chg.refl _ _).alloc _
                        have S135 := S130.trans gu35
                        have bQ35 : Blk u35 pQ zero32 30 := by rw [hu35, hpQ]; exact Blk.new _ _ _
                        have loQ : w8.heap.size ≤ pQ := by rw [hpQ]; exact S130.size
                        have neP : pP ≠ pQ := by have := Blk.lt bP30; omega
                        have bP35 : Blk u35 pP zero32 30 := Blk.chg bP30 gu35 (by simp)
                        go_simp
                        rw [← hu35, ← hpQ]
                        clear hu35 hpQ gu35
                        refine hK.out _ _ S135 (fun _ => ?_)
                        clear hK K
                        try simp only [Act.put, List.setIfInBounds_toArray, List.set_cons_zero, List.set_cons_succ]
                        refine wpAnyH_ready (rs := [11]) (by kernel_rfl) (by simp) ?_
                        refine AllReadyH.cons (o := ⟨some 154, _, _, _, _, _⟩) rfl (fun K hK => ?_) (AllReadyH.nil)
                        go_simp
                        go_at_call 24
                        refine (HS2.out _ S135).mono ?_
                        rintro e u36 ⟨rfl, g236⟩
                        have S136 := S135.trans g236
                        have bP36 : Blk u36 pP zero32 30 := Blk.chg bP35 g236 (by simp)
                        have bQ36 : Blk u36 pQ zero32 30 := Blk.chg bQ35 g236 (by simp)
                        go_wp2_with fail
                        refine hK.out _ _ S136 (fun _ => ?_)
                        clear hK K
                        try simp only [Act.put, List.setIfInBounds_toArray, List.set_cons_zero, List.set_cons_succ]
                        refine wpAnyH_ready (rs := [14]) (by kernel_rfl) (by simp) ?_
                        refine AllReadyH.cons (o := ⟨none, _, _, _, _, _⟩) rfl (fun K hK => ?_) (AllReadyH.nil)
                        obtain ⟨u37, hu37⟩ : ∃ u37, u37 = World.setRow u36 pP DP.toArray := ⟨_, rfl⟩
                        have gu37 : Chg (some pP) u36 u37 := by rw [hu37]; exact chg_setRow _ _ _
                        have S137 : Chg none w8 u37 := Chg.own (b := pP) S136 gu37 loP
                        have bP37 : Blk u37 pP DP.toArray 30 := by rw [hu37]; exact setRow_heap _ _ _ _ _ _ bP36
                        have bQ37 : Blk u37 pQ zero32 30 := Blk.chg bQ36 gu37 (by simp; exact fun h => neP (by rw [h]))
                        rw [if_pos (by rfl)]
                        refine wp_store_row 30 (.tmp 21) (.tmp 148) (by rfl) pP DP.toArray (by rfl) (by rfl) 30 zero32 bP36 HIP.out HZP.out HOP.out ?_
                        rw [← hu37]
                        clear hu37 gu37
                        refine hK.out _ _ S137 (fun _ => ?_)
                        clear hK K
                        refine wpAnyH_ready (rs := [15]) (by kernel_rfl) (by simp) ?_
                        refine AllReadyH.cons (o := ⟨none, _, _, _, _, _⟩) rfl (fun K hK => ?_) (AllReadyH.nil)
                        obtain ⟨u38, hu38⟩ : ∃ u38, u38 = World.setRow u37 pQ DQ.toArray := ⟨_, rfl⟩
                        have gu38 : Chg (some pQ) u37 u38 := by rw [hu38]; exact chg_setRow _ _ _
                        have S138 : Chg none w8 u38 := Chg.own (b := pQ) S137 gu38 loQ
                        have bQ38 : Blk u38 pQ DQ.toArray 30 := by rw [hu38]; exact setRow_heap _ _ _ _ _ _ bQ37
                        have bP38 : Blk u38 pP DP.toArray 30 := Blk.chg bP37 gu38 (by simp; exact fun h => neP (by rw [h]))
                        rw [if_pos (by rfl)]
                        refine wp_store_row 30 (.tmp 22) (.tmp 154) (by rfl) pQ DQ.toArray (by rfl) (by rfl) 30 zero32 bQ37 HIQ.out HZQ.out HOQ.out ?_
                        rw [← hu38]
                        clear hu38 gu38
                        refine hK.out _ _ S138 (fun _ => ?_)
                        clear hK K
                        refine wpAnyH_done (by kernel_rfl) ?_ _
                        try simp only [Act.put]
                        have HP9 : Hid (∀ v, Chg none u38 v → (convert 22 9 (.slice (some ⟨pP, 0, none⟩) 8 32)).run Tryd.prog v = .ok (.string ⟨D8.toArray⟩) v) := fun v g => HBP.out v pP (Blk.chg bP38 g (by simp))
                        have HQ9 : Hid (∀ v, Chg none u38 v → (convert 22 9 (.slice (some ⟨pQ, 0, none⟩) 8 32)).run Tryd.prog v = .ok (.string ⟨D8.toArray⟩) v) := fun v g => HBQ.out v pQ (Blk.chg bQ38 g (by simp))
                        have HS9 := Lib.hid S138
                        obtain ⟨wz, hwz⟩ : ∃ wz, wz = u38 := ⟨_, rfl⟩
                        rw [← hwz] at HP9 HQ9 HS9 ⊢
                        clear hwz
                        go_upto_region 34 with fail
                        have Z0 : Chg none wz wz.drew := (Chg.refl none wz).drew
                        refine wp_region_held_drew (S := fun v => Chg none wz v) (by kernel_rfl) Z0 (fun _ => ?_)
                        refine wpAnyH_take (i := 0) (oi := ⟨some 155, _, _, _, _, _⟩) (v := ?_) rfl (by kernel_rfl) (by kernel_rfl) (by kernel_rfl) (fun _ _ _ h => h) (Or.inl ⟨by rfl, ?_⟩) (by assumption) ?_
                        rotate_left
                        · intro w hSw; (try dsimp only at hSw); go_simp; (try with_reducible rfl)
                        try simp only [Act.put, List.setIfInBounds_toArray, List.set_cons_zero, List.set_cons_succ]
                        refine wpAnyH_take (i := 1) (oi := ⟨some 156, _, _, _, _, _⟩) (v := ?_) rfl (by kernel_rfl) (by kernel_rfl) (by kernel_rfl) (fun _ _ _ h => h) (Or.inl ⟨by rfl, ?_⟩) (by assumption) ?_
                        rotate_left
                        · intro w hSw; (try dsimp only at hSw); go_simp; (try with_reducible rfl)
                        try simp only [Act.put, List.setIfInBounds_toArray, List.set_cons_zero, List.set_cons_succ]
                        refine wpAnyH_take (i := 2) (oi := ⟨some 157, _, _, _, _, _⟩) (v := .pointer (some ⟨gA, K, none⟩)) rfl (by kernel_rfl) (by kernel_rfl) (by kernel_rfl) (fun _ _ _ h => h) (Or.inl ⟨by rfl, ?_⟩) (by assumption) ?_
                        · intro v hSv; go_simp
                        try simp only [Act.put, List.setIfInBounds_toArray, List.set_cons_zero, List.set_cons_succ]
                        refine wpAnyH_take (i := 3) (oi := ⟨some 158, _, _, _, _, _⟩) (v := .slice r.A r.x.length r.c) rfl (by kernel_rfl) (by kernel_rfl) (by kernel_rfl) (fun _ _ _ h => h) (Or.inl ⟨by rfl, ?_⟩) (by assumption) ?_
                        · intro v hSv; have hc := HCA.out v (HS9.out.trans hSv); go_simp
                        try simp only [Act.put, List.setIfInBounds_toArray, List.set_cons_zero, List.set_cons_succ]
                        refine wpAnyH_take (i := 4) (oi := ⟨some 159, _, _, _, _, _⟩) (v := .string ⟨r.x.toArray⟩) rfl (by kernel_rfl) (by kernel_rfl) (by kernel_rfl) (fun _ _ _ h => h) (Or.inl ⟨by rfl, ?_⟩) (by assumption) ?_
                        · intro v hSv; have hc := HV1.out v (HS9.out.trans hSv); go_simp
                        try simp only [Act.put, List.setIfInBounds_toArray, List.set_cons_zero, List.set_cons_succ]
                        refine wpAnyH_take (i := 5) (oi := ⟨some 160, _, _, _, _, _⟩) (v := ?_) rfl (by kernel_rfl) (by kernel_rfl) (by kernel_rfl) (fun _ _ _ h => h) (Or.inl ⟨by rfl, ?_⟩) (by assumption) ?_
                        rotate_left
                        · intro w hSw; (try dsimp only at hSw); go_simp; (try with_reducible rfl)
                        try simp only [Act.put, List.setIfInBounds_toArray, List.set_cons_zero, List.set_cons_succ]
                        refine wpAnyH_take (i := 6) (oi := ⟨some 161, _, _, _, _, _⟩) (v := ?_) rfl (by kernel_rfl) (by kernel_rfl) (by kernel_rfl) (fun _ _ _ h => h) (Or.inl ⟨by rfl, ?_⟩) (by assumption) ?_
                        rotate_left
                        · intro w hSw; (try dsimp only at hSw); go_simp; (try with_reducible rfl)
                        try simp only [Act.put, List.setIfInBounds_toArray, List.set_cons_zero, List.set_cons_succ]
                        refine wpAnyH_take (i := 7) (oi := ⟨some 162, _, _, _, _, _⟩) (v := .pointer (some ⟨b, off + K, none⟩)) rfl (by kernel_rfl) (by kernel_rfl) (by kernel_rfl) (fun _ _ _ h => h) (Or.inl ⟨by rfl, ?_⟩) (by assumption) ?_
                        · intro v hSv; go_simp
                        try simp only [Act.put, List.setIfInBounds_toArray, List.set_cons_zero, List.set_cons_succ]
                        refine wpAnyH_take (i := 8) (oi := ⟨some 163, _, _, _, _, _⟩) (v := .slice kp.A kp.x.length kp.c) rfl (by kernel_rfl) (by kernel_rfl) (by kernel_rfl) (fun _ _ _ h => h) (Or.inl ⟨by rfl, ?_⟩) (by assumption) ?_
                        · intro v hSv; have hc := HCB.out v (HS9.out.trans hSv); go_simp
                        try simp only [Act.put, List.setIfInBounds_toArray, List.set_cons_zero, List.set_cons_succ]
                        refine wpAnyH_take (i := 9) (oi := ⟨some 164, _, _, _, _, _⟩) (v := .string ⟨kp.x.toArray⟩) rfl (by kernel_rfl) (by kernel_rfl) (by kernel_rfl) (fun _ _ _ h => h) (Or.inl ⟨by rfl, ?_⟩) (by assumption) ?_
                        · intro v hSv; have hc := HV2.out v (HS9.out.trans hSv); go_simp
                        try simp only [Act.put, List.setIfInBounds_toArray, List.set_cons_zero, List.set_cons_succ]
                        refine wpAnyH_take (i := 10) (oi := ⟨some 165, _, _, _, _, _⟩) (v := .bool true) rfl (by kernel_rfl) (by kernel_rfl) (by kernel_rfl) (fun _ _ _ h => h) (Or.inl ⟨by rfl, ?_⟩) (by assumption) ?_
                        · intro v hSv; have hn := HNX.out; go_simp
                        try simp only [Act.put, List.setIfInBounds_toArray, List.set_cons_zero, List.set_cons_succ]
                        refine wpAnyH_take (i := 11) (oi := ⟨some 166, _, _, _, _, _⟩) (v := ?_) rfl (by kernel_rfl) (by kernel_rfl) (by kernel_rfl) (fun _ _ _ h => h) (Or.inl ⟨by rfl, ?_⟩) (by assumption) ?_
                        rotate_left
                        · intro w hSw; (try dsimp only at hSw); go_simp; (try with_reducible rfl)
                        try simp only [Act.put, List.setIfInBounds_toArray, List.set_cons_zero, List.set_cons_succ]
                        refine wpAnyH_take (i := 12) (oi := ⟨some 167, _, _, _, _, _⟩) (v := .slice (some ⟨pP, 0, none⟩) 8 32) rfl (by kernel_rfl) (by kernel_rfl) (by kernel_rfl) (fun _ _ _ h => h) (Or.inl ⟨by rfl, ?_⟩) (by assumption) ?_
                        · intro v hSv; have hc := HCU.out v pP; go_simp
                        try simp only [Act.put, List.setIfInBounds_toArray, List.set_cons_zero, List.set_cons_succ]
                        refine wpAnyH_take (i := 13) (oi := ⟨some 168, _, _, _, _, _⟩) (v := .string ⟨D8.toArray⟩) rfl (by kernel_rfl) (by kernel_rfl) (by kernel_rfl) (fun _ _ _ h => h) (Or.inl ⟨by rfl, ?_⟩) (by assumption) ?_
                        · intro v hSv; have hc := HP9.out v hSv; go_simp
                        try simp only [Act.put, List.setIfInBounds_toArray, List.set_cons_zero, List.set_cons_succ]
                        refine wpAnyH_take (i := 14) (oi := ⟨some 169, _, _, _, _, _⟩) (v := .slice (some ⟨pQ, 0, none⟩) 8 32) rfl (by kernel_rfl) (by kernel_rfl) (by kernel_rfl) (fun _ _ _ h => h) (Or.inl ⟨by rfl, ?_⟩) (by assumption) ?_
                        · intro v hSv; have hc := HCU.out v pQ; go_simp
                        try simp only [Act.put, List.setIfInBounds_toArray, List.set_cons_zero, List.set_cons_succ]
                        refine wpAnyH_take (i := 15) (oi := ⟨some 170, _, _, _, _, _⟩) (v := .string ⟨D8.toArray⟩) rfl (by kernel_rfl) (by kernel_rfl) (by kernel_rfl) (fun _ _ _ h => h) (Or.inl ⟨by rfl, ?_⟩) (by assumption) ?_
                        · intro v hSv; have hc := HQ9.out v hSv; go_simp
                        try simp only [Act.put, List.setIfInBounds_toArray, List.set_cons_zero, List.set_cons_succ]
                        refine wpAnyH_take (i := 16) (oi := ⟨some 171, _, _, _, _, _⟩) (v := .bool true) rfl (by kernel_rfl) (by kernel_rfl) (by kernel_rfl) (fun _ _ _ h => h) (Or.inl ⟨by rfl, ?_⟩) (by assumption) ?_
                        · intro v hSv; go_simp
                        try simp only [Act.put, List.setIfInBounds_toArray, List.set_cons_zero, List.set_cons_succ]
                        refine wpAnyH_take (i := 17) (oi := ⟨some 172, _, _, _, _, _⟩) (v := ?_) rfl (by kernel_rfl) (by kernel_rfl) (by kernel_rfl) (fun _ _ _ h => h) (Or.inl ⟨by rfl, ?_⟩) (by assumption) ?_
                        rotate_left
                        · intro w hSw; (try dsimp only at hSw); go_simp; (try with_reducible rfl)
                        try simp only [Act.put, List.setIfInBounds_toArray, List.set_cons_zero, List.set_cons_succ]
                        refine wpAnyH_take (i := 18) (oi := ⟨some 173, _, _, _, _, _⟩) (v := ?_) rfl (by kernel_rfl) (by kernel_rfl) (by kernel_rfl) (fun _ _ _ h => h) (Or.inl ⟨by rfl, ?_⟩) (by assumption) ?_
                        rotate_left
                        · intro w hSw; (try dsimp only at hSw); go_simp; (try with_reducible rfl)
                        try simp only [Act.put, List.setIfInBounds_toArray, List.set_cons_zero, List.set_cons_succ]
                        refine wpAnyH_ready (rs := [19]) (by kernel_rfl) (by simp) ?_
                        refine AllReadyH.cons (o := ⟨some 174, _, _, _, _, _⟩) rfl (fun K hK => ?_) (AllReadyH.nil)
                        go_simp
                        go_at_call 16
                        refine (HKN8.out _ (HS9.out.trans Z0)).mono ?_
                        rintro e z1 ⟨rfl, gz⟩
                        have Z1 := Z0.trans gz
                        go_wp2_with fail
                        refine hK.out _ _ Z1 (fun _ => ?_)
                        clear hK K
                        try simp only [Act.put, List.setIfInBounds_toArray, List.set_cons_zero, List.set_cons_succ]
                        refine wpAnyH_take (i := 20) (oi := ⟨some 175, _, _, _, _, _⟩) (v := ?_) rfl (by kernel_rfl) (by kernel_rfl) (by kernel_rfl) (fun _ _ _ h => h) (Or.inl ⟨by rfl, ?_⟩) (by assumption) ?_
                        rotate_left
                        · intro w hSw; (try dsimp only at hSw); go_simp; (try with_reducible rfl)
                        try simp only [Act.put, List.setIfInBounds_toArray, List.set_cons_zero, List.set_cons_succ]
                        refine wpAnyH_take (i := 21) (oi := ⟨some 8, _, _, _, _, _⟩) (v := ?_) rfl (by kernel_rfl) (by kernel_rfl) (by kernel_rfl) (fun _ _ _ h => h) (Or.inl ⟨by rfl, ?_⟩) (by assumption) ?_
                        rotate_left
                        · intro w hSw; (try dsimp only at hSw); go_simp; (try with_reducible rfl)
                        try simp only [Act.put, List.setIfInBounds_toArray, List.set_cons_zero, List.set_cons_succ]
                        refine wpAnyH_done (by kernel_rfl) ?_ _
                        try simp only [Act.put]
                        go_wp2_with fail
                        go_ret
                        exact ⟨rfl, HG8.out.trans (HS9.out.trans Z1)⟩
                · as_aux_lemma =>
                    obtain ⟨u39, hu39⟩ : ∃ u39, u39 = u29.alloc (.cells #[Value.int IntKind.u8 0, Value.int IntKind.u8 0, Value.int IntKind.u8 0, Value.int IntKind.u8 0, Value.int IntKind.u8 0, Value.int IntKind.u8 0, Value.int IntKind.u8 0, Value.int IntKind.u8 0, Value.int IntKind.u8 0, Value.int IntKind.u8 0, Value.int IntKind.u8 0, Value.int IntKind.u8 0, Value.int IntKind.u8 0, Value.int IntKind.u8 0, Value.int IntKind.u8 0, Value.int IntKind.u8 0, Value.int IntKind.u8 0, Value.int IntKind.u8 0, Value.int IntKind.u8 0, Value.int IntKind.u8 0, Value.int IntKind.u8 0, Value.int IntKind.u8 0, Value.int IntKind.u8 0, Value.int IntKind.u8 0, Value.int IntKind.u8 0, Value.int IntKind.u8 0, Value.int IntKind.u8 0, Value.int IntKind.u8 0, Value.int IntKind.u8 0, Value.int IntKind.u8 0, Value.int IntKind.u8 0, Value.int IntKind.u8 0] 30) := ⟨_, rfl⟩
                    obtain ⟨pQ, hpQ⟩ : ∃ pQ, pQ = u29.heap.size := ⟨_, rfl⟩
                    have gu39 : Chg none u29 u39 := by rw [hu39]; exact (Chg.refl _ _).alloc _
                    have S139 := S129.trans gu39
                    have bQ39 : Blk u39 pQ zero32 30 := by rw [hu39, hpQ]; exact Blk.new _ _ _
                    have loQ : w8.heap.size ≤ pQ := by rw [hpQ]; exact S129.size
                    have neP : pP ≠ pQ := by have := Blk.lt bP29; omega
                    have bP39 : Blk u39 pP zero32 30 := Blk.chg bP29 gu39 (by simp)
                    go_simp
                    rw [← hu39, ← hpQ]
                    clear hu39 hpQ gu39
                    refine hK.out _ _ S139 (fun _ => ?_)
                    clear hK K
                    try simp only [Act.put, List.setIfInBounds_toArray, List.set_cons_zero, List.set_cons_succ]
                    refine wpAnyH_ready (rs := [5]) (by kernel_rfl) (by simp) ?_
                    refine AllReadyH.cons (o := ⟨some 148, _, _, _, _, _⟩) rfl (fun K hK => ?_) (AllReadyH.nil)
                    go_simp
                    go_at_call 24
                    refine (HS1.out _ S139).mono ?_
                    rintro e u40 ⟨rfl, g240⟩
                    have S140 := S139.trans g240
                    have bP40 : Blk u40 pP zero32 30 := Blk.chg bP39 g240 (by simp)
                    have bQ40 : Blk u40 pQ zero32 30 := Blk.chg bQ39 g240 (by simp)
                    go_wp2_with fail
                    refine hK.out _ _ S140 (fun _ => ?_)
                    clear hK K
                    try simp only [Act.put, List.setIfInBounds_toArray, List.set_cons_zero, List.set_cons_succ]
                    refine wpAnyH_ready (rs := [11]) (by kernel_rfl) (by simp) ?_
                    refine AllReadyH.cons (o := ⟨some 154, _, _, _, _, _⟩) rfl (fun K hK => ?_) (AllReadyH.nil)
                    go_simp
                    go_at_call 24
                    refine (HS2.out _ S140).mono ?_
                    rintro e u41 ⟨rfl, g241⟩
                    have S141 := S140.trans g241
                    have bP41 : Blk u41 pP zero32 30 := Blk.chg bP40 g241 (by simp)
                    have bQ41 : Blk u41 pQ zero32 30 := Blk.chg bQ40 g241 (by simp)
                    go_wp2_with fail
                    refine hK.out _ _ S141 (fun _ => ?_)
                    clear hK K
                    try simp only [Act.put, List.setIfInBounds_toArray, List.set_cons_zero, List.set_cons_succ]
                    refine wpAnyH_ready (rs := [14]) (by kernel_rfl) (by simp) ?_
                    refine AllReadyH.cons (o := ⟨none, _, _, _, _, _⟩) rfl (fun K hK => ?_) (AllReadyH.nil)
                    obtain ⟨u42, hu42⟩ : ∃ u42, u42 = World.setRow u41 pP DP.toArray := ⟨_, rfl⟩
                    have gu42 : Chg (some pP) u41 u42 := by rw [hu42]; exact chg_setRow _ _ _
                    have S142 : Chg none w8 u42 := Chg.own (b := pP) S141 gu42 loP
                    have bP42 : Blk u42 pP DP.toArray 30 := by rw [hu42]; exact setRow_heap _ _ _ _ _ _ bP41
                    have bQ42 : Blk u42 pQ zero32 30 := Blk.chg bQ41 gu42 (by simp; exact fun h => neP (by rw [h]))
                    rw [if_pos (by rfl)]
                    refine wp_store_row 30 (.tmp 21) (.tmp 148) (by rfl) pP DP.toArray (by rfl) (by rfl) 30 zero32 bP41 HIP.out HZP.out HOP.out ?_
                    rw [← hu42]
                    clear hu42 gu42
                    refine hK.out _ _ S142 (fun _ => ?_)
                    clear hK K
                    refine wpAnyH_ready (rs := [15]) (by kernel_rfl) (by simp) ?_
                    refine AllReadyH.cons (o := ⟨none, _, _, _, _, _⟩) rfl (fun K hK => ?_) (AllReadyH.nil)
                    obtain ⟨u43, hu43⟩ : ∃ u43, u43 = World.setRow u42 pQ DQ.toArray := ⟨_, rfl⟩
                    have gu43 : Chg (some pQ) u42 u43 := by rw [hu43]; exact chg_setRow _ _ _
                    have S143 : Chg none w8 u43 := Chg.own (b := pQ) S142 gu43 loQ
                    have bQ43 : Blk u43 pQ DQ.toArray 30 := by rw [hu43]; exact setRow_heap _ _ _ _ _ _ bQ42
                    have bP43 : Blk u43 pP DP.toArray 30 := Blk.chg bP42 gu43 (by simp; exact fun h => neP (by rw [h]))
                    rw [if_pos (by rfl)]
                    refine wp_store_row 30 (.tmp 22) (.tmp 154) (by rfl) pQ DQ.toArray (by rfl) (by rfl) 30 zero32 bQ42 HIQ.out HZQ.out HOQ.out ?_
                    rw [← hu43]
                    clear hu43 gu43
                    refine hK.out _ _ S143 (fun _ => ?_)
                    clear hK K
                    refine wpAnyH_done (by kernel_rfl) ?_ _
                    try simp only [Act.put]
                    have HP9 : Hid (∀ v, Chg none u43 v → (convert 22 9 (.slice (some ⟨pP, 0, none⟩) 8 32)).run Tryd.prog v = .ok (.string ⟨D8.toArray⟩) v) := fun v g => HBP.out v pP (Blk.chg bP43 g (by simp))
                    have HQ9 : Hid (∀ v, Chg none u43 v → (convert 22 9 (.slice (some ⟨pQ, 0, none⟩) 8 32)).run Tryd.prog v = .ok (.string ⟨D8.toArray⟩) v) := fun v g => HBQ.out v pQ (Blk.chg bQ43 g (by simp))
                    have HS9 := Lib.hid S143
                    obtain ⟨wz, hwz⟩ : ∃ wz, wz = u43 := ⟨_, rfl⟩
                    rw [← hwz] at HP9 HQ9 HS9 ⊢
                    clear hwz
                    go_upto_region 34 with fail
                    have Z0 : Chg none wz wz.drew := (Chg.refl none wz).drew
                    refine wp_region_held_drew (S := fun v => Chg none wz v) (by kernel_rfl) Z0 (fun _ => ?_)
                    refine wpAnyH_take (i := 0) (oi := ⟨some 155, _, _, _, _, _⟩) (v := ?_) rfl (by kernel_rfl) (by kernel_rfl) (by kernel_rfl) (fun _ _ _ h => h) (Or.inl ⟨by rfl, ?_⟩) (by assumption) ?_
                    rotate_left
                    · intro w hSw; (try dsimp only at hSw); go_simp; (try with_reducible rfl)
                    try simp only [Act.put, List.setIfInBounds_toArray, List.set_cons_zero, List.set_cons_succ]
                    refine wpAnyH_take (i := 1) (oi := ⟨some 156, _, _, _, _, _⟩) (v := ?_) rfl (by kernel_rfl) (by kernel_rfl) (by kernel_rfl) (fun _ _ _ h => h) (Or.inl ⟨by rfl, ?_⟩) (by assumption) ?_
                    rotate_left
                    · intro w hSw; (try dsimp only at hSw); go_simp; (try with_reducible rfl)
                    try simp only [Act.put, List.setIfInBounds_toArray, List.set_cons_zero, List.set_cons_succ]
                    refine wpAnyH_take (i := 2) (oi := ⟨some 157, _, _, _, _, _⟩) (v := .pointer (some ⟨gA, K, none⟩)) rfl (by kernel_rfl) (by kernel_rfl) (by kernel_rfl) (fun _ _ _ h => h) (Or.inl ⟨by rfl, ?_⟩) (by assumption) ?_
                    · intro v hSv; go_simp
                    try simp only [Act.put, List.setIfInBounds_toArray, List.set_cons_zero, List.set_cons_succ]
                    refine wpAnyH_take (i := 3) (oi := ⟨some 158, _, _, _, _, _⟩) (v := .slice r.A r.x.length r.c) rfl (by kernel_rfl) (by kernel_rfl) (by kernel_rfl) (fun _ _ _ h => h) (Or.inl ⟨by rfl, ?_⟩) (by assumption) ?_
                    · intro v hSv; have hc := HCA.out v (HS9.out.trans hSv); go_simp
                    try simp only [Act.put, List.setIfInBounds_toArray, List.set_cons_zero, List.set_cons_succ]
                    refine wpAnyH_take (i := 4) (oi := ⟨some 159, _, _, _, _, _⟩) (v := .string ⟨r.x.toArray⟩) rfl (by kernel_rfl) (by kernel_rfl) (by kernel_rfl) (fun _ _ _ h => h) (Or.inl ⟨by rfl, ?_⟩) (by assumption) ?_
                    · intro v hSv; have hc := HV1.out v (HS9.out.trans hSv); go_simp
                    try simp only [Act.put, List.setIfInBounds_toArray, List.set_cons_zero, List.set_cons_succ]
                    refine wpAnyH_take (i := 5) (oi := ⟨some 160, _, _, _, _, _⟩) (v := ?_) rfl (by kernel_rfl) (by kernel_rfl) (by kernel_rfl) (fun _ _ _ h => h) (Or.inl ⟨by rfl, ?_⟩) (by assumption) ?_
                    rotate_left
                    · intro w hSw; (try dsimp only at hSw); go_simp; (try with_reducible rfl)
                    try simp only [Act.put, List.setIfInBounds_toArray, List.set_cons_zero, List.set_cons_succ]
                    refine wpAnyH_take (i := 6) (oi := ⟨some 161, _, _, _, _, _⟩) (v := ?_) rfl (by kernel_rfl) (by kernel_rfl) (by kernel_rfl) (fun _ _ _ h => h) (Or.inl ⟨by rfl, ?_⟩) (by assumption) ?_
                    rotate_left
                    · intro w hSw; (try dsimp only at hSw); go_simp; (try with_reducible rfl)
                    try simp only [Act.put, List.setIfInBounds_toArray, List.set_cons_zero, List.set_cons_succ]
                    refine wpAnyH_take (i := 7) (oi := ⟨some 162, _, _, _, _, _⟩) (v := .pointer (some ⟨b, off + K, none⟩)) rfl (by kernel_rfl) (by kernel_rfl) (by kernel_rfl) (fun _ _ _ h => h) (Or.inl ⟨by rfl, ?_⟩) (by assumption) ?_
                    · intro v hSv; go_simp
                    try simp only [Act.put, List.setIfInBounds_toArray, List.set_cons_zero, List.set_cons_succ]
                    refine wpAnyH_take (i := 8) (oi := ⟨some 163, _, _, _, _, _⟩) (v := .slice kp.A kp.x.length kp.c) rfl (by kernel_rfl) (by kernel_rfl) (by kernel_rfl) (fun _ _ _ h => h) (Or.inl ⟨by rfl, ?_⟩) (by assumption) ?_
                    · intro v hSv; have hc := HCB.out v (HS9.out.trans hSv); go_simp
                    try simp only [Act.put, List.setIfInBounds_toArray, List.set_cons_zero, List.set_cons_succ]
                    refine wpAnyH_take (i := 9) (oi := ⟨some 164, _, _, _, _, _⟩) (v := .string ⟨kp.x.toArray⟩) rfl (by kernel_rfl) (by kernel_rfl) (by kernel_rfl) (fun _ _ _ h => h) (Or.inl ⟨by rfl, ?_⟩) (by assumption) ?_
                    · intro v hSv; have hc := HV2.out v (HS9.out.trans hSv); go_simp
                    try simp only [Act.put, List.setIfInBounds_toArray, List.set_cons_zero, List.set_cons_succ]
                    refine wpAnyH_take (i := 10) (oi := ⟨some 165, _, _, _, _, _⟩) (v := .bool true) rfl (by kernel_rfl) (by kernel_rfl) (by kernel_rfl) (fun _ _ _ h => h) (Or.inl ⟨by rfl, ?_⟩) (by assumption) ?_
                    · intro v hSv; have hn := HNX.out; go_simp
                    try simp only [Act.put, List.setIfInBounds_toArray, List.set_cons_zero, List.set_cons_succ]
                    refine wpAnyH_take (i := 11) (oi := ⟨some 166, _, _, _, _, _⟩) (v := ?_) rfl (by kernel_rfl) (by kernel_rfl) (by kernel_rfl) (fun _ _ _ h => h) (Or.inl ⟨by rfl, ?_⟩) (by assumption) ?_
                    rotate_left
                    · intro w hSw; (try dsimp only at hSw); go_simp; (try with_reducible rfl)
                    try simp only [Act.put, List.setIfInBounds_toArray, List.set_cons_zero, List.set_cons_succ]
                    refine wpAnyH_take (i := 12) (oi := ⟨some 167, _, _, _, _, _⟩) (v := .slice (some ⟨pP, 0, none⟩) 8 32) rfl (by kernel_rfl) (by kernel_rfl) (by kernel_rfl) (fun _ _ _ h => h) (Or.inl ⟨by rfl, ?_⟩) (by assumption) ?_
                    · intro v hSv; have hc := HCU.out v pP; go_simp
                    try simp only [Act.put, List.setIfInBounds_toArray, List.set_cons_zero, List.set_cons_succ]
                    refine wpAnyH_take (i := 13) (oi := ⟨some 168, _, _, _, _, _⟩) (v := .string ⟨D8.toArray⟩) rfl (by kernel_rfl) (by kernel_rfl) (by kernel_rfl) (fun _ _ _ h => h) (Or.inl ⟨by rfl, ?_⟩) (by assumption) ?_
                    · intro v hSv; have hc := HP9.out v hSv; go_simp
                    try simp only [Act.put, List.setIfInBounds_toArray, List.set_cons_zero, List.set_cons_succ]
                    refine wpAnyH_take (i := 14) (oi := ⟨some 169, _, _, _, _, _⟩) (v := .slice (some ⟨pQ, 0, none⟩) 8 32) rfl (by kernel_rfl) (by kernel_rfl) (by kernel_rfl) (fun _ _ _ h => h) (Or.inl ⟨by rfl, ?_⟩) (by assumption) ?_
                    · intro v hSv; have hc := HCU.out v pQ; go_simp
                    try simp only [Act.put, List.setIfInBounds_toArray, List.set_cons_zero, List.set_cons_succ]
                    refine wpAnyH_take (i := 15) (oi := ⟨some 170, _, _, _, _, _⟩) (v := .string ⟨D8.toArray⟩) rfl (by kernel_rfl) (by kernel_rfl) (by kernel_rfl) (fun _ _ _ h => h) (Or.inl ⟨by rfl, ?_⟩) (by assumption) ?_
                    · intro v hSv; have hc := HQ9.out v hSv; go_simp
                    try simp only [Act.put, List.setIfInBounds_toArray, List.set_cons_zero, List.set_cons_succ]
                    refine wpAnyH_take (i := 16) (oi := ⟨some 171, _, _, _, _, _⟩) (v := .bool true) rfl (by kernel_rfl) (by kernel_rfl) (by kernel_rfl) (fun _ _ _ h => h) (Or.inl ⟨by rfl, ?_⟩) (by assumption) ?_
                    · intro v hSv; go_simp
                    try simp only [Act.put, List.setIfInBounds_toArray, List.set_cons_zero, List.set_cons_succ]
                    refine wpAnyH_take (i := 17) (oi := ⟨some 172, _, _, _, _, _⟩) (v := ?_) rfl (by kernel_rfl) (by kernel_rfl) (by kernel_rfl) (fun _ _ _ h => h) (Or.inl ⟨by rfl, ?_⟩) (by assumption) ?_
                    rotate_left
                    · intro w hSw; (try dsimp only at hSw); go_simp; (try with_reducible rfl)
                    try simp only [Act.put, List.setIfInBounds_toArray, List.set_cons_zero, List.set_cons_succ]
                    refine wpAnyH_take (i := 18) (oi := ⟨some 173, _, _, _, _, _⟩) (v := ?_) rfl (by kernel_rfl) (by kernel_rfl) (by kernel_rfl) (fun _ _ _ h => h) (Or.inl ⟨by rfl, ?_⟩) (by assumption) ?_
                    rotate_left
                    · intro w hSw; (try dsimp only at hSw); go_simp; (try with_reducible rfl)
                    try simp only [Act.put, List.setIfInBounds_toArray, List.set_cons_zero, List.set_cons_succ]
                    refine wpAnyH_ready (rs := [19]) (by kernel_rfl) (by simp) ?_
                    refine AllReadyH.cons (o := ⟨some 174, _, _, _, _, _⟩) rfl (fun K hK => ?_) (AllReadyH.nil)
                    go_simp
                    go_at_call 16
                    refine (HKN8.out _ (HS9.out.trans Z0)).mono ?_
                    rintro e z1 ⟨rfl, gz⟩
                    have Z1 := Z0.trans gz
                    go_wp2_with fail
                    refine hK.out _ _ Z1 (fun _ => ?_)
                    clear hK K
                    try simp only [Act.put, List.setIfInBounds_toArray, List.set_cons_zero, List.set_cons_succ]
                    refine wpAnyH_take (i := 20) (oi := ⟨some 175, _, _, _, _, _⟩) (v := ?_) rfl (by kernel_rfl) (by kernel_rfl) (by kernel_rfl) (fun _ _ _ h => h) (Or.inl ⟨by rfl, ?_⟩) (by assumption) ?_
                    rotate_left
                    · intro w hSw; (try dsimp only at hSw); go_simp; (try with_reducible rfl)
                    try simp only [Act.put, List.setIfInBounds_toArray, List.set_cons_zero, List.set_cons_succ]
                    refine wpAnyH_take (i := 21) (oi := ⟨some 8, _, _, _, _, _⟩) (v := ?_) rfl (by kernel_rfl) (by kernel_rfl) (by kernel_rfl) (fun _ _ _ h => h) (Or.inl ⟨by rfl, ?_⟩) (by assumption) ?_
                    rotate_left
                    · intro w hSw; (try dsimp only at hSw); go_simp; (try with_reducible rfl)
                    try simp only [Act.put, List.setIfInBounds_toArray, List.set_cons_zero, List.set_cons_succ]
                    refine wpAnyH_done (by kernel_rfl) ?_ _
                    try simp only [Act.put]
                    go_wp2_with fail
                    go_ret
                    exact ⟨rfl, HG8.out.trans (HS9.out.trans Z1)⟩
            · as_aux_lemma =>
                obtain ⟨u44, hu44⟩ : ∃ u44, u44 = v0.alloc (.cells #[Value.int IntKind.u8 0, Value.int IntKind.u8 0, Value.int IntKind.u8 0, Value.int IntKind.u8 0, Value.int IntKind.u8 0, Value.int IntKind.u8 0, Value.int IntKind.u8 0, Value.int IntKind.u8 0, Value.int IntKind.u8 0, Value.int IntKind.u8 0, Value.int IntKind.u8 0, Value.int IntKind.u8 0, Value.int IntKind.u8 0, Value.int IntKind.u8 0, Value.int IntKind.u8 0, Value.int IntKind.u8 0, Value.int IntKind.u8 0, Value.int IntKind.u8 0, Value.int IntKind.u8 0, Value.int IntKind.u8 0, Value.int IntKind.u8 0, Value.int IntKind.u8 0, Value.int IntKind.u8 0, Value.int IntKind.u8 0, Value.int IntKind.u8 0, Value.int IntKind.u8 0, Value.int IntKind.u8 0, Value.int IntKind.u8 0, Value.int IntKind.u8 0, Value.int IntKind.u8 0, Value.int IntKind.u8 0, Value.int IntKind.u8 0] 30) := ⟨_, rfl⟩
                obtain ⟨pQ, hpQ⟩ : ∃ pQ, pQ = v0.heap.size := ⟨_, rfl⟩
                have gu44 : Chg none v0 u44 := by rw [hu44]; exact (Chg.refl _ _).alloc _
                have S144 := S0.trans gu44
                have bQ44 : Blk u44 pQ zero32 30 := by rw [hu44, hpQ]; exact Blk.new _ _ _
                have loQ : w8.heap.size ≤ pQ := by rw [hpQ]; exact S0.size
                go_simp
                rw [← hu44, ← hpQ]
                clear hu44 hpQ gu44
                refine hK.out _ _ S144 (fun _ => ?_)
                clear hK K
                try simp only [Act.put, List.setIfInBounds_toArray, List.set_cons_zero, List.set_cons_succ]
                refine wpAnyH_ready (rs := [5, 12]) (by kernel_rfl) (by simp) ?_
                refine AllReadyH.cons (o := ⟨some 148, _, _, _, _, _⟩) rfl (fun K hK => ?_) (AllReadyH.cons (o := ⟨some 21, _, _, _, _, _⟩) rfl (fun K hK => ?_) (AllReadyH.nil))
                · as_aux_lemma =>
                    go_simp
                    go_at_call 24
                    refine (HS1.out _ S144).mono ?_
                    rintro e u45 ⟨rfl, g245⟩
                    have S145 := S144.trans g245
                    have bQ45 : Blk u45 pQ zero32 30 := Blk.chg bQ44 g245 (by simp)
                    go_wp2_with fail
                    refine hK.out _ _ S145 (fun _ => ?_)
                    clear hK K
                    try simp only [Act.put, List.setIfInBounds_toArray, List.set_cons_zero, List.set_cons_succ]
                    refine wpAnyH_ready (rs := [11, 12]) (by kernel_rfl) (by simp) ?_
                    refine AllReadyH.cons (o := ⟨some 154, _, _, _, _, _⟩) rfl (fun K hK => ?_) (AllReadyH.cons (o := ⟨some 21, _, _, _, _, _⟩) rfl (fun K hK => ?_) (AllReadyH.nil))
                    · as_aux_lemma =>
                        go_simp
                        go_at_call 24
                        refine (HS2.out _ S145).mono ?_
                        rintro e u46 ⟨rfl, g246⟩
                        have S146 := S145.trans g246
                        have bQ46 : Blk u46 pQ zero32 30 := Blk.chg bQ45 g246 (by simp)
                        go_wp2_with fail
                        refine hK.out _ _ S146 (fun _ => ?_)
                        clear hK K
                        try simp only [Act.put, List.setIfInBounds_toArray, List.set_cons_zero, List.set_cons_succ]
                        refine wpAnyH_ready (rs := [12]) (by kernel_rfl) (by simp) ?_
                        refine AllReadyH.cons (o := ⟨some 21, _, _, _, _, _⟩) rfl (fun K hK => ?_) (AllReadyH.nil)
                        obtain ⟨u47, hu47⟩ : ∃ u47, u47 = u46.alloc (.cells #[Value.int IntKind.u8 0, Value.int IntKind.u8 0, Value.int IntKind.u8 0, Value.int IntKind.u8 0, Value.int IntKind.u8 0, Value.int IntKind.u8 0, Value.int IntKind.u8 0, Value.int IntKind.u8 0, Value.int IntKind.u8 0, Value.int IntKind.u8 0, Value.int IntKind.u8 0, Value.int IntKind.u8 0, Value.int IntKind.u8 0, Value.int IntKind.u8 0, Value.int IntKind.u8 0, Value.int IntKind.u8 0, Value.int IntKind.u8 0, Value.int IntKind.u8 0, Value.int IntKind.u8 0, Value.int IntKind.u8 0, Value.int IntKind.u8 0, Value.int IntKind.u8 0, Value.int IntKind.u8 0, Value.int IntKind.u8 0, Value.int IntKind.u8 0, Value.int IntKind.u8 0, Value.int IntKind.u8 0, Value.int IntKind.u8 0, Value.int IntKind.u8 0, Value.int IntKind.u8 0, Value.int IntKind.u8 0, Value.int IntKind.u8 0] 30) := ⟨_, rfl⟩
                        obtain ⟨pP, hpP⟩ : ∃ pP, pP = u46.heap.size := ⟨_, rfl⟩
                        have gu47 : Chg none u46 u47 := by rw [hu47]; exact (Chg.refl _ _).alloc _
                        have S147 := S146.trans gu47
                        have bP47 : Blk u47 pP zero32 30 := by rw [hu47, hpP]; exact Blk.new _ _ _
                        have loP : w8.heap.size ≤ pP := by rw [hpP]; exact S146.size
                        have neQ : pQ ≠ pP := by have := Blk.lt bQ46; omega
                        have bQ47 : Blk u47 pQ zero32 30 := Blk.chg bQ46 gu47 (by simp)
                        go_simp
                        rw [← hu47, ← hpP]
                        clear hu47 hpP gu47
                        refine hK.out _ _ S147 (fun _ => ?_)
                        clear hK K
                        try simp only [Act.put, List.setIfInBounds_toArray, List.set_cons_zero, List.set_cons_succ]
                        refine wpAnyH_ready (rs := [14]) (by kernel_rfl) (by simp) ?_
                        refine AllReadyH.cons (o := ⟨none, _, _, _, _, _⟩) rfl (fun K hK => ?_) (AllReadyH.nil)
                        obtain ⟨u48, hu48⟩ : ∃ u48, u48 = World.setRow u47 pP DP.toArray := ⟨_, rfl⟩
                        have gu48 : Chg (some pP) u47 u48 := by rw [hu48]; exact chg_setRow _ _ _
                        have S148 : Chg none w8 u48 := Chg.own (b := pP) S147 gu48 loP
                        have bP48 : Blk u48 pP DP.toArray 30 := by rw [hu48]; exact setRow_heap _ _ _ _ _ _ bP47
                        have bQ48 : Blk u48 pQ zero32 30 := Blk.chg bQ47 gu48 (by simp; exact fun h => neQ (by rw [h]))
                        rw [if_pos (by rfl)]
                        refine wp_store_row 30 (.tmp 21) (.tmp 148) (by rfl) pP DP.toArray (by rfl) (by rfl) 30 zero32 bP47 HIP.out HZP.out HOP.out ?_
                        rw [← hu48]
                        clear hu48 gu48
                        refine hK.out _ _ S148 (fun _ => ?_)
                        clear hK K
                        refine wpAnyH_ready (rs := [15]) (by kernel_rfl) (by simp) ?_
                        refine AllReadyH.cons (o := ⟨none, _, _, _, _, _⟩) rfl (fun K hK => ?_) (AllReadyH.nil)
                        obtain ⟨u49, hu49⟩ : ∃ u49, u49 = World.setRow u48 pQ DQ.toArray := ⟨_, rfl⟩
                        have gu49 : Chg (some pQ) u48 u49 := by rw [hu49]; exact chg_setRow _ _ _
                        have S149 : Chg none w8 u49 := Chg.own (b := pQ) S148 gu49 loQ
                        have bQ49 : Blk u49 pQ DQ.toArray 30 := by rw [hu49]; exact setRow_heap _ _ _ _ _ _ bQ48
                        have bP49 : Blk u49 pP DP.toArray 30 := Blk.chg bP48 gu49 (by simp; exact fun h => neQ (by rw [h]))
                        rw [if_pos (by rfl)]
                        refine wp_store_row 30 (.tmp 22) (.tmp 154) (by rfl) pQ DQ.toArray (by rfl) (by rfl) 30 zero32 bQ48 HIQ.out HZQ.out HOQ.out ?_
                        rw [← hu49]
                        clear hu49 gu49
                        refine hK.out _ _ S149 (fun _ => ?_)
                        clear hK K
                        refine wpAnyH_done (by kernel_rfl) ?_ _
                        try simp only [Act.put]
                        have HP9 : Hid (∀ v, Chg none u49 v → (convert 22 9 (.slice (some ⟨pP, 0, none⟩) 8 32)).run Tryd.prog v = .ok (.string ⟨D8.toArray⟩) v) := fun v g => HBP.out v pP (Blk.chg bP49 g (by simp))
                        have HQ9 : Hid (∀ v, Chg none u49 v → (convert 22 9 (.slice (some ⟨pQ, 0, none⟩) 8 32)).run Tryd.prog v = .ok (.string ⟨D8.toArray⟩) v) := fun v g => HBQ.out v pQ (Blk.chg bQ49 g (by simp))
                        have HS9 := Lib.hid S149
                        obtain ⟨wz, hwz⟩ : ∃ wz, wz = u49 := ⟨_, rfl⟩
                        rw [← hwz] at HP9 HQ9 HS9 ⊢
                        clear hwz
                        go_upto_region 34 with fail
                        have Z0 : Chg none wz wz.drew := (Chg.refl none wz).drew
                        refine wp_region_held_drew (S := fun v => Chg none wz v) (by kernel_rfl) Z0 (fun _ => ?_)
                        refine wpAnyH_take (i := 0) (oi := ⟨some 155, _, _, _, _, _⟩) (v := ?_) rfl (by kernel_rfl) (by kernel_rfl) (by kernel_rfl) (fun _ _ _ h => h) (Or.inl ⟨by rfl, ?_⟩) (by assumption) ?_
                        rotate_left
                        · intro w hSw; (try dsimp only at hSw); go_simp; (try with_reducible rfl)
                        try simp only [Act.put, List.setIfInBounds_toArray, List.set_cons_zero, List.set_cons_succ]
                        refine wpAnyH_take (i := 1) (oi := ⟨some 156, _, _, _, _, _⟩) (v := ?_) rfl (by kernel_rfl) (by kernel_rfl) (by kernel_rfl) (fun _ _ _ h => h) (Or.inl ⟨by rfl, ?_⟩) (by assumption) ?_
                        rotate_left
                        · intro w hSw; (try dsimp only at hSw); go_simp; (try with_reducible rfl)
                        try simp only [Act.put, List.setIfInBounds_toArray, List.set_cons_zero, List.set_cons_succ]
                        refine wpAnyH_take (i := 2) (oi := ⟨some 157, _, _, _, _, _⟩) (v := .pointer (some ⟨gA, K, none⟩)) rfl (by kernel_rfl) (by kernel_rfl) (by kernel_rfl) (fun _ _ _ h => h) (Or.inl ⟨by rfl, ?_⟩) (by assumption) ?_
                        · intro v hSv; go_simp
                        try simp only [Act.put, List.setIfInBounds_toArray, List.set_cons_zero, List.set_cons_succ]
                        refine wpAnyH_take (i := 3) (oi := ⟨some 158, _, _, _, _, _⟩) (v := .slice r.A r.x.length r.c) rfl (by kernel_rfl) (by kernel_rfl) (by kernel_rfl) (fun _ _ _ h => h) (Or.inl ⟨by rfl, ?_⟩) (by assumption) ?_
                        · intro v hSv; have hc := HCA.out v (HS9.out.trans hSv); go_simp
                        try simp only [Act.put, List.setIfInBounds_toArray, List.set_cons_zero, List.set_cons_succ]
                        refine wpAnyH_take (i := 4) (oi := ⟨some 159, _, _, _, _, _⟩) (v := .string ⟨r.x.toArray⟩) rfl (by kernel_rfl) (by kernel_rfl) (by kernel_rfl) (fun _ _ _ h => h) (Or.inl ⟨by rfl, ?_⟩) (by assumption) ?_
                        · intro v hSv; have hc := HV1.out v (HS9.out.trans hSv); go_simp
                        try simp only [Act.put, List.setIfInBounds_toArray, List.set_cons_zero, List.set_cons_succ]
                        refine wpAnyH_take (i := 5) (oi := ⟨some 160, _, _, _, _, _⟩) (v := ?_) rfl (by kernel_rfl) (by kernel_rfl) (by kernel_rfl) (fun _ _ _ h => h) (Or.inl ⟨by rfl, ?_⟩) (by assumption) ?_
                        rotate_left
                        · intro w hSw; (try dsimp only at hSw); go_simp; (try with_reducible rfl)
                        try simp only [Act.put, List.setIfInBounds_toArray, List.set_cons_zero, List.set_cons_succ]
                        refine wpAnyH_take (i := 6) (oi := ⟨some 161, _, _, _, _, _⟩) (v := ?_) rfl (by kernel_rfl) (by kernel_rfl) (by kernel_rfl) (fun _ _ _ h => h) (Or.inl ⟨by rfl, ?_⟩) (by assumption) ?_
                        rotate_left
                        · intro w hSw; (try dsimp only at hSw); go_simp; (try with_reducible rfl)
                        try simp only [Act.put, List.setIfInBounds_toArray, List.set_cons_zero, List.set_cons_succ]
                        refine wpAnyH_take (i := 7) (oi := ⟨some 162, _, _, _, _, _⟩) (v := .pointer (some ⟨b, off + K, none⟩)) rfl (by kernel_rfl) (by kernel_rfl) (by kernel_rfl) (fun _ _ _ h => h) (Or.inl ⟨by rfl, ?_⟩) (by assumption) ?_
                        · intro v hSv; go_simp
                        try simp only [Act.put, List.setIfInBounds_toArray, List.set_cons_zero, List.set_cons_succ]
                        refine wpAnyH_take (i := 8) (oi := ⟨some 163, _, _, _, _, _⟩) (v := .slice kp.A kp.x.length kp.c) rfl (by kernel_rfl) (by kernel_rfl) (by kernel_rfl) (fun _ _ _ h => h) (Or.inl ⟨by rfl, ?_⟩) (by assumption) ?_
                        · intro v hSv; have hc := HCB.out v (HS9.out.trans hSv); go_simp
                        try simp only [Act.put, List.setIfInBounds_toArray, List.set_cons_zero, List.set_cons_succ]
                        refine wpAnyH_take (i := 9) (oi := ⟨some 164, _, _, _, _, _⟩) (v := .string ⟨kp.x.toArray⟩) rfl (by kernel_rfl) (by kernel_rfl) (by kernel_rfl) (fun _ _ _ h => h) (Or.inl ⟨by rfl, ?_⟩) (by assumption) ?_
                        · intro v hSv; have hc := HV2.out v (HS9.out.trans hSv); go_simp
                        try simp only [Act.put, List.setIfInBounds_toArray, List.set_cons_zero, List.set_cons_succ]
                        refine wpAnyH_take (i := 10) (oi := ⟨some 165, _, _, _, _, _⟩) (v := .bool true) rfl (by kernel_rfl) (by kernel_rfl) (by kernel_rfl) (fun _ _ _ h => h) (Or.inl ⟨by rfl, ?_⟩) (by assumption) ?_
                        · intro v hSv; have hn := HNX.out; go_simp
                        try simp only [Act.put, List.setIfInBounds_toArray, List.set_cons_zero, List.set_cons_succ]
                        refine wpAnyH_take (i := 11) (oi := ⟨some 166, _, _, _, _, _⟩) (v := ?_) rfl (by kernel_rfl) (by kernel_rfl) (by kernel_rfl) (fun _ _ _ h => h) (Or.inl ⟨by rfl, ?_⟩) (by assumption) ?_
                        rotate_left
                        · intro w hSw; (try dsimp only at hSw); go_simp; (try with_reducible rfl)
                        try simp only [Act.put, List.setIfInBounds_toArray, List.set_cons_zero, List.set_cons_succ]
                        refine wpAnyH_take (i := 12) (oi := ⟨some 167, _, _, _, _, _⟩) (v := .slice (some ⟨pP, 0, none⟩) 8 32) rfl (by kernel_rfl) (by kernel_rfl) (by kernel_rfl) (fun _ _ _ h => h) (Or.inl ⟨by rfl, ?_⟩) (by assumption) ?_
                        · intro v hSv; have hc := HCU.out v pP; go_simp
                        try simp only [Act.put, List.setIfInBounds_toArray, List.set_cons_zero, List.set_cons_succ]
                        refine wpAnyH_take (i := 13) (oi := ⟨some 168, _, _, _, _, _⟩) (v := .string ⟨D8.toArray⟩) rfl (by kernel_rfl) (by kernel_rfl) (by kernel_rfl) (fun _ _ _ h => h) (Or.inl ⟨by rfl, ?_⟩) (by assumption) ?_
                        · intro v hSv; have hc := HP9.out v hSv; go_simp
                        try simp only [Act.put, List.setIfInBounds_toArray, List.set_cons_zero, List.set_cons_succ]
                        refine wpAnyH_take (i := 14) (oi := ⟨some 169, _, _, _, _, _⟩) (v := .slice (some ⟨pQ, 0, none⟩) 8 32) rfl (by kernel_rfl) (by kernel_rfl) (by kernel_rfl) (fun _ _ _ h => h) (Or.inl ⟨by rfl, ?_⟩) (by assumption) ?_
                        · intro v hSv; have hc := HCU.out v pQ; go_simp
                        try simp only [Act.put, List.setIfInBounds_toArray, List.set_cons_zero, List.set_cons_succ]
                        refine wpAnyH_take (i := 15) (oi := ⟨some 170, _, _, _, _, _⟩) (v := .string ⟨D8.toArray⟩) rfl (by kernel_rfl) (by kernel_rfl) (by kernel_rfl) (fun _ _ _ h => h) (Or.inl ⟨by rfl, ?_⟩) (by assumption) ?_
                        · intro v hSv; have hc := HQ9.out v hSv; go_simp
                        try simp only [Act.put, List.setIfInBounds_toArray, List.set_cons_zero, List.set_cons_succ]
                        refine wpAnyH_take (i := 16) (oi := ⟨some 171, _, _, _, _, _⟩) (v := .bool true) rfl (by kernel_rfl) (by kernel_rfl) (by kernel_rfl) (fun _ _ _ h => h) (Or.inl ⟨by rfl, ?_⟩) (by assumption) ?_
                        · intro v hSv; go_simp
                        try simp only [Act.put, List.setIfInBounds_toArray, List.set_cons_zero, List.set_cons_succ]
                        refine wpAnyH_take (i := 17) (oi := ⟨some 172, _, _, _, _, _⟩) (v := ?_) rfl (by kernel_rfl) (by kernel_rfl) (by kernel_rfl) (fun _ _ _ h => h) (Or.inl ⟨by rfl, ?_⟩) (by assumption) ?_
                        rotate_left
                        · intro w hSw; (try dsimp only at hSw); go_simp; (try with_reducible rfl)
                        try simp only [Act.put, List.setIfInBounds_toArray, List.set_cons_zero, List.set_cons_succ]
                        refine wpAnyH_take (i := 18) (oi := ⟨some 173, _, _, _, _, _⟩) (v := ?_) rfl (by kernel_rfl) (by kernel_rfl) (by kernel_rfl) (fun _ _ _ h => h) (Or.inl ⟨by rfl, ?_⟩) (by assumption) ?_
                        rotate_left
                        · intro w hSw; (try dsimp only at hSw); go_simp; (try with_reducible rfl)
                        try simp only [Act.put, List.setIfInBounds_toArray, List.set_cons_zero, List.set_cons_succ]
                        refine wpAnyH_ready (rs := [19]) (by kernel_rfl) (by simp) ?_
                        refine AllReadyH.cons (o := ⟨some 174, _, _, _, _, _⟩) rfl (fun K hK => ?_) (AllReadyH.nil)
                        go_simp
                        go_at_call 16
                        refine (HKN8.out _ (HS9.out.trans Z0)).mono ?_
                        rintro e z1 ⟨rfl, gz⟩
                        have Z1 := Z0.trans gz
                        go_wp2_with fail
                        refine hK.out _ _ Z1 (fun _ => ?_)
                        clear hK K
                        try simp only [Act.put, List.setIfInBounds_toArray, List.set_cons_zero, List.set_cons_succ]
                        refine wpAnyH_take (i := 20) (oi := ⟨some 175, _, _, _, _, _⟩) (v := ?_) rfl (by kernel_rfl) (by kernel_rfl) (by kernel_rfl) (fun _ _ _ h => h) (Or.inl ⟨by rfl, ?_⟩) (by assumption) ?_
                        rotate_left
                        · intro w hSw; (try dsimp only at hSw); go_simp; (try with_reducible rfl)
                        try simp only [Act.put, List.setIfInBounds_toArray, List.set_cons_zero, List.set_cons_succ]
                        refine wpAnyH_take (i := 21) (oi := ⟨some 8, _, _, _, _, _⟩) (v := ?_) rfl (by kernel_rfl) (by kernel_rfl) (by kernel_rfl) (fun _ _ _ h => h) (Or.inl ⟨by rfl, ?_⟩) (by assumption) ?_
                        rotate_left
                        · intro w hSw; (try dsimp only at hSw); go_simp; (try with_reducible rfl)
                        try simp only [Act.put, List.setIfInBounds_toArray, List.set_cons_zero, List.set_cons_succ]
                        refine wpAnyH_done (by kernel_rfl) ?_ _
                        try simp only [Act.put]
                        go_wp2_with fail
                        go_ret
                        exact ⟨rfl, HG8.out.trans (HS9.out.trans Z1)⟩
                    · as_aux_lemma =>
                        obtain ⟨u50, hu50⟩ : ∃ u50, u50 = u45.alloc (.cells #[Value.int IntKind.u8 0, Value.int IntKind.u8 0, Value.int IntKind.u8 0, Value.int IntKind.u8 0, Value.int IntKind.u8 0, Value.int IntKind.u8 0, Value.int IntKind.u8 0, Value.int IntKind.u8 0, Value.int IntKind.u8 0, Value.int IntKind.u8 0, Value.int IntKind.u8 0, Value.int IntKind.u8 0, Value.int IntKind.u8 0, Value.int IntKind.u8 0, Value.int IntKind.u8 0, Value.int IntKind.u8 0, Value.int IntKind.u8 0, Value.int IntKind.u8 0, Value.int IntKind.u8 0, Value.int IntKind.u8 0, Value.int IntKind.u8 0, Value.int IntKind.u8 0, Value.int IntKind.u8 0, Value.int IntKind.u8 0, Value.int IntKind.u8 0, Value.int IntKind.u8 0, Value.int IntKind.u8 0, Value.int IntKind.u8 0, Value.int IntKind.u8 0, Value.int IntKind.u8 0, Value.int IntKind.u8 0, Value.int IntKind.u8 0] 30) := ⟨_, rfl⟩
                        obtain ⟨pP, hpP⟩ : ∃ pP, pP = u45.heap.size := ⟨_, rfl⟩
                        have gu50 : Chg none u45 u50 := by rw [hu50]; exact (Chg.refl _ _).alloc _
                        have S150 := S145.trans gu50
                        have bP50 : Blk u50 pP zero32 30 := by rw [hu50, hpP]; exact Blk.new _ _ _
                        have loP : w8.heap.size ≤ pP := by rw [hpP]; exact S145.size
                        have neQ : pQ ≠ pP := by have := Blk.lt bQ45; omega
                        have bQ50 : Blk u50 pQ zero32 30 := Blk.chg bQ45 gu50 (by simp)
                        go_simp
                        rw [← hu50, ← hpP]
                        clear hu50 hpP gu50
                        refine hK.out _ _ S150 (fun _ => ?_)
                        clear hK K
                        try simp only [Act.put, List.setIfInBounds_toArray, List.set_cons_zero, List.set_cons_succ]
                        refine wpAnyH_ready (rs := [11]) (by kernel_rfl) (by simp) ?_
                        refine AllReadyH.cons (o := ⟨some 154, _, _, _, _, _⟩) rfl (fun K hK => ?_) (AllReadyH.nil)
                        go_simp
                        go_at_call 24
                        refine (HS2.out _ S150).mono ?_
                        rintro e u51 ⟨rfl, g251⟩
                        have S151 := S150.trans g251
                        have bP51 : Blk u51 pP zero32 30 := Blk.chg bP50 g251 (by simp)
                        have bQ51 : Blk u51 pQ zero32 30 := Blk.chg bQ50 g251 (by simp)
                        go_wp2_with fail
                        refine hK.out _ _ S151 (fun _ => ?_)
                        clear hK K
                        try simp only [Act.put, List.setIfInBounds_toArray, List.set_cons_zero, List.set_cons_succ]
                        refine wpAnyH_ready (rs := [14]) (by kernel_rfl) (by simp) ?_
                        refine AllReadyH.cons (o := ⟨none, _, _, _, _, _⟩) rfl (fun K hK => ?_) (AllReadyH.nil)
                        obtain ⟨u52, hu52⟩ : ∃ u52, u52 = World.setRow u51 pP DP.toArray := ⟨_, rfl⟩
                        have gu52 : Chg (some pP) u51 u52 := by rw [hu52]; exact chg_setRow _ _ _
                        have S152 : Chg none w8 u52 := Chg.own (b := pP) S151 gu52 loP
                        have bP52 : Blk u52 pP DP.toArray 30 := by rw [hu52]; exact setRow_heap _ _ _ _ _ _ bP51
                        have bQ52 : Blk u52 pQ zero32 30 := Blk.chg bQ51 gu52 (by simp; exact fun h => neQ (by rw [h]))
                        rw [if_pos (by rfl)]
                        refine wp_store_row 30 (.tmp 21) (.tmp 148) (by rfl) pP DP.toArray (by rfl) (by rfl) 30 zero32 bP51 HIP.out HZP.out HOP.out ?_
                        rw [← hu52]
                        clear hu52 gu52
                        refine hK.out _ _ S152 (fun _ => ?_)
                        clear hK K
                        refine wpAnyH_ready (rs := [15]) (by kernel_rfl) (by simp) ?_
                        refine AllReadyH.cons (o := ⟨none, _, _, _, _, _⟩) rfl (fun K hK => ?_) (AllReadyH.nil)
                        obtain ⟨u53, hu53⟩ : ∃ u53, u53 = World.setRow u52 pQ DQ.toArray := ⟨_, rfl⟩
                        have gu53 : Chg (some pQ) u52 u53 := by rw [hu53]; exact chg_setRow _ _ _
                        have S153 : Chg none w8 u53 := Chg.own (b := pQ) S152 gu53 loQ
                        have bQ53 : Blk u53 pQ DQ.toArray 30 := by rw [hu53]; exact setRow_heap _ _ _ _ _ _ bQ52
                        have bP53 : Blk u53 pP DP.toArray 30 := Blk.chg bP52 gu53 (by simp; exact fun h => neQ (by rw [h]))
                        rw [if_pos (by rfl)]
                        refine wp_store_row 30 (.tmp 22) (.tmp 154) (by rfl) pQ DQ.toArray (by rfl) (by rfl) 30 zero32 bQ52 HIQ.out HZQ.out HOQ.out ?_
                        rw [← hu53]
                        clear hu53 gu53
                        refine hK.out _ _ S153 (fun _ => ?_)
                        clear hK K
                        refine wpAnyH_done (by kernel_rfl) ?_ _
                        try simp only [Act.put]
                        have HP9 : Hid (∀ v, Chg none u53 v → (convert 22 9 (.slice (some ⟨pP, 0, none⟩) 8 32)).run Tryd.prog v = .ok (.string ⟨D8.toArray⟩) v) := fun v g => HBP.out v pP (Blk.chg bP53 g (by simp))
                        have HQ9 : Hid (∀ v, Chg none u53 v → (convert 22 9 (.slice (some ⟨pQ, 0, none⟩) 8 32)).run Tryd.prog v = .ok (.string ⟨D8.toArray⟩) v) := fun v g => HBQ.out v pQ (Blk.chg bQ53 g (by simp))
                        have HS9 := Lib.hid S153
                        obtain ⟨wz, hwz⟩ : ∃ wz, wz = u53 := ⟨_, rfl⟩
                        rw [← hwz] at HP9 HQ9 HS9 ⊢
                        clear hwz
                        go_upto_region 34 with fail
                        have Z0 : Chg none wz wz.drew := (Chg.refl none wz).drew
                        refine wp_region_held_drew (S := fun v => Chg none wz v) (by kernel_rfl) Z0 (fun _ => ?_)
                        refine wpAnyH_take (i := 0) (oi := ⟨some 155, _, _, _, _, _⟩) (v := ?_) rfl (by kernel_rfl) (by kernel_rfl) (by kernel_rfl) (fun _ _ _ h => h) (Or.inl ⟨by rfl, ?_⟩) (by assumption) ?_
                        rotate_left
                        · intro w hSw; (try dsimp only at hSw); go_simp; (try with_reducible rfl)
                        try simp only [Act.put, List.setIfInBounds_toArray, List.set_cons_zero, List.set_cons_succ]
                        refine wpAnyH_take (i := 1) (oi := ⟨some 156, _, _, _, _, _⟩) (v := ?_) rfl (by kernel_rfl) (by kernel_rfl) (by kernel_rfl) (fun _ _ _ h => h) (Or.inl ⟨by rfl, ?_⟩) (by assumption) ?_
                        rotate_left
                        · intro w hSw; (try dsimp only at hSw); go_simp; (try with_reducible rfl)
                        try simp only [Act.put, List.setIfInBounds_toArray, List.set_cons_zero, List.set_cons_succ]
                        refine wpAnyH_take (i := 2) (oi := ⟨some 157, _, _, _, _, _⟩) (v := .pointer (some ⟨gA, K, none⟩)) rfl (by kernel_rfl) (by kernel_rfl) (by kernel_rfl) (fun _ _ _ h => h) (Or.inl ⟨by rfl, ?_⟩) (by assumption) ?_
                        · intro v hSv; go_simp
                        try simp only [Act.put, List.setIfInBounds_toArray, List.set_cons_zero, List.set_cons_succ]
                        refine wpAnyH_take (i := 3) (oi := ⟨some 158, _, _, _, _, _⟩) (v := .slice r.A r.x.length r.c) rfl (by kernel_rfl) (by kernel_rfl) (by kernel_rfl) (fun _ _ _ h => h) (Or.inl ⟨by rfl, ?_⟩) (by assumption) ?_
                        · intro v hSv; have hc := HCA.out v (HS9.out.trans hSv); go_simp
                        try simp only [Act.put, List.setIfInBounds_toArray, List.set_cons_zero, List.set_cons_succ]
                        refine wpAnyH_take (i := 4) (oi := ⟨some 159, _, _, _, _, _⟩) (v := .string ⟨r.x.toArray⟩) rfl (by kernel_rfl) (by kernel_rfl) (by kernel_rfl) (fun _ _ _ h => h) (Or.inl ⟨by rfl, ?_⟩) (by assumption) ?_
                        · intro v hSv; have hc := HV1.out v (HS9.out.trans hSv); go_simp
                        try simp only [Act.put, List.setIfInBounds_toArray, List.set_cons_zero, List.set_cons_succ]
                        refine wpAnyH_take (i := 5) (oi := ⟨some 160, _, _, _, _, _⟩) (v := ?_) rfl (by kernel_rfl) (by kernel_rfl) (by kernel_rfl) (fun _ _ _ h => h) (Or.inl ⟨by rfl, ?_⟩) (by assumption) ?_
                        rotate_left
                        · intro w hSw; (try dsimp only at hSw); go_simp; (try with_reducible rfl)
                        try simp only [Act.put, List.setIfInBounds_toArray, List.set_cons_zero, List.set_cons_succ]
                        refine wpAnyH_take (i := 6) (oi := ⟨some 161, _, _, _, _, _⟩) (v := ?_) rfl (by kernel_rfl) (by kernel_rfl) (by kernel_rfl) (fun _ _ _ h => h) (Or.inl ⟨by rfl, ?_⟩) (by assumption) ?_
                        rotate_left
                        · intro w hSw; (try dsimp only at hSw); go_simp; (try with_reducible rfl)
                        try simp only [Act.put, List.setIfInBounds_toArray, List.set_cons_zero, List.set_cons_succ]
                        refine wpAnyH_take (i := 7) (oi := ⟨some 162, _, _, _, _, _⟩) (v := .pointer (some ⟨b, off + K, none⟩)) rfl (by kernel_rfl) (by kernel_rfl) (by kernel_rfl) (fun _ _ _ h => h) (Or.inl ⟨by rfl, ?_⟩) (by assumption) ?_
                        · intro v hSv; go_simp
                        try simp only [Act.put, List.setIfInBounds_toArray, List.set_cons_zero, List.set_cons_succ]
                        refine wpAnyH_take (i := 8) (oi := ⟨some 163, _, _, _, _, _⟩) (v := .slice kp.A kp.x.length kp.c) rfl (by kernel_rfl) (by kernel_rfl) (by kernel_rfl) (fun _ _ _ h => h) (Or.inl ⟨by rfl, ?_⟩) (by assumption) ?_
                        · intro v hSv; have hc := HCB.out v (HS9.out.trans hSv); go_simp
                        try simp only [Act.put, List.setIfInBounds_toArray, List.set_cons_zero, List.set_cons_succ]
                        refine wpAnyH_take (i := 9) (oi := ⟨some 164, _, _, _, _, _⟩) (v := .string ⟨kp.x.toArray⟩) rfl (by kernel_rfl) (by kernel_rfl) (by kernel_rfl) (fun _ _ _ h => h) (Or.inl ⟨by rfl, ?_⟩) (by assumption) ?_
                        · intro v hSv; have hc := HV2.out v (HS9.out.trans hSv); go_simp
                        try simp only [Act.put, List.setIfInBounds_toArray, List.set_cons_zero, List.set_cons_succ]
                        refine wpAnyH_take (i := 10) (oi := ⟨some 165, _, _, _, _, _⟩) (v := .bool true) rfl (by kernel_rfl) (by kernel_rfl) (by kernel_rfl) (fun _ _ _ h => h) (Or.inl ⟨by rfl, ?_⟩) (by assumption) ?_
                        · intro v hSv; have hn := HNX.out; go_simp
                        try simp only [Act.put, List.setIfInBounds_toArray, List.set_cons_zero, List.set_cons_succ]
                        refine wpAnyH_take (i := 11) (oi := ⟨some 166, _, _, _, _, _⟩) (v := ?_) rfl (by kernel_rfl) (by kernel_rfl) (by kernel_rfl) (fun _ _ _ h => h) (Or.inl ⟨by rfl, ?_⟩) (by assumption) ?_
                        rotate_left
                        · intro w hSw; (try dsimp only at hSw); go_simp; (try with_reducible rfl)
                        try simp only [Act.put, List.setIfInBounds_toArray, List.set_cons_zero, List.set_cons_succ]
                        refine wpAnyH_take (i := 12) (oi := ⟨some 167, _, _, _, _, _⟩) (v := .slice (some ⟨pP, 0, none⟩) 8 32) rfl (by kernel_rfl) (by kernel_rfl) (by kernel_rfl) (fun _ _ _ h => h) (Or.inl ⟨by rfl, ?_⟩) (by assumption) ?_
                        · intro v hSv; have hc := HCU.out v pP; go_simp
                        try simp only [Act.put, List.setIfInBounds_toArray, List.set_cons_zero, List.set_cons_succ]
                        refine wpAnyH_take (i := 13) (oi := ⟨some 168, _, _, _, _, _⟩) (v := .string ⟨D8.toArray⟩) rfl (by kernel_rfl) (by kernel_rfl) (by kernel_rfl) (fun _ _ _ h => h) (Or.inl ⟨by rfl, ?_⟩) (by assumption) ?_
                        · intro v hSv; have hc := HP9.out v hSv; go_simp
                        try simp only [Act.put, List.setIfInBounds_toArray, List.set_cons_zero, List.set_cons_succ]
                        refine wpAnyH_take (i := 14) (oi := ⟨some 169, _, _, _, _, _⟩) (v := .slice (some ⟨pQ, 0, none⟩) 8 32) rfl (by kernel_rfl) (by kernel_rfl) (by kernel_rfl) (fun _ _ _ h => h) (Or.inl ⟨by rfl, ?_⟩) (by assumption) ?_
                        · intro v hSv; have hc := HCU.out v pQ; go_simp
                        try simp only [Act.put, List.setIfInBounds_toArray, List.set_cons_zero, List.set_cons_succ]
                        refine wpAnyH_take (i := 15) (oi := ⟨some 170, _, _, _, _, _⟩) (v := .string ⟨D8.toArray⟩) rfl (by kernel_rfl) (by kernel_rfl) (by kernel_rfl) (fun _ _ _ h => h) (Or.inl ⟨by rfl, ?_⟩) (by assumption) ?_
                        · intro v hSv; have hc := HQ9.out v hSv; go_simp
                        try simp only [Act.put, List.setIfInBounds_toArray, List.set_cons_zero, List.set_cons_succ]
                        refine wpAnyH_take (i := 16) (oi := ⟨some 171, _, _, _, _, _⟩) (v := .bool true) rfl (by kernel_rfl) (by kernel_rfl) (by kernel_rfl) (fun _ _ _ h => h) (Or.inl ⟨by rfl, ?_⟩) (by assumption) ?_
                        · intro v hSv; go_simp
                        try simp only [Act.put, List.setIfInBounds_toArray, List.set_cons_zero, List.set_cons_succ]
                        refine wpAnyH_take (i := 17) (oi := ⟨some 172, _, _, _, _, _⟩) (v := ?_) rfl (by kernel_rfl) (by kernel_rfl) (by kernel_rfl) (fun _ _ _ h => h) (Or.inl ⟨by rfl, ?_⟩) (by assumption) ?_
                        rotate_left
                        · intro w hSw; (try dsimp only at hSw); go_simp; (try with_reducible rfl)
                        try simp only [Act.put, List.setIfInBounds_toArray, List.set_cons_zero, List.set_cons_succ]
                        refine wpAnyH_take (i := 18) (oi := ⟨some 173, _, _, _, _, _⟩) (v := ?_) rfl (by kernel_rfl) (by kernel_rfl) (by kernel_rfl) (fun _ _ _ h => h) (Or.inl ⟨by rfl, ?_⟩) (by assumption) ?_
                        rotate_left
                        · intro w hSw; (try dsimp only at hSw); go_simp; (try with_reducible rfl)
                        try simp only [Act.put, List.setIfInBounds_toArray, List.set_cons_zero, List.set_cons_succ]
                        refine wpAnyH_ready (rs := [19]) (by kernel_rfl) (by simp) ?_
                        refine AllReadyH.cons (o := ⟨some 174, _, _, _, _, _⟩) rfl (fun K hK => ?_) (AllReadyH.nil)
                        go_simp
                        go_at_call 16
                        refine (HKN8.out _ (HS9.out.trans Z0)).mono ?_
                        rintro e z1 ⟨rfl, gz⟩
                        have Z1 := Z0.trans gz
                        go_wp2_with fail
                        refine hK.out _ _ Z1 (fun _ => ?_)
                        clear hK K
                        try simp only [Act.put, List.setIfInBounds_toArray, List.set_cons_zero, List.set_cons_succ]
                        refine wpAnyH_take (i := 20) (oi := ⟨some 175, _, _, _, _, _⟩) (v := ?_) rfl (by kernel_rfl) (by kernel_rfl) (by kernel_rfl) (fun _ _ _ h => h) (Or.inl ⟨by rfl, ?_⟩) (by assumption) ?_
                        rotate_left
                        · intro w hSw; (try dsimp only at hSw); go_simp; (try with_reducible rfl)
                        try simp only [Act.put, List.setIfInBounds_toArray, List.set_cons_zero, List.set_cons_succ]
                        refine wpAnyH_take (i := 21) (oi := ⟨some 8, _, _, _, _, _⟩) (v := ?_) rfl (by kernel_rfl) (by kernel_rfl) (by kernel_rfl) (fun _ _ _ h => h) (Or.inl ⟨by rfl, ?_⟩) (by assumption) ?_
                        rotate_left
                        · intro w hSw; (try dsimp only at hSw); go_simp; (try with_reducible rfl)
                        try simp only [Act.put, List.setIfInBounds_toArray, List.set_cons_zero, List.set_cons_succ]
                        refine wpAnyH_done (by kernel_rfl) ?_ _
                        try simp only [Act.put]
                        go_wp2_with fail
                        go_ret
                        exact ⟨rfl, HG8.out.trans (HS9.out.trans Z1)⟩
                · as_aux_lemma =>
                    obtain ⟨u54, hu54⟩ : ∃ u54, u54 = u44.alloc (.cells #[Value.int IntKind.u8 0, Value.int IntKind.u8 0, Value.int IntKind.u8 0, Value.int IntKind.u8 0, Value.int IntKind.u8 0, Value.int IntKind.u8 0, Value.int IntKind.u8 0, Value.int IntKind.u8 0, Value.int IntKind.u8 0, Value.int IntKind.u8 0, Value.int IntKind.u8 0, Value.int IntKind.u8 0, Value.int IntKind.u8 0, Value.int IntKind.u8 0, Value.int IntKind.u8 0, Value.int IntKind.u8 0, Value.int IntKind.u8 0, Value.int IntKind.u8 0, Value.int IntKind.u8 0, Value.int IntKind.u8 0, Value.int IntKind.u8 0, Value.int IntKind.u8 0, Value.int IntKind.u8 0, Value.int IntKind.u8 0, Value.int IntKind.u8 0, Value.int IntKind.u8 0, Value.int IntKind.u8 0, Value.int IntKind.u8 0, Value.int IntKind.u8 0, Value.int IntKind.u8 0, Value.int IntKind.u8 0, Value.int IntKind.u8 0] 30) := ⟨_, rfl⟩
                    obtain ⟨pP, hpP⟩ : ∃ pP, pP = u44.heap.size := ⟨_, rfl⟩
                    have gu54 : Chg none u44 u54 := by rw [hu54]; exact (Chg.refl _ _).alloc _
                    have S154 := S144.trans gu54
                    have bP54 : Blk u54 pP zero32 30 := by rw [hu54, hpP]; exact Blk.new _ _ _
                    have loP : w8.heap.size ≤ pP := by rw [hpP]; exact S144.size
                    have neQ : pQ ≠ pP := by have := Blk.lt bQ44; omega
                    have bQ54 : Blk u54 pQ zero32 30 := Blk.chg bQ44 gu54 (by simp)
                    go_simp
                    rw [← hu54, ← hpP]
                    clear hu54 hpP gu54
                    refine hK.out _ _ S154 (fun _ => ?_)
                    clear hK K
                    try simp only [Act.put, List.setIfInBounds_toArray, List.set_cons_zero, List.set_cons_succ]
                    refine wpAnyH_ready (rs := [5]) (by kernel_rfl) (by simp) ?_
                    refine AllReadyH.cons (o := ⟨some 148, _, _, _, _, _⟩) rfl (fun K hK => ?_) (AllReadyH.nil)
                    go_simp
                    go_at_call 24
                    refine (HS1.out _ S154).mono ?_
                    rintro e u55 ⟨rfl, g255⟩
                    have S155 := S154.trans g255
                    have bP55 : Blk u55 pP zero32 30 := Blk.chg bP54 g255 (by simp)
                    have bQ55 : Blk u55 pQ zero32 30 := Blk.chg bQ54 g255 (by simp)
                    go_wp2_with fail
                    refine hK.out _ _ S155 (fun _ => ?_)
                    clear hK K
                    try simp only [Act.put, List.setIfInBounds_toArray, List.set_cons_zero, List.set_cons_succ]
                    refine wpAnyH_ready (rs := [11]) (by kernel_rfl) (by simp) ?_
                    refine AllReadyH.cons (o := ⟨some 154, _, _, _, _, _⟩) rfl (fun K hK => ?_) (AllReadyH.nil)
                    go_simp
                    go_at_call 24
                    refine (HS2.out _ S155).mono ?_
                    rintro e u56 ⟨rfl, g256⟩
                    have S156 := S155.trans g256
                    have bP56 : Blk u56 pP zero32 30 := Blk.chg bP55 g256 (by simp)
                    have bQ56 : Blk u56 pQ zero32 30 := Blk.chg bQ55 g256 (by simp)
                    go_wp2_with fail
                    refine hK.out _ _ S156 (fun _ => ?_)
                    clear hK K
                    try simp only [Act.put, List.setIfInBounds_toArray, List.set_cons_zero, List.set_cons_succ]
                    refine wpAnyH_ready (rs := [14]) (by kernel_rfl) (by simp) ?_
                    refine AllReadyH.cons (o := ⟨none, _, _, _, _, _⟩) rfl (fun K hK => ?_) (AllReadyH.nil)
                    obtain ⟨u57, hu57⟩ : ∃ u57, u57 = World.setRow u56 pP DP.toArray := ⟨_, rfl⟩
                    have gu57 : Chg (some pP) u56 u57 := by rw [hu57]; exact chg_setRow _ _ _
                    have S157 : Chg none w8 u57 := Chg.own (b := pP) S156 gu57 loP
                    have bP57 : Blk u57 pP DP.toArray 30 := by rw [hu57]; exact setRow_heap _ _ _ _ _ _ bP56
                    have bQ57 : Blk u57 pQ zero32 30 := Blk.chg bQ56 gu57 (by simp; exact fun h => neQ (by rw [h]))
                    rw [if_pos (by rfl)]
                    refine wp_store_row 30 (.tmp 21) (.tmp 148) (by rfl) pP DP.toArray (by rfl) (by rfl) 30 zero32 bP56 HIP.out HZP.out HOP.out ?_
                    rw [← hu57]
                    clear hu57 gu57
                    refine hK.out _ _ S157 (fun _ => ?_)
                    clear hK K
                    refine wpAnyH_ready (rs := [15]) (by kernel_rfl) (by simp) ?_
                    refine AllReadyH.cons (o := ⟨none, _, _, _, _, _⟩) rfl (fun K hK => ?_) (AllReadyH.nil)
                    obtain ⟨u58, hu58⟩ : ∃ u58, u58 = World.setRow u57 pQ DQ.toArray := ⟨_, rfl⟩
                    have gu58 : Chg (some pQ) u57 u58 := by rw [hu58]; exact chg_setRow _ _ _
                    have S158 : Chg none w8 u58 := Chg.own (b := pQ) S157 gu58 loQ
                    have bQ58 : Blk u58 pQ DQ.toArray 30 := by rw [hu58]; exact setRow_heap _ _ _ _ _ _ bQ57
                    have bP58 : Blk u58 pP DP.toArray 30 := Blk.chg bP57 gu58 (by simp; exact fun h => neQ (by rw [h]))
                    rw [if_pos (by rfl)]
                    refine wp_store_row 30 (.tmp 22) (.tmp 154) (by rfl) pQ DQ.toArray (by rfl) (by rfl) 30 zero32 bQ57 HIQ.out HZQ.out HOQ.out ?_
                    rw [← hu58]
                    clear hu58 gu58
                    refine hK.out _ _ S158 (fun _ => ?_)
                    clear hK K
                    refine wpAnyH_done (by kernel_rfl) ?_ _
                    try simp only [Act.put]
                    have HP9 : Hid (∀ v, Chg none u58 v → (convert 22 9 (.slice (some ⟨pP, 0, none⟩) 8 32)).run Tryd.prog v = .ok (.string ⟨D8.toArray⟩) v) := fun v g => HBP.out v pP (Blk.chg bP58 g (by simp))
                    have HQ9 : Hid (∀ v, Chg none u58 v → (convert 22 9 (.slice (some ⟨pQ, 0, none⟩) 8 32)).run Tryd.prog v = .ok (.string ⟨D8.toArray⟩) v) := fun v g => HBQ.out v pQ (Blk.chg bQ58 g (by simp))
                    have HS9 := Lib.hid S158
                    obtain ⟨wz, hwz⟩ : ∃ wz, wz = u58 := ⟨_, rfl⟩
                    rw [← hwz] at HP9 HQ9 HS9 ⊢
                    clear hwz
                    go_upto_region 34 with fail
                    have Z0 : Chg none wz wz.drew := (Chg.refl none wz).drew
                    refine wp_region_held_drew (S := fun v => Chg none wz v) (by kernel_rfl) Z0 (fun _ => ?_)
                    refine wpAnyH_take (i := 0) (oi := ⟨some 155, _, _, _, _, _⟩) (v := ?_) rfl (by kernel_rfl) (by kernel_rfl) (by kernel_rfl) (fun _ _ _ h => h) (Or.inl ⟨by rfl, ?_⟩) (by assumption) ?_
                    rotate_left
                    · intro w hSw; (try dsimp only at hSw); go_simp; (try with_reducible rfl)
                    try simp only [Act.put, List.setIfInBounds_toArray, List.set_cons_zero, List.set_cons_succ]
                    refine wpAnyH_take (i := 1) (oi := ⟨some 156, _, _, _, _, _⟩) (v := ?_) rfl (by kernel_rfl) (by kernel_rfl) (by kernel_rfl) (fun _ _ _ h => h) (Or.inl ⟨by rfl, ?_⟩) (by assumption) ?_
                    rotate_left
                    · intro w hSw; (try dsimp only at hSw); go_simp; (try with_reducible rfl)
                    try simp only [Act.put, List.setIfInBounds_toArray, List.set_cons_zero, List.set_cons_succ]
                    refine wpAnyH_take (i := 2) (oi := ⟨some 157, _, _, _, _, _⟩) (v := .pointer (some ⟨gA, K, none⟩)) rfl (by kernel_rfl) (by kernel_rfl) (by kernel_rfl) (fun _ _ _ h => h) (Or.inl ⟨by rfl, ?_⟩) (by assumption) ?_
                    · intro v hSv; go_simp
                    try simp only [Act.put, List.setIfInBounds_toArray, List.set_cons_zero, List.set_cons_succ]
                    refine wpAnyH_take (i := 3) (oi := ⟨some 158, _, _, _, _, _⟩) (v := .slice r.A r.x.length r.c) rfl (by kernel_rfl) (by kernel_rfl) (by kernel_rfl) (fun _ _ _ h => h) (Or.inl ⟨by rfl, ?_⟩) (by assumption) ?_
                    · intro v hSv; have hc := HCA.out v (HS9.out.trans hSv); go_simp
                    try simp only [Act.put, List.setIfInBounds_toArray, List.set_cons_zero, List.set_cons_succ]
                    refine wpAnyH_take (i := 4) (oi := ⟨some 159, _, _, _, _, _⟩) (v := .string ⟨r.x.toArray⟩) rfl (by kernel_rfl) (by kernel_rfl) (by kernel_rfl) (fun _ _ _ h => h) (Or.inl ⟨by rfl, ?_⟩) (by assumption) ?_
                    · intro v hSv; have hc := HV1.out v (HS9.out.trans hSv); go_simp
                    try simp only [Act.put, List.setIfInBounds_toArray, List.set_cons_zero, List.set_cons_succ]
                    refine wpAnyH_take (i := 5) (oi := ⟨some 160, _, _, _, _, _⟩) (v := ?_) rfl (by kernel_rfl) (by kernel_rfl) (by kernel_rfl) (fun _ _ _ h => h) (Or.inl ⟨by rfl, ?_⟩) (by assumption) ?_
                    rotate_left
                    · intro w hSw; (try dsimp only at hSw); go_simp; (try with_reducible rfl)
                    try simp only [Act.put, List.setIfInBounds_toArray, List.set_cons_zero, List.set_cons_succ]
                    refine wpAnyH_take (i := 6) (oi := ⟨some 161, _, _, _, _, _⟩) (v := ?_) rfl (by kernel_rfl) (by kernel_rfl) (by kernel_rfl) (fun _ _ _ h => h) (Or.inl ⟨by rfl, ?_⟩) (by assumption) ?_
                    rotate_left
                    · intro w hSw; (try dsimp only at hSw); go_simp; (try with_reducible rfl)
                    try simp only [Act.put, List.setIfInBounds_toArray, List.set_cons_zero, List.set_cons_succ]
                    refine wpAnyH_take (i := 7) (oi := ⟨some 162, _, _, _, _, _⟩) (v := .pointer (some ⟨b, off + K, none⟩)) rfl (by kernel_rfl) (by kernel_rfl) (by kernel_rfl) (fun _ _ _ h => h) (Or.inl ⟨by rfl, ?_⟩) (by assumption) ?_
                    · intro v hSv; go_simp
                    try simp only [Act.put, List.setIfInBounds_toArray, List.set_cons_zero, List.set_cons_succ]
                    refine wpAnyH_take (i := 8) (oi := ⟨some 163, _, _, _, _, _⟩) (v := .slice kp.A kp.x.length kp.c) rfl (by kernel_rfl) (by kernel_rfl) (by kernel_rfl) (fun _ _ _ h => h) (Or.inl ⟨by rfl, ?_⟩) (by assumption) ?_
                    · intro v hSv; have hc := HCB.out v (HS9.out.trans hSv); go_simp
                    try simp only [Act.put, List.setIfInBounds_toArray, List.set_cons_zero, List.set_cons_succ]
                    refine wpAnyH_take (i := 9) (oi := ⟨some 164, _, _, _, _, _⟩) (v := .string ⟨kp.x.toArray⟩) rfl (by kernel_rfl) (by kernel_rfl) (by kernel_rfl) (fun _ _ _ h => h) (Or.inl ⟨by rfl, ?_⟩) (by assumption) ?_
                    · intro v hSv; have hc := HV2.out v (HS9.out.trans hSv); go_simp
                    try simp only [Act.put, List.setIfInBounds_toArray, List.set_cons_zero, List.set_cons_succ]
                    refine wpAnyH_take (i := 10) (oi := ⟨some 165, _, _, _, _, _⟩) (v := .bool true) rfl (by kernel_rfl) (by kernel_rfl) (by kernel_rfl) (fun _ _ _ h => h) (Or.inl ⟨by rfl, ?_⟩) (by assumption) ?_
                    · intro v hSv; have hn := HNX.out; go_simp
                    try simp only [Act.put, List.setIfInBounds_toArray, List.set_cons_zero, List.set_cons_succ]
                    refine wpAnyH_take (i := 11) (oi := ⟨some 166, _, _, _, _, _⟩) (v := ?_) rfl (by kernel_rfl) (by kernel_rfl) (by kernel_rfl) (fun _ _ _ h => h) (Or.inl ⟨by rfl, ?_⟩) (by assumption) ?_
                    rotate_left
                    · intro w hSw; (try dsimp only at hSw); go_simp; (try with_reducible rfl)
                    try simp only [Act.put, List.setIfInBounds_toArray, List.set_cons_zero, List.set_cons_succ]
                    refine wpAnyH_take (i := 12) (oi := ⟨some 167, _, _, _, _, _⟩) (v := .slice (some ⟨pP, 0, none⟩) 8 32) rfl (by kernel_rfl) (by kernel_rfl) (by kernel_rfl) (fun _ _ _ h => h) (Or.inl ⟨by rfl, ?_⟩) (by assumption) ?_
                    · intro v hSv; have hc := HCU.out v pP; go_simp
                    try simp only [Act.put, List.setIfInBounds_toArray, List.set_cons_zero, List.set_cons_succ]
                    refine wpAnyH_take (i := 13) (oi := ⟨some 168, _, _, _, _, _⟩) (v := .string ⟨D8.toArray⟩) rfl (by kernel_rfl) (by kernel_rfl) (by kernel_rfl) (fun _ _ _ h => h) (Or.inl ⟨by rfl, ?_⟩) (by assumption) ?_
                    · intro v hSv; have hc := HP9.out v hSv; go_simp
                    try simp only [Act.put, List.setIfInBounds_toArray, List.set_cons_zero, List.set_cons_succ]
                    refine wpAnyH_take (i := 14) (oi := ⟨some 169, _, _, _, _, _⟩) (v := .slice (some ⟨pQ, 0, none⟩) 8 32) rfl (by kernel_rfl) (by kernel_rfl) (by kernel_rfl) (fun _ _ _ h => h) (Or.inl ⟨by rfl, ?_⟩) (by assumption) ?_
                    · intro v hSv; have hc := HCU.out v pQ; go_simp
                    try simp only [Act.put, List.setIfInBounds_toArray, List.set_cons_zero, List.set_cons_succ]
                    refine wpAnyH_take (i := 15) (oi := ⟨some 170, _, _, _, _, _⟩) (v := .string ⟨D8.toArray⟩) rfl (by kernel_rfl) (by kernel_rfl) (by kernel_rfl) (fun _ _ _ h => h) (Or.inl ⟨by rfl, ?_⟩) (by assumption) ?_
                    · intro v hSv; have hc := HQ9.out v hSv; go_simp
                    try simp only [Act.put, List.setIfInBounds_toArray, List.set_cons_zero, List.set_cons_succ]
                    refine wpAnyH_take (i := 16) (oi := ⟨some 171, _, _, _, _, _⟩) (v := .bool true) rfl (by kernel_rfl) (by kernel_rfl) (by kernel_rfl) (fun _ _ _ h => h) (Or.inl ⟨by rfl, ?_⟩) (by assumption) ?_
                    · intro v hSv; go_simp
                    try simp only [Act.put, List.setIfInBounds_toArray, List.set_cons_zero, List.set_cons_succ]
                    refine wpAnyH_take (i := 17) (oi := ⟨some 172, _, _, _, _, _⟩) (v := ?_) rfl (by kernel_rfl) (by kernel_rfl) (by kernel_rfl) (fun _ _ _ h => h) (Or.inl ⟨by rfl, ?_⟩) (by assumption) ?_
                    rotate_left
                    · intro w hSw; (try dsimp only at hSw); go_simp; (try with_reducible rfl)
                    try simp only [Act.put, List.setIfInBounds_toArray, List.set_cons_zero, List.set_cons_succ]
                    refine wpAnyH_take (i := 18) (oi := ⟨some 173, _, _, _, _, _⟩) (v := ?_) rfl (by kernel_rfl) (by kernel_rfl) (by kernel_rfl) (fun _ _ _ h => h) (Or.inl ⟨by rfl, ?_⟩) (by assumption) ?_
                    rotate_left
                    · intro w hSw; (try dsimp only at hSw); go_simp; (try with_reducible rfl)
                    try simp only [Act.put, List.setIfInBounds_toArray, List.set_cons_zero, List.set_cons_succ]
                    refine wpAnyH_ready (rs := [19]) (by kernel_rfl) (by simp) ?_
                    refine AllReadyH.cons (o := ⟨some 174, _, _, _, _, _⟩) rfl (fun K hK => ?_) (AllReadyH.nil)
                    go_simp
                    go_at_call 16
                    refine (HKN8.out _ (HS9.out.trans Z0)).mono ?_
                    rintro e z1 ⟨rfl, gz⟩
                    have Z1 := Z0.trans gz
                    go_wp2_with fail
                    refine hK.out _ _ Z1 (fun _ => ?_)
                    clear hK K
                    try simp only [Act.put, List.setIfInBounds_toArray, List.set_cons_zero, List.set_cons_succ]
                    refine wpAnyH_take (i := 20) (oi := ⟨some 175, _, _, _, _, _⟩) (v := ?_) rfl (by kernel_rfl) (by kernel_rfl) (by kernel_rfl) (fun _ _ _ h => h) (Or.inl ⟨by rfl, ?_⟩) (by assumption) ?_
                    rotate_left
                    · intro w hSw; (try dsimp only at hSw); go_simp; (try with_reducible rfl)
                    try simp only [Act.put, List.setIfInBounds_toArray, List.set_cons_zero, List.set_cons_succ]
                    refine wpAnyH_take (i := 21) (oi := ⟨some 8, _, _, _, _, _⟩) (v := ?_) rfl (by kernel_rfl) (by kernel_rfl) (by kernel_rfl) (fun _ _ _ h => h) (Or.inl ⟨by rfl, ?_⟩) (by assumption) ?_
                    rotate_left
                    · intro w hSw; (try dsimp only at hSw); go_simp; (try with_reducible rfl)
                    try simp only [Act.put, List.setIfInBounds_toArray, List.set_cons_zero, List.set_cons_succ]
                    refine wpAnyH_done (by kernel_rfl) ?_ _
                    try simp only [Act.put]
                    go_wp2_with fail
                    go_ret
                    exact ⟨rfl, HG8.out.trans (HS9.out.trans Z1)⟩

end Go.Proofs.YthkghjkgmfjmoaaDoor
