/-
  TreeUnder, walked.
-/
import Derived.Test.YtglfakglcoffkaaTJW
import Derived.Test.YtglfakglcoffkaaTPW
namespace Go.Proofs.Ytglfakglcoffkaa
open Go.RowKit

/-- What is told where a tree is put together, in whatever case: it may be, or it may not. -/
def ToldA (w : World) (c : Prop) (K : List (List UInt8 × List UInt8)) (e : Ending) (w' : World) : Prop :=
  Chg none w w' ∧ ((∃ n : Int, n ≠ 0 ∧ ¬ (c ∧ okK K) ∧ e = .returned (.tuple #[.slice none 0 0, .int .i64 n])) ∨
    (c ∧ okK K ∧ ∃ (g cap : Nat) (M : List Fil), e = .returned (.tuple #[.slice (some ⟨g, 0, none⟩) M.length cap, .int .i64 0]) ∧ TreeAt w' (some ⟨g, 0, none⟩) M ∧ (keys M).Perm K ∧ mayT M = true))
theorem under_all (L : List Fil) (A : Option Addr) (c : Nat) (dir : List UInt8) (w : World) (hT : TreeAt w A L) (hl : L.length ≤ 9223372036854775807) (hd : dir.length ≤ 9223372036854775807) :
    Calls Try.prog 25 #[.slice A L.length c, .string ⟨dir.toArray⟩] w (ToldA w (mayT L = true ∧ pathB dir = true) (underK dir (keys L))) := by
  by_cases hu : (mayT L && pathB dir) = true
  · rw [Bool.and_eq_true] at hu
    refine (under_told L A c dir w hT hu.1 hu.2).mono fun e w' h => ⟨h.1, ?_⟩
    rcases h.2 with ⟨h1, he⟩ | ⟨h1, g, cap, M, he, htr, -, hkp, hmm⟩
    · exact .inl ⟨8, by decide, fun h => h1 h.2, he⟩
    · exact .inr ⟨hu, h1, g, cap, M, he, htr, hkp, hmm⟩
  · refine (under_no L A c dir w hT hl hd (by simpa using hu)).mono fun e w' h => ⟨h.2, .inl ⟨2, by decide, fun h2 => hu (by rw [h2.1.1, h2.1.2]; rfl), h.1⟩⟩
theorem join_all (L N : List Fil) (A B : Option Addr) (c d : Nat) (w : World) (hL : TreeAt w A L) (hN : TreeAt w B N) (hl : L.length ≤ 9223372036854775807) (hn : N.length ≤ 9223372036854775807) :
    Calls Try.prog 27 #[.slice A L.length c, .slice B N.length d] w (ToldA w (mayT L = true ∧ mayT N = true ∧ ¬ meetsT L N) (keys L ++ keys N)) := by
  by_cases hu : (mayT L && mayT N) = true
  · rw [Bool.and_eq_true] at hu
    refine (join_yes L N A B c d w hL hN hu.1 hu.2).mono fun e w' h => ?_
    rcases h with ⟨h1, he, g⟩ | ⟨h1, g, h⟩
    · exact ⟨g, .inl ⟨7, by decide, fun h => h.1.2.2 h1, he⟩⟩
    · refine ⟨g, ?_⟩
      rcases h with ⟨h2, he⟩ | ⟨h2, g, cap, M, he, htr, -, hkp, hmm⟩
      · exact .inl ⟨8, by decide, fun h => h2 h.2, he⟩
      · exact .inr ⟨⟨hu.1, hu.2, h1⟩, h2, g, cap, M, he, htr, hkp, hmm⟩
  · refine (join_no L N A B c d w hL hN hl hn (by simpa using hu)).mono fun e w' h => ⟨h.2, .inl ⟨2, by decide, fun h2 => hu (by rw [h2.1.1, h2.1.2.1]; rfl), h.1⟩⟩
theorem okK_right {K K' : List (List UInt8 × List UInt8)} (h : okK (K ++ K')) : okK K' := by
  obtain ⟨h1, h2, h3, h4⟩ := h
  rw [List.length_append] at h1
  rw [List.all_append, Bool.and_eq_true] at h2
  refine ⟨by omega, h2.2, (List.pairwise_append.1 h3).2.1, ?_⟩
  unfold sumK at *
  rw [List.map_append, List.sum_append] at h4
  omega
theorem under_app (dir : List UInt8) (K K' : List (List UInt8 × List UInt8)) : underK dir (K ++ K') = underK dir K ++ underK dir K' := by unfold underK; rw [List.map_append]
theorem under_perm (dir : List UInt8) {K K' : List (List UInt8 × List UInt8)} (h : K.Perm K') : (underK dir K).Perm (underK dir K') := h.map _
theorem under_two (one two : List UInt8) (K : List (List UInt8 × List UInt8)) : underK two (underK one K) = underK (two ++ [47] ++ one) K := by
  unfold underK
  rw [List.map_map]
  refine List.map_congr_left fun f _ => ?_
  simp
theorem not_meets {L N : List Fil} (h : (keys L ++ keys N).Pairwise fun a b => a.1 ≠ b.1) : ¬ meetsT L N := by
  rintro ⟨f, hf, hh⟩
  unfold hasT at hh
  rw [List.any_eq_true] at hh
  obtain ⟨g, hg, e⟩ := hh
  rw [beq_iff_eq] at e
  exact (List.pairwise_append.1 h).2.2 (keyF g) (List.mem_map.2 ⟨g, hg, rfl⟩) (keyF f) (List.mem_map.2 ⟨f, hf, rfl⟩) e

set_option maxRecDepth 100000 in
set_option maxHeartbeats 32000000 in
theorem tunder_law (L N : List Fil) (A B : Option Addr) (c d : Nat) (one two : List UInt8) (w : World) (hL : TreeAt w A L) (hN : TreeAt w B N) (hl : L.length ≤ 9223372036854775807) (hn : N.length ≤ 9223372036854775807)
    (hol : one.length ≤ 9223372036854775807) (htl : two.length ≤ 9223372036854775807) :
    Calls Try.prog 9 #[.slice A L.length c, .slice B N.length d, .string ⟨one.toArray⟩, .string ⟨two.toArray⟩] w fun e w' => e = .returned (.bool true) ∧ Chg none w w' := by
  have HK := Lib.hid (fun v => known5_any v)
  have HGR := Lib.hid (great_any L A c w hL hl)
  have HGS := Lib.hid (fun v (g : Chg none w v) => great_any N B d v (hN.chg g) hn)
  have HL : Hid (∀ v, Chg none w v → TreeAt v A L) := fun v g => hL.chg g
  have HN : Hid (∀ v, Chg none w v → TreeAt v B N) := fun v g => hN.chg g
  have HLL := Lib.hid hl
  have HNL := Lib.hid hn
  clear hL hN hl hn
  go_enter Try.func9, Try.ntmps9
  go_wp2_with fail
  refine HGR.out.mono ?_
  rintro e w1 ⟨b, rfl, g1⟩
  have G1 := Lib.hid g1
  clear g1 HGR
  cases b
  rotate_left
  · clear HL HN
    as_aux_lemma =>
      go_wp2_with fail
      refine (HK.out _).mono ?_
      rintro e wk ⟨rfl, gk⟩
      go_wp2_with fail
      go_ret
      exact ⟨rfl, G1.out.trans gk⟩
  have HG2 := Lib.hid (HGS.out w1 G1.out)
  clear HGS
  go_wp2_with fail
  refine HG2.out.mono ?_
  rintro e w2 ⟨b, rfl, g2⟩
  have G2 := Lib.hid (G1.out.trans g2)
  clear g2 HG2
  cases b
  rotate_left
  · clear HL HN
    as_aux_lemma =>
      go_wp2_with fail
      refine (HK.out _).mono ?_
      rintro e wk ⟨rfl, gk⟩
      go_wp2_with fail
      go_ret
      exact ⟨rfl, G2.out.trans gk⟩
  by_cases h1 : 100 < one.length
  · have d1 : decide ((100 : Int) < (one.length : Int)) = true := by rw [decide_eq_true_eq]; omega
    clear h1 HL HN
    as_aux_lemma =>
      go_wp2_with fail
      refine (HK.out _).mono ?_
      rintro e wk ⟨rfl, gk⟩
      go_wp2_with fail
      go_ret
      exact ⟨rfl, G2.out.trans gk⟩
  have d1 : decide ((100 : Int) < (one.length : Int)) = false := by rw [decide_eq_false_iff_not]; omega
  by_cases h2 : 100 < two.length
  · have d2 : decide ((100 : Int) < (two.length : Int)) = true := by rw [decide_eq_true_eq]; omega
    clear h1 h2 HL HN
    as_aux_lemma =>
      go_wp2_with fail
      refine (HK.out _).mono ?_
      rintro e wk ⟨rfl, gk⟩
      go_wp2_with fail
      go_ret
      exact ⟨rfl, G2.out.trans gk⟩
  have d2 : decide ((100 : Int) < (two.length : Int)) = false := by rw [decide_eq_false_iff_not]; omega
  have HO1 : Hid (one.length ≤ 100) := by show _ ≤ _; omega
  have HO2 : Hid (two.length ≤ 100) := by show _ ≤ _; omega
  have HU1 := Lib.hid (under_all L A c one w2 (HL.out w2 G2.out) HLL.out hol)
  clear h1 h2
  go_wp2_with fail
  clear d1 d2
  refine HU1.out.mono ?_
  rintro e w3 ⟨g3, h3⟩
  have G3 := Lib.hid (G2.out.trans g3)
  clear g3 HU1
  have HJ := Lib.hid (fun v (g : Chg none w v) => join_all L N A B c d v (HL.out v g) (HN.out v g) HLL.out HNL.out)
  rcases h3 with ⟨n, hn0, -, rfl⟩ | ⟨⟨hmL, hp1⟩, hok, g, cap, X, rfl, htr, hkp, hmm⟩
  · have hz1 : (n == 0) = false := by rw [beq_eq_false_iff_ne]; exact hn0
    have hz2 : (n != 0) = true := by rw [bne_iff_ne]; exact hn0
    have HJ3 := Lib.hid (HJ.out w3 G3.out)
    clear hn0 HL HN HJ
    go_wp2_with fail
    refine HJ3.out.mono ?_
    rintro e w4 ⟨g4, h4⟩
    have G4 := Lib.hid (G3.out.trans g4)
    clear g4 HJ3
    rcases h4 with ⟨m, -, -, rfl⟩ | ⟨-, -, g', cap', M', rfl, -⟩
    all_goals
      as_aux_lemma =>
        go_wp2_with fail
        refine (HK.out _).mono ?_
        rintro e wk ⟨rfl, gk⟩
        go_wp2_with fail
        go_ret
        exact ⟨rfl, G4.out.trans gk⟩
  have HTX : Hid (∀ v, Chg none w3 v → TreeAt v (some ⟨g, 0, none⟩) X) := fun v g => htr.chg g
  have HMX := Lib.hid hmm
  have HKX : Hid (keys X = underK one (keys L)) := up_unique ((mayT_iff X).1 hmm).2 (up_under one ((mayT_iff L).1 hmL).2) hkp
  have HP1 := Lib.hid hp1
  have HML := Lib.hid hmL
  have HOK := Lib.hid hok
  have HX16 : Hid (X.length ≤ 16) := (mayT_parts hmm).1
  clear htr hmm hkp hp1 hmL hok
  go_upto_if 47 with fail
  go_cut [47] (fun _ wx => Hid (Chg none w3 wx))
  case first =>
    clear HJ HN HK
    have HU2 := Lib.hid (under_all X (some ⟨g, 0, none⟩) cap two w3 (HTX.out w3 (Chg.refl _ _)) (by have := HX16.out; omega) htl)
    have hc1 : (⟨two.toArray⟩ : ByteArray) ++ (⟨#[47]⟩ : ByteArray) = ⟨(two ++ [47]).toArray⟩ := ba_append two [47]
    obtain ⟨tw, HTW⟩ : ∃ tw, Hid (two ++ [47] ++ one = tw) := ⟨two ++ [47] ++ one, Lib.hid rfl⟩
    have hc2 : (⟨(two ++ [47]).toArray⟩ : ByteArray) ++ (⟨one.toArray⟩ : ByteArray) = ⟨tw.toArray⟩ := by rw [← HTW.out]; exact ba_append _ _
    have ho1 : one.length ≤ 100 := HO1.out
    have ho2 : two.length ≤ 100 := HO2.out
    have hs1 : ¬ 9223372036854775807 < two.length + 1 := by omega
    have hs2 : ¬ 9223372036854775807 < two.length + 1 + one.length := by omega
    have HU3 := Lib.hid (fun v (g : Chg none w v) => under_all L A c tw v (HL.out v g) HLL.out (by rw [← HTW.out]; simp only [List.length_append, List.length_cons, List.length_nil]; omega))
    clear ho1 ho2 HL
    go_wp2_with fail
    refine HU2.out.mono ?_
    rintro e w4 ⟨g4, h4⟩
    have G34 := Lib.hid g4
    have HU4 := Lib.hid (HU3.out w4 (G3.out.trans g4))
    clear g4 HU2 HU3
    rcases h4 with ⟨n, hn0, -, rfl⟩ | ⟨⟨-, hp2⟩, hok2, g', cap', Y, rfl, htr, hkp, hmm⟩
    · have hz1 : (n == 0) = false := by rw [beq_eq_false_iff_ne]; exact hn0
      clear hn0
      go_wp2_with fail
      refine HU4.out.mono ?_
      rintro e w5 ⟨g5, h5⟩
      have G35 := Lib.hid (G34.out.trans g5)
      clear g5 HU4
      rcases h5 with ⟨m, -, -, rfl⟩ | ⟨-, -, g', cap', M', rfl, -⟩
      all_goals
        go_wp2_with fail
        go_meet
        case rel => exact G35
    · have HTY : Hid (∀ v, Chg none w4 v → TreeAt v (some ⟨g', 0, none⟩) Y) := fun v g => htr.chg g
      have HKY : Hid (keys Y = underK tw (keys L)) := by
        show _ = _
        rw [← HTW.out, ← under_two, ← HKX.out]
        exact up_unique ((mayT_iff Y).1 hmm).2 (up_under two ((mayT_iff X).1 HMX.out).2) hkp
      have HOY : Hid (okK (underK tw (keys L))) := by
        show okK _
        rw [← HTW.out, ← under_two, ← HKX.out]
        exact hok2
      have HY16 : Hid (Y.length ≤ 16) := (mayT_parts hmm).1
      have HP2 := Lib.hid hp2
      clear hp2 hok2 htr hkp hmm
      go_wp2_with fail
      refine HU4.out.mono ?_
      rintro e w5 ⟨g5, h5⟩
      have G45 := Lib.hid g5
      have G35 := Lib.hid (G34.out.trans g5)
      clear g5 HU4
      rcases h5 with ⟨m, hm0, hno, rfl⟩ | ⟨-, -, g'', cap'', Z, rfl, htr, hkp, hmm⟩
      · have hz1 : (m == 0) = false := by rw [beq_eq_false_iff_ne]; exact hm0
        have hz2 : (m != 0) = true := by rw [bne_iff_ne]; exact hm0
        have hlen : decide ((two.length : Int) + (one.length : Int) + 1 ≤ 40) = false := by
          rw [decide_eq_false_iff_not]
          intro h
          refine hno ⟨⟨HML.out, ?_⟩, HOY.out⟩
          rw [← HTW.out, pathB_join, HP1.out, HP2.out, decide_eq_true (by omega)]
          rfl
        have hlen2 : ¬ ((two.length : Int) + (one.length : Int) + 1 ≤ 40) := by simpa using hlen
        have hw1 : IntKind.i64.wrap ((two.length : Int) + (one.length : Int)) = (two.length : Int) + (one.length : Int) := by have h1 := HO1.out; have h2 := HO2.out; rw [IntKind.wrap_i64]; omega
        have hw2 : IntKind.i64.wrap ((two.length : Int) + (one.length : Int) + 1) = (two.length : Int) + (one.length : Int) + 1 := by have h1 := HO1.out; have h2 := HO2.out; rw [IntKind.wrap_i64]; omega
        have hb1 : (one.length : Int) ≤ 100 := by have h1 := HO1.out; omega
        have hb2 : (two.length : Int) ≤ 100 := by have h1 := HO2.out; omega
        clear hno hm0
        go_wp2_with fail
        go_meet
        case rel => exact G35
      · have hke : keys Y = keys Z := by rw [HKY.out]; exact (up_unique ((mayT_iff Z).1 hmm).2 (up_under _ ((mayT_iff L).1 HML.out).2) hkp).symm
        have HSA : Hid (Calls Try.prog 29 #[.slice (some ⟨g', 0, none⟩) Y.length cap', .slice (some ⟨g'', 0, none⟩) Z.length cap''] w5 fun e w' => e = .returned (.bool true) ∧ Chg none w5 w') := by
          have h := tsame_any Y Z (some ⟨g', 0, none⟩) (some ⟨g'', 0, none⟩) cap' cap'' w5 (HTY.out w5 G45.out) htr (by have := HY16.out; omega)
          rw [decide_eq_true hke] at h
          exact h
        clear htr hkp hmm hke HTY
        go_wp2_with fail
        refine HSA.out.mono ?_
        rintro e w6 ⟨rfl, g6⟩
        have G36 := Lib.hid (G35.out.trans g6)
        clear g6
        go_wp2_with fail
        go_meet
        case rel => exact G36
  case rest =>
    have G34 := hcut
    obtain ⟨w4, hw4⟩ : ∃ w4, w4 = wc := ⟨_, rfl⟩
    clear hcut
    rw [← hw4] at G34 ⊢
    clear hw4
    have G4 := Lib.hid (G3.out.trans G34.out)
    have HJ4 := Lib.hid (HJ.out w4 G4.out)
    clear HJ
    go_wp2_with fail
    refine HJ4.out.mono ?_
    rintro e w5 ⟨g5, h5⟩
    have G45 := Lib.hid g5
    have G5 := Lib.hid (G4.out.trans g5)
    clear g5 HJ4
    rcases h5 with ⟨n, hn0, -, rfl⟩ | ⟨⟨-, hmN, -⟩, hokJ, gj, capj, J, rfl, htr, hkp, hmm⟩
    · have hz2 : (n != 0) = true := by rw [bne_iff_ne]; exact hn0
      clear hn0 HL HN
      as_aux_lemma =>
        go_wp2_with fail
        refine (HK.out _).mono ?_
        rintro e wk ⟨rfl, gk⟩
        go_wp2_with fail
        go_ret
        exact ⟨rfl, G5.out.trans gk⟩
    have HTJ : Hid (∀ v, Chg none w5 v → TreeAt v (some ⟨gj, 0, none⟩) J) := fun v g => htr.chg g
    have HMJ := Lib.hid hmm
    have HKJ := Lib.hid hkp
    have HMN := Lib.hid hmN
    have HJ16 : Hid (J.length ≤ 16) := (mayT_parts hmm).1
    have HU5 := Lib.hid (under_all N B d one w5 (HN.out w5 G5.out) HNL.out hol)
    clear htr hmm hkp hmN hokJ HL HN
    go_wp2_with fail
    refine HU5.out.mono ?_
    rintro e w6 ⟨g6, h6⟩
    have G56 := Lib.hid g6
    have G6 := Lib.hid (G5.out.trans g6)
    have HV6 := Lib.hid (under_all J (some ⟨gj, 0, none⟩) capj one w6 (HTJ.out w6 g6) (by have := HJ16.out; omega) hol)
    clear g6 HU5
    rcases h6 with ⟨n, hn0, hno, rfl⟩ | ⟨-, -, gu, capu, U, rfl, htr, hkp, hmm⟩
    · have HNO := Lib.hid hno
      clear hn0 hno
      go_wp2_with fail
      refine HV6.out.mono ?_
      rintro e w7 ⟨g7, h7⟩
      have G7 := Lib.hid (G6.out.trans g7)
      clear g7 HV6
      rcases h7 with ⟨m, hm0, -, rfl⟩ | ⟨-, hok7, -⟩
      · have hz2 : (m != 0) = true := by rw [bne_iff_ne]; exact hm0
        clear hm0 HTJ
        as_aux_lemma =>
          go_wp2_with fail
          refine (HK.out _).mono ?_
          rintro e wk ⟨rfl, gk⟩
          go_wp2_with fail
          go_ret
          exact ⟨rfl, G7.out.trans gk⟩
      · refine absurd ⟨⟨HMN.out, HP1.out⟩, ?_⟩ HNO.out
        refine okK_right (K := underK one (keys L)) ?_
        rw [← under_app]
        exact okK_mp (under_perm one HKJ.out) hok7
    have HTU : Hid (∀ v, Chg none w6 v → TreeAt v (some ⟨gu, 0, none⟩) U) := fun v g => htr.chg g
    have HMU := Lib.hid hmm
    have HKU : Hid (keys U = underK one (keys N)) := up_unique ((mayT_iff U).1 hmm).2 (up_under one ((mayT_iff N).1 HMN.out).2) hkp
    have HU16 : Hid (U.length ≤ 16) := (mayT_parts hmm).1
    clear htr hmm hkp
    go_wp2_with fail
    refine HV6.out.mono ?_
    rintro e w7 ⟨g7, h7⟩
    have G67 := Lib.hid g7
    have G7 := Lib.hid (G6.out.trans g7)
    clear g7 HV6
    rcases h7 with ⟨m, hm0, -, rfl⟩ | ⟨-, hok7, gv, capv, V, rfl, htr, hkp, hmm⟩
    · have hz2 : (m != 0) = true := by rw [bne_iff_ne]; exact hm0
      clear hm0 HTJ
      as_aux_lemma =>
        go_wp2_with fail
        refine (HK.out _).mono ?_
        rintro e wk ⟨rfl, gk⟩
        go_wp2_with fail
        go_ret
        exact ⟨rfl, G7.out.trans gk⟩
    have HTV : Hid (∀ v, Chg none w7 v → TreeAt v (some ⟨gv, 0, none⟩) V) := fun v g => htr.chg g
    have HMV := Lib.hid hmm
    have HV16 : Hid (V.length ≤ 16) := (mayT_parts hmm).1
    have hkv : (keys V).Perm (keys X ++ keys U) := by
      rw [HKX.out, HKU.out, ← under_app]
      exact hkp.trans (under_perm one HKJ.out)
    have HKV := Lib.hid hkv
    have hokW : okK (keys X ++ keys U) := okK_mp hkv ((mayT_iff V).1 hmm).1
    have HOW := Lib.hid hokW
    have HNM := Lib.hid (not_meets hokW.2.2.1)
    have HJW := Lib.hid (join_all X U (some ⟨g, 0, none⟩) (some ⟨gu, 0, none⟩) cap capu w7 (HTX.out w7 (G34.out.trans (G45.out.trans (G56.out.trans G67.out)))) (HTU.out w7 G67.out) (by have := HX16.out; omega) (by have := HU16.out; omega))
    clear htr hmm hkp hok7 hkv hokW HTX HTU HTJ
    go_wp2_with fail
    refine HJW.out.mono ?_
    rintro e w8 ⟨g8, h8⟩
    have G8 := Lib.hid (G7.out.trans g8)
    have G78 := Lib.hid g8
    clear g8 HJW
    rcases h8 with ⟨m, -, hno, -⟩ | ⟨-, -, gw, capw, W, rfl, htr, hkp, hmm⟩
    · exact absurd ⟨⟨HMX.out, HMU.out, HNM.out⟩, HOW.out⟩ hno
    have hke : keys V = keys W := up_unique ((mayT_iff V).1 HMV.out).2 ((mayT_iff W).1 hmm).2 (HKV.out.trans hkp.symm)
    have HSA : Hid (Calls Try.prog 29 #[.slice (some ⟨gv, 0, none⟩) V.length capv, .slice (some ⟨gw, 0, none⟩) W.length capw] w8 fun e w' => e = .returned (.bool true) ∧ Chg none w8 w') := by
      have h := tsame_any V W (some ⟨gv, 0, none⟩) (some ⟨gw, 0, none⟩) capv capw w8 (HTV.out w8 G78.out) htr (by have := HV16.out; omega)
      rw [decide_eq_true hke] at h
      exact h
    clear htr hkp hmm hke HTV
    go_wp2_with fail
    refine HSA.out.mono ?_
    rintro e w9 ⟨rfl, g9⟩
    have G9 := Lib.hid (G8.out.trans g9)
    clear g9 HSA
    go_wp2_with fail
    refine (HK.out _).mono ?_
    rintro e wk ⟨rfl, gk⟩
    go_wp2_with fail
    go_ret
    exact ⟨rfl, G9.out.trans gk⟩

end Go.Proofs.Ytglfakglcoffkaa
