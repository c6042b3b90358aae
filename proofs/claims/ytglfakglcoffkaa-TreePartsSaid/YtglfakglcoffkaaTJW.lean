/-
  TreeJoins, walked.
-/
import Derived.Test.YtglfakglcoffkaaTBW
namespace Go.Proofs.Ytglfakglcoffkaa
open Go.RowKit

theorem idx50_0 (a b : Value) (v : World) : (Instr.index 50 (.agg #[a, b]) (.int .i64 0)).run Try.prog v = .ok a v := by kernel_rfl
theorem idx50_1 (a b : Value) (v : World) : (Instr.index 50 (.agg #[a, b]) (.int .i64 1)).run Try.prog v = .ok b v := by kernel_rfl
theorem meets_symm {L N : List Fil} (h : meetsT L N) : meetsT N L := by
  obtain ⟨f, hf, hh⟩ := h
  unfold hasT at hh
  rw [List.any_eq_true] at hh
  obtain ⟨g, hg, e⟩ := hh
  refine ⟨g, hg, ?_⟩
  unfold hasT
  rw [List.any_eq_true]
  exact ⟨f, hf, by rw [beq_iff_eq] at e ⊢; exact e.symm⟩
theorem same_nil (w : World) : Calls Try.prog 29 #[.slice none 0 0, .slice none 0 0] w fun e w' => e = .returned (.bool true) ∧ Chg none w w' := by
  have h := tsame_any [] [] none none 0 0 w ⟨fun h => absurd rfl h, fun f h => (by cases h)⟩ ⟨fun h => absurd rfl h, fun f h => (by cases h)⟩ (by simp)
  rw [decide_eq_true (show keys [] = keys [] from rfl)] at h
  exact h

set_option maxRecDepth 100000 in
set_option maxHeartbeats 32000000 in
theorem tjoins_law (L N : List Fil) (A B : Option Addr) (c d : Nat) (w : World) (hL : TreeAt w A L) (hN : TreeAt w B N) (hl : L.length ≤ 9223372036854775807) (hn : N.length ≤ 9223372036854775807) :
    Calls Try.prog 7 #[.slice A L.length c, .slice B N.length d] w fun e w' => e = .returned (.bool true) ∧ Chg none w w' := by
  have HK := Lib.hid (fun v => known5_any v)
  have HGR := Lib.hid (great_any L A c w hL hl)
  have HGS := Lib.hid (fun v (g : Chg none w v) => great_any N B d v (hN.chg g) hn)
  have HL : Hid (∀ v, Chg none w v → TreeAt v A L) := fun v g => hL.chg g
  have HN : Hid (∀ v, Chg none w v → TreeAt v B N) := fun v g => hN.chg g
  have HLL := Lib.hid hl
  have HNL := Lib.hid hn
  clear hL hN hl hn
  go_enter Try.func7, Try.ntmps7
  go_wp2_with fail
  refine HGR.out.mono ?_
  rintro e w1 ⟨b, rfl, g1⟩
  have G1 := Lib.hid g1
  clear g1 HGR
  cases b
  rotate_left
  · clear HL HN
    as_aux_lemma =>
      go_wp2_with fail
      refine (HK.out _).mono ?_
      rintro e wk ⟨rfl, gk⟩
      go_wp2_with fail
      go_ret
      exact ⟨rfl, G1.out.trans gk⟩
  have HG2 := Lib.hid (HGS.out w1 G1.out)
  clear HGS
  go_wp2_with fail
  refine HG2.out.mono ?_
  rintro e w2 ⟨b, rfl, g2⟩
  have G2 := Lib.hid (G1.out.trans g2)
  clear g2 HG2
  cases b
  rotate_left
  · clear HL HN
    as_aux_lemma =>
      go_wp2_with fail
      refine (HK.out _).mono ?_
      rintro e wk ⟨rfl, gk⟩
      go_wp2_with fail
      go_ret
      exact ⟨rfl, G2.out.trans gk⟩
  by_cases hu : (mayT L && mayT N) = true
  rotate_left
  · have hu' : (mayT L && mayT N) = false := by simpa using hu
    have HJ1 := Lib.hid (join_no L N A B c d w2 (HL.out w2 G2.out) (HN.out w2 G2.out) HLL.out HNL.out hu')
    have HJ2 := Lib.hid (fun v (g : Chg none w v) => join_no N L B A d c v (HN.out v g) (HL.out v g) HNL.out HLL.out (by rw [Bool.and_comm]; exact hu'))
    clear hu hu' HL HN
    go_wp2_with fail
    refine HJ1.out.mono ?_
    rintro e w3 ⟨rfl, g3⟩
    have G3 := Lib.hid (G2.out.trans g3)
    have HJ3 := Lib.hid (HJ2.out w3 G3.out)
    clear g3 HJ1 HJ2
    go_wp2_with fail
    refine HJ3.out.mono ?_
    rintro e w4 ⟨rfl, g4⟩
    have G4 := Lib.hid (G3.out.trans g4)
    clear g4 HJ3
    as_aux_lemma =>
      have HSA := Lib.hid (same_nil w4)
      go_wp2_with fail
      refine HSA.out.mono ?_
      rintro e w8 ⟨rfl, g8⟩
      have G8 := Lib.hid (G4.out.trans g8)
      clear g8 HSA
      go_wp2_with fail
      refine (HK.out _).mono ?_
      rintro e wk ⟨rfl, gk⟩
      go_wp2_with fail
      go_ret
      exact ⟨rfl, G8.out.trans gk⟩
  rw [Bool.and_eq_true] at hu
  have HJ1 := Lib.hid (join_yes L N A B c d w2 (HL.out w2 G2.out) (HN.out w2 G2.out) hu.1 hu.2)
  have HJ2 := Lib.hid (fun v (g : Chg none w v) => join_yes N L B A d c v (HN.out v g) (HL.out v g) hu.2 hu.1)
  have HMY := Lib.hid hu
  clear hu
  go_wp2_with fail
  refine HJ1.out.mono ?_
  rintro e w3 h3
  rcases h3 with ⟨hme, rfl, g3⟩ | ⟨hnm, g3, h3⟩
  · have HME := Lib.hid hme
    have G3 := Lib.hid (G2.out.trans g3)
    have HJ3 := Lib.hid (HJ2.out w3 G3.out)
    clear g3 HJ1 HJ2 hme HL HN
    go_wp2_with fail
    refine HJ3.out.mono ?_
    rintro e w4 h4
    rcases h4 with ⟨-, rfl, g4⟩ | ⟨hnm, -⟩
    rotate_left
    · exact absurd (meets_symm HME.out) hnm
    have G4 := Lib.hid (G3.out.trans g4)
    clear g4 HJ3
    as_aux_lemma =>
      have HSA := Lib.hid (same_nil w4)
      go_wp2_with fail
      refine HSA.out.mono ?_
      rintro e w8 ⟨rfl, g8⟩
      have G8 := Lib.hid (G4.out.trans g8)
      clear g8 HSA
      go_wp2_with fail
      refine (HK.out _).mono ?_
      rintro e wk ⟨rfl, gk⟩
      go_wp2_with fail
      go_ret
      exact ⟨rfl, G8.out.trans gk⟩
  have HNM := Lib.hid hnm
  have G3 := Lib.hid (G2.out.trans g3)
  have HJ3 := Lib.hid (HJ2.out w3 G3.out)
  clear g3 HJ1 HJ2 hnm
  rcases h3 with ⟨hno, rfl⟩ | ⟨hok, g, cap, M, rfl, htr, -, hkp, hmm⟩
  · have HNO := Lib.hid hno
    clear hno HL HN
    go_wp2_with fail
    refine HJ3.out.mono ?_
    rintro e w4 h4
    rcases h4 with ⟨hme, -, -⟩ | ⟨-, g4, h4⟩
    · exact absurd (meets_symm hme) HNM.out
    rcases h4 with ⟨-, rfl⟩ | ⟨hok, -⟩
    rotate_left
    · exact absurd (okK_mp List.perm_append_comm hok) HNO.out
    have G4 := Lib.hid (G3.out.trans g4)
    clear g4 HJ3
    as_aux_lemma =>
      have HSA := Lib.hid (same_nil w4)
      go_wp2_with fail
      refine HSA.out.mono ?_
      rintro e w8 ⟨rfl, g8⟩
      have G8 := Lib.hid (G4.out.trans g8)
      clear g8 HSA
      go_wp2_with fail
      refine (HK.out _).mono ?_
      rintro e wk ⟨rfl, gk⟩
      go_wp2_with fail
      go_ret
      exact ⟨rfl, G8.out.trans gk⟩
  have HOK := Lib.hid hok
  have HTM : Hid (∀ v, Chg none w3 v → TreeAt v (some ⟨g, 0, none⟩) M) := fun v g => htr.chg g
  have HMM := Lib.hid hmm
  have HKP := Lib.hid hkp
  have HUM : Hid (Up (keys M)) := ((mayT_iff M).1 hmm).2
  have HM16 : Hid (M.length ≤ 16) := (mayT_parts hmm).1
  clear hok htr hkp hmm
  go_wp2_with fail
  refine HJ3.out.mono ?_
  rintro e w4 h4
  rcases h4 with ⟨hme, -, -⟩ | ⟨-, g4, h4⟩
  · exact absurd (meets_symm hme) HNM.out
  have G34 := Lib.hid g4
  clear g4
  rcases h4 with ⟨hno, -⟩ | ⟨-, g', cap', M', rfl, htr', -, hkp', hmm'⟩
  · exact absurd (okK_mp List.perm_append_comm HOK.out) hno
  have hke : keys M = keys M' := up_unique HUM.out ((mayT_iff M').1 hmm').2 (HKP.out.trans (List.perm_append_comm.trans hkp'.symm))
  have HSA : Hid (Calls Try.prog 29 #[.slice (some ⟨g, 0, none⟩) M.length cap, .slice (some ⟨g', 0, none⟩) M'.length cap'] w4 fun e w' => e = .returned (.bool true) ∧ Chg none w4 w') := by
    have h := tsame_any M M' (some ⟨g, 0, none⟩) (some ⟨g', 0, none⟩) cap cap' w4 (HTM.out w4 G34.out) htr' (by have := HM16.out; omega)
    rw [decide_eq_true hke] at h
    exact h
  clear htr' hkp' hmm' hke HJ3
  go_wp2_with fail
  refine HSA.out.mono ?_
  rintro e w5 ⟨rfl, g5⟩
  have G35 := Lib.hid (G34.out.trans g5)
  clear g5 HSA G34
  have HGM : Hid (∀ p y, (p, y) ∈ keys L ++ keys N → getK p (keys M) = some y) := fun p y h => getK_mem (up_ne HUM.out) (HKP.out.symm.mem_iff.1 h)
  have HLEN : Hid (M.length = L.length + N.length) := by
    have h := HKP.out.length_eq
    rw [List.length_append] at h
    have e1 : (keys M).length = M.length := by unfold keys; simp
    have e2 : (keys L).length = L.length := by unfold keys; simp
    have e3 : (keys N).length = N.length := by unfold keys; simp
    show _ = _
    omega
  have HTS : Hid (∀ k, k < 2 → ∃ (T : List Fil) (TA : Option Addr) (tc : Nat), (∀ v, (Instr.index 50 (.agg #[.slice A L.length c, .slice B N.length d]) (.int .i64 (k : Nat))).run Try.prog v = .ok (.slice TA T.length tc) v) ∧ T.length ≤ 16 ∧
      (∀ v, Chg none w3 v → TreeAt v TA T) ∧ ∀ f ∈ T, getK f.p (keys M) = some f.x) := by
    intro k hk
    rcases (show k = 0 ∨ k = 1 by omega) with rfl | rfl
    · exact ⟨L, A, c, fun v => idx50_0 _ _ v, (mayT_parts HMY.out.1).1, fun v g => HL.out v (G3.out.trans g), fun f hf => HGM.out f.p f.x (List.mem_append_left _ (List.mem_map.2 ⟨f, hf, rfl⟩))⟩
    · exact ⟨N, B, d, fun v => idx50_1 _ _ v, (mayT_parts HMY.out.2).1, fun v g => HN.out v (G3.out.trans g), fun f hf => HGM.out f.p f.x (List.mem_append_right _ (List.mem_map.2 ⟨f, hf, rfl⟩))⟩
  clear HL HN HGM
  go_wp2_with fail
  go_loopw [48] (fun s48 wr => ∃ k : Nat, s48 = .int .i64 k ∧ Hid (k ≤ 2) ∧ Hid (Chg none w3 wr)) (fun s48 _ => 2 - (intOf s48).toNat)
  case atStart => exact ⟨0, rfl, Lib.hid (by omega), G35⟩
  case round =>
    obtain ⟨k, rfl, H1, H2⟩ := hrel
    by_cases hlt : k < 2
    · obtain ⟨T, TA, tc, hix, hT16, hTT, hTG⟩ := HTS.out k hlt
      have hd : decide ((k : Int) < 2) = true := by rw [decide_eq_true_eq]; omega
      have hk2 : (k : Int) < 2 := by omega
      have HLK := Lib.hid hlt
      have HTT := Lib.hid hTT
      have HTG := Lib.hid hTG
      have HT16 := Lib.hid hT16
      have hix0 := hix
      clear hTT hTG hlt hix hT16 HTS
      obtain ⟨wo, hwo⟩ : ∃ wo : World, wo = wr := ⟨_, rfl⟩
      rw [← hwo] at H2 ⊢
      clear hwo
      go_wp2_with fail
      clear hix0
      go_loopw [53] (fun s53 wr => ∃ j : Nat, s53 = .int .i64 j ∧ Hid (j ≤ T.length) ∧ Hid (Chg none w3 wr)) (fun s53 _ => T.length - (intOf s53).toNat)
      case atStart => exact ⟨0, rfl, Lib.hid (Nat.zero_le _), H2⟩
      case round =>
        obtain ⟨j, rfl, H3, H4⟩ := hrel
        by_cases hlt : j < T.length
        · have hd : decide ((j : Int) < (T.length : Int)) = true := by rw [decide_eq_true_eq]; omega
          obtain ⟨f, hkx⟩ : ∃ f, T[j]? = some f := ⟨_, List.getElem?_eq_getElem hlt⟩
          have hne : T ≠ [] := by intro e; subst e; simp at hlt
          have HRW := Lib.hid (HTT.out wr H4.out)
          obtain ⟨b, off, rfl, -, -⟩ := HRW.out.1 hne
          obtain ⟨hb, x0, x1⟩ := HRW.out.1.two hkx
          have HLJ := Lib.hid hlt
          have HFX : Hid (∀ v, Chg none w3 v → v.cell? ⟨b, off + j * 2 + 1, none⟩ = some (.slice f.A f.x.length f.c) ∧ Txt v f.A f.x) := fun v g => ⟨((HTT.out v g).1.two hkx).2.2, ((HTT.out v g).2 f (List.mem_of_getElem? hkx)).t⟩
          have HGX := Lib.hid (HTG.out f (List.mem_of_getElem? hkx))
          have h16 := HT16.out
          have hlk := hlt
          have hkl : (j : Int) < (T.length : Int) := by omega
          obtain ⟨fp, fA, fx, fc⟩ := f
          dsimp only at x0 x1 HFX HGX
          have HG9 := Lib.hid (get_yes M (some ⟨g, 0, none⟩) cap fp wr (HTM.out wr H4.out) HMM.out)
          clear hne HRW hlt hkx HTM HTT HTG
          go_wp2_with fail
          refine HG9.out.mono ?_
          rintro e w7 ⟨g7, h7⟩
          have G7 := Lib.hid (H4.out.trans g7)
          clear g7
          rcases h7 with ⟨h7, -⟩ | ⟨x7, A7, c7, h7, rfl, hown7⟩
          · rw [HGX.out] at h7
            cases h7
          obtain rfl : fx = x7 := by
            rw [HGX.out] at h7
            injection h7
          obtain ⟨y1, ty⟩ := HFX.out w7 G7.out
          have hcv1 := conv_reads (c := c7) w7.drew (Reads.of_own hown7).drew
          have hcv2 := conv_reads (c := fc) w7.drew (txt_reads ty).drew
          clear h7 hown7 ty x0 x1 HFX HG9 HGX
          go_upto_region 16 with fail
          go_cut [78] from 54 to 78 (fun s78 wx => s78 = .bool false ∧ Hid (Chg none w3 wx))
          case first =>
            as_aux_lemma =>
              go_region
              all_goals
                go_wp2_with fail
                go_meet
                case rel => exact ⟨by first | rfl | (simp; done), Lib.hid G7.out.drew⟩
          case rest =>
            obtain ⟨rfl, G8⟩ := hcut
            clear hcv1 hcv2 y1
            go_wp2_with fail
            go_roundw
            case rel => exact ⟨j + 1, by first | rfl | (simp; done), Lib.hid HLJ.out, G8⟩
            case measure =>
              have := HLJ.out
              first | omega | (simp only [intOf]; omega) | (simp [intOf]; omega)
        · have hd : decide (j < T.length) = false := by rw [decide_eq_false_iff_not]; exact hlt
          have hd2 : decide ((j : Int) < (T.length : Int)) = false := by rw [decide_eq_false_iff_not]; omega
          clear hlt HTM HTT HTG
          go_wp2_with fail
          go_roundw
          case rel => exact ⟨k + 1, by first | rfl | (simp; done), Lib.hid (by have := HLK.out; omega), H4⟩
          case measure =>
            have := HLK.out
            first | omega | (simp only [intOf]; omega) | (simp [intOf]; omega)
    · have hd2 : decide ((k : Int) < 2) = false := by rw [decide_eq_false_iff_not]; omega
      have hsum : IntKind.i64.wrap ((L.length : Int) + (N.length : Int)) = (L.length : Int) + (N.length : Int) := by have h1 := HLEN.out; have h2 := HM16.out; rw [IntKind.wrap_i64]; omega
      have hb1 : (L.length : Int) ≤ 16 := by have h1 := HLEN.out; have h2 := HM16.out; omega
      have hb2 : (N.length : Int) ≤ 16 := by have h1 := HLEN.out; have h2 := HM16.out; omega
      have heq : ((M.length : Int) == (L.length : Int) + (N.length : Int)) = true := by rw [beq_iff_eq]; have h1 := HLEN.out; omega
      have G9 := Lib.hid (G3.out.trans H2.out)
      clear hlt HTS HTM
      go_wp2_with fail
      refine (HK.out _).mono ?_
      rintro e wk ⟨rfl, gk⟩
      go_wp2_with fail
      go_ret
      exact ⟨rfl, G9.out.trans gk⟩

end Go.Proofs.Ytglfakglcoffkaa
