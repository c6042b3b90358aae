/-
  TreeBack, walked.
-/
import Derived.Test.YtglfakglcoffkaaTJ
import Derived.Test.YtglfakglcoffkaaTK
import Derived.Deep.CutBlock
namespace Go.Proofs.Ytglfakglcoffkaa
open Go.RowKit

theorem cmp_pre : ∀ (p a b : List UInt8), cmpB (p ++ a) (p ++ b) = cmpB a b
  | [], _, _ => rfl
  | x :: p, a, b => by
    rw [List.cons_append, List.cons_append, cmp_cons, if_neg (UInt8.lt_irrefl x), if_neg (UInt8.lt_irrefl x)]
    exact cmp_pre p a b
theorem up_under (dir : List UInt8) {K : List (List UInt8 × List UInt8)} (h : Up K) : Up (underK dir K) := by
  unfold Up underK at *
  rw [List.pairwise_map]
  refine List.Pairwise.imp (fun {a b} hab => ?_) h
  rw [cmp_pre, cmp_pre]
  exact hab
theorem pref_self (d p : List UInt8) : prefB (d ++ ([47] ++ p)) (d ++ [47]) = true := by
  unfold prefB
  rw [← List.append_assoc]
  generalize d ++ [47] = q
  rw [Bool.and_eq_true, decide_eq_true_eq, beq_iff_eq]
  exact ⟨by rw [List.length_append]; omega, List.take_left' rfl⟩
theorem drop_self (d p : List UInt8) : (d ++ ([47] ++ p)).drop (d.length + 1) = p := by
  rw [← List.append_assoc]
  exact List.drop_left' (by simp)
theorem below_under (dir : List UInt8) (K : List (List UInt8 × List UInt8)) : belowK dir (underK dir K) = K := by
  unfold belowK underK
  rw [List.filter_eq_self.2 (fun a ha => by
    obtain ⟨f, -, rfl⟩ := List.mem_map.1 ha
    exact pref_self dir f.1), List.map_map]
  conv => rhs; rw [← List.map_id K]
  refine List.map_congr_left fun f _ => ?_
  show ((dir ++ ([47] ++ f.1)).drop (dir.length + 1), f.2) = f
  rw [drop_self]
theorem filter_len {path : List UInt8} : ∀ {K : List (List UInt8 × List UInt8)}, (K.Pairwise fun a b => a.1 ≠ b.1) → (getK path K).isSome = true → (K.filter fun f => f.1 != path).length + 1 = K.length
  | [], _, h => by simp [getK] at h
  | f :: K, hn, h => by
    rw [List.pairwise_cons] at hn
    rw [List.filter_cons]
    by_cases hp : f.1 = path
    · have h1 : (f.1 != path) = false := by rw [bne_eq_false_iff_eq]; exact hp
      rw [h1, if_neg (by decide), List.filter_eq_self.2 (fun a ha => by rw [bne_iff_ne, ← hp]; exact (hn.1 a ha).symm), List.length_cons]
    · have h1 : (f.1 != path) = true := by rw [bne_iff_ne]; exact hp
      have h2 : getK path (f :: K) = getK path K := by
        unfold getK
        rw [List.find?_cons]
        have : (f.1 == path) = false := by rw [beq_eq_false_iff_ne]; exact hp
        rw [this]
      rw [h2] at h
      rw [h1, if_pos rfl, List.length_cons, List.length_cons, filter_len hn.2 h]
theorem filter_len0 {path : List UInt8} {K : List (List UInt8 × List UInt8)} (h : getK path K = none) : (K.filter fun f => f.1 != path).length = K.length := by
  rw [List.filter_eq_self.2 (fun a ha => by rw [bne_iff_ne]; exact getK_none.1 h a ha)]

/-- Where Under has been asked: nothing, or what stands under the directory. -/
def UMid (w : World) (L : List Fil) (dir : List UInt8) (s9 s10 : Value) (wx : World) : Prop :=
  Chg none w wx ∧ ((∃ n : Int, n ≠ 0 ∧ s9 = .slice none 0 0 ∧ s10 = .int .i64 n) ∨
    ∃ (A : Option Addr) (c : Nat) (M : List Fil), s9 = .slice A M.length c ∧ s10 = .int .i64 0 ∧ pathB dir = true ∧ TreeAt wx A M ∧ keys M = underK dir (keys L) ∧ mayT M = true)

set_option maxRecDepth 100000 in
set_option maxHeartbeats 32000000 in
theorem tback_law (L : List Fil) (A : Option Addr) (c : Nat) (dir path : List UInt8) (Ax : Option Addr) (x : List UInt8) (cx : Nat) (w : World) (hT : TreeAt w A L) (hl : L.length ≤ 9223372036854775807)
    (hdl : dir.length ≤ 9223372036854775807) (hpl : path.length ≤ 9223372036854775807) (hx : Txt w Ax x) (hn : NilOk Ax x.length cx) (hxl : x.length ≤ 9223372036854775807) :
    Calls Try.prog 5 #[.slice A L.length c, .string ⟨dir.toArray⟩, .string ⟨path.toArray⟩, .slice Ax x.length cx] w fun e w' => e = .returned (.bool true) ∧ Chg none w w' := by
  have HK := Lib.hid (fun v => known5_any v)
  have HGR := Lib.hid (great_any L A c w hT hl)
  have HT : Hid (∀ v, Chg none w v → TreeAt v A L) := fun v g => hT.chg g
  have HX : Hid (∀ v, Chg none w v → Txt v Ax x) := fun v g => hx.chg g
  have HN := Lib.hid hn
  have HL := Lib.hid hl
  clear hT hx hn hl
  go_enter Try.func5, Try.ntmps5
  go_wp2_with fail
  refine HGR.out.mono ?_
  rintro e w1 ⟨b, rfl, g1⟩
  have G1 := Lib.hid g1
  clear g1 HGR
  cases b
  rotate_left
  · clear HT HX HN HL hdl hpl hxl
    as_aux_lemma =>
      go_wp2_with fail
      refine (HK.out _).mono ?_
      rintro e wk ⟨rfl, gk⟩
      go_wp2_with fail
      go_ret
      exact ⟨rfl, G1.out.trans gk⟩
  by_cases h1 : 1000 < dir.length
  · have d1 : decide ((1000 : Int) < (dir.length : Int)) = true := by rw [decide_eq_true_eq]; omega
    clear h1 HT HX HN HL
    as_aux_lemma =>
      go_wp2_with fail
      refine (HK.out _).mono ?_
      rintro e wk ⟨rfl, gk⟩
      go_wp2_with fail
      go_ret
      exact ⟨rfl, G1.out.trans gk⟩
  have d1 : decide ((1000 : Int) < (dir.length : Int)) = false := by rw [decide_eq_false_iff_not]; omega
  by_cases h2 : 1000 < path.length
  · have d2 : decide ((1000 : Int) < (path.length : Int)) = true := by rw [decide_eq_true_eq]; omega
    clear h1 h2 HT HX HN HL
    as_aux_lemma =>
      go_wp2_with fail
      refine (HK.out _).mono ?_
      rintro e wk ⟨rfl, gk⟩
      go_wp2_with fail
      go_ret
      exact ⟨rfl, G1.out.trans gk⟩
  have d2 : decide ((1000 : Int) < (path.length : Int)) = false := by rw [decide_eq_false_iff_not]; omega
  by_cases h3 : 3000 < x.length
  · have d3 : decide ((3000 : Int) < (x.length : Int)) = true := by rw [decide_eq_true_eq]; omega
    clear h1 h2 h3 HT HX HN HL
    as_aux_lemma =>
      go_wp2_with fail
      refine (HK.out _).mono ?_
      rintro e wk ⟨rfl, gk⟩
      go_wp2_with fail
      go_ret
      exact ⟨rfl, G1.out.trans gk⟩
  have d3 : decide ((3000 : Int) < (x.length : Int)) = false := by rw [decide_eq_false_iff_not]; omega
  have HXL : Hid (x.length ≤ 3000) := by show _ ≤ _; omega
  clear h1 h2 h3
  go_upto_region 3 with fail
  clear d1 d2 d3
  go_cut [9, 10] (fun s9 s10 wx => UMid w L dir s9 s10 wx)
  case first =>
    clear HX HN HXL HK
    by_cases hu : (mayT L && pathB dir) = true
    · rw [Bool.and_eq_true] at hu
      have HUT := Lib.hid (under_told L A c dir w1 (HT.out w1 G1.out) hu.1 hu.2)
      have HUP : Hid (Up (keys L)) := ((mayT_iff L).1 hu.1).2
      have HDP := Lib.hid hu.2
      clear hu HT HL
      go_wp2_with fail
      refine HUT.out.mono ?_
      rintro e w2 ⟨g2, h2⟩
      have G2 := Lib.hid (G1.out.trans g2)
      clear g2 HUT
      rcases h2 with ⟨-, rfl⟩ | ⟨-, g, cap, M, rfl, htr, -, hkp, hmm⟩
      · go_wp2_with fail
        go_meet
        case rel => exact ⟨G2.out, .inl ⟨8, by decide, rfl, rfl⟩⟩
      · have HE : Hid (TreeAt w2 (some ⟨g, 0, none⟩) M ∧ keys M = underK dir (keys L) ∧ mayT M = true) := ⟨htr, up_unique ((mayT_iff M).1 hmm).2 (up_under dir HUP.out) hkp, hmm⟩
        clear htr hkp hmm
        go_wp2_with fail
        go_meet
        case rel => exact ⟨G2.out, .inr ⟨_, _, M, rfl, rfl, HDP.out, HE.out⟩⟩
    · have hu' : (mayT L && pathB dir) = false := by simpa using hu
      have HUN := Lib.hid (under_no L A c dir w1 (HT.out w1 G1.out) HL.out hdl hu')
      clear hu hu' HT
      go_wp2_with fail
      refine HUN.out.mono ?_
      rintro e w2 ⟨rfl, g2⟩
      have G2 := Lib.hid (G1.out.trans g2)
      clear g2
      go_wp2_with fail
      go_meet
      case rel => exact ⟨G2.out, .inl ⟨2, by decide, rfl, rfl⟩⟩
  case rest =>
    obtain ⟨g2, hum⟩ := hcut
    have G2 := Lib.hid g2
    have HUM := Lib.hid hum
    clear g2 hum
    obtain ⟨w2, hw2⟩ : ∃ w2, w2 = wc := ⟨_, rfl⟩
    rw [← hw2] at G2 HUM ⊢
    clear hw2
    go_upto_region 4 with fail
    go_cut [53] (fun s53 wx => s53 = .bool false ∧ Hid (Chg none w wx))
    case first =>
      clear HX HN HXL HK
      rcases HUM.out with ⟨n, hn0, rfl, rfl⟩ | ⟨AM, cM, M, rfl, rfl, hdp, htr, hkm, hmm⟩
      · have hz : (n == 0) = false := by rw [beq_eq_false_iff_ne]; exact hn0
        clear HUM hn0
        go_wp2_with fail
        go_meet
        case rel => exact ⟨rfl, G2⟩
      · have HBL := Lib.hid (below_yes M AM cM dir w2 htr hmm hdp)
        have HKM := Lib.hid hkm
        have HMM := Lib.hid hmm
        clear HUM htr hdp hkm hmm
        go_wp2_with fail
        refine HBL.out.mono ?_
        rintro e w3 ⟨A3, c3, M3, rfl, hol, hmk, hml, hmp⟩
        have G3 := Lib.hid (G2.out.trans hol.chg)
        have hk3 : keys M3 = keys L := by
          have h : keys M3 = belowK dir (keys M) := hmk
          rw [h, HKM.out, below_under]
        have HSA : Hid (Calls Try.prog 29 #[.slice A3 M3.length c3, .slice A L.length c] w3 fun e w' => e = .returned (.bool true) ∧ Chg none w3 w') := by
          have h := tsame_any M3 L A3 A c3 c w3 (hol.tree (fun m hm => by have := hmp m hm; omega)) (HT.out w3 G3.out) (by have := (mayT_parts HMM.out).1; omega)
          rw [decide_eq_true hk3] at h
          exact h
        clear hol hmk hml hmp hk3 HBL
        go_wp2_with fail
        refine HSA.out.mono ?_
        rintro e w4 ⟨rfl, g4⟩
        have G4 := Lib.hid (G3.out.trans g4)
        clear g4
        go_wp2_with fail
        go_meet
        case rel => exact ⟨rfl, G4⟩
    case rest =>
      obtain ⟨rfl, G3⟩ := hcut
      obtain ⟨w3, hw3⟩ : ∃ w3, w3 = wc := ⟨_, rfl⟩
      rw [← hw3] at G3 ⊢
      clear hw3 HUM G2 G1
      by_cases hu : (mayT L && pathB path) = true
      rotate_left
      · have hu' : (mayT L && pathB path) = false := by simpa using hu
        have HUN := Lib.hid (with_no L A c path (.slice Ax x.length cx) w3 (HT.out w3 G3.out) HL.out hpl hu')
        clear hu hu' HT HX
        go_wp2_with fail
        refine HUN.out.mono ?_
        rintro e w4 ⟨rfl, g4⟩
        have G4 := Lib.hid (G3.out.trans g4)
        clear g4
        as_aux_lemma =>
          go_wp2_with fail
          refine (HK.out _).mono ?_
          rintro e wk ⟨rfl, gk⟩
          go_wp2_with fail
          go_ret
          exact ⟨rfl, G4.out.trans gk⟩
      rw [Bool.and_eq_true] at hu
      have HWT := Lib.hid (with_yes L A c path Ax x cx w3 (HT.out w3 G3.out) hu.1 hu.2 (HX.out w3 G3.out) HN.out (by have := HXL.out; omega))
      have HMY := Lib.hid hu.1
      clear hu
      go_wp2_with fail
      refine HWT.out.mono ?_
      rintro e w4 ⟨g4, h4⟩
      have G4 := Lib.hid (G3.out.trans g4)
      clear g4 HWT
      rcases h4 with ⟨-, rfl⟩ | ⟨-, g, cap, M, rfl, htr, -, hkp, hmm⟩
      · clear HT HX
        as_aux_lemma =>
          go_wp2_with fail
          refine (HK.out _).mono ?_
          rintro e wk ⟨rfl, gk⟩
          go_wp2_with fail
          go_ret
          exact ⟨rfl, G4.out.trans gk⟩
      have HTM : Hid (∀ v, Chg none w4 v → TreeAt v (some ⟨g, 0, none⟩) M) := fun v g => htr.chg g
      have HMM := Lib.hid hmm
      have HNE : Hid ((keys M).Pairwise fun a b => a.1 ≠ b.1) := ((mayT_iff M).1 hmm).1.2.2.1
      have HGM : Hid (∀ p y, (p, y) ∈ withK path x (keys L) → getK p (keys M) = some y) := fun p y h => getK_mem HNE.out (hkp.symm.mem_iff.1 h)
      have HLEN : Hid (M.length = ((keys L).filter fun f => f.1 != path).length + 1) := by
        have h := hkp.length_eq
        unfold withK at h
        rw [List.length_append, List.length_singleton] at h
        have e : (keys M).length = M.length := by unfold keys; simp
        show _ = _
        rw [← e, h]
      have HM16 : Hid (M.length ≤ 16) := (mayT_parts hmm).1
      have HL16 : Hid (L.length ≤ 16) := (mayT_parts HMY.out).1
      have HG4 := Lib.hid (get_yes M (some ⟨g, 0, none⟩) cap path w4 htr hmm)
      clear htr hkp hmm
      go_wp2_with fail
      refine HG4.out.mono ?_
      rintro e w5 ⟨g5, h5⟩
      have G45 := Lib.hid g5
      have G5 := Lib.hid (G4.out.trans g5)
      clear g5 HG4
      rcases h5 with ⟨h5, -⟩ | ⟨x5, A5, c5, h5, rfl, hown5⟩
      · rw [HGM.out path x (by unfold withK; simp)] at h5
        cases h5
      obtain rfl : x = x5 := by
        rw [HGM.out path x (by unfold withK; simp)] at h5
        injection h5
      have hcv1 := conv_reads (c := c5) w5 (Reads.of_own hown5)
      have hcv2 := conv_reads (c := cx) w5 (txt_reads (HX.out w5 G5.out))
      have HMM5 := Lib.hid (mayt_any M (some ⟨g, 0, none⟩) cap w5 (HTM.out w5 G45.out) (by have := HM16.out; omega))
      rw [HMM.out] at HMM5
      clear h5 hown5
      go_wp2_with fail
      refine HMM5.out.mono ?_
      rintro e w6 ⟨rfl, g6⟩
      have G46 := Lib.hid (G45.out.trans g6)
      clear g6 hcv1 hcv2 HMM5 G45 G5
      go_wp2_with fail
      go_loopw [86] (fun s86 wr => ∃ k : Nat, s86 = .int .i64 k ∧ Hid (k ≤ L.length) ∧ Hid (Chg none w4 wr)) (fun s86 _ => L.length - (intOf s86).toNat)
      case atStart => exact ⟨0, rfl, Lib.hid (Nat.zero_le _), G46⟩
      case round =>
        obtain ⟨k, rfl, H1, H2⟩ := hrel
        by_cases hlt : k < L.length
        · have hd : decide ((k : Int) < (L.length : Int)) = true := by rw [decide_eq_true_eq]; omega
          obtain ⟨f, hkx⟩ : ∃ f, L[k]? = some f := ⟨_, List.getElem?_eq_getElem hlt⟩
          have hne : L ≠ [] := by intro e; subst e; simp at hlt
          have HRW := Lib.hid (HT.out wr (G4.out.trans H2.out))
          obtain ⟨b, off, rfl, -, -⟩ := HRW.out.1 hne
          obtain ⟨hb, x0, x1⟩ := HRW.out.1.two hkx
          have HLK := Lib.hid hlt
          have HKX := Lib.hid hkx
          have HFX : Hid (∀ v, Chg none w4 v → v.cell? ⟨b, off + k * 2 + 1, none⟩ = some (.slice f.A f.x.length f.c) ∧ Txt v f.A f.x) := fun v g => ⟨((HT.out v (G4.out.trans g)).1.two hkx).2.2, ((HT.out v (G4.out.trans g)).2 f (List.mem_of_getElem? hkx)).t⟩
          have h16 := HL16.out
          have hlk := hlt
          clear hne HRW hlt HT HX
          obtain ⟨fp, fA, fx, fc⟩ := f
          dsimp only at x0 x1 HFX
          by_cases hp : fp = path
          · subst hp
            clear hkx
            go_wp2_with fail
            go_roundw
            case rel => exact ⟨k + 1, by first | rfl | (simp; done), Lib.hid HLK.out, H2⟩
            case measure =>
              have := HLK.out
              first | omega | (simp only [intOf]; omega) | (simp [intOf]; omega)
          · have e1 : (fp == path) = false := by rw [beq_eq_false_iff_ne]; exact hp
            have HGX : Hid (getK fp (keys M) = some fx) := HGM.out fp fx (by
              unfold withK
              refine List.mem_append_left _ (List.mem_filter.2 ⟨List.mem_map.2 ⟨_, List.mem_of_getElem? hkx, rfl⟩, by rw [bne_iff_ne]; exact hp⟩))
            have HG9 := Lib.hid (get_yes M (some ⟨g, 0, none⟩) cap fp wr (HTM.out wr H2.out) HMM.out)
            have hkl : (k : Int) < (L.length : Int) := by omega
            clear hkx hp HGM HTM
            go_wp2_with fail
            refine HG9.out.mono ?_
            rintro e w7 ⟨g7, h7⟩
            have G7 := Lib.hid (H2.out.trans g7)
            clear g7
            rcases h7 with ⟨h7, -⟩ | ⟨x7, A7, c7, h7, rfl, hown7⟩
            · rw [HGX.out] at h7
              cases h7
            obtain rfl : fx = x7 := by
              rw [HGX.out] at h7
              injection h7
            obtain ⟨y1, ty⟩ := HFX.out w7 G7.out
            have hcv1 := conv_reads (c := c7) w7.drew (Reads.of_own hown7).drew
            have hcv2 := conv_reads (c := fc) w7.drew (txt_reads ty).drew
            clear h7 hown7 ty x0 x1 HFX HG9 HGX
            go_upto_region 17 with fail
            go_cut [118] from 87 to 118 (fun s118 wx => s118 = .bool false ∧ Hid (Chg none w4 wx))
            case first =>
              as_aux_lemma =>
                go_region
                all_goals
                  go_wp2_with fail
                  go_meet
                  case rel => exact ⟨by first | rfl | (simp; done), Lib.hid G7.out.drew⟩
            case rest =>
              obtain ⟨rfl, G8⟩ := hcut
              clear hcv1 hcv2 y1
              go_wp2_with fail
              go_roundw
              case rel => exact ⟨k + 1, by first | rfl | (simp; done), Lib.hid HLK.out, G8⟩
              case measure =>
                have := HLK.out
                first | omega | (simp only [intOf]; omega) | (simp [intOf]; omega)
        · have hd : decide (k < L.length) = false := by rw [decide_eq_false_iff_not]; exact hlt
          have hd2 : decide ((k : Int) < (L.length : Int)) = false := by rw [decide_eq_false_iff_not]; omega
          have HGL := Lib.hid (get_yes L A c path wr (HT.out wr (G4.out.trans H2.out)) HMY.out)
          have HNL : Hid ((keys L).Pairwise fun a b => a.1 ≠ b.1) := ((mayT_iff L).1 HMY.out).1.2.2.1
          have HKL : Hid ((keys L).length = L.length) := by show _ = _; unfold keys; simp
          clear hlt HT HX HGM HTM
          go_wp2_with fail
          refine HGL.out.mono ?_
          rintro e w7 ⟨g7, h7⟩
          have G7 := Lib.hid (G4.out.trans (H2.out.trans g7))
          clear g7
          rcases h7 with ⟨h7, rfl⟩ | ⟨x7, A7, c7, h7, rfl, -⟩
          · have hne : ((M.length : Int) == (L.length : Int)) = false := by
              have h1 := HLEN.out
              rw [filter_len0 h7, HKL.out] at h1
              rw [beq_eq_false_iff_ne]; omega
            clear h7
            go_wp2_with fail
            refine (HK.out _).mono ?_
            rintro e wk ⟨rfl, gk⟩
            go_wp2_with fail
            go_ret
            exact ⟨rfl, G7.out.trans gk⟩
          · have hne : ((M.length : Int) == (L.length : Int)) = true := by
              have h1 := HLEN.out
              have h2 := filter_len HNL.out (path := path) (by rw [h7]; rfl)
              rw [HKL.out] at h2
              rw [beq_iff_eq]; omega
            clear h7
            go_wp2_with fail
            refine (HK.out _).mono ?_
            rintro e wk ⟨rfl, gk⟩
            go_wp2_with fail
            go_ret
            exact ⟨rfl, G7.out.trans gk⟩

end Go.Proofs.Ytglfakglcoffkaa
