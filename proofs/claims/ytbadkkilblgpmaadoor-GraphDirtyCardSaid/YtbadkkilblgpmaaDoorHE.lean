/-
  GraphDirty, of any targets.
-/
import Derived.Test.YtbadkkilblgpmaaDoorHA
namespace Go.Proofs.YtbadkkilblgpmaaDoor
open Go.RowKit Go.Maps

theorem own_strs {w : World} {B n c : Nat} {A : Option Addr} {xs : List (List UInt8)} (h : w.ownsRow B 9 1 (.slice A n c) n (xs.flatMap strC)) (hn : n = xs.length) (hl : ∀ s ∈ xs, s.length ≤ 9223372036854775807) : StrsAt w A xs := by
  subst hn
  exact ⟨(own_rowsAt (fun _ => rfl) h).1, hl⟩
theorem strs_reads {w : World} {A : Option Addr} {S : List (List UInt8)} (h : StrsAt w A S) : Reads w w.heap.size 1 A S.length (S.flatMap strC) := RowsAt.reads h.1 (fun _ => rfl) (Nat.zero_lt_succ _)
theorem strs_one {S : List (List UInt8)} : ∀ u ∈ S.flatMap strC, u.oneCell' = true := fun u hu => by
  obtain ⟨s, -, hs⟩ := List.mem_flatMap.1 hu
  unfold strC at hs
  rw [List.mem_singleton] at hs
  rw [hs]; rfl
theorem wf_01 {z : Int} (h0 : 0 ≤ z) (h1 : z ≤ 1) : (Lit.int .i64 z).wf = true := by
  have h : z = 0 ∨ z = 1 := by omega
  rcases h with rfl | rfl <;> decide

set_option maxHeartbeats 64000000 in
set_option maxRecDepth 100000 in
theorem gdirty_any (L : List Tgt) (A : Option Addr) (c : Nat) (S : List (List UInt8)) (B : Option Addr) (d : Nat) (more : List UInt8) (w : World) (hT : TgtsAt w A L) (hS : StrsAt w B S) (hF : Flds w) (hl : L.length ≤ 9223372036854775807) (hcap : L.length ≤ c) (hsl : (S.length + 1) * 16 ≤ 140737488355328) (hm : more.length ≤ 9223372036854775807) :
    Calls Tryd.prog 14 #[.slice A L.length c, .slice B S.length d, .string ⟨more.toArray⟩] w fun e w' => e = .returned (.bool true) ∧ Chg none w w' := by
  have HT : Hid (∀ v, Chg none w v → TgtsAt v A L) := Lib.hid fun v g => hT.chg g
  have HSS : Hid (∀ v, Chg none w v → StrsAt v B S) := Lib.hid fun v g => hS.chg g
  have HKN : Hid (∀ v, Chg none w v → Calls Tryd.prog 49 #[] v fun e w' => e = .returned (.bool true) ∧ Chg none v w') := Lib.hid fun v g => known15 v (hF.chg g)
  have HGR : Hid (∀ (n : Nat) (B : Option Addr) (d : Nat) (v : World), n = 1 + S.length → Chg none w v → StrsAt v B (more :: S) → Calls Tryd.prog 48 #[.slice A L.length c, .slice B n d] v fun e w' => ∃ g : Bool, e = .returned (.bool g) ∧ Chg none v w') :=
    Lib.hid fun n B d v hn g hs => by
      have e : n = (more :: S).length := by rw [hn, List.length_cons, Nat.add_comm]
      rw [e]
      exact great48 L A c B d _ v (hT.chg g) hl hs (by rw [List.length_cons]; omega)
  have HD1 : Hid (∀ v, Chg none w v → Calls Tryd.prog 53 #[.slice A L.length c, .slice B S.length d] v (DirP v L S)) :=
    Lib.hid fun v g => dirty_any L A c S B d v (hT.chg g) (hS.chg g) (hF.chg g) hl hcap (by omega)
  have HD2 : Hid (∀ (n : Nat) (B : Option Addr) (d : Nat) (v : World), n = S.length + 1 → Chg none w v → StrsAt v B (S ++ [more]) → Calls Tryd.prog 53 #[.slice A L.length c, .slice B n d] v (DirP v L (S ++ [more]))) :=
    Lib.hid fun n B d v hn g hs => by
      have e : n = (S ++ [more]).length := by rw [hn, List.length_append]; rfl
      rw [e]
      exact dirty_any L A c _ B d v (hT.chg g) hs (hF.chg g) hl hcap (by rw [← e, hn]; omega)
  have HSH : Hid (∀ s ∈ S, s.length ≤ 9223372036854775807) := Lib.hid hS.2
  have HMS : Hid (∀ s ∈ more :: S, s.length ≤ 9223372036854775807) := Lib.hid fun s hs => by
    rcases List.mem_cons.1 hs with rfl | hs
    · exact hm
    · exact hS.2 s hs
  have HMS2 : Hid (∀ s ∈ S ++ [more], s.length ≤ 9223372036854775807) := Lib.hid fun s hs => by
    rcases List.mem_append.1 hs with hs | hs
    · exact hS.2 s hs
    · rw [List.mem_singleton] at hs; rw [hs]; exact hm
  have HSL := Lib.hid hsl
  obtain ⟨i0, hi0, hz0, hz1, hz2⟩ := info_parts Tryd.info9
  have HOW : Hid ((w.alloc (.cells #[.string ⟨more.toArray⟩] 9)).ownsRow w.heap.size 9 1 (.slice (some ⟨w.heap.size, 0, none⟩) 1 1) 1 [.string ⟨more.toArray⟩]) := Lib.hid (World.ownsRow_lit w #[.string ⟨more.toArray⟩] 1 (Nat.le_refl _) (by decide) rfl)
  have HRS : Hid (Reads (w.alloc (.cells #[.string ⟨more.toArray⟩] 9)) w.heap.size 1 B S.length (S.flatMap strC)) := Lib.hid ((strs_reads hS).alloc (Nat.le_refl _) _)
  have HOS : Hid (∀ u ∈ S.flatMap strC, u.oneCell' = true) := Lib.hid strs_one
  have hs1 : 1 + S.length ≤ maxLen := by unfold maxLen; omega
  have hs2 : (1 + S.length) * 16 ≤ 140737488355328 := by omega
  clear hT hS hF hl hcap hsl hm
  go_enter Tryd.func14, Tryd.ntmps14
  go_wp2_with (first
    | (refine wpList_append_any _ rfl (.tmp 23) (.tmp 24) 64 rfl w.heap.size 9 i0 (.string ⟨#[]⟩) 1 16 Tryd.underlying64 hi0 hz0 hz1 hz2 rfl (by decide) (.slice (some ⟨w.heap.size, 0, none⟩) 1 1) 1 [.string ⟨more.toArray⟩] rfl HOW.out _ B S.length d (S.flatMap strC) rfl HRS.out HOS.out hs1 hs2 (by simp) ?_
       intro v1 w1 hown1 hgr1 _
       have G1 : Hid (Chg none w w1) := Lib.hid (Chg.own ((Chg.refl _ _).alloc _) hgr1 (Nat.le_refl _))
       obtain ⟨A1, c1, rfl⟩ := own_slice hown1
       have HS1 : Hid (StrsAt w1 A1 (more :: S)) := Lib.hid (own_strs (xs := more :: S) hown1 (by rw [List.length_cons, Nat.add_comm]) HMS.out)
       clear hown1 hgr1))
  refine (HGR.out _ _ _ _ rfl G1.out HS1.out).mono ?_
  rintro e w2 ⟨g, rfl, g2⟩
  have G2 := Lib.hid (G1.out.trans g2)
  clear g2 HGR G1 HS1 HOW HRS
  cases g with
  | true =>
    go_wp2_with fail
    refine (HKN.out _ G2.out).mono ?_
    rintro e wk ⟨rfl, gk⟩
    have Gk := Lib.hid (G2.out.trans gk)
    clear gk
    go_wp2_with fail
    go_ret
    exact ⟨rfl, Gk.out⟩
  | false =>
    go_wp2_with fail
    refine (HD1.out _ G2.out).mono ?_
    rintro e w3 ⟨A7, c7, R, n, rfl, g3, r3, hh, hr20⟩
    have G3 := Lib.hid (G2.out.trans g3)
    clear g3 G2 HD1
    rcases hh with ⟨hbad, rfl, rfl⟩ | ⟨hmay, rfl, hR⟩
    · have hne2 : ((2 : Int) != 0) = true := by decide
      clear r3 hbad
      go_wp2_with fail
      refine (HKN.out _ G3.out).mono ?_
      rintro e wk ⟨rfl, gk⟩
      have Gk := Lib.hid (G3.out.trans gk)
      clear gk
      go_wp2_with fail
      go_ret
      exact ⟨rfl, Gk.out⟩
    · obtain ⟨h20, -, hdis⟩ := mayL_of hmay
      have H20 := Lib.hid h20
      have HMY := Lib.hid hmay
      have HDIS := Lib.hid hdis
      have HR20 := Lib.hid hr20
      have HRD := Lib.hid hR
      have HR3 := Lib.hid r3
      clear h20 hmay hdis hr20 hR r3
      have HOW4 : Hid ((w3.alloc (.cells #[] 9)).ownsRow w3.heap.size 9 1 (.slice (some ⟨w3.heap.size, 0, none⟩) 0 0) 0 []) := Lib.hid (World.ownsRow_made w3 #[] 0 (Nat.le_refl _) (Nat.zero_le _) rfl)
      have HRS4 : Hid (Reads (w3.alloc (.cells #[] 9)) w3.heap.size 1 B S.length (S.flatMap strC)) := Lib.hid ((strs_reads (HSS.out w3 G3.out)).alloc (Nat.le_refl _) _)
      have hs3 : 0 + S.length ≤ maxLen := by omega
      have hs4 : (0 + S.length) * 16 ≤ 140737488355328 := by omega
      have hs5 : S.length + 1 ≤ maxLen := by omega
      have hs6 := HSL.out
      have HO1 : Hid (∀ u ∈ [Value.string ⟨more.toArray⟩], u.oneCell' = true) := Lib.hid (by intro u hu; simp at hu; subst hu; rfl)
      go_wp2_with (first
        | (refine wpList_append_any _ rfl (.tmp 44) (.tmp 45) 64 rfl w3.heap.size 9 i0 (.string ⟨#[]⟩) 1 16 Tryd.underlying64 hi0 hz0 hz1 hz2 rfl (by decide) (.slice (some ⟨w3.heap.size, 0, none⟩) 0 0) 0 [] rfl HOW4.out _ B S.length d (S.flatMap strC) rfl HRS4.out HOS.out hs3 hs4 (by simp) ?_
           intro v4 w4 hown4 hgr4 _
           rw [Nat.zero_add, List.nil_append] at hown4
           have G4 : Hid (Chg none w3 w4) := Lib.hid (Chg.own ((Chg.refl _ _).alloc _) hgr4 (Nat.le_refl _))
           have HS4 := Lib.hid hown4
           obtain ⟨A4, c4, rfl⟩ := own_slice hown4
           have HOW5 : Hid ((w4.alloc (.cells #[.string ⟨more.toArray⟩] 9)).ownsRow w3.heap.size 9 1 (.slice A4 S.length c4) S.length (S.flatMap strC)) := Lib.hid (hown4.alloc _)
           have HRS5 : Hid (Reads (w4.alloc (.cells #[.string ⟨more.toArray⟩] 9)) (w4.heap.size + 1) 1 (some ⟨w4.heap.size, 0, none⟩) 1 [.string ⟨more.toArray⟩]) := Lib.hid ⟨rfl, fun _ => ⟨_, rfl, Nat.lt_succ_self _, fun j u hu => by
             rw [Go.WideShapes.add_plain, Blk.cell (Blk.new w4 _ _)]
             simpa using hu⟩⟩
           have hb5 : w3.heap.size ≤ (w4.alloc (.cells #[.string ⟨more.toArray⟩] 9)).heap.size := by have := G4.out.size; simp; omega
           clear hown4 hgr4)
        | (refine wpList_append_any _ rfl (.tmp 46) (.tmp 48) 64 rfl w3.heap.size 9 i0 (.string ⟨#[]⟩) 1 16 Tryd.underlying64 hi0 hz0 hz1 hz2 rfl (by decide) (.slice A4 S.length c4) S.length (S.flatMap strC) rfl HOW5.out _ (some ⟨w4.heap.size, 0, none⟩) 1 1 [.string ⟨more.toArray⟩] rfl HRS5.out HO1.out hs5 hs6 hb5 ?_
           intro v5 w5 hown5 hgr5 _
           have G5 : Hid (Chg none w w5) := Lib.hid (G3.out.trans (Chg.ownRow (G4.out.alloc (.cells #[.string ⟨more.toArray⟩] 9)) hgr5 (fun x hx => (HOW5.out.lt x hx).1)))
           obtain ⟨A5, c5, rfl⟩ := own_slice hown5
           have HS5 : Hid (StrsAt w5 A5 (S ++ [more])) := Lib.hid (own_strs (xs := S ++ [more]) (by rw [List.flatMap_append]; exact hown5) (by rw [List.length_append]; rfl) HMS2.out)
           have G35 : Hid (Chg none w3 w5) := Lib.hid (Chg.ownRow (G4.out.alloc (.cells #[.string ⟨more.toArray⟩] 9)) hgr5 (fun x hx => (HOW5.out.lt x hx).1))
           clear hown5 hgr5 hb5))
      refine (HD2.out _ _ _ _ rfl G5.out HS5.out).mono ?_
      rintro e w6 ⟨A9, c9, F, n, rfl, g6, r6, hh, hf20⟩
      have G6 := Lib.hid (G5.out.trans g6)
      have HR6 : Hid (RowsAt w6 1 A7 strC R) := Lib.hid (RowsAt.chg HR3.out (G35.out.trans g6))
      clear g6 HD2 HS5 HOW4 HRS4 HOW5 HRS5 G4 HS4 HR3 G35 G5
      rcases hh with ⟨hbad, rfl, rfl⟩ | ⟨-, rfl, hFD⟩
      · rw [HMY.out] at hbad
        cases hbad
      · have HFD := Lib.hid hFD
        have HF6 := Lib.hid r6
        have HF20 := Lib.hid hf20
        clear hFD r6 hf20
        have hsl := HSL.out
        have hr20 := HR20.out
        have hf20 := HF20.out
        have hmk := run_makeMap (P := Tryd.prog) 75 w6
        go_upto_region 10 with fail
        obtain ⟨m1, hm1⟩ : ∃ m1, m1 = w6.heap.size := ⟨_, rfl⟩
        rw [← hm1]
        obtain ⟨W6, hW6⟩ : ∃ W, W = w6.alloc (.map #[] 0) := ⟨_, rfl⟩
        have HM6 : Hid (MapS W6 m1 0 (fun _ => 0) [] ∧ Chg none w6 W6) := Lib.hid (by rw [hW6, hm1]; exact ⟨MapS.new w6, (Chg.refl _ _).alloc _⟩)
        rw [← hW6]
        have HM1 := Lib.hid hm1
        clear hm1 hW6 hmk
        have HDL : Hid (∀ (k : Nat) s t, R[k]? = some s → R[k + 1]? = some t → Op.bytesLess s t = true) := Lib.hid (by rw [HRD.out]; exact fun k s t => dirty_less HDIS.out S)
        have HRSH : Hid (∀ s ∈ R, s.length ≤ 9223372036854775807) := Lib.hid (by rw [HRD.out]; exact fun s => dirty_short (HT.out w (Chg.refl _ _)))
        have HFSH : Hid (∀ s ∈ F, s.length ≤ 9223372036854775807) := Lib.hid (by rw [HFD.out]; exact fun s => dirty_short (HT.out w (Chg.refl _ _)))
        go_upto_region 11 with fail
        go_loopw [58] (fun i wr => ∃ k : Nat, k ≤ R.length ∧ i = .int .i64 k ∧ Hid (MapS wr m1 k (updAll (fun _ => 0) (R.take k)) (addAll [] (R.take k)) ∧ Chg none w6 wr)) (fun i _ => R.length - (intOf i).toNat)
        case atStart => exact ⟨0, Nat.zero_le _, rfl, HM6⟩
        case round =>
          obtain ⟨k, hk, rfl, HR⟩ := hrel
          by_cases hlt : k < R.length
          · have hdd : decide ((k : Int) < (R.length : Int)) = true := by rw [decide_eq_true_eq]; omega
            have hdd2 : decide (k < R.length) = true := by rw [decide_eq_true_eq]; omega
            have hlti : (k : Int) < (R.length : Int) := by omega
            obtain ⟨s, hks⟩ : ∃ s, R[k]? = some s := ⟨_, List.getElem?_eq_getElem hlt⟩
            have hRR : StrsAt wr A7 R := ⟨RowsAt.chg HR6.out HR.out.2, HRSH.out⟩
            obtain ⟨bz, oz, rfl, hbz, x0⟩ := hRR.one hks
            obtain ⟨W4, hput, hm4, g4⟩ := HR.out.1.put (by unfold maxLen; omega) s (HRSH.out s (List.mem_of_getElem? hks)) 1 (by decide)
            have g64 : Chg none w6 W4 := Chg.own HR.out.2 g4 (Nat.le_of_eq HM1.out.symm)
            have HEND : Hid (MapS W4 m1 (k + 1) (updAll (fun _ => 0) (R.take (k + 1))) (addAll [] (R.take (k + 1))) ∧ Chg none w6 W4) := Lib.hid ⟨by rw [updAll_step hks, addAll_step hks]; exact hm4, g64⟩
            have HEND2 : Hid (MapS W4.drew m1 (k + 1) (updAll (fun _ => 0) (R.take (k + 1))) (addAll [] (R.take (k + 1))) ∧ Chg none w6 W4.drew) := Lib.hid ⟨HEND.out.1.chg (Chg.refl _ _).drew, HEND.out.2.drew⟩
            have hR4 : StrsAt W4 (some ⟨bz, oz, none⟩) R := ⟨RowsAt.chg HR6.out g64, HRSH.out⟩
            have hbw : m1 < wr.heap.size := HR.out.1.lt
            have x1 : W4.cell? ⟨bz, oz + k, none⟩ = some (.string ⟨s.toArray⟩) := by
              obtain ⟨b', o', e, -, h⟩ := hR4.one hks
              cases e
              exact h
            have HLT := Lib.hid hlt
            by_cases hk0 : k = 0
            · subst hk0
              rw [Nat.add_zero] at x0 x1
              have hlt0 : (0 : Int) < (R.length : Int) := hlti
              have hlt1 : 0 < R.length := hlt
              clear hdd hdd2 hlti hk
              clear hks hm4 g4 hlt HR hRR hR4 g64
              go_wp2_with fail
              go_region
              go_wp2_with fail
              go_roundw
              case rel => exact ⟨0 + 1, by have := HLT.out; omega, by first | rfl | go_num, by first | exact HEND | exact HEND2⟩
              case measure => have := HLT.out; first | omega | (simp only [intOf]; omega) | (simp [intOf]; omega)
            · obtain ⟨j, rfl⟩ : ∃ j, k = j + 1 := ⟨k - 1, by omega⟩
              obtain ⟨s', hjs⟩ : ∃ s', R[j]? = some s' := ⟨_, List.getElem?_eq_getElem (by omega)⟩
              have x2 : W4.cell? ⟨bz, oz + j, none⟩ = some (.string ⟨s'.toArray⟩) := by
                obtain ⟨b', o', e, -, h⟩ := hR4.one hjs
                cases e
                exact h
              have hless := HDL.out j s' s hjs hks
              have hgt : decide ((0 : Int) < ((j + 1 : Nat) : Int)) = true := by rw [decide_eq_true_eq]; omega
              have hjl : (j : Int) < (R.length : Int) := by omega
              clear hks hm4 g4 hlt HR hRR hR4 g64 hjs hk0
              go_wp2_with fail
              go_region
              go_wp2_with fail
              go_roundw
              case rel => exact ⟨j + 1 + 1, by have := HLT.out; omega, by first | rfl | go_num, by first | exact HEND | exact HEND2⟩
              case measure => have := HLT.out; first | omega | (simp only [intOf]; omega) | (simp [intOf]; omega)
          · have hkl : k = R.length := by omega
            subst hkl
            have hdd : decide ((R.length : Int) < (R.length : Int)) = false := by rw [decide_eq_false_iff_not]; omega
            have hdd2 : decide (R.length < R.length) = false := by rw [decide_eq_false_iff_not]; omega
            have hM1 := HR.out.1
            rw [List.take_of_length_le (Nat.le_refl _)] at hM1
            obtain ⟨w7, hw7⟩ : ∃ w7 : World, w7 = wr := ⟨_, rfl⟩
            subst hw7
            have HMA : Hid (MapS w7 m1 R.length (isF R) (addAll [] R)) := Lib.hid hM1
            have G7 := Lib.hid (G6.out.trans HR.out.2)
            have HF7 : Hid (RowsAt w7 1 A9 strC F) := Lib.hid (RowsAt.chg HF6.out HR.out.2)
            clear hlt hk HR hM1
            have hmk := run_makeMap (P := Tryd.prog) 75 w7
            go_upto_region 18 with fail
            obtain ⟨m2, hm2⟩ : ∃ m2, m2 = w7.heap.size := ⟨_, rfl⟩
            rw [← hm2]
            obtain ⟨W7, hW7⟩ : ∃ W, W = w7.alloc (.map #[] 0) := ⟨_, rfl⟩
            have HM7 : Hid (MapS W7 m2 0 (fun _ => 0) [] ∧ Chg none w7 W7) := Lib.hid (by rw [hW7, hm2]; exact ⟨MapS.new w7, (Chg.refl _ _).alloc _⟩)
            rw [← hW7]
            have HM2 := Lib.hid hm2
            clear hm2 hW7 hmk
            go_upto_region 19 with fail
            go_loopw [84] (fun i wr => ∃ k : Nat, k ≤ F.length ∧ i = .int .i64 k ∧ Hid (MapS wr m2 k (updAll (fun _ => 0) (F.take k)) (addAll [] (F.take k)) ∧ Chg none w7 wr)) (fun i _ => F.length - (intOf i).toNat)
            case atStart => exact ⟨0, Nat.zero_le _, rfl, HM7⟩
            case round =>
              obtain ⟨k, hk, rfl, HR⟩ := hrel
              by_cases hlt : k < F.length
              · have hdd : decide ((k : Int) < (F.length : Int)) = true := by rw [decide_eq_true_eq]; omega
                have hdd2 : decide (k < F.length) = true := by rw [decide_eq_true_eq]; omega
                have hlti : (k : Int) < (F.length : Int) := by omega
                obtain ⟨s, hks⟩ : ∃ s, F[k]? = some s := ⟨_, List.getElem?_eq_getElem hlt⟩
                obtain ⟨bz, oz, rfl, hbz, x0⟩ := (show StrsAt wr A9 F from ⟨RowsAt.chg HF7.out HR.out.2, HFSH.out⟩).one hks
                obtain ⟨W4, hput, hm4, g4⟩ := HR.out.1.put (by unfold maxLen; omega) s (HFSH.out s (List.mem_of_getElem? hks)) 1 (by decide)
                have HEND : Hid (MapS W4 m2 (k + 1) (updAll (fun _ => 0) (F.take (k + 1))) (addAll [] (F.take (k + 1))) ∧ Chg none w7 W4) := Lib.hid ⟨by rw [updAll_step hks, addAll_step hks]; exact hm4, Chg.own HR.out.2 g4 (Nat.le_of_eq HM2.out.symm)⟩
                have hbw : m2 < wr.heap.size := HR.out.1.lt
                have HLT := Lib.hid hlt
                clear hks hm4 g4 hlt HR
                go_wp2_with fail
                go_roundw
                case rel => exact ⟨k + 1, by have := HLT.out; omega, by first | rfl | go_num, HEND⟩
                case measure => have := HLT.out; first | omega | (simp only [intOf]; omega) | (simp [intOf]; omega)
              · have hkl : k = F.length := by omega
                subst hkl
                have hdd : decide ((F.length : Int) < (F.length : Int)) = false := by rw [decide_eq_false_iff_not]; omega
                have hdd2 : decide (F.length < F.length) = false := by rw [decide_eq_false_iff_not]; omega
                have hM2 := HR.out.1
                rw [List.take_of_length_le (Nat.le_refl _)] at hM2
                obtain ⟨w8, hw8⟩ : ∃ w8 : World, w8 = wr := ⟨_, rfl⟩
                subst hw8
                have HMB : Hid (MapS w8 m2 F.length (isF F) (addAll [] F)) := Lib.hid hM2
                have HMA8 := Lib.hid (HMA.out.chg HR.out.2)
                have G8 := Lib.hid (G7.out.trans HR.out.2)
                clear hlt hk HR hM2
                have hmk := run_makeMap (P := Tryd.prog) 75 w8
                go_upto_region 24 with fail
                obtain ⟨m3, hm3⟩ : ∃ m3, m3 = w8.heap.size := ⟨_, rfl⟩
                rw [← hm3]
                obtain ⟨W8, hW8⟩ : ∃ W, W = w8.alloc (.map #[] 0) := ⟨_, rfl⟩
                have HM8 : Hid (MapS W8 m3 0 (fun _ => 0) [] ∧ Chg none w8 W8) := Lib.hid (by rw [hW8, hm3]; exact ⟨MapS.new w8, (Chg.refl _ _).alloc _⟩)
                rw [← hW8]
                have HM3 := Lib.hid hm3
                clear hm3 hW8 hmk
                go_upto_region 25 with fail
                go_loopw [96] (fun i wr => ∃ k : Nat, k ≤ S.length ∧ i = .int .i64 k ∧ Hid (MapS wr m3 k (updAll (fun _ => 0) (S.take k)) (addAll [] (S.take k)) ∧ Chg none w8 wr)) (fun i _ => S.length - (intOf i).toNat)
                case atStart => exact ⟨0, Nat.zero_le _, rfl, HM8⟩
                case round =>
                  obtain ⟨k, hk, rfl, HR⟩ := hrel
                  by_cases hlt : k < S.length
                  · have hdd : decide ((k : Int) < (S.length : Int)) = true := by rw [decide_eq_true_eq]; omega
                    have hdd2 : decide (k < S.length) = true := by rw [decide_eq_true_eq]; omega
                    have hlti : (k : Int) < (S.length : Int) := by omega
                    obtain ⟨s, hks⟩ : ∃ s, S[k]? = some s := ⟨_, List.getElem?_eq_getElem hlt⟩
                    obtain ⟨bz, oz, rfl, hbz, x0⟩ := (HSS.out wr (G8.out.trans HR.out.2)).one hks
                    obtain ⟨W4, hput, hm4, g4⟩ := HR.out.1.put (by unfold maxLen; omega) s (HSH.out s (List.mem_of_getElem? hks)) 1 (by decide)
                    have HEND : Hid (MapS W4 m3 (k + 1) (updAll (fun _ => 0) (S.take (k + 1))) (addAll [] (S.take (k + 1))) ∧ Chg none w8 W4) := Lib.hid ⟨by rw [updAll_step hks, addAll_step hks]; exact hm4, Chg.own HR.out.2 g4 (Nat.le_of_eq HM3.out.symm)⟩
                    have hbw : m3 < wr.heap.size := HR.out.1.lt
                    have HLT := Lib.hid hlt
                    clear hks hm4 g4 hlt HR
                    go_wp2_with fail
                    go_roundw
                    case rel => exact ⟨k + 1, by have := HLT.out; omega, by first | rfl | go_num, HEND⟩
                    case measure => have := HLT.out; first | omega | (simp only [intOf]; omega) | (simp [intOf]; omega)
                  · have hkl : k = S.length := by omega
                    subst hkl
                    have hdd : decide ((S.length : Int) < (S.length : Int)) = false := by rw [decide_eq_false_iff_not]; omega
                    have hdd2 : decide (S.length < S.length) = false := by rw [decide_eq_false_iff_not]; omega
                    have hM3 := HR.out.1
                    rw [List.take_of_length_le (Nat.le_refl _)] at hM3
                    obtain ⟨w9, hw9⟩ : ∃ w9 : World, w9 = wr := ⟨_, rfl⟩
                    subst hw9
                    have HMC : Hid (MapS w9 m3 S.length (isF S) (addAll [] S)) := Lib.hid hM3
                    have HMA9 := Lib.hid (HMA8.out.chg HR.out.2)
                    have HMB9 := Lib.hid (HMB.out.chg HR.out.2)
                    have G9 := Lib.hid (G8.out.trans HR.out.2)
                    have hl20 := H20.out
                    clear hlt hk HR hM3
                    go_upto_region 30 with fail
                    go_loopw [17, 18, 20, 107, 123] (fun s17 s18 s20 i s123 wr => ∃ k : Nat, k ≤ L.length ∧ i = .int .i64 k ∧ Hid (Chg none w9 wr)) (fun _ _ _ i _ _ => L.length - (intOf i).toNat)
                    case atStart => exact ⟨0, Nat.zero_le _, rfl, Lib.hid (Chg.refl _ _)⟩
                    case round =>
                      obtain ⟨k, hk, rfl, HG9⟩ := hrel
                      obtain ⟨wi, rfl⟩ : ∃ wi : World, wi = wr := ⟨_, rfl⟩
                      have GI := Lib.hid (G9.out.trans HG9.out)
                      by_cases hlt : k < L.length
                      · have hdd : decide ((k : Int) < (L.length : Int)) = true := by rw [decide_eq_true_eq]; omega
                        have hdd2 : decide (k < L.length) = true := by rw [decide_eq_true_eq]; omega
                        have hlti : (k : Int) < (L.length : Int) := by omega
                        obtain ⟨t, hkt⟩ : ∃ t, L[k]? = some t := ⟨_, List.getElem?_eq_getElem hlt⟩
                        have hmem := List.mem_of_getElem? hkt
                        have hT9 := HT.out wi GI.out
                        obtain ⟨bL, off, rfl, hbL, x0, x1, -, -⟩ := hT9.one hkt
                        have hD9 := (hT9.2 t hmem).deps
                        have HD9 := Lib.hid hD9
                        have hnl := (hT9.2 t hmem).nl
                        have hd5 : t.D.length ≤ 5 := ((mayL_of HMY.out).2.1 t hmem |> fun h => by
                          unfold mayTgt at h
                          rw [Bool.and_eq_true, Bool.and_eq_true] at h
                          exact (dep_name h.2.1).1)
                        have HWI : Hid (wantF (isF R) (isF S) (isF S t.n) t.D = isF R t.n) := Lib.hid (by rw [HRD.out]; exact want_is HDIS.out hmem)
                        have hiw : ¬ isF F t.n < isF R t.n := by rw [HRD.out, HFD.out]; have := is_wide (L := L) (S := S) (m := more) (s := t.n); omega
                        have hkC := (HMC.out.chg HG9.out).look t.n hnl
                        have hkA := (HMA9.out.chg HG9.out).look t.n hnl
                        have hkB := (HMB9.out.chg HG9.out).look t.n hnl
                        have hkA2 := (HMA9.out.chg HG9.out.drew).look t.n hnl
                        have hkB2 := (HMB9.out.chg HG9.out.drew).look t.n hnl
                        have HLT := Lib.hid hlt
                        have HTC : Hid (t.D.length ≤ t.c ∧ t.c ≤ 9223372036854775807) := Lib.hid ⟨(hT9.2 t hmem).dc, (hT9.2 t hmem).dm⟩
                        have hkb : (k : Int) ≤ 20 := by omega
                        have hne : (isF R t.n != isF R t.n) = false := by simp
                        have hdw : decide (isF F t.n < isF R t.n) = false := decide_eq_false hiw
                        clear hkt hmem hT9 hnl hlt hiw hD9
                        obtain ⟨tn, tA, tD, tcap, tf, tB, tP, tdd⟩ := t
                        dsimp only at *
                        generalize hz2 : isF F tn = zF at *
                        go_upto_region 34 with fail
                        go_loopw [18, 20, 123] (fun s18 s20 i wr => ∃ j : Nat, j ≤ tD.length ∧ i = .int .i64 j ∧ s18 = .int .i64 (wantF (isF R) (isF S) (isF S tn) (tD.take j)) ∧ wi = wr) (fun _ _ i _ => tD.length - (intOf i).toNat)
                        case atStart => exact ⟨0, Nat.zero_le _, rfl, rfl, rfl⟩
                        case round =>
                          obtain ⟨j, hj, rfl, rfl, rfl⟩ := hrel
                          by_cases hjt : j < tD.length
                          · have hdj : decide ((j : Int) < (tD.length : Int)) = true := by rw [decide_eq_true_eq]; omega
                            have hdj2 : decide (j < tD.length) = true := by rw [decide_eq_true_eq]; omega
                            have hjti : (j : Int) < (tD.length : Int) := by omega
                            obtain ⟨s, hjs⟩ : ∃ s, tD[j]? = some s := ⟨_, List.getElem?_eq_getElem hjt⟩
                            obtain ⟨bd, od, rfl, hbd, y0⟩ := HD9.out.one hjs
                            have hsl' := HD9.out.2 s (List.mem_of_getElem? hjs)
                            have hlA := (HMA9.out.chg HG9.out).look s hsl'
                            have hlC := (HMC.out.chg HG9.out).look s hsl'
                            have HST : Hid (wantF (isF R) (isF S) (isF S tn) (tD.take (j + 1)) = max (max (wantF (isF R) (isF S) (isF S tn) (tD.take j)) (isF R s)) (isF S s)) := Lib.hid (wantF_step hjs)
                            have HJT := Lib.hid hjt
                            clear hjs hsl' hjt
                            generalize wantF (isF R) (isF S) (isF S tn) (tD.take j) = z0 at *
                            go_wp2_with fail
                            go_roundw
                            case rel => exact ⟨j + 1, by have := HJT.out; omega, by first | rfl | go_num, by rw [HST.out]; refine congrArg _ ?_; (repeat' split) <;> omega, by first | rfl | trivial⟩
                            case measure => have := HJT.out; first | omega | (simp only [intOf]; omega) | (simp [intOf]; omega)
                          · have hjl : j = tD.length := by omega
                            subst hjl
                            have hdj : decide ((tD.length : Int) < (tD.length : Int)) = false := by rw [decide_eq_false_iff_not]; omega
                            have hdj2 : decide (tD.length < tD.length) = false := by rw [decide_eq_false_iff_not]; omega
                            have hwi := HWI.out
                            have htk : tD.take tD.length = tD := List.take_of_length_le (Nat.le_refl _)
                            rw [htk, hwi]
                            clear htk hwi hjt
                            go_wp2_with fail
                            go_region
                            go_wp2_with fail
                            go_roundw
                            case rel => exact ⟨k + 1, by have := HLT.out; omega, by first | rfl | go_num, Lib.hid (by first | exact HG9.out.drew | exact HG9.out)⟩
                            case measure => have := HLT.out; first | omega | (simp only [intOf]; omega) | (simp [intOf]; omega)
                      · have hkl : k = L.length := by omega
                        subst hkl
                        have hdd : decide ((L.length : Int) < (L.length : Int)) = false := by rw [decide_eq_false_iff_not]; omega
                        have hdd2 : decide (L.length < L.length) = false := by rw [decide_eq_false_iff_not]; omega
                        go_wp2_with fail
                        refine (HKN.out _ GI.out).mono ?_
                        rintro e wk ⟨rfl, gk⟩
                        have Gk := Lib.hid (GI.out.trans gk)
                        clear gk
                        go_wp2_with fail
                        go_ret
                        exact ⟨rfl, Gk.out⟩
end Go.Proofs.YtbadkkilblgpmaaDoor
