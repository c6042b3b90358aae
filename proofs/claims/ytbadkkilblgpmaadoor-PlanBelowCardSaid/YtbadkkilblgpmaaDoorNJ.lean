/-
  PlanBelow, of any target.
-/
import Derived.Test.YtbadkkilblgpmaaDoorNI
import Derived.Test.YtbadkkilblgpmaaDoorTRM
import Derived.Deep.RegionHeld3
namespace Go.Proofs.YtbadkkilblgpmaaDoor
open Go.RowKit

set_option maxHeartbeats 16000000 in
set_option maxRecDepth 100000 in
theorem planbelow_any (t : Tgt) (L : List Fil) (A : Option Addr) (c : Nat) (O : List Tr) (OA : Option Addr) (oc : Nat) (w : World) (ht : TgtAt w t) (hT : TreeAt w A L) (hO : OutsAt w OA O) (hF : Flds w)
    (hl : L.length ≤ 9223372036854775807) (hol : O.length ≤ 4611686018427387904) :
    Calls Tryd.prog 18 #[.agg (tgtCells t).toArray, .slice A L.length c, .slice OA O.length oc] w fun e w' => e = .returned (.bool true) ∧ Chg none w w' := by
  obtain ⟨W1, hW1⟩ : ∃ W1, W1 = w.alloc (.cells (tgtCells t).toArray 77) := ⟨_, rfl⟩
  have g1 : Chg none w W1 := by rw [hW1]; exact (Chg.refl _ _).alloc _
  have hb1 : Blk W1 w.heap.size (tgtCells t).toArray 77 := by rw [hW1]; exact Blk.new _ _ _
  have HG := Lib.hid (great16_any t L A c O OA oc W1 (ht.chg g1) (hT.chg g1) (hO.chg g1) hl hol)
  have HI : Hid (∀ v, Chg none w v → Calls Tryd.prog 59 #[.agg (tgtCells t).toArray, .slice A L.length c, .slice OA O.length oc] v (InP v t L O)) := Lib.hid fun v g => inputs_any t L A c O OA oc v (ht.chg g) (hT.chg g) (hO.chg g) (hF.chg g) hl hol
  have HKN : Hid (∀ v, Chg none w v → Calls Tryd.prog 58 #[] v fun e w' => e = .returned (.bool true) ∧ Chg none v w') := Lib.hid fun v g => known16_any v (hF.chg g)
  have HX : Hid (∀ v, Chg none W1 v → v.cell? ⟨w.heap.size, 0, none⟩ = some (.string ⟨t.n.toArray⟩) ∧ v.cell? ⟨w.heap.size, 1, none⟩ = some (.slice t.A t.D.length t.c) ∧ v.cell? ⟨w.heap.size, 2, none⟩ = some (.int .i64 t.fuel) ∧ v.cell? ⟨w.heap.size, 3, none⟩ = some (.slice t.B t.P.length t.d)) := Lib.hid fun v g => by
    have h := hb1.chg g (by simp)
    exact ⟨h.cell 0, h.cell 1, h.cell 2, h.cell 3⟩
  have HG1 := Lib.hid g1
  have HW1 : Hid (w.alloc (.cells #[.string ⟨t.n.toArray⟩, .slice t.A t.D.length t.c, .int .i64 t.fuel, .slice t.B t.P.length t.d] 77) = W1) := Lib.hid hW1.symm
  have HTL := Lib.hid (fun v (g : Chg none w v) => hT.chg g)
  have HTO := Lib.hid (fun v (g : Chg none w v) => hO.chg g)
  have HTD := Lib.hid (fun v (g : Chg none w v) => ht.deps.chg g)
  have HLL := Lib.hid hl
  have htd := ht.dl
  clear ht hT hO hF hl hW1 g1 hb1
  obtain ⟨I, hI⟩ : ∃ I : World → Ending → World → Prop, I = fun v => InP v t L O := ⟨_, rfl⟩
  have HII : Hid (∀ v e w', I v e w' → InP v t L O e w') := Lib.hid fun v e w' h => by rw [hI] at h; exact h
  have HI2 : Hid (∀ v, Chg none w v → Calls Tryd.prog 59 #[.agg (tgtCells t).toArray, .slice A L.length c, .slice OA O.length oc] v (I v)) := Lib.hid fun v g => by rw [hI]; exact HI.out v g
  clear hI HI
  obtain ⟨t0, ht0⟩ : ∃ t0, t0 = t := ⟨_, rfl⟩
  rw [← ht0] at HII
  have HT0 := Lib.hid ht0
  clear ht0
  obtain ⟨D, hD⟩ : ∃ D, D = t.D := ⟨_, rfl⟩
  obtain ⟨tn, tA, tD, tc, tf, tB, tP, td⟩ := t
  dsimp only at hD
  subst hD
  unfold tgtCells at *
  dsimp only at HX HW1 HTD htd HG HI2 ⊢
  go_enter Tryd.func18, Tryd.ntmps18
  go_upto_region 1 with fail
  rw [HW1.out]
  obtain ⟨x0, x1, x2, x3⟩ := HX.out W1 (Chg.refl _ _)
  generalize w.heap.size = px at *
  go_wp2_with fail
  refine HG.out.mono ?_
  rintro e w2 ⟨g, rfl, g2⟩
  have K2 := Lib.hid g2
  have G2 := Lib.hid (HG1.out.trans g2)
  clear g2 x0 x1 x2 x3 HG HW1
  cases g with
  | true =>
    go_wp2_with fail
    refine (HKN.out _ G2.out).mono ?_
    rintro e w3 ⟨rfl, g3⟩
    have G3 := Lib.hid (G2.out.trans g3)
    clear g3
    go_wp2_with fail
    go_ret
    exact ⟨rfl, G3.out⟩
  | false =>
  obtain ⟨y0, y1, y2, y3⟩ := HX.out w2 K2.out
  go_wp2_with fail
  refine (HI2.out _ G2.out).mono ?_
  rintro e w3 hi
  obtain ⟨n, hcd, hg, hr⟩ := HII.out _ _ _ hi
  have K3 := Lib.hid (K2.out.trans hg)
  have G3 := Lib.hid (G2.out.trans hg)
  clear hi hg y0 y1 y2 y3 HII HI2
  rcases hr with ⟨hn, rfl⟩ | ⟨rfl, A2, c2, M, rfl, hTM, hpm, hmm⟩
  · have hn1 : (n != 0) = true := by rw [bne_iff_ne]; exact hn
    clear hcd hn
    go_wp2_with fail
    refine (HKN.out _ G3.out).mono ?_
    rintro e w4 ⟨rfl, g4⟩
    have G4 := Lib.hid (G3.out.trans g4)
    clear g4
    go_wp2_with fail
    go_ret
    exact ⟨rfl, G4.out⟩
  · obtain ⟨⟨hmt, hml, hlen, hbo⟩, -, hok⟩ := hcd.zero.1 rfl
    have ht0 := HT0.out
    have htD : t0.D = D := by rw [ht0]
    have hdB : depsB D = true := by
      unfold mayTgt at hmt
      rw [Bool.and_eq_true, Bool.and_eq_true, htD] at hmt
      exact hmt.2.1
    rw [htD] at hlen hpm
    have hup := ((mayT_iff M).1 hmm).2
    have h16 : M.length ≤ 16 := by
      have := ((mayT_iff M).1 hmm).1.1
      rwa [keys_length] at this
    have hMl : M.length = L.length + lenO O := by
      rw [← keys_length, hpm.length_eq, inK_length L hlen]
    have HTM := Lib.hid (fun v (g : Chg none w3 v) => hTM.chg g)
    have HMAY := Lib.hid (fun v (g : Chg none w3 v) => t_refmay_any M A2 c2 v (hTM.chg g) (by omega))
    rw [hmm] at HMAY
    have hBS : belowA M srcB = keys L := by
      unfold belowA
      rw [hmm, show pathB srcB = true by rfl]
      refine up_unique (below_up _ hup) ((mayT_iff L).1 hml).2 ?_
      have h := below_perm srcB hpm
      rwa [below_src] at h
    have HBS : Hid (∀ v, Chg none w3 v → Calls Tryd.prog 64 #[.slice A2 M.length c2, .string ⟨#[115, 114, 99]⟩] v (PToldB v (keys L))) := Lib.hid fun v g => by
      have h := pbelow_any M A2 c2 srcB v (hTM.chg g) (by omega) (by decide)
      rwa [hBS] at h
    have HBI : Hid (∀ (k : Nat) (s : List UInt8) (o : Tr), D[k]? = some s → O[k]? = some o → ∀ v, Chg none w3 v → Calls Tryd.prog 64 #[.slice A2 M.length c2, .string ⟨(inD s).toArray⟩] v (PToldB v (keys o.L))) := Lib.hid fun k s o hs ho v g => by
      have hns := (dep_name hdB).2 s (List.mem_of_getElem? hs)
      have hls : (inD s).length ≤ 9223372036854775807 := by have := (path_len (name_path hns)).2; omega
      have h := pbelow_any M A2 c2 (inD s) v (hTM.chg g) (by omega) hls
      have e : belowA M (inD s) = keys o.L := by
        unfold belowA
        rw [hmm, name_path hns]
        refine up_unique (below_up _ hup) ((mayT_iff o.L).1 ?_).2 ?_
        · unfold badO at hbo
          rw [List.any_eq_false] at hbo
          have := hbo o (List.mem_of_getElem? ho)
          simpa using this
        · have h := below_perm (inD s) hpm
          rwa [below_in (zip_apart hdB hlen) (zip_names hdB) (zip_mem hs ho)] at h
      rwa [e] at h
    have HL5 : Hid (D.length ≤ 5 ∧ (∀ s ∈ D, s.length ≤ 100)) := Lib.hid ⟨(dep_name hdB).1, fun s hs => by
      have := (path_len (name_path ((dep_name hdB).2 s hs))).2
      unfold inD at this
      rw [List.length_append] at this
      omega⟩
    have HLN := Lib.hid hlen
    have H16 := Lib.hid h16
    have HML := Lib.hid hMl
    clear hcd hmt hml hbo hok htD hdB hpm hup hMl hBS hTM hmm ht0 HT0 h16 hlen
    have h16 := H16.out
    have hll := HML.out
    have e1 : ((O.length : Int) != (D.length : Int)) = false := by rw [HLN.out]; simp
    obtain ⟨z0, z1, z2, z3⟩ := HX.out w3 K3.out
    clear h16 hll
    go_wp2_with fail
    refine (HMAY.out _ (Chg.refl _ _)).mono ?_
    rintro e w4 ⟨rfl, g4⟩
    have C4 := Lib.hid g4
    clear g4
    go_wp2_with fail
    refine (HBS.out _ C4.out).mono ?_
    rintro e w5 ⟨A5, c5, M5, rfl, g5, hT5, -, hk5, h5⟩
    have C5 := Lib.hid (C4.out.trans g5)
    have HSM : Hid (Calls Tryd.prog 37 #[.slice A5 M5.length c5, .slice A L.length c] w5 fun e w' => e = .returned (.bool true) ∧ Chg none w5 w') := Lib.hid (by
      have h := tsame_any M5 L A5 A c5 c w5 hT5 (HTL.out w5 (G3.out.trans C5.out)) (by omega)
      rwa [decide_eq_true hk5] at h)
    clear g5 hT5 hk5 h5 z0 z1 z2 z3
    go_wp2_with fail
    refine HSM.out.mono ?_
    rintro e w6 ⟨rfl, g6⟩
    have C6 := Lib.hid (C5.out.trans g6)
    obtain ⟨z0, z1, z2, z3⟩ := HX.out w6 (K3.out.trans C6.out)
    clear g6 HSM
    go_wp2_with fail
    clear z0 z1 z2 z3 e1
    go_loopw [9, 10, 53] (fun s9 s10 s53 wr => ∃ (k : Nat), s53 = .int .i64 k ∧ s9 = .int .i64 ((L.length + lenO (O.take k) : Nat) : Int) ∧ Hid (k ≤ O.length ∧ Chg none w3 wr)) (fun _ _ s53 _ => O.length - (intOf s53).toNat)
    case atStart => exact ⟨0, rfl, by simp [lenO], Lib.hid ⟨Nat.zero_le _, C6.out⟩⟩
    case round =>
      obtain ⟨k, rfl, rfl, HR⟩ := hrel
      by_cases hlt : k < O.length
      · have hdd : decide ((k : Int) < (O.length : Int)) = true := by rw [decide_eq_true_eq]; omega
        have hkD : k < D.length := by rw [← HLN.out]; exact hlt
        have hdD : decide ((k : Int) < (D.length : Int)) = true := by rw [decide_eq_true_eq]; omega
        obtain ⟨s, hks⟩ : ∃ s, D[k]? = some s := ⟨_, List.getElem?_eq_getElem hkD⟩
        obtain ⟨o, hko⟩ : ∃ o, O[k]? = some o := ⟨_, List.getElem?_eq_getElem hlt⟩
        have C7 := Lib.hid HR.out.2
        obtain ⟨b, off, rfl, hb, x0⟩ := (HTD.out wr (G3.out.trans C7.out)).one hks
        obtain ⟨b', off', rfl, hb', x1⟩ := (HTO.out wr (G3.out.trans C7.out)).one hko
        have HST : Hid (lenO (O.take (k + 1)) = lenO (O.take k) + o.L.length) := Lib.hid (lenO_step hko)
        have HLE := Lib.hid (lenO_le O (k + 1))
        have HB : Hid (∀ v, Chg none w3 v → Calls Tryd.prog 64 #[.slice A2 M.length c2, .string ⟨(inD s).toArray⟩] v fun e w' => ∃ A' c' M', e = .returned (.slice A' M'.length c') ∧ Chg none w3 w' ∧ TreeAt w' A' M' ∧ keys M' = keys o.L ∧ M'.length ≤ 16) := Lib.hid fun v g =>
          (HBI.out k s o hks hko v g).mono fun e w' h => by
            obtain ⟨A', c', M', h1, h2, h3, -, h4, h5⟩ := h
            exact ⟨A', c', M', h1, g.trans h2, h3, h4, h5⟩
        have HSM : Hid (∀ v A' c' (M' : List Fil), Chg none w3 v → TreeAt v A' M' → keys M' = keys o.L → M'.length ≤ 16 → Calls Tryd.prog 37 #[.slice A' M'.length c', .slice o.A o.L.length o.c] v fun e w' => e = .returned (.bool true) ∧ Chg none w3 w') := Lib.hid fun v A' c' M' g h1 h2 h3 => by
          have h := tsame_any M' o.L A' o.A c' o.c v h1 ((HTO.out v (G3.out.trans g)).2 o (List.mem_of_getElem? hko)).1 (by omega)
          rw [decide_eq_true h2] at h
          exact h.mono fun e w' h => ⟨h.1, g.trans h.2⟩
        have HXW : Hid (∀ v, Chg none w3 v → (v.cell? ⟨b, off + k, none⟩ = some (.string ⟨s.toArray⟩) ∧ v.cell? ⟨b', off' + k, none⟩ = some (.slice o.A o.L.length o.c) ∧ v.cell? ⟨px, 1, none⟩ = some (.slice (some ⟨b, off, none⟩) D.length tc)) ∧ Chg none w3 v) := Lib.hid fun v g => by
          obtain ⟨_, _, e, -, y0⟩ := (HTD.out v (G3.out.trans g)).one hks
          obtain ⟨_, _, e', -, y1⟩ := (HTO.out v (G3.out.trans g)).one hko
          cases e
          cases e'
          exact ⟨⟨y0, y1, (HX.out v (K3.out.trans g)).2.1⟩, g⟩
        have hcc : (⟨#[105, 110, 47]⟩ : ByteArray) ++ (⟨s.toArray⟩ : ByteArray) = ⟨(inD s).toArray⟩ := ba_append [105, 110, 47] s
        have hsl : s.length ≤ 100 := HL5.out.2 s (List.mem_of_getElem? hks)
        have hsl2 : ¬ 9223372036854775807 < 3 + s.length := by omega
        have HLT := Lib.hid hlt
        obtain ⟨⟨y0, y1, y2⟩, g7⟩ := HXW.out wr C7.out
        clear hks hko hb hb' x0 x1 hsl HBI HBS HMAY
        obtain ⟨oA, oL, ocap⟩ := o
        dsimp only at y1 HSM HXW HB HST
        go_upto_region 12 with fail
        go_cut [69] (fun s69 wx => s69 = .bool false ∧ Hid (Chg none w3 wx))
        case first =>
          go_region_held3 (fun v => (v.cell? ⟨b, off + k, none⟩ = some (.string ⟨s.toArray⟩) ∧ v.cell? ⟨b', off' + k, none⟩ = some (.slice oA oL.length ocap) ∧ v.cell? ⟨px, 1, none⟩ = some (.slice (some ⟨b, off, none⟩) D.length tc)) ∧ Chg none w3 v)
            ((refine HXW.out _ ?_; repeat (first | (with_reducible assumption) | (with_reducible refine Chg.drew ?_))))
            ((first | ((go_at_call 64; refine (HB.out _ ?_).mono ?_; (repeat (first | (with_reducible assumption) | (with_reducible refine Chg.drew ?_))); rintro e w7 ⟨A7, c7, M7, rfl, g7, hT7, hk7, h7⟩))
                            | ((go_at_call 37; refine (HSM.out _ _ _ _ ?_ (by assumption) (by assumption) (by assumption)).mono ?_; (repeat (first | (with_reducible assumption) | (with_reducible refine Chg.drew ?_))); rintro e w7 ⟨rfl, g7⟩))))
          all_goals go_wp2_with fail
          all_goals go_meet
          all_goals refine ⟨rfl, ?_⟩
          all_goals exact Lib.hid (by repeat (first | (with_reducible assumption) | (with_reducible refine Chg.drew ?_)))
        case rest =>
          obtain ⟨rfl, G8⟩ := hcut
          obtain ⟨⟨v0, v1, v2⟩, -⟩ := HXW.out _ G8.out
          generalize hnl : lenO (O.take k) = nl at *
          have hbd : L.length + nl + oL.length ≤ 16 := by
            have h1 := HST.out
            have h2 := HLE.out
            have h3 := HML.out
            have h4 := H16.out
            omega
          have hcast : ((L.length + nl : Nat) : Int) + (oL.length : Int) = ((L.length + lenO (O.take (k + 1)) : Nat) : Int) := by
            have h1 := HST.out
            omega
          have HCA := Lib.hid hcast
          clear hcast hnl HXW HSM HB y0 y1 y2 hcc hsl2
          go_wp2_with fail
          go_roundw
          case rel => exact ⟨k + 1, by first | rfl | go_num, by have h1 := HCA.out; first | (rw [← h1]; go_num) | (congr 1; rw [← h1]; simp; omega), Lib.hid ⟨HLT.out, G8.out⟩⟩
          case measure => have := HLT.out; first | omega | (simp only [intOf]; omega) | (simp [intOf]; omega)
      · have hdd : decide (k < O.length) = false := by rw [decide_eq_false_iff_not]; exact hlt
        have hd2 : decide ((k : Int) < (O.length : Int)) = false := by rw [decide_eq_false_iff_not]; omega
        have hkk : ((L.length + lenO (O.take k) : Nat) : Int) = (M.length : Int) := by
          rw [List.take_of_length_le (by omega), HML.out]
        rw [hkk]
        have C7 := Lib.hid HR.out.2
        clear hlt hkk
        go_wp2_with fail
        refine (HKN.out _ (G3.out.trans C7.out)).mono ?_
        rintro e w8 ⟨rfl, g8⟩
        have G8 := Lib.hid ((G3.out.trans C7.out).trans g8)
        clear g8
        go_wp2_with fail
        go_ret
        exact ⟨rfl, G8.out⟩

end Go.Proofs.YtbadkkilblgpmaaDoor
