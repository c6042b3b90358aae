/-
  AdvertsParts: the walk.
-/
import Derived.Test.YtkcammaccgkflaaDoorTB
namespace Go.Proofs.YtkcammaccgkflaaDoor
open Go.RowKit

theorem sumD_len (L : List Att) (pr : List UInt8) : (sumD L pr).length = 32 := by
  unfold sumD
  split
  · exact dig_len _
  · decide
theorem addAll_okn (l : List Att) : OkA (addAll [] l) := addAll_ok l ok_nil
/-- What is below the first k that are one longer. -/
def allK (L : List Att) (pr : List UInt8) (k : Nat) : List Att := (List.range k).flatMap fun n => belowA L (pr ++ [UInt8.ofNat n])
theorem allK_step (L : List Att) (pr : List UInt8) (k : Nat) : allK L pr (k + 1) = allK L pr k ++ belowA L (pr ++ [UInt8.ofNat k]) := by
  unfold allK
  rw [List.range_succ, List.flatMap_append]; simp
theorem allK_len {L : List Att} (ok : OkA L) (pr : List UInt8) (k : Nat) : (allK L pr k).length ≤ 200 * k := by
  induction k with
  | zero => exact Nat.le_refl _
  | succ k ih =>
    rw [allK_step, List.length_append]
    have h1 := belowA_len L (pr ++ [UInt8.ofNat k])
    have := ok.len
    omega
theorem own_empty0 (w : World) : (w.alloc (.cells #[] 5 (0, 0))).ownsRow w.heap.size 5 1 (.slice (some ⟨w.heap.size, 0, none⟩) 0 0) 0 (byteVals []) :=
  ⟨rfl, .inr ⟨w.heap.size, 0, #[], rfl, Nat.le_refl _, heap_alloc_new w _, Nat.le_refl _, by unfold maxLen; decide, rfl, rfl⟩⟩
theorem SetNew.tabs {w u : World} {p : Nat} {L : List Att} (h : SetNew w u p L) (hT : Tabs w) : Tabs u := by
  obtain ⟨A, c, -, g⟩ := h
  exact hT.chg g (by simp)
theorem SetNew.grew {w u : World} {p : Nat} {L : List Att} (h : SetNew w u p L) : Chg none w u := by
  obtain ⟨A, c, -, g⟩ := h
  exact g
/-- A digest laid in a box of its own. -/
theorem box30 (u : World) (D : List UInt8) (hD : D.length = 32) : ∃ W, Hid (W = (u.alloc (.cells zero32 30)).setRow u.heap.size (byteVals D).toArray) ∧ Hid ((u.alloc (.cells zero32 30)).heap[u.heap.size]? = some (.cells zero32 30 (0, 0))) ∧ Hid ((Tryd.prog.info? 30).map (·.size) = some (byteVals D).toArray.size) ∧ Hid (zero32.size = (byteVals D).toArray.size) ∧ Hid ((byteVals D).toArray.all (·.oneCell') = true) ∧ Hid (Chg none u W) ∧ Hid (∀ v, Chg none W v → v.rangeAt u.heap.size 0 (byteVals D)) := by
  have hlc : (byteVals D).toArray.size = 32 := by rw [List.size_toArray, byteVals_len, hD]
  have hzb : (u.alloc (.cells zero32 30)).heap[u.heap.size]? = some (.cells zero32 30 (0, 0)) := heap_alloc_new u _
  refine ⟨_, Lib.hid rfl, Lib.hid hzb, Lib.hid (by rw [hlc]; show _ = _; kernel_rfl), Lib.hid (by rw [hlc]; rfl), Lib.hid (Array.all_eq_true_iff_forall_mem.2 (fun v hv => byteVals_one _ v (by simpa using hv))), Lib.hid (Chg.own ((Chg.refl none u).alloc _) (chg_setRow _ _ _) (Nat.le_refl _)), Lib.hid fun v g => Blk.range (Blk.chg (setRow_heap _ _ _ _ 30 _ hzb) g (by simp))⟩

set_option maxRecDepth 100000 in
set_option maxHeartbeats 16000000 in
theorem parts_law (A : Option Addr) (l : List Att) (c : Nat) (p : Prt) (w : World) (hl : RowsAt w 97 A attCells l) (hlm : l.length ≤ 9223372036854775807) (hp : p.ok w) (hpm : p.c ≤ 9223372036854775807) (hTb : Tabs w) :
    Calls Tryd.prog 18 #[.slice A l.length c, .slice p.A p.x.length p.c] w fun e w' => e = .returned (.bool true) ∧ Chg none w w' := by
  have hpl : p.x.length ≤ 9223372036854775807 := Nat.le_trans hp.2 hpm
  have HK := Lib.hid (known41_any w hTb)
  have HP := Lib.hid (isprefix_any p.x p.A p.c w hp.1 (by omega))
  have i300 : decide ((300 : Int) < (l.length : Int)) = decide (300 < l.length) := decide_eq_decide.2 (by omega)
  have i8 : decide ((8 : Int) ≤ (p.x.length : Int)) = decide (8 ≤ p.x.length) := decide_eq_decide.2 (by omega)
  by_cases h300 : 300 < l.length
  · have d1 : decide (300 < l.length) = true := decide_eq_true h300
    rw [d1] at i300
    clear hl hp hTb HP i8
    go_enter Tryd.func18, Tryd.ntmps18
    go_wp2_with fail
    refine HK.out.mono ?_
    rintro e w1 ⟨rfl, g1⟩
    go_wp2_with fail
    go_ret
    exact ⟨rfl, g1⟩
  have d1 : decide (300 < l.length) = false := decide_eq_false h300
  rw [d1] at i300
  by_cases h8 : 8 ≤ p.x.length
  · have d2 : decide (8 ≤ p.x.length) = true := decide_eq_true h8
    rw [d2] at i8
    clear hl hp hTb HP
    go_enter Tryd.func18, Tryd.ntmps18
    go_wp2_with fail
    refine HK.out.mono ?_
    rintro e w1 ⟨rfl, g1⟩
    go_wp2_with fail
    go_ret
    exact ⟨rfl, g1⟩
  have d2 : decide (8 ≤ p.x.length) = false := decide_eq_false h8
  rw [d2] at i8
  cases hpb : prefB p.x with
  | false =>
    rw [hpb] at HP
    clear hl hp hTb
    go_enter Tryd.func18, Tryd.ntmps18
    go_wp2_with fail
    refine HP.out.mono ?_
    rintro e w0 ⟨rfl, rfl⟩
    go_wp2_with fail
    refine HK.out.mono ?_
    rintro e w1 ⟨rfl, g1⟩
    go_wp2_with fail
    go_ret
    exact ⟨rfl, g1⟩
  | true =>
    rw [hpb] at HP
    obtain ⟨i0, hi0, hz0, hz1, hz2⟩ := zinfo46
    obtain ⟨j0, hj0, hy0, hy1, hy2⟩ := info_parts Tryd.info5
    have HARG := Lib.hid (arg_rows hl)
    have HPO : Hid (∀ v, Chg none w v → Txt v p.A p.x) := Lib.hid fun v g => hp.1.chg g
    have HNEW := Lib.hid (new_any w)
    have HTB := Lib.hid hTb
    have HL := Lib.hid h300
    have HP8 := Lib.hid h8
    have HPB := Lib.hid hpb
    have HZ : Hid ((Value.agg (attCells attZero).toArray).cells.size = 97) := Lib.hid (by show (attCells attZero).toArray.size = 97; rw [List.size_toArray, attCells_len])
    have HKN : Hid (∀ v, Chg none w v → Calls Tryd.prog 41 #[] v fun e w' => e = .returned (.bool true) ∧ Chg none v w') := Lib.hid fun v g => known41_any v (hTb.chg g (by simp))
    clear HK hl hp hTb hpb
    go_enter Tryd.func18, Tryd.ntmps18
    go_wp2_with fail
    refine HP.out.mono ?_
    rintro e w0 ⟨rfl, rfl⟩
    go_wp2_with fail
    refine HNEW.out.mono ?_
    rintro e w1 ⟨rfl, hset, g1⟩
    have HS1 : Hid (SetNew w w1 w.heap.size (addAll [] (l.take 0))) := Lib.hid ⟨_, _, hset, g1⟩
    clear hset g1 HNEW HP i300 i8 d1 d2
    obtain ⟨ps, hps⟩ : ∃ ps, w.heap.size = ps := ⟨_, rfl⟩
    rw [hps] at HS1
    rw [hps]
    clear hps
    go_upto_region 7 with fail
    go_loopw [34] (fun s34 wr => ∃ k : Nat, k ≤ l.length ∧ s34 = .int .i64 k ∧ Hid (SetNew w wr ps (addAll [] (l.take k)))) (fun s34 _ => l.length - (intOf s34).toNat)
    case atStart => exact ⟨0, Nat.zero_le _, rfl, HS1⟩
    case round =>
      obtain ⟨k, hk, rfl, HS⟩ := hrel
      by_cases hlt : k < l.length
      · have hd : decide (k < l.length) = true := by rw [decide_eq_true_eq]; exact hlt
        have hd2 : decide ((k : Int) < (l.length : Int)) = true := by rw [decide_eq_true_eq]; omega
        have hlt' : (k : Int) < (l.length : Int) := by omega
        have hkl : (k : Int) ≤ 300 := by have := HL.out; omega
        obtain ⟨x, hx⟩ : ∃ x, l[k]? = some x := ⟨_, List.getElem?_eq_getElem hlt⟩
        obtain ⟨rb, ro, rfl, hr⟩ := HARG.out k x hx
        have HRX := Lib.hid (hr wr HS.out.grew)
        have HIX := Lib.hid (info46 x)
        have HAD := Lib.hid (add_new HS.out (addAll_okn _) x)
        rw [← addAll_take [] l hx] at HAD
        have HLT := Lib.hid hlt
        clear hr hx hlt
        go_wp2_with (refine wpList_load_mid rfl 46 _ rfl rb (ro + k * 97) rfl (attCells x) _ HRX.out Tryd.underlying46 rfl HIX.out ?_)
        refine HAD.out.mono ?_
        rintro e w2 ⟨rfl, hs⟩
        have HS2 := Lib.hid hs
        clear hs
        go_wp2_with fail
        go_roundw
        case rel => exact ⟨k + 1, by have := HLT.out; omega, by first | rfl | go_num, HS2⟩
        case measure => have := HLT.out; first | omega | (simp only [intOf]; omega) | (simp [intOf]; omega)
      · have hd : decide (k < l.length) = false := by rw [decide_eq_false_iff_not]; exact hlt
        have hd2 : decide ((k : Int) < (l.length : Int)) = false := by rw [decide_eq_false_iff_not]; omega
        obtain rfl : k = l.length := by omega
        rw [List.take_length] at HS
        have hok := addAll_okn l
        generalize addAll [] l = S at HS hok
        have HOK := Lib.hid hok
        clear hlt hok hk
        go_upto_region 14 with fail
        obtain ⟨wo, rfl⟩ : ∃ wo : World, wo = wr := ⟨_, rfl⟩
        go_loopw [7, 8, 44] (fun s7 s8 s44 wr => ∃ (k : Nat) (A' : Option Addr) (c' : Nat), k ≤ 16 ∧ s44 = .int .u8 k ∧ s8 = .int .i64 (allK S p.x k).length ∧ s7 = .slice A' (allK S p.x k).length c' ∧
          Hid (wr.ownsRow wo.heap.size 46 97 (.slice A' (allK S p.x k).length c') (allK S p.x k).length ((allK S p.x k).flatMap attCells)) ∧ Hid (Chg none wo wr)) (fun _ _ s44 _ => 16 - (intOf s44).toNat)
        case atStart => exact ⟨0, none, 0, Nat.zero_le _, rfl, rfl, rfl, Lib.hid (World.ownsRow_nil _ _ _ _), Lib.hid (Chg.refl _ _)⟩
        case round =>
          obtain ⟨k, A', c', hk, rfl, rfl, rfl, HOW, HG⟩ := hrel
          by_cases hlt : k < 16
          · have hd : decide (k < 16) = true := decide_eq_true hlt
            have hd2 : decide ((k : Int) < 16) = true := by rw [decide_eq_true_eq]; omega
            have hk15 : (k : Int) ≤ 15 := by omega
            have HLT := Lib.hid hlt
            have hpl8 : p.x.length ≤ 7 := by have := HP8.out; omega
            have HSK := Lib.hid (HS.out.chg HG.out)
            have gE : Chg none wr (wr.alloc (.cells #[] 5)) := (Chg.refl _ _).alloc _
            have HRD := Lib.hid (txt_reads (HPO.out _ (HSK.out.grew.trans gE)))
            have HOE := Lib.hid (own_empty0 wr)
            have HOX := Lib.hid (byteVals_one p.x)
            have HGE := Lib.hid gE
            have HGZ := Lib.hid gE.size
            have hst := allK_step S p.x k
            obtain ⟨y, hy⟩ : ∃ y : UInt8, y = UInt8.ofNat k := ⟨_, rfl⟩
            have hyn : (y.toNat : Int) = (k : Int) := by rw [hy, UInt8.toNat_ofNat']; omega
            rw [← hy] at hst
            obtain ⟨pr, hpr⟩ : ∃ pr, pr = p.x ++ [y] := ⟨_, rfl⟩
            rw [← hpr] at hst
            have hprl : pr.length = p.x.length + 1 := by rw [hpr, List.length_append]; rfl
            have HST := Lib.hid hst
            have HPR := Lib.hid hpr
            have HPRL := Lib.hid hprl
            have HYN := Lib.hid hyn
            have hn0 : (allK S p.x k).length ≤ 3200 := by have := allK_len HOK.out p.x k; omega
            clear hlt hst hy hpr hprl hyn gE
            generalize allK S p.x k = Q0 at *
            go_wp2_with (at_builtin; refine wpList_append_any _ rfl (.tmp 47) (.tmp 48) 22 rfl wr.heap.size 5 j0 (.int .u8 0) 1 1 Tryd.underlying22 hj0 hy0 hy1 hy2 rfl (by decide) _ 0 (byteVals []) rfl HOE.out _ p.A p.x.length p.c (byteVals p.x) rfl HRD.out HOX.out (by unfold maxLen; omega) (by omega) HGZ.out ?_)
            intro v1 w1 hown1 hgr1 _
            have g1 := own_chg HGE.out HOE.out (Nat.le_refl _) hgr1
            have e1 : byteVals [] ++ byteVals p.x = byteVals p.x := rfl
            rw [e1] at hown1
            obtain ⟨A1, c1, rfl⟩ := own_slice hown1
            try simp only [Nat.zero_add] at hown1
            try simp only [Nat.zero_add]
            have HO1 := Lib.hid hown1
            have hro := reads_one w1 y
            rw [HYN.out] at hro
            have HRO := Lib.hid hro
            have HOY := Lib.hid (byteVals_one [y])
            have HG1 := Lib.hid g1
            clear hown1 hgr1 e1 hro HRD HOE HOX HGE HGZ g1
            go_wp2_with (at_builtin; refine wpList_append_any _ rfl (.tmp 49) (.tmp 51) 22 rfl wr.heap.size 5 j0 (.int .u8 0) 1 1 Tryd.underlying22 hj0 hy0 hy1 hy2 rfl (by decide) _ p.x.length (byteVals p.x) rfl (HO1.out.alloc _) _ (some ⟨w1.heap.size, 0, none⟩) 1 1 (byteVals [y]) rfl HRO.out HOY.out (by unfold maxLen; omega) (by omega) (by have := HG1.out.size; simp; omega) ?_)
            intro v2 w2 hown2 hgr2 _
            have g2 : Chg none wr w2 := own_chg (HG1.out.alloc (.cells #[.int .u8 (k : Int)] 5)) (HO1.out.alloc _) (Nat.le_refl _) hgr2
            rw [byteVals_append, ← HPR.out] at hown2
            obtain ⟨A2, c2, rfl⟩ := own_slice hown2
            have HS2 := Lib.hid (HSK.out.chg g2)
            have HT2 := Lib.hid (own_txt hown2).1
            have hsm := sum_new HS2.out HOK.out pr A2 c2 HT2.out (by rw [HPRL.out]; omega) (HS2.out.tabs HTB.out)
            rw [HPRL.out] at hsm
            have HSM := Lib.hid hsm
            have HG2 := Lib.hid g2
            clear hown2 hgr2 HO1 HRO HOY HG1 g2 hsm
            have HM := Lib.hid (belowA_len S pr)
            have HML := Lib.hid (show (belowA S pr).length ≤ 200 by have := HM.out; have := HOK.out.len; omega)
            have hDl := sumD_len S pr
            have HBL := Lib.hid (fun (v : World) (g : Chg none w2 v) => show Calls Tryd.prog 48 #[.pointer (some ⟨ps, 0, none⟩), .slice A2 (p.x.length + 1) c2] v (BelowTold v (belowA S pr)) by
              have := below_new (HS2.out.chg g) HOK.out pr A2 c2 (HT2.out.chg g) (by rw [HPRL.out]; omega)
              rwa [HPRL.out] at this)
            have HSD : Hid (sumD S pr = sumD S pr) := Lib.hid rfl
            unfold SumTold at HSM
            generalize sumD S pr = D at HSM hDl
            go_wp2_with fail
            refine HSM.out.mono ?_
            rintro e w3 ⟨rfl, g3⟩
            obtain ⟨W4, HW4, HZB4, HI4, HZ4, HO4, HG4, -⟩ := box30 w3 D hDl
            have HG34 := Lib.hid (g3.trans HG4.out)
            clear g3 hDl HSM HG4 HSD
            generalize (byteVals D).toArray = DD at *
            unfold zero32 at HW4 HZB4 HZ4
            have hm0 : (belowA S pr).length ≤ 200 := HML.out
            generalize belowA S pr = Q1 at *
            go_upto_region 19 with (refine wpList_store_row rfl 30 _ _ rfl w3.heap.size DD rfl rfl 30 _ HZB4.out HI4.out HZ4.out HO4.out ?_; rw [← HW4.out])
            go_wp2_with fail
            refine (HBL.out _ HG34.out).mono ?_
            rintro e w5 ⟨A5, c5, rfl, hown5, g5⟩
            have HR5 := Lib.hid (Reads.of_own hown5)
            have HO5 := Lib.hid (ones_atts Q1)
            have HG5 := Lib.hid (((HG.out.trans HG2.out).trans HG34.out).trans g5)
            have HOW5 := Lib.hid (World.ownsRow.kept HOW.out ((HG2.out.trans HG34.out).trans g5) (by cases (Value.slice A' Q0.length c').ownBlock <;> simp))
            clear hown5 g5 HW4 HZB4 HBL
            go_wp2_with (at_builtin; refine wpList_append_any _ rfl (.tmp 62) (.tmp 65) 64 rfl wo.heap.size 46 i0 (.agg (attCells attZero).toArray) 97 104 Tryd.underlying64 hi0 hz0 hz1 hz2 HZ.out (by decide) _ Q0.length (Q0.flatMap attCells) rfl HOW5.out _ A5 Q1.length c5 (Q1.flatMap attCells) rfl HR5.out HO5.out (by unfold maxLen; omega) (by omega) HG5.out.size ?_)
            intro v6 w6 hown6 hgr6 _
            have g6 : Chg none wo w6 := own_chg HG5.out HOW5.out (Nat.le_refl _) hgr6
            rw [← List.flatMap_append, ← HST.out] at hown6
            obtain ⟨A6, c6, rfl⟩ := own_slice hown6
            have HO6 := Lib.hid hown6
            have HG6 := Lib.hid g6
            have HL6 : Hid (Q0.length + Q1.length = (allK S p.x (k + 1)).length) := Lib.hid (by rw [HST.out, List.length_append])
            clear hown6 hgr6 g6
            go_wp2_with fail
            go_roundw
            case rel =>
              refine ⟨k + 1, A6, c6, by have := HLT.out; omega, by first | rfl | go_num, ?_, ?_, ?_, HG6⟩
              · rw [← HL6.out]; first | rfl | go_num
              · rw [← HL6.out]
              · rw [← HL6.out]; exact HO6
            case measure => have := HLT.out; first | omega | (simp only [intOf]; omega) | (simp [intOf]; omega)
          · have hd : decide (k < 16) = false := decide_eq_false hlt
            have hd2 : decide ((k : Int) < 16) = false := by rw [decide_eq_false_iff_not]; omega
            obtain rfl : k = 16 := by omega
            have hal : allK S p.x 16 = belowA S p.x := belowA_parts HOK.out.sort HPB.out (by have := HP8.out; omega)
            rw [hal] at HOW ⊢
            clear hal hlt hk
            have HSK := Lib.hid (HS.out.chg HG.out)
            have HTP := Lib.hid (HPO.out wr HSK.out.grew)
            have HSM := Lib.hid (sum_new HSK.out HOK.out p.x p.A p.c HTP.out (by omega) (HSK.out.tabs HTB.out))
            have hDl := sumD_len S p.x
            have HBL := Lib.hid (fun (v : World) (g : Chg none wr v) => below_new (HSK.out.chg g) HOK.out p.x p.A p.c (HTP.out.chg g) (by omega))
            have hm0 : (belowA S p.x).length ≤ 200 := by have := belowA_len S p.x; have := HOK.out.len; omega
            unfold SumTold at HSM
            generalize sumD S p.x = D at HSM hDl
            generalize belowA S p.x = Q1 at *
            go_wp2_with fail
            refine HSM.out.mono ?_
            rintro e w3 ⟨rfl, g3⟩
            obtain ⟨W4, HW4, HZB4, HI4, HZ4, HO4, HG4, -⟩ := box30 w3 D hDl
            have HG34 := Lib.hid (g3.trans HG4.out)
            clear g3 hDl HSM HG4
            generalize (byteVals D).toArray = DD at *
            unfold zero32 at HW4 HZB4 HZ4
            go_upto_region 22 with (refine wpList_store_row rfl 30 _ _ rfl w3.heap.size DD rfl rfl 30 _ HZB4.out HI4.out HZ4.out HO4.out ?_; rw [← HW4.out])
            clear HW4 HZB4
            go_wp2_with fail
            refine (HBL.out _ HG34.out).mono ?_
            rintro e w5 ⟨A5, c5, rfl, hown5, g5⟩
            have HG5 := Lib.hid (HSK.out.grew.trans (HG34.out.trans g5))
            have hsa := same52_any Q1 Q1 _ _ A' A5 c' c5 w5 (World.ownsRow.kept HOW.out (HG34.out.trans g5) (by cases (Value.slice A' Q1.length c').ownBlock <;> simp)) hown5 (by omega)
            rw [decide_eq_true rfl] at hsa
            have HSA := Lib.hid hsa
            clear hown5 g5 hsa HBL
            go_wp2_with fail
            refine HSA.out.mono ?_
            rintro e w6 ⟨rfl, g6⟩
            have HG6 := Lib.hid (HG5.out.trans g6)
            clear g6 HSA
            go_wp2_with fail
            refine (HKN.out _ HG6.out).mono ?_
            rintro e w7 ⟨rfl, g7⟩
            go_wp2_with fail
            go_ret
            exact ⟨rfl, HG6.out.trans g7⟩

end Go.Proofs.YtkcammaccgkflaaDoor
