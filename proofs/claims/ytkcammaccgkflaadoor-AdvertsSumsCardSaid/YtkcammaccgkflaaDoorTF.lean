/-
  AdvertsSums: the walk.
-/
import Derived.Test.YtkcammaccgkflaaDoorTD
import Derived.Test.YtkcammaccgkflaaDoorHK
namespace Go.Proofs.YtkcammaccgkflaaDoor
open Go.RowKit

theorem sumD_row {L : List Att} {pr : List UInt8} (h : prefB pr = true) : sumD L pr = dig (rowB (belowA L pr)) := by unfold sumD; rw [if_pos h]
theorem neq_rows (x y : List UInt8) (h : x ≠ y) : (x == y) = false := by simpa using h

set_option maxRecDepth 100000 in
set_option maxHeartbeats 16000000 in
theorem sums_law (A : Option Addr) (l : List Att) (c : Nat) (A' : Option Addr) (m : List Att) (c' : Nat) (p : Prt) (w : World) (hl : RowsAt w 97 A attCells l) (hlm : l.length ≤ 9223372036854775807) (hm : RowsAt w 97 A' attCells m) (hmm : m.length ≤ 9223372036854775807) (hp : p.ok w) (hpm : p.c ≤ 9223372036854775807) (hTb : Tabs w) :
    Calls Tryd.prog 19 #[.slice A l.length c, .slice A' m.length c', .slice p.A p.x.length p.c] w fun e w' => e = .returned (.bool true) ∧ Chg none w w' := by
  have hpl : p.x.length ≤ 9223372036854775807 := Nat.le_trans hp.2 hpm
  have HK := Lib.hid (known41_any w hTb)
  have HP := Lib.hid (isprefix_any p.x p.A p.c w hp.1 (by omega))
  have i1 : decide ((100 : Int) < (l.length : Int)) = decide (100 < l.length) := decide_eq_decide.2 (by omega)
  have i2 : decide ((100 : Int) < (m.length : Int)) = decide (100 < m.length) := decide_eq_decide.2 (by omega)
  by_cases h1 : 100 < l.length
  · have d1 : decide (100 < l.length) = true := decide_eq_true h1
    rw [d1] at i1
    clear hl hm hp hTb HP i2
    go_enter Tryd.func19, Tryd.ntmps19
    go_wp2_with fail
    refine HK.out.mono ?_
    rintro e w1 ⟨rfl, g1⟩
    go_wp2_with fail
    go_ret
    exact ⟨rfl, g1⟩
  have d1 : decide (100 < l.length) = false := decide_eq_false h1
  rw [d1] at i1
  by_cases h2 : 100 < m.length
  · have d2 : decide (100 < m.length) = true := decide_eq_true h2
    rw [d2] at i2
    clear hl hm hp hTb HP
    go_enter Tryd.func19, Tryd.ntmps19
    go_wp2_with fail
    refine HK.out.mono ?_
    rintro e w1 ⟨rfl, g1⟩
    go_wp2_with fail
    go_ret
    exact ⟨rfl, g1⟩
  have d2 : decide (100 < m.length) = false := decide_eq_false h2
  rw [d2] at i2
  cases hpb : prefB p.x with
  | false =>
    rw [hpb] at HP
    clear hl hm hp hTb
    go_enter Tryd.func19, Tryd.ntmps19
    go_wp2_with fail
    refine HP.out.mono ?_
    rintro e w0 ⟨rfl, rfl⟩
    go_wp2_with fail
    refine HK.out.mono ?_
    rintro e w1 ⟨rfl, g1⟩
    go_wp2_with fail
    go_ret
    exact ⟨rfl, g1⟩
  | true =>
    rw [hpb] at HP
    have HARG := Lib.hid (arg_rows hl)
    have HARM := Lib.hid (arg_rows hm)
    have HPO : Hid (∀ v, Chg none w v → Txt v p.A p.x) := Lib.hid fun v g => hp.1.chg g
    have HNEW := Lib.hid new_any
    have HTB := Lib.hid hTb
    have HL := Lib.hid h1
    have HM := Lib.hid h2
    have HPB := Lib.hid hpb
    have HKN : Hid (∀ v, Chg none w v → Calls Tryd.prog 41 #[] v fun e w' => e = .returned (.bool true) ∧ Chg none v w') := Lib.hid fun v g => known41_any v (hTb.chg g (by simp))
    clear HK hl hm hp hTb hpb
    go_enter Tryd.func19, Tryd.ntmps19
    go_wp2_with fail
    refine HP.out.mono ?_
    rintro e w0 ⟨rfl, rfl⟩
    go_wp2_with fail
    refine (HNEW.out w).mono ?_
    rintro e w1 ⟨rfl, hset, g1⟩
    go_wp2_with fail
    refine (HNEW.out w1).mono ?_
    rintro e w2 ⟨rfl, hset2, g2⟩
    have HS1 : Hid (Two w w2 w.heap.size (addAll [] (l.take 0)) w1.heap.size []) := Lib.hid (two_new hset g1 hset2 g2)
    clear hset g1 hset2 g2 HNEW HP i1 i2 d1 d2
    obtain ⟨pa, hpa⟩ : ∃ pa, w.heap.size = pa := ⟨_, rfl⟩
    obtain ⟨pb, hpb⟩ : ∃ pb, w1.heap.size = pb := ⟨_, rfl⟩
    rw [hpa, hpb] at HS1
    rw [hpa, hpb]
    clear hpa hpb
    go_upto_region 7 with fail
    go_loopw [42] (fun s42 wr => ∃ k : Nat, k ≤ l.length ∧ s42 = .int .i64 k ∧ Hid (Two w wr pa (addAll [] (l.take k)) pb [])) (fun s42 _ => l.length - (intOf s42).toNat)
    case atStart => exact ⟨0, Nat.zero_le _, rfl, HS1⟩
    case round =>
      obtain ⟨k, hk, rfl, HS⟩ := hrel
      by_cases hlt : k < l.length
      · have hd : decide (k < l.length) = true := by rw [decide_eq_true_eq]; exact hlt
        have hd2 : decide ((k : Int) < (l.length : Int)) = true := by rw [decide_eq_true_eq]; omega
        have hlt' : (k : Int) < (l.length : Int) := by omega
        have hkl : (k : Int) ≤ 100 := by have := HL.out; omega
        obtain ⟨x, hx⟩ : ∃ x, l[k]? = some x := ⟨_, List.getElem?_eq_getElem hlt⟩
        obtain ⟨rb, ro, rfl, hr⟩ := HARG.out k x hx
        have HRX := Lib.hid (hr wr HS.out.grew)
        have HIX := Lib.hid (info46 x)
        have HAD := Lib.hid (add_fst HS.out (addAll_okn _) x)
        rw [← addAll_take [] l hx] at HAD
        have HLT := Lib.hid hlt
        clear hr hx hlt
        go_wp2_with (refine wpList_load_mid rfl 46 _ rfl rb (ro + k * 97) rfl (attCells x) _ HRX.out Tryd.underlying46 rfl HIX.out ?_)
        refine HAD.out.mono ?_
        rintro e w2 ⟨rfl, hs⟩
        have HS2 := Lib.hid hs
        clear hs
        go_wp2_with fail
        go_roundw
        case rel => exact ⟨k + 1, by have := HLT.out; omega, by first | rfl | go_num, HS2⟩
        case measure => have := HLT.out; first | omega | (simp only [intOf]; omega) | (simp [intOf]; omega)
      · have hd : decide (k < l.length) = false := by rw [decide_eq_false_iff_not]; exact hlt
        have hd2 : decide ((k : Int) < (l.length : Int)) = false := by rw [decide_eq_false_iff_not]; omega
        obtain rfl : k = l.length := by omega
        rw [List.take_length] at HS
        have hok := addAll_okn l
        generalize addAll [] l = S at HS hok
        have HOK := Lib.hid hok
        clear hlt hok hk
        go_upto_region 12 with fail
        obtain ⟨wo, rfl⟩ : ∃ wo : World, wo = wr := ⟨_, rfl⟩
        go_loopw [54] (fun s54 wr => ∃ k : Nat, k ≤ m.length ∧ s54 = .int .i64 k ∧ Hid (Two w wr pa S pb (addAll [] (m.take k)))) (fun s54 _ => m.length - (intOf s54).toNat)
        case atStart => exact ⟨0, Nat.zero_le _, rfl, HS⟩
        case round =>
          obtain ⟨k, hk, rfl, HS⟩ := hrel
          by_cases hlt : k < m.length
          · have hd : decide (k < m.length) = true := by rw [decide_eq_true_eq]; exact hlt
            have hd2 : decide ((k : Int) < (m.length : Int)) = true := by rw [decide_eq_true_eq]; omega
            have hlt' : (k : Int) < (m.length : Int) := by omega
            have hkl : (k : Int) ≤ 100 := by have := HM.out; omega
            obtain ⟨x, hx⟩ : ∃ x, m[k]? = some x := ⟨_, List.getElem?_eq_getElem hlt⟩
            obtain ⟨rb, ro, rfl, hr⟩ := HARM.out k x hx
            have HRX := Lib.hid (hr wr HS.out.grew)
            have HIX := Lib.hid (info46 x)
            have HAD := Lib.hid (add_snd HS.out (addAll_okn _) x)
            rw [← addAll_take [] m hx] at HAD
            have HLT := Lib.hid hlt
            clear hr hx hlt
            go_wp2_with (refine wpList_load_mid rfl 46 _ rfl rb (ro + k * 97) rfl (attCells x) _ HRX.out Tryd.underlying46 rfl HIX.out ?_)
            refine HAD.out.mono ?_
            rintro e w2 ⟨rfl, hs⟩
            have HS2 := Lib.hid hs
            clear hs
            go_wp2_with fail
            go_roundw
            case rel => exact ⟨k + 1, by have := HLT.out; omega, by first | rfl | go_num, HS2⟩
            case measure => have := HLT.out; first | omega | (simp only [intOf]; omega) | (simp [intOf]; omega)
          · have hd : decide (k < m.length) = false := by rw [decide_eq_false_iff_not]; exact hlt
            have hd2 : decide ((k : Int) < (m.length : Int)) = false := by rw [decide_eq_false_iff_not]; omega
            obtain rfl : k = m.length := by omega
            rw [List.take_length] at HS
            have hok := addAll_okn m
            generalize addAll [] m = V at HS hok
            have HOV := Lib.hid hok
            clear hlt hok hk
            have HTP := Lib.hid (fun (v : World) (g : Chg none wr v) => HPO.out v (HS.out.grew.trans g))
            have HSMA := Lib.hid (sum_new HS.out.fst HOK.out p.x p.A p.c (HTP.out wr (Chg.refl _ _)) (by omega) (HS.out.fst.tabs HTB.out))
            have HSMB := Lib.hid (fun (v : World) (g : Chg none wr v) => sum_new (HS.out.snd.chg g) HOV.out p.x p.A p.c (HTP.out v g) (by omega) ((HS.out.snd.chg g).tabs HTB.out))
            have HBLA := Lib.hid (fun (v : World) (g : Chg none wr v) => below_new (HS.out.fst.chg g) HOK.out p.x p.A p.c (HTP.out v g) (by omega))
            have HBLB := Lib.hid (fun (v : World) (g : Chg none wr v) => below_new (HS.out.snd.chg g) HOV.out p.x p.A p.c (HTP.out v g) (by omega))
            have hla : (belowA S p.x).length ≤ 200 := by have := belowA_len S p.x; have := HOK.out.len; omega
            have hlb : (belowA V p.x).length ≤ 200 := by have := belowA_len V p.x; have := HOV.out.len; omega
            have HRI := Lib.hid (fun h => rowB_inj (belowA_may HOK.out.may p.x) (belowA_may HOV.out.may p.x) h)
            unfold SumTold at HSMA HSMB
            rw [sumD_row HPB.out] at HSMA HSMB
            generalize belowA S p.x = P at *
            generalize belowA V p.x = Q at *
            have hDl := dig_len (rowB P)
            have hEl := dig_len (rowB Q)
            obtain ⟨D, hD⟩ : ∃ D, D = dig (rowB P) := ⟨_, rfl⟩
            obtain ⟨E, hE⟩ : ∃ E, E = dig (rowB Q) := ⟨_, rfl⟩
            rw [← hD] at HSMA hDl
            rw [← hE] at HSMB hEl
            have HD := Lib.hid hD
            have HE := Lib.hid hE
            clear hD hE
            go_wp2_with fail
            refine HSMA.out.mono ?_
            rintro e w3 ⟨rfl, g3⟩
            obtain ⟨W4, HW4, HZB4, HI4, HZ4, HO4, HG4, HR4⟩ := box30 w3 D hDl
            have HG34 := Lib.hid (g3.trans HG4.out)
            obtain ⟨DD, hDD⟩ : ∃ DD, DD = (byteVals D).toArray := ⟨_, rfl⟩
            rw [← hDD] at HW4 HI4 HZ4 HO4 ⊢
            have HDD := Lib.hid hDD
            clear g3 HSMA HG4 hDD
            unfold zero32 at HW4 HZB4 HZ4
            go_upto_region 17 with (refine wpList_store_row rfl 30 _ _ rfl w3.heap.size DD rfl rfl 30 _ HZB4.out HI4.out HZ4.out HO4.out ?_; rw [← HW4.out])
            clear HW4 HZB4 HI4 HZ4 HO4
            generalize w3.heap.size = pd at *
            go_wp2_with fail
            refine (HSMB.out _ HG34.out).mono ?_
            rintro e w5 ⟨rfl, g5⟩
            obtain ⟨W6, HW6, HZB6, HI6, HZ6, HO6, HG6, HR6⟩ := box30 w5 E hEl
            have HR4' := Lib.hid (fun (v : World) (g : Chg none W6 v) => HR4.out v ((g5.trans HG6.out).trans g))
            have HG36 := Lib.hid (HG34.out.trans (g5.trans HG6.out))
            obtain ⟨EE, hEE⟩ : ∃ EE, EE = (byteVals E).toArray := ⟨_, rfl⟩
            rw [← hEE] at HW6 HI6 HZ6 HO6 ⊢
            have HEE := Lib.hid hEE
            clear g5 HSMB HG6 hEE HR4
            unfold zero32 at HW6 HZB6 HZ6
            go_upto_region 18 with (refine wpList_store_row rfl 30 _ _ rfl w5.heap.size EE rfl rfl 30 _ HZB6.out HI6.out HZ6.out HO6.out ?_; rw [← HW6.out])
            clear HW6 HZB6 HI6 HZ6 HO6
            generalize w5.heap.size = pe at *
            go_wp2_with fail
            refine (HBLA.out _ HG36.out).mono ?_
            rintro e w7 ⟨A7, c7, rfl, hown7, g7⟩
            go_wp2_with fail
            refine (HBLB.out _ (HG36.out.trans g7)).mono ?_
            rintro e w8 ⟨A8, c8, rfl, hown8, g8⟩
            have HO7 := Lib.hid (World.ownsRow.kept hown7 g8 (by cases (Value.slice A7 P.length c7).ownBlock <;> simp))
            have HO8 := Lib.hid hown8
            have HG8 := Lib.hid (HG36.out.trans (g7.trans g8))
            have HR4'' := Lib.hid (fun (v : World) (g : Chg none w8 v) => HR4'.out v ((g7.trans g8).trans g))
            have HR6' := Lib.hid (fun (v : World) (g : Chg none w8 v) => HR6.out v ((g7.trans g8).trans g))
            have HSA := Lib.hid (same52_any P Q _ _ A7 A8 c7 c8 w8 HO7.out HO8.out (by omega))
            have HGW := Lib.hid (HS.out.grew.trans HG8.out)
            have HI30 : Hid (∀ d : List UInt8, d.length = 32 → (Tryd.prog.info? 30).map (·.size) = some (byteVals d).length) := Lib.hid fun d h => by rw [byteVals_len, h]; show _ = _; kernel_rfl
            have hg30 := guard30
            clear hown7 hown8 g7 g8 HBLA HBLB HR4' HR6
            by_cases hPQ : P = Q
            · subst hPQ
              rw [decide_eq_true rfl] at HSA
              have hDE : E = D := HE.out.trans HD.out.symm
              subst hDE
              have hEE : DD = EE := HDD.out.trans HEE.out.symm
              subst hEE
              have hq : ∀ v : World, (binOp .eql 30 (.agg DD) (.agg DD)).run Tryd.prog v = .ok (.bool true) v := fun v => by rw [HDD.out, eql30 _ _ hDl hDl v]; simp
              go_wp2_with fail
              refine HSA.out.mono ?_
              rintro e w9 ⟨rfl, g9⟩
              have HG9 := Lib.hid (HGW.out.trans g9)
              have HRa := Lib.hid (HR4''.out w9 g9)
              have HRb := Lib.hid (HR6'.out w9 g9)
              clear g9
              go_wp2_with (first
                | (refine wpList_load_mid rfl 30 _ rfl pd 0 rfl (byteVals E) _ HRa.out Tryd.underlying30 rfl (HI30.out E hDl) ?_; rw [← HDD.out])
                | (refine wpList_load_mid rfl 30 _ rfl pe 0 rfl (byteVals E) _ HRb.out Tryd.underlying30 rfl (HI30.out E hDl) ?_; rw [← HDD.out]))
              refine (HKN.out _ HG9.out).mono ?_
              rintro e w10 ⟨rfl, g10⟩
              go_wp2_with fail
              go_ret
              exact ⟨rfl, HG9.out.trans g10⟩
            rw [decide_eq_false hPQ] at HSA
            by_cases hDE : D = E
            · subst hDE
              have hEE : DD = EE := HDD.out.trans HEE.out.symm
              subst hEE
              have hq : ∀ v : World, (binOp .neq 30 (.agg DD) (.agg DD)).run Tryd.prog v = .ok (.bool false) v := fun v => by rw [HDD.out, neq30 _ _ hDl hDl v]; simp
              go_wp2_with fail
              refine HSA.out.mono ?_
              rintro e w9 ⟨rfl, g9⟩
              have HG9 := Lib.hid (HGW.out.trans g9)
              have HRa := Lib.hid (HR4''.out w9 g9)
              have HRb := Lib.hid (HR6'.out w9 g9)
              go_upto_region 25 with (first
                | (refine wpList_load_mid rfl 30 _ rfl pd 0 rfl (byteVals D) _ HRa.out Tryd.underlying30 rfl (HI30.out D hDl) ?_; rw [← HDD.out])
                | (refine wpList_load_mid rfl 30 _ rfl pe 0 rfl (byteVals D) _ HRb.out Tryd.underlying30 rfl (HI30.out D hDl) ?_; rw [← HDD.out]))
              clear HRa HRb HR4'' HR6' HSA hq hg30
              have HGA := Lib.hid (HGW.out.trans g9)
              have HRWP := Lib.hid (fun (v : World) (g : Chg none w9 v) => row57_any P _ A7 c7 v (World.ownsRow.kept HO7.out (g9.trans g) (by cases (Value.slice A7 P.length c7).ownBlock <;> simp)) (by omega))
              have HRWQ := Lib.hid (fun (v : World) (g : Chg none w9 v) => row57_any Q _ A8 c8 v (World.ownsRow.kept HO8.out (g9.trans g) (by cases (Value.slice A8 Q.length c8).ownBlock <;> simp)) (by omega))
              have hrp : (rowB P).length ≤ 1000000 := by rw [rowB_len]; omega
              have hrq : (rowB Q).length ≤ 1000000 := by rw [rowB_len]; omega
              have HNE := Lib.hid (neq_rows (rowB P) (rowB Q) fun h => hPQ (HRI.out h))
              have HDP := HD.out
              have HDQ := HE.out
              have hq : ∀ v : World, (binOp .eql 30 (.agg DD) (.agg DD)).run Tryd.prog v = .ok (.bool true) v := fun v => by rw [HDD.out, eql30 _ _ hDl hDl v]; simp
              have HEQ := Lib.hid (fun (v : World) => hq v)
              clear hq g9
              go_wp2_with fail
              refine (newr_any _).mono ?_
              rintro e w10 ⟨px, rfl, hh, g10⟩
              have HHS : Hid (∀ (v : World) (q : Prt), Chg none w10 v → q.ok v → q.x = rowB P ∨ q.x = rowB Q → Calls Tryd.prog 58 #[.pointer (some ⟨px, 0, none⟩), .slice q.A q.x.length q.c] v fun e w' => e = .returned (.agg DD) ∧ Chg none v w') := Lib.hid fun v q g hok hor => by
                have h1 := hsum_any px q v (hh.chg g (by simp)) hok (by rcases hor with e | e <;> rw [e] <;> assumption)
                have h2 : (byteVals (dig q.x)).toArray = DD := by
                  rw [HDD.out]
                  rcases hor with e | e
                  · rw [e, ← HDP]
                  · rw [e, ← HDQ]
                rwa [h2] at h1
              have HGT := Lib.hid (HGA.out.trans g10)
              have HG10 := Lib.hid g10
              clear hh g10
              go_upto_region 26 with fail
              have hS0 := (Chg.refl none w10).drew
              refine wp_region_held_drew (S := fun v => Chg none w10 v) (by kernel_rfl) hS0 (fun _ => ?_)
              generalize w10.drew = v0 at *
              refine wpAnyH_take (i := 0) (oi := ⟨some 106, _, _, _, _, _⟩) (v := ?_) rfl (by kernel_rfl) (by kernel_rfl) (by kernel_rfl) (fun _ _ _ h => h) (Or.inl ⟨by rfl, ?_⟩) (by assumption) ?_
              rotate_left
              · intro v hSv; (try dsimp only at hSv); skip; go_simp; (try with_reducible rfl)
              try simp only [Act.put, List.setIfInBounds_toArray, List.set_cons_zero, List.set_cons_succ]
              refine wpAnyH_take (i := 3) (oi := ⟨some 109, _, _, _, _, _⟩) (v := ?_) rfl (by kernel_rfl) (by kernel_rfl) (by kernel_rfl) (fun _ _ _ h => h) (Or.inl ⟨by rfl, ?_⟩) (by assumption) ?_
              rotate_left
              · intro v hSv; (try dsimp only at hSv); skip; go_simp; (try with_reducible rfl)
              try simp only [Act.put, List.setIfInBounds_toArray, List.set_cons_zero, List.set_cons_succ]
              refine wpAnyH_ready (rs := [1]) (by kernel_rfl) (by simp) ?_
              refine AllReadyH.cons (o := ⟨some 107, _, _, _, _, _⟩) rfl (fun K hK => ?_) (AllReadyH.nil)
              go_simp
              go_at_call 57
              refine (HRWP.out _ (HG10.out.trans hS0)).mono ?_
              rintro e v1 ⟨Ap, cp, rfl, hown, g⟩
              have HVp := Lib.hid (conv_own hown)
              have HOp := Lib.hid (own_txt hown)
              clear hown
              have hSv1 := hS0.trans g
              have Gv1 := Lib.hid g
              clear g
              go_wp2_with fail
              refine hK.out _ _ hSv1 (fun _ => ?_)
              clear hK K
              try simp only [Act.put, List.setIfInBounds_toArray, List.set_cons_zero, List.set_cons_succ]
              refine wpAnyH_ready (rs := [2, 4]) (by kernel_rfl) (by simp) ?_
              refine AllReadyH.cons (o := ⟨some 108, _, _, _, _, _⟩) rfl (fun K hK => ?_) (AllReadyH.cons (o := ⟨some 110, _, _, _, _, _⟩) rfl (fun K hK => ?_) (AllReadyH.nil))
              · have hcp := HVp.out _ (Chg.refl _ _)
                go_simp
                refine hK.out _ _ hSv1 (fun _ => ?_)
                clear hK K
                try simp only [Act.put, List.setIfInBounds_toArray, List.set_cons_zero, List.set_cons_succ]
                refine wpAnyH_ready (rs := [4]) (by kernel_rfl) (by simp) ?_
                refine AllReadyH.cons (o := ⟨some 110, _, _, _, _, _⟩) rfl (fun K hK => ?_) (AllReadyH.nil)
                go_simp
                go_at_call 57
                refine (HRWQ.out _ (HG10.out.trans hSv1)).mono ?_
                rintro e v2 ⟨Aq, cq, rfl, hown, g⟩
                have HVq := Lib.hid (conv_own hown)
                have HOq := Lib.hid (own_txt hown)
                clear hown
                have hSv2 := hSv1.trans g
                have Gv2 := Lib.hid g
                clear g
                go_wp2_with fail
                refine hK.out _ _ hSv2 (fun _ => ?_)
                clear hK K
                try simp only [Act.put, List.setIfInBounds_toArray, List.set_cons_zero, List.set_cons_succ]
                refine wpAnyH_ready (rs := [5]) (by kernel_rfl) (by simp) ?_
                refine AllReadyH.cons (o := ⟨some 111, _, _, _, _, _⟩) rfl (fun K hK => ?_) (AllReadyH.nil)
                have hcq := HVq.out _ (Chg.refl _ _)
                go_simp
                refine hK.out _ _ hSv2 (fun _ => ?_)
                clear hK K
                try simp only [Act.put, List.setIfInBounds_toArray, List.set_cons_zero, List.set_cons_succ]
                refine wpAnyH_take (i := 6) (oi := ⟨some 112, _, _, _, _, _⟩) (v := ?_) rfl (by kernel_rfl) (by kernel_rfl) (by kernel_rfl) (fun _ _ _ h => h) (Or.inl ⟨by rfl, ?_⟩) (by assumption) ?_
                rotate_left
                · intro v hSv; (try dsimp only at hSv); have hz := HNE.out; go_simp; (try with_reducible rfl)
                try simp only [Act.put, List.setIfInBounds_toArray, List.set_cons_zero, List.set_cons_succ]
                refine wpAnyH_take (i := 7) (oi := ⟨some 113, _, _, _, _, _⟩) (v := ?_) rfl (by kernel_rfl) (by kernel_rfl) (by kernel_rfl) (fun _ _ _ h => h) (Or.inl ⟨by rfl, ?_⟩) (by assumption) ?_
                rotate_left
                · intro v hSv; (try dsimp only at hSv); skip; go_simp; (try with_reducible rfl)
                try simp only [Act.put, List.setIfInBounds_toArray, List.set_cons_zero, List.set_cons_succ]
                refine wpAnyH_take (i := 8) (oi := ⟨some 114, _, _, _, _, _⟩) (v := ?_) rfl (by kernel_rfl) (by kernel_rfl) (by kernel_rfl) (fun _ _ _ h => h) (Or.inl ⟨by rfl, ?_⟩) (by assumption) ?_
                rotate_left
                · intro v hSv; (try dsimp only at hSv); skip; go_simp; (try with_reducible rfl)
                try simp only [Act.put, List.setIfInBounds_toArray, List.set_cons_zero, List.set_cons_succ]
                refine wpAnyH_take (i := 9) (oi := ⟨some 115, _, _, _, _, _⟩) (v := ?_) rfl (by kernel_rfl) (by kernel_rfl) (by kernel_rfl) (fun _ _ _ h => h) (Or.inl ⟨by rfl, ?_⟩) (by assumption) ?_
                rotate_left
                · intro v hSv; (try dsimp only at hSv); skip; go_simp; (try with_reducible rfl)
                try simp only [Act.put, List.setIfInBounds_toArray, List.set_cons_zero, List.set_cons_succ]
                refine wpAnyH_take (i := 12) (oi := ⟨some 118, _, _, _, _, _⟩) (v := ?_) rfl (by kernel_rfl) (by kernel_rfl) (by kernel_rfl) (fun _ _ _ h => h) (Or.inl ⟨by rfl, ?_⟩) (by assumption) ?_
                rotate_left
                · intro v hSv; (try dsimp only at hSv); skip; go_simp; (try with_reducible rfl)
                try simp only [Act.put, List.setIfInBounds_toArray, List.set_cons_zero, List.set_cons_succ]
                refine wpAnyH_take (i := 13) (oi := ⟨some 119, _, _, _, _, _⟩) (v := ?_) rfl (by kernel_rfl) (by kernel_rfl) (by kernel_rfl) (fun _ _ _ h => h) (Or.inl ⟨by rfl, ?_⟩) (by assumption) ?_
                rotate_left
                · intro v hSv; (try dsimp only at hSv); skip; go_simp; (try with_reducible rfl)
                try simp only [Act.put, List.setIfInBounds_toArray, List.set_cons_zero, List.set_cons_succ]
                refine wpAnyH_ready (rs := [10]) (by kernel_rfl) (by simp) ?_
                refine AllReadyH.cons (o := ⟨some 116, _, _, _, _, _⟩) rfl (fun K hK => ?_) (AllReadyH.nil)
                go_simp
                go_at_call 57
                refine (HRWP.out _ (HG10.out.trans hSv2)).mono ?_
                rintro e vx ⟨Ax, cx, rfl, hown, g⟩
                have HVx := Lib.hid (conv_own hown)
                have HOx := Lib.hid (own_txt hown)
                clear hown
                have hSvx := hSv2.trans g
                have Gvx := Lib.hid g
                clear g
                go_wp2_with fail
                refine hK.out _ _ hSvx (fun _ => ?_)
                clear hK K
                try simp only [Act.put, List.setIfInBounds_toArray, List.set_cons_zero, List.set_cons_succ]
                refine wpAnyH_ready (rs := [11]) (by kernel_rfl) (by simp) ?_
                refine AllReadyH.cons (o := ⟨some 117, _, _, _, _, _⟩) rfl (fun K hK => ?_) (AllReadyH.nil)
                go_simp
                go_at_call 58
                refine (HHS.out _ ⟨Ax, rowB P, cx⟩ hSvx ⟨HOx.out.1, HOx.out.2.2⟩ (.inl rfl)).mono ?_
                rintro e vy ⟨rfl, g⟩
                have hSvy := hSvx.trans g
                clear g
                go_wp2_with fail
                refine hK.out _ _ hSvy (fun _ => ?_)
                clear hK K
                try simp only [Act.put, List.setIfInBounds_toArray, List.set_cons_zero, List.set_cons_succ]
                refine wpAnyH_ready (rs := [14]) (by kernel_rfl) (by simp) ?_
                refine AllReadyH.cons (o := ⟨some 120, _, _, _, _, _⟩) rfl (fun K hK => ?_) (AllReadyH.nil)
                go_simp
                go_at_call 57
                refine (HRWQ.out _ (HG10.out.trans hSvy)).mono ?_
                rintro e vz ⟨Az, cz, rfl, hown, g⟩
                have HVz := Lib.hid (conv_own hown)
                have HOz := Lib.hid (own_txt hown)
                clear hown
                have hSvz := hSvy.trans g
                have Gvz := Lib.hid g
                clear g
                go_wp2_with fail
                refine hK.out _ _ hSvz (fun _ => ?_)
                clear hK K
                try simp only [Act.put, List.setIfInBounds_toArray, List.set_cons_zero, List.set_cons_succ]
                refine wpAnyH_ready (rs := [15]) (by kernel_rfl) (by simp) ?_
                refine AllReadyH.cons (o := ⟨some 121, _, _, _, _, _⟩) rfl (fun K hK => ?_) (AllReadyH.nil)
                go_simp
                go_at_call 58
                refine (HHS.out _ ⟨Az, rowB Q, cz⟩ hSvz ⟨HOz.out.1, HOz.out.2.2⟩ (.inr rfl)).mono ?_
                rintro e vu ⟨rfl, g⟩
                have hSvu := hSvz.trans g
                clear g
                go_wp2_with fail
                refine hK.out _ _ hSvu (fun _ => ?_)
                clear hK K
                try simp only [Act.put, List.setIfInBounds_toArray, List.set_cons_zero, List.set_cons_succ]
                refine wpAnyH_take (i := 16) (oi := ⟨some 122, _, _, _, _, _⟩) (v := .bool true) rfl (by kernel_rfl) (by kernel_rfl) (by kernel_rfl) (fun _ _ _ h => h) (Or.inl ⟨by rfl, ?_⟩) (by assumption) ?_
                · intro v hSv; have hz := HEQ.out; go_simp
                try simp only [Act.put, List.setIfInBounds_toArray, List.set_cons_zero, List.set_cons_succ]
                refine wpAnyH_take (i := 17) (oi := ⟨some 123, _, _, _, _, _⟩) (v := ?_) rfl (by kernel_rfl) (by kernel_rfl) (by kernel_rfl) (fun _ _ _ h => h) (Or.inl ⟨by rfl, ?_⟩) (by assumption) ?_
                rotate_left
                · intro v hSv; (try dsimp only at hSv); skip; go_simp; (try with_reducible rfl)
                try simp only [Act.put, List.setIfInBounds_toArray, List.set_cons_zero, List.set_cons_succ]
                refine wpAnyH_take (i := 18) (oi := ⟨some 124, _, _, _, _, _⟩) (v := ?_) rfl (by kernel_rfl) (by kernel_rfl) (by kernel_rfl) (fun _ _ _ h => h) (Or.inl ⟨by rfl, ?_⟩) (by assumption) ?_
                rotate_left
                · intro v hSv; (try dsimp only at hSv); skip; go_simp; (try with_reducible rfl)
                try simp only [Act.put, List.setIfInBounds_toArray, List.set_cons_zero, List.set_cons_succ]
                refine wpAnyH_ready (rs := [19]) (by kernel_rfl) (by simp) ?_
                refine AllReadyH.cons (o := ⟨some 125, _, _, _, _, _⟩) rfl (fun K hK => ?_) (AllReadyH.nil)
                go_simp
                go_at_call 41
                refine (HKN.out _ ((HGT.out.trans hSvu))).mono ?_
                rintro e vk ⟨rfl, g⟩
                have hSvk := hSvu.trans g
                clear g
                go_wp2_with fail
                refine hK.out _ _ hSvk (fun _ => ?_)
                clear hK K
                try simp only [Act.put, List.setIfInBounds_toArray, List.set_cons_zero, List.set_cons_succ]
                refine wpAnyH_take (i := 20) (oi := ⟨some 126, _, _, _, _, _⟩) (v := ?_) rfl (by kernel_rfl) (by kernel_rfl) (by kernel_rfl) (fun _ _ _ h => h) (Or.inl ⟨by rfl, ?_⟩) (by assumption) ?_
                rotate_left
                · intro v hSv; (try dsimp only at hSv); skip; go_simp; (try with_reducible rfl)
                try simp only [Act.put, List.setIfInBounds_toArray, List.set_cons_zero, List.set_cons_succ]
                refine wpAnyH_take (i := 21) (oi := ⟨some 6, _, _, _, _, _⟩) (v := ?_) rfl (by kernel_rfl) (by kernel_rfl) (by kernel_rfl) (fun _ _ _ h => h) (Or.inl ⟨by rfl, ?_⟩) (by assumption) ?_
                rotate_left
                · intro v hSv; (try dsimp only at hSv); skip; go_simp; (try with_reducible rfl)
                try simp only [Act.put, List.setIfInBounds_toArray, List.set_cons_zero, List.set_cons_succ]
                refine wpAnyH_done (by kernel_rfl) ?_ _
                try simp only [Act.put]
                go_wp2_with fail
                go_ret
                exact ⟨rfl, HGT.out.trans hSvk⟩
              · go_simp
                go_at_call 57
                refine (HRWQ.out _ (HG10.out.trans hSv1)).mono ?_
                rintro e v2 ⟨Aq, cq, rfl, hown, g⟩
                have HVq := Lib.hid (conv_own hown)
                have HOq := Lib.hid (own_txt hown)
                clear hown
                have hSv2 := hSv1.trans g
                have Gv2 := Lib.hid g
                clear g
                go_wp2_with fail
                refine hK.out _ _ hSv2 (fun _ => ?_)
                clear hK K
                try simp only [Act.put, List.setIfInBounds_toArray, List.set_cons_zero, List.set_cons_succ]
                refine wpAnyH_ready (rs := [2, 5]) (by kernel_rfl) (by simp) ?_
                refine AllReadyH.cons (o := ⟨some 108, _, _, _, _, _⟩) rfl (fun K hK => ?_) (AllReadyH.cons (o := ⟨some 111, _, _, _, _, _⟩) rfl (fun K hK => ?_) (AllReadyH.nil))
                · have hcp := HVp.out _ Gv2.out
                  go_simp
                  refine hK.out _ _ hSv2 (fun _ => ?_)
                  clear hK K
                  try simp only [Act.put, List.setIfInBounds_toArray, List.set_cons_zero, List.set_cons_succ]
                  refine wpAnyH_ready (rs := [5]) (by kernel_rfl) (by simp) ?_
                  refine AllReadyH.cons (o := ⟨some 111, _, _, _, _, _⟩) rfl (fun K hK => ?_) (AllReadyH.nil)
                  have hcq := HVq.out _ (Chg.refl _ _)
                  go_simp
                  refine hK.out _ _ hSv2 (fun _ => ?_)
                  clear hK K
                  try simp only [Act.put, List.setIfInBounds_toArray, List.set_cons_zero, List.set_cons_succ]
                  refine wpAnyH_take (i := 6) (oi := ⟨some 112, _, _, _, _, _⟩) (v := ?_) rfl (by kernel_rfl) (by kernel_rfl) (by kernel_rfl) (fun _ _ _ h => h) (Or.inl ⟨by rfl, ?_⟩) (by assumption) ?_
                  rotate_left
                  · intro v hSv; (try dsimp only at hSv); have hz := HNE.out; go_simp; (try with_reducible rfl)
                  try simp only [Act.put, List.setIfInBounds_toArray, List.set_cons_zero, List.set_cons_succ]
                  refine wpAnyH_take (i := 7) (oi := ⟨some 113, _, _, _, _, _⟩) (v := ?_) rfl (by kernel_rfl) (by kernel_rfl) (by kernel_rfl) (fun _ _ _ h => h) (Or.inl ⟨by rfl, ?_⟩) (by assumption) ?_
                  rotate_left
                  · intro v hSv; (try dsimp only at hSv); skip; go_simp; (try with_reducible rfl)
                  try simp only [Act.put, List.setIfInBounds_toArray, List.set_cons_zero, List.set_cons_succ]
                  refine wpAnyH_take (i := 8) (oi := ⟨some 114, _, _, _, _, _⟩) (v := ?_) rfl (by kernel_rfl) (by kernel_rfl) (by kernel_rfl) (fun _ _ _ h => h) (Or.inl ⟨by rfl, ?_⟩) (by assumption) ?_
                  rotate_left
                  · intro v hSv; (try dsimp only at hSv); skip; go_simp; (try with_reducible rfl)
                  try simp only [Act.put, List.setIfInBounds_toArray, List.set_cons_zero, List.set_cons_succ]
                  refine wpAnyH_take (i := 9) (oi := ⟨some 115, _, _, _, _, _⟩) (v := ?_) rfl (by kernel_rfl) (by kernel_rfl) (by kernel_rfl) (fun _ _ _ h => h) (Or.inl ⟨by rfl, ?_⟩) (by assumption) ?_
                  rotate_left
                  · intro v hSv; (try dsimp only at hSv); skip; go_simp; (try with_reducible rfl)
                  try simp only [Act.put, List.setIfInBounds_toArray, List.set_cons_zero, List.set_cons_succ]
                  refine wpAnyH_take (i := 12) (oi := ⟨some 118, _, _, _, _, _⟩) (v := ?_) rfl (by kernel_rfl) (by kernel_rfl) (by kernel_rfl) (fun _ _ _ h => h) (Or.inl ⟨by rfl, ?_⟩) (by assumption) ?_
                  rotate_left
                  · intro v hSv; (try dsimp only at hSv); skip; go_simp; (try with_reducible rfl)
                  try simp only [Act.put, List.setIfInBounds_toArray, List.set_cons_zero, List.set_cons_succ]
                  refine wpAnyH_take (i := 13) (oi := ⟨some 119, _, _, _, _, _⟩) (v := ?_) rfl (by kernel_rfl) (by kernel_rfl) (by kernel_rfl) (fun _ _ _ h => h) (Or.inl ⟨by rfl, ?_⟩) (by assumption) ?_
                  rotate_left
                  · intro v hSv; (try dsimp only at hSv); skip; go_simp; (try with_reducible rfl)
                  try simp only [Act.put, List.setIfInBounds_toArray, List.set_cons_zero, List.set_cons_succ]
                  refine wpAnyH_ready (rs := [10]) (by kernel_rfl) (by simp) ?_
                  refine AllReadyH.cons (o := ⟨some 116, _, _, _, _, _⟩) rfl (fun K hK => ?_) (AllReadyH.nil)
                  go_simp
                  go_at_call 57
                  refine (HRWP.out _ (HG10.out.trans hSv2)).mono ?_
                  rintro e vx ⟨Ax, cx, rfl, hown, g⟩
                  have HVx := Lib.hid (conv_own hown)
                  have HOx := Lib.hid (own_txt hown)
                  clear hown
                  have hSvx := hSv2.trans g
                  have Gvx := Lib.hid g
                  clear g
                  go_wp2_with fail
                  refine hK.out _ _ hSvx (fun _ => ?_)
                  clear hK K
                  try simp only [Act.put, List.setIfInBounds_toArray, List.set_cons_zero, List.set_cons_succ]
                  refine wpAnyH_ready (rs := [11]) (by kernel_rfl) (by simp) ?_
                  refine AllReadyH.cons (o := ⟨some 117, _, _, _, _, _⟩) rfl (fun K hK => ?_) (AllReadyH.nil)
                  go_simp
                  go_at_call 58
                  refine (HHS.out _ ⟨Ax, rowB P, cx⟩ hSvx ⟨HOx.out.1, HOx.out.2.2⟩ (.inl rfl)).mono ?_
                  rintro e vy ⟨rfl, g⟩
                  have hSvy := hSvx.trans g
                  clear g
                  go_wp2_with fail
                  refine hK.out _ _ hSvy (fun _ => ?_)
                  clear hK K
                  try simp only [Act.put, List.setIfInBounds_toArray, List.set_cons_zero, List.set_cons_succ]
                  refine wpAnyH_ready (rs := [14]) (by kernel_rfl) (by simp) ?_
                  refine AllReadyH.cons (o := ⟨some 120, _, _, _, _, _⟩) rfl (fun K hK => ?_) (AllReadyH.nil)
                  go_simp
                  go_at_call 57
                  refine (HRWQ.out _ (HG10.out.trans hSvy)).mono ?_
                  rintro e vz ⟨Az, cz, rfl, hown, g⟩
                  have HVz := Lib.hid (conv_own hown)
                  have HOz := Lib.hid (own_txt hown)
                  clear hown
                  have hSvz := hSvy.trans g
                  have Gvz := Lib.hid g
                  clear g
                  go_wp2_with fail
                  refine hK.out _ _ hSvz (fun _ => ?_)
                  clear hK K
                  try simp only [Act.put, List.setIfInBounds_toArray, List.set_cons_zero, List.set_cons_succ]
                  refine wpAnyH_ready (rs := [15]) (by kernel_rfl) (by simp) ?_
                  refine AllReadyH.cons (o := ⟨some 121, _, _, _, _, _⟩) rfl (fun K hK => ?_) (AllReadyH.nil)
                  go_simp
                  go_at_call 58
                  refine (HHS.out _ ⟨Az, rowB Q, cz⟩ hSvz ⟨HOz.out.1, HOz.out.2.2⟩ (.inr rfl)).mono ?_
                  rintro e vu ⟨rfl, g⟩
                  have hSvu := hSvz.trans g
                  clear g
                  go_wp2_with fail
                  refine hK.out _ _ hSvu (fun _ => ?_)
                  clear hK K
                  try simp only [Act.put, List.setIfInBounds_toArray, List.set_cons_zero, List.set_cons_succ]
                  refine wpAnyH_take (i := 16) (oi := ⟨some 122, _, _, _, _, _⟩) (v := .bool true) rfl (by kernel_rfl) (by kernel_rfl) (by kernel_rfl) (fun _ _ _ h => h) (Or.inl ⟨by rfl, ?_⟩) (by assumption) ?_
                  · intro v hSv; have hz := HEQ.out; go_simp
                  try simp only [Act.put, List.setIfInBounds_toArray, List.set_cons_zero, List.set_cons_succ]
                  refine wpAnyH_take (i := 17) (oi := ⟨some 123, _, _, _, _, _⟩) (v := ?_) rfl (by kernel_rfl) (by kernel_rfl) (by kernel_rfl) (fun _ _ _ h => h) (Or.inl ⟨by rfl, ?_⟩) (by assumption) ?_
                  rotate_left
                  · intro v hSv; (try dsimp only at hSv); skip; go_simp; (try with_reducible rfl)
                  try simp only [Act.put, List.setIfInBounds_toArray, List.set_cons_zero, List.set_cons_succ]
                  refine wpAnyH_take (i := 18) (oi := ⟨some 124, _, _, _, _, _⟩) (v := ?_) rfl (by kernel_rfl) (by kernel_rfl) (by kernel_rfl) (fun _ _ _ h => h) (Or.inl ⟨by rfl, ?_⟩) (by assumption) ?_
                  rotate_left
                  · intro v hSv; (try dsimp only at hSv); skip; go_simp; (try with_reducible rfl)
                  try simp only [Act.put, List.setIfInBounds_toArray, List.set_cons_zero, List.set_cons_succ]
                  refine wpAnyH_ready (rs := [19]) (by kernel_rfl) (by simp) ?_
                  refine AllReadyH.cons (o := ⟨some 125, _, _, _, _, _⟩) rfl (fun K hK => ?_) (AllReadyH.nil)
                  go_simp
                  go_at_call 41
                  refine (HKN.out _ ((HGT.out.trans hSvu))).mono ?_
                  rintro e vk ⟨rfl, g⟩
                  have hSvk := hSvu.trans g
                  clear g
                  go_wp2_with fail
                  refine hK.out _ _ hSvk (fun _ => ?_)
                  clear hK K
                  try simp only [Act.put, List.setIfInBounds_toArray, List.set_cons_zero, List.set_cons_succ]
                  refine wpAnyH_take (i := 20) (oi := ⟨some 126, _, _, _, _, _⟩) (v := ?_) rfl (by kernel_rfl) (by kernel_rfl) (by kernel_rfl) (fun _ _ _ h => h) (Or.inl ⟨by rfl, ?_⟩) (by assumption) ?_
                  rotate_left
                  · intro v hSv; (try dsimp only at hSv); skip; go_simp; (try with_reducible rfl)
                  try simp only [Act.put, List.setIfInBounds_toArray, List.set_cons_zero, List.set_cons_succ]
                  refine wpAnyH_take (i := 21) (oi := ⟨some 6, _, _, _, _, _⟩) (v := ?_) rfl (by kernel_rfl) (by kernel_rfl) (by kernel_rfl) (fun _ _ _ h => h) (Or.inl ⟨by rfl, ?_⟩) (by assumption) ?_
                  rotate_left
                  · intro v hSv; (try dsimp only at hSv); skip; go_simp; (try with_reducible rfl)
                  try simp only [Act.put, List.setIfInBounds_toArray, List.set_cons_zero, List.set_cons_succ]
                  refine wpAnyH_done (by kernel_rfl) ?_ _
                  try simp only [Act.put]
                  go_wp2_with fail
                  go_ret
                  exact ⟨rfl, HGT.out.trans hSvk⟩
                · have hcq := HVq.out _ (Chg.refl _ _)
                  go_simp
                  refine hK.out _ _ hSv2 (fun _ => ?_)
                  clear hK K
                  try simp only [Act.put, List.setIfInBounds_toArray, List.set_cons_zero, List.set_cons_succ]
                  refine wpAnyH_ready (rs := [2]) (by kernel_rfl) (by simp) ?_
                  refine AllReadyH.cons (o := ⟨some 108, _, _, _, _, _⟩) rfl (fun K hK => ?_) (AllReadyH.nil)
                  have hcp := HVp.out _ Gv2.out
                  go_simp
                  refine hK.out _ _ hSv2 (fun _ => ?_)
                  clear hK K
                  try simp only [Act.put, List.setIfInBounds_toArray, List.set_cons_zero, List.set_cons_succ]
                  refine wpAnyH_take (i := 6) (oi := ⟨some 112, _, _, _, _, _⟩) (v := ?_) rfl (by kernel_rfl) (by kernel_rfl) (by kernel_rfl) (fun _ _ _ h => h) (Or.inl ⟨by rfl, ?_⟩) (by assumption) ?_
                  rotate_left
                  · intro v hSv; (try dsimp only at hSv); have hz := HNE.out; go_simp; (try with_reducible rfl)
                  try simp only [Act.put, List.setIfInBounds_toArray, List.set_cons_zero, List.set_cons_succ]
                  refine wpAnyH_take (i := 7) (oi := ⟨some 113, _, _, _, _, _⟩) (v := ?_) rfl (by kernel_rfl) (by kernel_rfl) (by kernel_rfl) (fun _ _ _ h => h) (Or.inl ⟨by rfl, ?_⟩) (by assumption) ?_
                  rotate_left
                  · intro v hSv; (try dsimp only at hSv); skip; go_simp; (try with_reducible rfl)
                  try simp only [Act.put, List.setIfInBounds_toArray, List.set_cons_zero, List.set_cons_succ]
                  refine wpAnyH_take (i := 8) (oi := ⟨some 114, _, _, _, _, _⟩) (v := ?_) rfl (by kernel_rfl) (by kernel_rfl) (by kernel_rfl) (fun _ _ _ h => h) (Or.inl ⟨by rfl, ?_⟩) (by assumption) ?_
                  rotate_left
                  · intro v hSv; (try dsimp only at hSv); skip; go_simp; (try with_reducible rfl)
                  try simp only [Act.put, List.setIfInBounds_toArray, List.set_cons_zero, List.set_cons_succ]
                  refine wpAnyH_take (i := 9) (oi := ⟨some 115, _, _, _, _, _⟩) (v := ?_) rfl (by kernel_rfl) (by kernel_rfl) (by kernel_rfl) (fun _ _ _ h => h) (Or.inl ⟨by rfl, ?_⟩) (by assumption) ?_
                  rotate_left
                  · intro v hSv; (try dsimp only at hSv); skip; go_simp; (try with_reducible rfl)
                  try simp only [Act.put, List.setIfInBounds_toArray, List.set_cons_zero, List.set_cons_succ]
                  refine wpAnyH_take (i := 12) (oi := ⟨some 118, _, _, _, _, _⟩) (v := ?_) rfl (by kernel_rfl) (by kernel_rfl) (by kernel_rfl) (fun _ _ _ h => h) (Or.inl ⟨by rfl, ?_⟩) (by assumption) ?_
                  rotate_left
                  · intro v hSv; (try dsimp only at hSv); skip; go_simp; (try with_reducible rfl)
                  try simp only [Act.put, List.setIfInBounds_toArray, List.set_cons_zero, List.set_cons_succ]
                  refine wpAnyH_take (i := 13) (oi := ⟨some 119, _, _, _, _, _⟩) (v := ?_) rfl (by kernel_rfl) (by kernel_rfl) (by kernel_rfl) (fun _ _ _ h => h) (Or.inl ⟨by rfl, ?_⟩) (by assumption) ?_
                  rotate_left
                  · intro v hSv; (try dsimp only at hSv); skip; go_simp; (try with_reducible rfl)
                  try simp only [Act.put, List.setIfInBounds_toArray, List.set_cons_zero, List.set_cons_succ]
                  refine wpAnyH_ready (rs := [10]) (by kernel_rfl) (by simp) ?_
                  refine AllReadyH.cons (o := ⟨some 116, _, _, _, _, _⟩) rfl (fun K hK => ?_) (AllReadyH.nil)
                  go_simp
                  go_at_call 57
                  refine (HRWP.out _ (HG10.out.trans hSv2)).mono ?_
                  rintro e vx ⟨Ax, cx, rfl, hown, g⟩
                  have HVx := Lib.hid (conv_own hown)
                  have HOx := Lib.hid (own_txt hown)
                  clear hown
                  have hSvx := hSv2.trans g
                  have Gvx := Lib.hid g
                  clear g
                  go_wp2_with fail
                  refine hK.out _ _ hSvx (fun _ => ?_)
                  clear hK K
                  try simp only [Act.put, List.setIfInBounds_toArray, List.set_cons_zero, List.set_cons_succ]
                  refine wpAnyH_ready (rs := [11]) (by kernel_rfl) (by simp) ?_
                  refine AllReadyH.cons (o := ⟨some 117, _, _, _, _, _⟩) rfl (fun K hK => ?_) (AllReadyH.nil)
                  go_simp
                  go_at_call 58
                  refine (HHS.out _ ⟨Ax, rowB P, cx⟩ hSvx ⟨HOx.out.1, HOx.out.2.2⟩ (.inl rfl)).mono ?_
                  rintro e vy ⟨rfl, g⟩
                  have hSvy := hSvx.trans g
                  clear g
                  go_wp2_with fail
                  refine hK.out _ _ hSvy (fun _ => ?_)
                  clear hK K
                  try simp only [Act.put, List.setIfInBounds_toArray, List.set_cons_zero, List.set_cons_succ]
                  refine wpAnyH_ready (rs := [14]) (by kernel_rfl) (by simp) ?_
                  refine AllReadyH.cons (o := ⟨some 120, _, _, _, _, _⟩) rfl (fun K hK => ?_) (AllReadyH.nil)
                  go_simp
                  go_at_call 57
                  refine (HRWQ.out _ (HG10.out.trans hSvy)).mono ?_
                  rintro e vz ⟨Az, cz, rfl, hown, g⟩
                  have HVz := Lib.hid (conv_own hown)
                  have HOz := Lib.hid (own_txt hown)
                  clear hown
                  have hSvz := hSvy.trans g
                  have Gvz := Lib.hid g
                  clear g
                  go_wp2_with fail
                  refine hK.out _ _ hSvz (fun _ => ?_)
                  clear hK K
                  try simp only [Act.put, List.setIfInBounds_toArray, List.set_cons_zero, List.set_cons_succ]
                  refine wpAnyH_ready (rs := [15]) (by kernel_rfl) (by simp) ?_
                  refine AllReadyH.cons (o := ⟨some 121, _, _, _, _, _⟩) rfl (fun K hK => ?_) (AllReadyH.nil)
                  go_simp
                  go_at_call 58
                  refine (HHS.out _ ⟨Az, rowB Q, cz⟩ hSvz ⟨HOz.out.1, HOz.out.2.2⟩ (.inr rfl)).mono ?_
                  rintro e vu ⟨rfl, g⟩
                  have hSvu := hSvz.trans g
                  clear g
                  go_wp2_with fail
                  refine hK.out _ _ hSvu (fun _ => ?_)
                  clear hK K
                  try simp only [Act.put, List.setIfInBounds_toArray, List.set_cons_zero, List.set_cons_succ]
                  refine wpAnyH_take (i := 16) (oi := ⟨some 122, _, _, _, _, _⟩) (v := .bool true) rfl (by kernel_rfl) (by kernel_rfl) (by kernel_rfl) (fun _ _ _ h => h) (Or.inl ⟨by rfl, ?_⟩) (by assumption) ?_
                  · intro v hSv; have hz := HEQ.out; go_simp
                  try simp only [Act.put, List.setIfInBounds_toArray, List.set_cons_zero, List.set_cons_succ]
                  refine wpAnyH_take (i := 17) (oi := ⟨some 123, _, _, _, _, _⟩) (v := ?_) rfl (by kernel_rfl) (by kernel_rfl) (by kernel_rfl) (fun _ _ _ h => h) (Or.inl ⟨by rfl, ?_⟩) (by assumption) ?_
                  rotate_left
                  · intro v hSv; (try dsimp only at hSv); skip; go_simp; (try with_reducible rfl)
                  try simp only [Act.put, List.setIfInBounds_toArray, List.set_cons_zero, List.set_cons_succ]
                  refine wpAnyH_take (i := 18) (oi := ⟨some 124, _, _, _, _, _⟩) (v := ?_) rfl (by kernel_rfl) (by kernel_rfl) (by kernel_rfl) (fun _ _ _ h => h) (Or.inl ⟨by rfl, ?_⟩) (by assumption) ?_
                  rotate_left
                  · intro v hSv; (try dsimp only at hSv); skip; go_simp; (try with_reducible rfl)
                  try simp only [Act.put, List.setIfInBounds_toArray, List.set_cons_zero, List.set_cons_succ]
                  refine wpAnyH_ready (rs := [19]) (by kernel_rfl) (by simp) ?_
                  refine AllReadyH.cons (o := ⟨some 125, _, _, _, _, _⟩) rfl (fun K hK => ?_) (AllReadyH.nil)
                  go_simp
                  go_at_call 41
                  refine (HKN.out _ ((HGT.out.trans hSvu))).mono ?_
                  rintro e vk ⟨rfl, g⟩
                  have hSvk := hSvu.trans g
                  clear g
                  go_wp2_with fail
                  refine hK.out _ _ hSvk (fun _ => ?_)
                  clear hK K
                  try simp only [Act.put, List.setIfInBounds_toArray, List.set_cons_zero, List.set_cons_succ]
                  refine wpAnyH_take (i := 20) (oi := ⟨some 126, _, _, _, _, _⟩) (v := ?_) rfl (by kernel_rfl) (by kernel_rfl) (by kernel_rfl) (fun _ _ _ h => h) (Or.inl ⟨by rfl, ?_⟩) (by assumption) ?_
                  rotate_left
                  · intro v hSv; (try dsimp only at hSv); skip; go_simp; (try with_reducible rfl)
                  try simp only [Act.put, List.setIfInBounds_toArray, List.set_cons_zero, List.set_cons_succ]
                  refine wpAnyH_take (i := 21) (oi := ⟨some 6, _, _, _, _, _⟩) (v := ?_) rfl (by kernel_rfl) (by kernel_rfl) (by kernel_rfl) (fun _ _ _ h => h) (Or.inl ⟨by rfl, ?_⟩) (by assumption) ?_
                  rotate_left
                  · intro v hSv; (try dsimp only at hSv); skip; go_simp; (try with_reducible rfl)
                  try simp only [Act.put, List.setIfInBounds_toArray, List.set_cons_zero, List.set_cons_succ]
                  refine wpAnyH_done (by kernel_rfl) ?_ _
                  try simp only [Act.put]
                  go_wp2_with fail
                  go_ret
                  exact ⟨rfl, HGT.out.trans hSvk⟩
            · have hq : ∀ v : World, (binOp .neq 30 (.agg DD) (.agg EE)).run Tryd.prog v = .ok (.bool true) v := fun v => by rw [HDD.out, HEE.out, neq30 _ _ hDl hEl v]; simp [hDE]
              go_wp2_with fail
              refine HSA.out.mono ?_
              rintro e w9 ⟨rfl, g9⟩
              have HG9 := Lib.hid (HGW.out.trans g9)
              have HRa := Lib.hid (HR4''.out w9 g9)
              have HRb := Lib.hid (HR6'.out w9 g9)
              clear g9
              go_wp2_with (first
                | (refine wpList_load_mid rfl 30 _ rfl pd 0 rfl (byteVals D) _ HRa.out Tryd.underlying30 rfl (HI30.out D hDl) ?_; rw [← HDD.out])
                | (refine wpList_load_mid rfl 30 _ rfl pe 0 rfl (byteVals E) _ HRb.out Tryd.underlying30 rfl (HI30.out E hEl) ?_; rw [← HEE.out]))
              refine (HKN.out _ HG9.out).mono ?_
              rintro e w10 ⟨rfl, g10⟩
              go_wp2_with fail
              go_ret
              exact ⟨rfl, HG9.out.trans g10⟩

end Go.Proofs.YtkcammaccgkflaaDoor
