/-
  AdvertsPlays: the walk.
-/
import Derived.Test.YtkcammaccgkflaaDoorTK
namespace Go.Proofs.YtkcammaccgkflaaDoor
open Go.RowKit

theorem att_keyo {w : World} {b o : Nat} {a : Att} (h : w.rangeAt b o (attCells a)) : w.rangeAt b o (byteVals a.k.1) := fun j v hj => h j v (by
  unfold attCells
  rw [List.getElem?_append_left (List.getElem?_eq_some_iff.1 hj).1]; exact hj)
theorem of_new {w0 u : World} {p : Nat} {L : List Att} (h : SetNew w0 u p L) (key : Dg) (hl : L.length ≤ 1000) :
    Calls Tryd.prog 56 #[.pointer (some ⟨p, 0, none⟩), .agg (byteVals key.1).toArray] u fun e w' =>
      ∃ A' c', e = .returned (.slice A' (ofA L key).length c') ∧ w'.ownsRow u.heap.size 46 97 (.slice A' (ofA L key).length c') (ofA L key).length ((ofA L key).flatMap attCells) ∧ Chg none u w' := by
  obtain ⟨A, c, h1, h2⟩ := h
  exact of_any u _ p A c L key h1 hl
set_option maxRecDepth 100000 in
set_option maxHeartbeats 32000000 in
theorem plays_law (A : Option Addr) (l : List Att) (c : Nat) (p : Prt) (key : Dg) (w : World) (hl : RowsAt w 97 A attCells l) (hlm : l.length ≤ 9223372036854775807) (hok : ∀ x ∈ l, Big x.n) (hp : p.ok w) (hpm : p.c ≤ 9223372036854775807) (hTb : Tabs w) :
    Calls Tryd.prog 15 #[.slice A l.length c, .slice p.A p.x.length p.c, .agg (byteVals key.1).toArray] w fun e w' => e = .returned (.bool true) ∧ Chg none w w' := by
  have hpl : p.x.length ≤ 9223372036854775807 := Nat.le_trans hp.2 hpm
  have i1 : decide ((300 : Int) < (l.length : Int)) = decide (300 < l.length) := decide_eq_decide.2 (by omega)
  have i2 : decide ((100 : Int) < (p.x.length : Int)) = decide (100 < p.x.length) := decide_eq_decide.2 (by omega)
  obtain ⟨pK, hpK⟩ : ∃ pK, w.heap.size = pK := ⟨_, rfl⟩
  obtain ⟨W1, hW1⟩ : ∃ W1, W1 = w.alloc (.cells (byteVals key.1).toArray 30) := ⟨_, rfl⟩
  have g1 : Chg none w W1 := by rw [hW1]; exact (Chg.refl _ _).alloc _
  have bK : BlkL W1 pK (byteVals key.1) 30 := by rw [hW1, ← hpK]; exact Blk.new _ _ _
  have HKN : Hid (∀ v, Chg none w v → Calls Tryd.prog 41 #[] v fun e w' => e = .returned (.bool true) ∧ Chg none v w') := Lib.hid fun v g => known41_any v (hTb.chg g (by simp))
  have HW1 := Lib.hid hW1
  have HG1 := Lib.hid g1
  by_cases h1 : 300 < l.length
  · have d1 : decide (300 < l.length) = true := decide_eq_true h1
    rw [d1] at i1
    clear hl hp hTb bK g1 hW1 i2
    go_enter Tryd.func15, Tryd.ntmps15
    go_upto_region 1 with fail
    rw [← HW1.out]
    go_wp2_with fail
    refine (HKN.out _ HG1.out).mono ?_
    rintro e w1 ⟨rfl, g1⟩
    go_wp2_with fail
    go_ret
    exact ⟨rfl, HG1.out.trans g1⟩
  have d1 : decide (300 < l.length) = false := decide_eq_false h1
  rw [d1] at i1
  by_cases h2 : 100 < p.x.length
  · have d2 : decide (100 < p.x.length) = true := decide_eq_true h2
    rw [d2] at i2
    clear hl hp hTb bK g1 hW1
    go_enter Tryd.func15, Tryd.ntmps15
    go_upto_region 1 with fail
    rw [← HW1.out]
    go_wp2_with fail
    refine (HKN.out _ HG1.out).mono ?_
    rintro e w1 ⟨rfl, g1⟩
    go_wp2_with fail
    go_ret
    exact ⟨rfl, HG1.out.trans g1⟩
  have d2 : decide (100 < p.x.length) = false := decide_eq_false h2
  rw [d2] at i2
  have HARG := Lib.hid (arg_rows hl)
  have HBG := Lib.hid hok
  have HPO : Hid (∀ v, Chg none w v → Txt v p.A p.x) := Lib.hid fun v g => hp.1.chg g
  have HL := Lib.hid h1
  have HP1 := Lib.hid h2
  have HTB := Lib.hid hTb
  have HB30 := Lib.hid built30j
  have HB46 := Lib.hid built46j
  have HPKE := Lib.hid hpK
  have HBK := Lib.hid bK
  clear hl hp hTb bK g1 hW1 hok
  obtain ⟨CJ, hCJ⟩ : ∃ CJ, attCells attJ = CJ := ⟨_, rfl⟩
  obtain ⟨DJ, hDJ⟩ : ∃ DJ, (byteVals keyJ.1).toArray = DJ := ⟨_, rfl⟩
  rw [hCJ, hDJ] at HB46
  rw [hDJ] at HB30
  have HCJ := Lib.hid hCJ
  clear hCJ hDJ
  go_enter Tryd.func15, Tryd.ntmps15
  go_upto_region 1 with fail
  rw [← HW1.out]
  try rw [hpK]
  clear hpK
  go_wp2_with fail
  refine (newr_any _).mono ?_
  rintro e w2 ⟨px, rfl, hh, g2⟩
  go_wp2_with fail
  refine (new_any _).mono ?_
  rintro e w3 ⟨rfl, hset, g3⟩
  obtain ⟨W4, hW4⟩ : ∃ W4, W4 = w3.alloc (.cells #[] 46) := ⟨_, rfl⟩
  have g4 : Chg none w3 W4 := by rw [hW4]; exact (Chg.refl _ _).alloc _
  have hpi : PlayI w W4 w2.heap.size [] [] (some ⟨w3.heap.size, 0, none⟩) 0 pK key px := by
    have hk2 : pK < w2.heap.size := Nat.lt_of_lt_of_le (Blk.lt HBK.out) g2.size
    have hx2 := hash_lt hh
    have s23 := g3.size
    have s34 := g4.size
    have sb := Blk.lt hset.hd
    have hno : ∀ x, x ≠ w2.heap.size → ¬ setS w2.heap.size none x := fun x hx hs => by
      rcases hs with hs | hs
      · exact hx hs
      · cases hs
    refine ⟨none, 0, (hset.chg g4).mono (Nat.le_trans HG1.out.size g2.size), ⟨?_, by omega, Blk.range (Blk.chg HBK.out ((g2.trans g3).trans g4) (by simp)), hh.chg (g3.trans g4) (by simp)⟩, ⟨fun b eb => ?_, hno _ (by omega), hno _ (by omega)⟩, ((HG1.out.trans g2).trans g3).trans g4⟩
    · rw [hW4]; exact own_empty46' w3 _ (Nat.le_trans (Nat.le_trans HG1.out.size g2.size) g3.size)
    · injection eb with eb
      subst eb
      exact hno _ (by show w3.heap.size ≠ w2.heap.size; omega)
  have HS1 : Hid (PlayI w W4 w2.heap.size (addAll [] (l.take 0)) (addAll [] (l.take 0)) (some ⟨w3.heap.size, 0, none⟩) 0 pK key px) := Lib.hid hpi
  have HW4 := Lib.hid hW4
  clear hh g2 g3 hset hW4 g4 hpi
  go_upto_region 5 with fail
  rw [← HW4.out]
  clear HW4
  generalize w3.heap.size = pr0 at *
  generalize w2.heap.size = ps0 at *
  clear i1 i2 d1 d2
  go_upto_region 8 with fail
  go_loopw [8, 9, 38] (fun s8 s9 s38 wr => ∃ (k ps : Nat) (A' : Option Addr) (c' : Nat), k ≤ l.length ∧ s38 = .int .i64 k ∧ s8 = .pointer (some ⟨ps, 0, none⟩) ∧ s9 = .slice A' (addAll [] (l.take k)).length c' ∧ Hid (PlayI w wr ps (addAll [] (l.take k)) (addAll [] (l.take k)) A' c' pK key px)) (fun _ _ s38 _ => l.length - (intOf s38).toNat)
  case atStart => exact ⟨0, ps0, some ⟨pr0, 0, none⟩, 0, Nat.zero_le _, rfl, rfl, rfl, HS1⟩
  case round =>
    obtain ⟨k, ps, A', c', hk, rfl, rfl, rfl, HS⟩ := hrel
    by_cases hlt : k < l.length
    · have hd : decide (k < l.length) = true := by rw [decide_eq_true_eq]; exact hlt
      have hd2 : decide ((k : Int) < (l.length : Int)) = true := by rw [decide_eq_true_eq]; omega
      have hlt' : (k : Int) < (l.length : Int) := by omega
      have hkl : (k : Int) ≤ 300 := by have := HL.out; omega
      obtain ⟨x, hx⟩ : ∃ x, l[k]? = some x := ⟨_, List.getElem?_eq_getElem hlt⟩
      obtain ⟨rb, ro, rfl, hr⟩ := HARG.out k x hx
      have HRX := Lib.hid hr
      have HIX := Lib.hid (info46 x)
      have hbx := HBG.out x (List.mem_of_getElem? hx)
      have hsok := addAll_okn (l.take k)
      have HST := Lib.hid (addAll_take [] l hx)
      have HLT := Lib.hid hlt
      clear hr hx hlt
      generalize addAll [] (l.take k) = S at *
      have HOK := Lib.hid hsok
      have HOK1 := Lib.hid (addM_ok hsok x)
      have HAR := Lib.hid (HS.out.refadd hsok x hbx)
      have HAP := Lib.hid (fun (v : World) (A1 : Option Addr) (c1 : Nat) (h : PlayI w v ps S (addM S x).1 A1 c1 pK key px) => h.add hsok x)
      have HHS := Lib.hid (fun (v : World) (h : SetNew w v ps (addM S x).1) => has_new h HOK1.out x hbx)
      have hcase := add_told hsok x
      have HR0 := Lib.hid (HRX.out wr HS.out.new.grew)
      clear hsok hbx
      generalize (addM S x).1 = S1 at *
      generalize (addM S x).2 = z at *
      generalize decide (x ∈ S1) = hb at *
      have hmid : Hid ((k : Int) = (l.length : Int) / 2 ∨ ¬ (k : Int) = (l.length : Int) / 2) := Lib.hid (Decidable.em _)
      go_wp2_with (refine wpList_load_mid rfl 46 _ rfl rb (ro + k * 97) rfl (attCells x) _ HR0.out Tryd.underlying46 rfl HIX.out ?_)
      refine HAR.out.mono ?_
      rintro e w5 ⟨A1, c1, rfl, hpi⟩
      have HP5 := Lib.hid hpi
      have HR5 := Lib.hid (HRX.out w5 hpi.new.grew)
      clear hpi HAR
      go_wp2_with (refine wpList_load_mid rfl 46 _ rfl rb (ro + k * 97) rfl (attCells x) _ HR5.out Tryd.underlying46 rfl HIX.out ?_)
      refine (HAP.out w5 A1 c1 HP5.out).mono ?_
      rintro e w6 ⟨rfl, hpi⟩
      have HP6 := Lib.hid hpi
      have HR6 := Lib.hid (HRX.out w6 hpi.new.grew)
      have HH6 := Lib.hid (HHS.out w6 hpi.new)
      clear hpi HAP HHS
      rcases hcase with ⟨rfl, rfl⟩ | ⟨rfl, rfl⟩ | ⟨rfl, rfl⟩ | ⟨rfl, rfl⟩
      · go_wp2_with (refine wpList_load_mid_if rfl 46 _ rfl rb (ro + k * 97) rfl (attCells x) _ HR6.out Tryd.underlying46 rfl HIX.out ?_)
        refine HH6.out.mono ?_
        rintro e w7 ⟨rfl, g7⟩
        have HP7 := Lib.hid (HP6.out.chg g7)
        clear g7 HH6 HR6
        go_upto_region 14 with fail
        rcases hmid.out with hm | hm
        · have em : ((k : Int) == (l.length : Int) / 2) = true := by rw [beq_iff_eq]; exact hm
          have HCP := Lib.hid (HP7.out.copy HOK1.out)
          clear hm
          go_wp2_with fail
          refine HCP.out.mono ?_
          rintro e w8 ⟨pn, rfl, hpc⟩
          have hj := hpc.junk HOK1.out attJ
          rw [HCJ.out] at hj
          have HJ := Lib.hid hj
          clear hpc hj HCP
          go_wp2_with (first
            | (refine wpList_build_is rfl 30 _ rfl DJ (by simp only [List.map_toArray, List.map_cons, List.map_nil]; exact HB30.out) ?_)
            | (refine wpList_build_is rfl 46 _ rfl CJ.toArray (by simp only [List.map_toArray, List.map_cons, List.map_nil]; exact HB46.out) ?_))
          refine HJ.out.mono ?_
          rintro e w9 ⟨⟨zj, rfl⟩, hpi⟩
          have HP9 := Lib.hid hpi
          clear hpi HJ
          go_wp2_with fail
          go_roundw
          case rel => exact ⟨k + 1, pn, A1, c1, by have := HLT.out; omega, by first | rfl | go_num, rfl, by rw [HST.out], by rw [HST.out]; exact HP9⟩
          case measure => have := HLT.out; first | omega | (simp only [intOf]; omega) | (simp [intOf]; omega)
        · have em : ((k : Int) == (l.length : Int) / 2) = false := by rw [beq_eq_false_iff_ne]; exact hm
          clear hm
          go_wp2_with fail
          go_roundw
          case rel => exact ⟨k + 1, ps, A1, c1, by have := HLT.out; omega, by first | rfl | go_num, rfl, by rw [HST.out], by rw [HST.out]; exact HP7⟩
          case measure => have := HLT.out; first | omega | (simp only [intOf]; omega) | (simp [intOf]; omega)
      · go_wp2_with (refine wpList_load_mid_if rfl 46 _ rfl rb (ro + k * 97) rfl (attCells x) _ HR6.out Tryd.underlying46 rfl HIX.out ?_)
        refine HH6.out.mono ?_
        rintro e w7 ⟨rfl, g7⟩
        have HP7 := Lib.hid (HP6.out.chg g7)
        clear g7 HH6 HR6
        go_upto_region 14 with fail
        rcases hmid.out with hm | hm
        · have em : ((k : Int) == (l.length : Int) / 2) = true := by rw [beq_iff_eq]; exact hm
          have HCP := Lib.hid (HP7.out.copy HOK1.out)
          clear hm
          go_wp2_with fail
          refine HCP.out.mono ?_
          rintro e w8 ⟨pn, rfl, hpc⟩
          have hj := hpc.junk HOK1.out attJ
          rw [HCJ.out] at hj
          have HJ := Lib.hid hj
          clear hpc hj HCP
          go_wp2_with (first
            | (refine wpList_build_is rfl 30 _ rfl DJ (by simp only [List.map_toArray, List.map_cons, List.map_nil]; exact HB30.out) ?_)
            | (refine wpList_build_is rfl 46 _ rfl CJ.toArray (by simp only [List.map_toArray, List.map_cons, List.map_nil]; exact HB46.out) ?_))
          refine HJ.out.mono ?_
          rintro e w9 ⟨⟨zj, rfl⟩, hpi⟩
          have HP9 := Lib.hid hpi
          clear hpi HJ
          go_wp2_with fail
          go_roundw
          case rel => exact ⟨k + 1, pn, A1, c1, by have := HLT.out; omega, by first | rfl | go_num, rfl, by rw [HST.out], by rw [HST.out]; exact HP9⟩
          case measure => have := HLT.out; first | omega | (simp only [intOf]; omega) | (simp [intOf]; omega)
        · have em : ((k : Int) == (l.length : Int) / 2) = false := by rw [beq_eq_false_iff_ne]; exact hm
          clear hm
          go_wp2_with fail
          go_roundw
          case rel => exact ⟨k + 1, ps, A1, c1, by have := HLT.out; omega, by first | rfl | go_num, rfl, by rw [HST.out], by rw [HST.out]; exact HP7⟩
          case measure => have := HLT.out; first | omega | (simp only [intOf]; omega) | (simp [intOf]; omega)
      · go_wp2_with (refine wpList_load_mid_if rfl 46 _ rfl rb (ro + k * 97) rfl (attCells x) _ HR6.out Tryd.underlying46 rfl HIX.out ?_)
        refine HH6.out.mono ?_
        rintro e w7 ⟨rfl, g7⟩
        have HP7 := Lib.hid (HP6.out.chg g7)
        clear g7 HH6 HR6
        go_upto_region 14 with fail
        rcases hmid.out with hm | hm
        · have em : ((k : Int) == (l.length : Int) / 2) = true := by rw [beq_iff_eq]; exact hm
          have HCP := Lib.hid (HP7.out.copy HOK1.out)
          clear hm
          go_wp2_with fail
          refine HCP.out.mono ?_
          rintro e w8 ⟨pn, rfl, hpc⟩
          have hj := hpc.junk HOK1.out attJ
          rw [HCJ.out] at hj
          have HJ := Lib.hid hj
          clear hpc hj HCP
          go_wp2_with (first
            | (refine wpList_build_is rfl 30 _ rfl DJ (by simp only [List.map_toArray, List.map_cons, List.map_nil]; exact HB30.out) ?_)
            | (refine wpList_build_is rfl 46 _ rfl CJ.toArray (by simp only [List.map_toArray, List.map_cons, List.map_nil]; exact HB46.out) ?_))
          refine HJ.out.mono ?_
          rintro e w9 ⟨⟨zj, rfl⟩, hpi⟩
          have HP9 := Lib.hid hpi
          clear hpi HJ
          go_wp2_with fail
          go_roundw
          case rel => exact ⟨k + 1, pn, A1, c1, by have := HLT.out; omega, by first | rfl | go_num, rfl, by rw [HST.out], by rw [HST.out]; exact HP9⟩
          case measure => have := HLT.out; first | omega | (simp only [intOf]; omega) | (simp [intOf]; omega)
        · have em : ((k : Int) == (l.length : Int) / 2) = false := by rw [beq_eq_false_iff_ne]; exact hm
          clear hm
          go_wp2_with fail
          go_roundw
          case rel => exact ⟨k + 1, ps, A1, c1, by have := HLT.out; omega, by first | rfl | go_num, rfl, by rw [HST.out], by rw [HST.out]; exact HP7⟩
          case measure => have := HLT.out; first | omega | (simp only [intOf]; omega) | (simp [intOf]; omega)
      · go_wp2_with (refine wpList_load_mid_if rfl 46 _ rfl rb (ro + k * 97) rfl (attCells x) _ HR6.out Tryd.underlying46 rfl HIX.out ?_)
        refine HH6.out.mono ?_
        rintro e w7 ⟨rfl, g7⟩
        have HP7 := Lib.hid (HP6.out.chg g7)
        clear g7 HH6 HR6
        go_upto_region 14 with fail
        rcases hmid.out with hm | hm
        · have em : ((k : Int) == (l.length : Int) / 2) = true := by rw [beq_iff_eq]; exact hm
          have HCP := Lib.hid (HP7.out.copy HOK1.out)
          clear hm
          go_wp2_with fail
          refine HCP.out.mono ?_
          rintro e w8 ⟨pn, rfl, hpc⟩
          have hj := hpc.junk HOK1.out attJ
          rw [HCJ.out] at hj
          have HJ := Lib.hid hj
          clear hpc hj HCP
          go_wp2_with (first
            | (refine wpList_build_is rfl 30 _ rfl DJ (by simp only [List.map_toArray, List.map_cons, List.map_nil]; exact HB30.out) ?_)
            | (refine wpList_build_is rfl 46 _ rfl CJ.toArray (by simp only [List.map_toArray, List.map_cons, List.map_nil]; exact HB46.out) ?_))
          refine HJ.out.mono ?_
          rintro e w9 ⟨⟨zj, rfl⟩, hpi⟩
          have HP9 := Lib.hid hpi
          clear hpi HJ
          go_wp2_with fail
          go_roundw
          case rel => exact ⟨k + 1, pn, A1, c1, by have := HLT.out; omega, by first | rfl | go_num, rfl, by rw [HST.out], by rw [HST.out]; exact HP9⟩
          case measure => have := HLT.out; first | omega | (simp only [intOf]; omega) | (simp [intOf]; omega)
        · have em : ((k : Int) == (l.length : Int) / 2) = false := by rw [beq_eq_false_iff_ne]; exact hm
          clear hm
          go_wp2_with fail
          go_roundw
          case rel => exact ⟨k + 1, ps, A1, c1, by have := HLT.out; omega, by first | rfl | go_num, rfl, by rw [HST.out], by rw [HST.out]; exact HP7⟩
          case measure => have := HLT.out; first | omega | (simp only [intOf]; omega) | (simp [intOf]; omega)
    · have hd : decide (k < l.length) = false := by rw [decide_eq_false_iff_not]; exact hlt
      have hd2 : decide ((k : Int) < (l.length : Int)) = false := by rw [decide_eq_false_iff_not]; omega
      obtain rfl : k = l.length := by omega
      rw [List.take_length] at HS ⊢
      have hsok := addAll_okn l
      generalize addAll [] l = S at *
      have HOK := Lib.hid hsok
      have hs200 : S.length ≤ 200 := hsok.len
      clear hlt hsok hk
      have HTP := Lib.hid (fun (v : World) (g : Chg none wr v) => HPO.out v (HS.out.new.grew.trans g))
      have HNW := Lib.hid (fun (v : World) (g : Chg none wr v) => (HS.out.chg g).new)
      have HROW := Lib.hid (fun (v : World) (g : Chg none wr v) => (HS.out.chg g).bes.row)
      have HBL := Lib.hid (below_new HS.out.new HOK.out p.x p.A p.c (HTP.out wr (Chg.refl _ _)) (by omega))
      have HBN := Lib.hid (fun (v : World) (g : Chg none wr v) => by
        have := below_new (HNW.out v g) HOK.out [] none 0 (txt_none _) (by decide)
        rwa [belowA_nil] at this)
      have HSM := Lib.hid (fun (v : World) (g : Chg none wr v) => sum_new (HNW.out v g) HOK.out p.x p.A p.c (HTP.out v g) (by omega) ((HNW.out v g).tabs HTB.out))
      have HRS := Lib.hid (fun (v : World) (g : Chg none wr v) => refsum_any S _ A' c' px p.x p.A p.c v (HROW.out v g) (by omega) (HS.out.chg g).bes.hx (HTP.out v g) (by have := HP1.out; omega))
      have HRB := Lib.hid (fun (v : World) (g : Chg none wr v) => refbelow_any S _ A' c' p.x p.A p.c v (HROW.out v g) (by omega) (HTP.out v g) (by have := HP1.out; omega))
      have HLN := Lib.hid (fun (v : World) (g : Chg none wr v) => len_new (HNW.out v g))
      have HI1 := Lib.hid (fun (v : World) (g : Chg none wr v) => isprefix_any p.x p.A p.c v (HTP.out v g) (by omega))
      have HI2 := Lib.hid (fun (v : World) (g : Chg none wr v) => refprefix_any p.x p.A p.c v (HTP.out v g) (by have := HP1.out; omega))
      have hm200 : (belowA S p.x).length ≤ 200 := Nat.le_trans (belowA_len S p.x) hs200
      have hDl := sumD_len S p.x
      unfold SumTold at HSM HRS
      unfold RBelow at HRB
      generalize belowA S p.x = M at *
      generalize sumD S p.x = D at HSM HRS hDl
      generalize prefB p.x = pb at HI1 HI2
      have hpb : (pb != pb) = false := by cases pb <;> rfl
      obtain ⟨DD, hDD⟩ : ∃ DD, DD = (byteVals D).toArray := ⟨_, rfl⟩
      rw [← hDD] at HSM HRS
      have HDD := Lib.hid hDD
      have HI30 : Hid ((Tryd.prog.info? 30).map (·.size) = some (byteVals D).length) := Lib.hid (by rw [byteVals_len, hDl]; show _ = _; kernel_rfl)
      have hg30 := guard30
      have hq : ∀ v : World, (binOp .neq 30 (.agg DD) (.agg DD)).run Tryd.prog v = .ok (.bool false) v := fun v => by rw [hDD, neq30 _ _ hDl hDl v]; simp
      clear hDD
      go_wp2_with fail
      refine HBL.out.mono ?_
      rintro e w5 ⟨A14, c14, rfl, hown5, g5⟩
      have HO14 := Lib.hid (fun (v : World) (g : Chg none w5 v) => World.ownsRow.kept hown5 g (by cases (Value.slice A14 M.length c14).ownBlock <;> simp))
      have HG5 := Lib.hid g5
      clear hown5 g5 HBL
      go_wp2_with fail
      refine (HSM.out w5 HG5.out).mono ?_
      rintro e w6 ⟨rfl, g6⟩
      obtain ⟨W7, HW7, HZB7, HI7, HZ7, HO7, HG7, HR7⟩ := box30 w6 D hDl
      have HG57 := Lib.hid (g6.trans HG7.out)
      rw [← HDD.out] at HW7 HI7 HZ7 HO7
      clear g6 HSM HG7
      unfold zero32 at HW7 HZB7 HZ7
      go_upto_region 23 with (refine wpList_store_row rfl 30 _ _ rfl w6.heap.size DD rfl rfl 30 _ HZB7.out HI7.out HZ7.out HO7.out ?_; rw [← HW7.out])
      clear HW7 HZB7 HI7 HZ7 HO7
      generalize w6.heap.size = pd at *
      go_wp2_with fail
      refine (HRS.out W7 (HG5.out.trans HG57.out)).mono ?_
      rintro e w8 ⟨rfl, g8⟩
      obtain ⟨W9, HW9, HZB9, HI9, HZ9, HO9, HG9, HR9⟩ := box30 w8 D hDl
      have HR7' := Lib.hid (fun (v : World) (g : Chg none W9 v) => HR7.out v ((g8.trans HG9.out).trans g))
      have HG59 := Lib.hid (HG57.out.trans (g8.trans HG9.out))
      rw [← HDD.out] at HW9 HI9 HZ9 HO9
      clear g8 HRS HG9 HR7
      unfold zero32 at HW9 HZB9 HZ9
      go_upto_region 24 with (refine wpList_store_row rfl 30 _ _ rfl w8.heap.size DD rfl rfl 30 _ HZB9.out HI9.out HZ9.out HO9.out ?_; rw [← HW9.out])
      clear HW9 HZB9 HI9 HZ9 HO9
      generalize w8.heap.size = pe at *
      have HGW9 := Lib.hid (HG5.out.trans HG59.out)
      go_wp2_with fail
      refine (HLN.out W9 HGW9.out).mono ?_
      rintro e w9 ⟨rfl, rfl⟩
      go_wp2_with fail
      refine (HBN.out W9 HGW9.out).mono ?_
      rintro e w10 ⟨A10, c10, rfl, hown10, g10⟩
      have hsa := same52_any S S _ _ A10 A' c10 c' w10 hown10 (HROW.out w10 (HGW9.out.trans g10)) (by omega)
      rw [decide_eq_true rfl] at hsa
      have HSA := Lib.hid hsa
      have HG10 := Lib.hid g10
      clear hown10 g10 hsa
      go_wp2_with fail
      refine HSA.out.mono ?_
      rintro e w11 ⟨rfl, g11⟩
      have HG11 := Lib.hid (HG10.out.trans g11)
      clear g11 HSA HG10
      go_wp2_with fail
      refine (HRB.out w11 (HGW9.out.trans HG11.out)).mono ?_
      rintro e w12 ⟨A12, c12, rfl, hown12, g12⟩
      have hsb := same52_any M M _ _ A14 A12 c14 c12 w12 (HO14.out w12 ((HG59.out.trans HG11.out).trans g12)) hown12 (by omega)
      rw [decide_eq_true rfl] at hsb
      have HSB := Lib.hid hsb
      have HG12 := Lib.hid (HG11.out.trans g12)
      clear hown12 g12 hsb HRB HG11
      go_wp2_with fail
      refine HSB.out.mono ?_
      rintro e w13 ⟨rfl, g13⟩
      have HG13 := Lib.hid (HG12.out.trans g13)
      have HRa := Lib.hid (HR7'.out w13 HG13.out)
      have HRb := Lib.hid (HR9.out w13 HG13.out)
      have HGX := Lib.hid (HGW9.out.trans HG13.out)
      clear g13 HSB HG12 HR7' HR9
      go_wp2_with (first
        | (refine wpList_load_mid_if rfl 30 _ rfl pd 0 rfl (byteVals D) _ HRa.out Tryd.underlying30 rfl HI30.out ?_; rw [← HDD.out])
        | (refine wpList_load_mid_if rfl 30 _ rfl pe 0 rfl (byteVals D) _ HRb.out Tryd.underlying30 rfl HI30.out ?_; rw [← HDD.out]))
      refine (HI1.out w13 HGX.out).mono ?_
      rintro e w14 ⟨rfl, rfl⟩
      go_wp2_with fail
      refine (HI2.out _ HGX.out).mono ?_
      rintro e w15 ⟨rfl, rfl⟩
      have HBW : Hid (∀ g, A14 = some ⟨g, 0, none⟩ → wr.heap.size ≤ g ∧ ∃ cs, Blk w13 g cs 46 ∧ M.length * 97 ≤ cs.size) := Lib.hid fun g e => by
        rcases (HO14.out w13 (HG59.out.trans HG13.out)).2 with ⟨e1, -⟩ | ⟨g', cap, cur, e1, hb, hgg, q1, q2, q3, q4⟩
        · injection e1 with e1 _ _; rw [e] at e1; cases e1
        · injection e1 with e1 _ _
          rw [e] at e1
          injection e1 with e1
          injection e1 with e1 _ _
          subst e1
          exact ⟨hb, cur, hgg, by rw [q3]; exact Nat.mul_le_mul_right 97 q1⟩
      have HSOME : Hid (0 < M.length → ∃ g, A14 = some ⟨g, 0, none⟩) := Lib.hid fun h0 => by
        rcases (HO14.out w13 (HG59.out.trans HG13.out)).2 with ⟨e1, h9⟩ | ⟨g', cap, cur, e1, hb, hgg, q1, q2, q3, q4⟩
        · omega
        · injection e1 with e1 _ _
          exact ⟨g', e1⟩
      clear HO14 HG59 HG13 HGW9 HRa HRb HI1 HI2 HLN HG57 HG5 hq
      go_upto_region 27 with fail
      clear hpb
      obtain ⟨wo, rfl⟩ : ∃ wo : World, wo = wr := ⟨_, rfl⟩
      go_loopw [144] (fun s144 wr => ∃ i : Nat, i ≤ M.length ∧ s144 = .int .i64 i ∧ Hid (Chg none wo wr) ∧ Hid (∀ g, A14 = some ⟨g, 0, none⟩ → wo.heap.size ≤ g ∧ ∃ cs, Blk wr g cs 46 ∧ M.length * 97 ≤ cs.size)) (fun s144 _ => M.length - (intOf s144).toNat)
      case atStart => exact ⟨0, Nat.zero_le _, rfl, HGX, HBW⟩
      case round =>
        obtain ⟨i, hi, rfl, HG, HB⟩ := hrel
        by_cases hil : i < M.length
        · have hq : decide (i < M.length) = true := by rw [decide_eq_true_eq]; exact hil
          have hq2 : decide ((i : Int) < (M.length : Int)) = true := by rw [decide_eq_true_eq]; omega
          have hil' : (i : Int) < (M.length : Int) := by omega
          have hi8 : (i : Int) ≤ 200 := by omega
          obtain ⟨g, rfl⟩ := HSOME.out (by omega)
          obtain ⟨hgl, cs, hbk, hcs⟩ := HB.out g rfl
          obtain ⟨cv, hcell⟩ : ∃ cv, wr.cell? ⟨g, i * 97 + 64, none⟩ = some cv := ⟨cs[i * 97 + 64]'(by omega), by rw [hbk.cell, Array.getElem?_eq_getElem (by omega)]⟩
          have hfz := hbk.frozen (i * 97 + 64)
          have HG2 : Hid (Chg none wo (wr.setCell ⟨g, i * 97 + 64, none⟩ (.int .i64 0))) := Lib.hid (HG.out.setNew _ hgl _)
          have HB2 : Hid (∀ g', (some ⟨g, 0, none⟩ : Option Addr) = some ⟨g', 0, none⟩ → wo.heap.size ≤ g' ∧ ∃ cs', Blk (wr.setCell ⟨g, i * 97 + 64, none⟩ (.int .i64 0)) g' cs' 46 ∧ M.length * 97 ≤ cs'.size) := Lib.hid fun g' e => by
            injection e with e
            injection e with e _ _
            subst e
            exact ⟨hgl, _, hbk.set _ _, by rw [Array.size_setIfInBounds]; exact hcs⟩
          have HIL := Lib.hid hil
          clear hbk hcs hil hgl
          go_wp2_with fail
          go_roundw
          case rel => exact ⟨i + 1, by have := HIL.out; omega, by first | rfl | go_num, HG2, HB2⟩
          case measure => have := HIL.out; first | omega | (simp only [intOf]; omega) | (simp [intOf]; omega)
        · have hq : decide (i < M.length) = false := by rw [decide_eq_false_iff_not]; exact hil
          have hq2 : decide ((i : Int) < (M.length : Int)) = false := by rw [decide_eq_false_iff_not]; omega
          clear hil hi HB HBW HSOME HGX
          go_upto_region 33 with fail
          have HSL := Lib.hid (HS.out.chg HG.out)
          have hrows : Hid (∀ k x, S[k]? = some x → ∃ b, A' = some ⟨b, 0, none⟩ ∧ ∀ v, Chg none wr v → v.rangeAt b (k * 97) (attCells x)) := Lib.hid fun k x hk => by
            obtain ⟨b, c9, e, -, hbl, hr⟩ := arow_at HSL.out.bes.row hk
            injection e with e1 _ _
            exact ⟨b, e1, fun v g => rangeAt_chg hr g (by simp)⟩
          have HKR := Lib.hid (fun (v : World) (g : Chg none wr v) => (HSL.out.chg g).bes.kr)
          obtain ⟨wl, rfl⟩ : ∃ wl : World, wl = wr := ⟨_, rfl⟩
          obtain ⟨i0, hi0, hz0, hz1, hz2⟩ := zinfo46
          have HZ : Hid ((Value.agg (attCells attZero).toArray).cells.size = 97) := Lib.hid (by show (attCells attZero).toArray.size = 97; rw [List.size_toArray, attCells_len])
          have HIK : Hid (∀ d : Dg, (Tryd.prog.info? 30).map (·.size) = some (byteVals d.1).length) := Lib.hid fun d => by rw [byteVals_len, d.2]; show _ = _; kernel_rfl
          have HEQ : Hid (∀ (x y : Dg) (v : World), (binOp .eql 30 (.agg (byteVals x.1).toArray) (.agg (byteVals y.1).toArray)).run Tryd.prog v = .ok (.bool (x.1 == y.1)) v) := Lib.hid fun x y v => eql30 x.1 y.1 x.2 y.2 v
          go_loopw [20, 154] (fun s20 s154 wr => ∃ (i : Nat) (A2 : Option Addr) (c2 : Nat), i ≤ S.length ∧ s154 = .int .i64 i ∧ s20 = .slice A2 (ofA (S.take i) key).length c2 ∧
            Hid (wr.ownsRow wl.heap.size 46 97 (.slice A2 (ofA (S.take i) key).length c2) (ofA (S.take i) key).length ((ofA (S.take i) key).flatMap attCells)) ∧ Hid (Chg none wl wr)) (fun _ s154 _ => S.length - (intOf s154).toNat)
          case atStart => exact ⟨0, none, 0, Nat.zero_le _, rfl, rfl, Lib.hid (World.ownsRow_nil _ _ _ _), Lib.hid (Chg.refl _ _)⟩
          case round =>
            obtain ⟨i, A2, c2, hi, rfl, rfl, HOW, HGR⟩ := hrel
            by_cases hil : i < S.length
            · have hq3 : decide (i < S.length) = true := by rw [decide_eq_true_eq]; exact hil
              have hq4 : decide ((i : Int) < (S.length : Int)) = true := by rw [decide_eq_true_eq]; omega
              have hil' : (i : Int) < (S.length : Int) := by omega
              have hi8 : (i : Int) ≤ 200 := by omega
              obtain ⟨x, hx⟩ : ∃ x, S[i]? = some x := ⟨_, List.getElem?_eq_getElem hil⟩
              obtain ⟨rb, rfl, hr⟩ := hrows.out i x hx
              have HRX := Lib.hid hr
              have HRXK := Lib.hid (fun (v : World) (g : Chg none wl v) => att_keyo (hr v g))
              have HIX := Lib.hid (info46 x)
              have HIL := Lib.hid hil
              have hst := ofA_step (key := key) hx
              have hml : (ofA (S.take i) key).length ≤ 1000 := by
                have h1 : (ofA (S.take i) key).length ≤ (S.take i).length := List.length_filter_le _ _
                rw [List.length_take] at h1
                omega
              have hS0 := HGR.out.drew
              have HOWD := Lib.hid (World.ownsRow.kept HOW.out (show Chg none wr wr.drew from (Chg.refl _ _).drew) (by cases (Value.slice A2 (ofA (S.take i) key).length c2).ownBlock <;> simp))
              have HEX := Lib.hid (HEQ.out x.k key)
              clear hr hx hil
              generalize ofA (S.take i) key = Q0 at *
              cases hz : (x.k.1 == key.1) with
              | false =>
                rw [hz] at hst HEX
                have HST : Hid (ofA (S.take (i + 1)) key = Q0) := Lib.hid (by rw [hst]; simp)
                clear hst hz
                go_upto_region 35 with fail
                refine wp_region_held_drew (S := fun v => Chg none wl v) (by kernel_rfl) hS0 (fun _ => ?_)
                generalize wr.drew = v0 at *
                refine wpAnyH_take (i := 0) (oi := ⟨some 157, _, _, _, _, _⟩) (v := ?_) rfl (by kernel_rfl) (by kernel_rfl) (by kernel_rfl) (fun _ _ _ h => h) (Or.inl ⟨by rfl, ?_⟩) (by assumption) ?_
                rotate_left
                · intro v hSv; (try dsimp only at hSv); skip; go_simp; (try with_reducible rfl)
                try simp only [Act.put, List.setIfInBounds_toArray, List.set_cons_zero, List.set_cons_succ]
                refine wpAnyH_take (i := 1) (oi := ⟨some 158, _, _, _, _, _⟩) (v := ?_) rfl (by kernel_rfl) (by kernel_rfl) (by kernel_rfl) (fun _ _ _ h => h) (Or.inl ⟨by rfl, ?_⟩) (by assumption) ?_
                rotate_left
                · intro v hSv; (try dsimp only at hSv); skip; go_simp; (try with_reducible rfl)
                try simp only [Act.put, List.setIfInBounds_toArray, List.set_cons_zero, List.set_cons_succ]
                refine wpAnyH_take (i := 2) (oi := ⟨some 159, _, _, _, _, _⟩) (v := ?_) rfl (by kernel_rfl) (by kernel_rfl) (by kernel_rfl) (fun _ _ _ h => h) (Or.inl ⟨by rfl, ?_⟩) (by assumption) ?_
                rotate_left
                · intro v hSv; (try dsimp only at hSv); skip; go_simp; (try with_reducible rfl)
                try simp only [Act.put, List.setIfInBounds_toArray, List.set_cons_zero, List.set_cons_succ]
                refine wpAnyH_take (i := 3) (oi := ⟨some 160, _, _, _, _, _⟩) (v := ?_) rfl (by kernel_rfl) (by kernel_rfl) (by kernel_rfl) (fun _ _ _ h => h) (Or.inl ⟨by rfl, ?_⟩) (by assumption) ?_
                rotate_left
                · intro v hSv; (try dsimp only at hSv); skip; go_simp; (try with_reducible rfl)
                try simp only [Act.put, List.setIfInBounds_toArray, List.set_cons_zero, List.set_cons_succ]
                refine wpAnyH_take (i := 4) (oi := ⟨some 161, _, _, _, _, _⟩) (v := .agg (byteVals x.k.1).toArray) rfl (by kernel_rfl) (by kernel_rfl) (by kernel_rfl) (fun _ _ _ h => h) (yieldsIf_load_mid (by rfl) 30 _ rfl rb (i * 97) rfl (byteVals x.k.1) _ (fun v h => HRXK.out v h) Tryd.underlying30 rfl (HIK.out x.k)) (by assumption) ?_
                try simp only [Act.put, List.setIfInBounds_toArray, List.set_cons_zero, List.set_cons_succ]
                refine wpAnyH_take (i := 5) (oi := ⟨some 162, _, _, _, _, _⟩) (v := .agg (byteVals key.1).toArray) rfl (by kernel_rfl) (by kernel_rfl) (by kernel_rfl) (fun _ _ _ h => h) (yieldsIf_load_mid (by rfl) 30 _ rfl pK 0 rfl (byteVals key.1) _ (fun v h => HKR.out v h) Tryd.underlying30 rfl (HIK.out key)) (by assumption) ?_
                try simp only [Act.put, List.setIfInBounds_toArray, List.set_cons_zero, List.set_cons_succ]
                refine wpAnyH_take (i := 6) (oi := ⟨some 163, _, _, _, _, _⟩) (v := .bool false) rfl (by kernel_rfl) (by kernel_rfl) (by kernel_rfl) (fun _ _ _ h => h) (Or.inl ⟨by rfl, ?_⟩) (by assumption) ?_
                · intro v hSv; have hz := HEX.out; go_simp
                try simp only [Act.put, List.setIfInBounds_toArray, List.set_cons_zero, List.set_cons_succ]
                refine wpAnyH_done (by kernel_rfl) ?_ _
                try simp only [Act.put]
                go_wp2_with fail
                go_roundw
                case rel => exact ⟨i + 1, A2, c2, by have := HIL.out; omega, by first | rfl | go_num, by rw [HST.out], by rw [HST.out]; exact HOWD, Lib.hid hS0⟩
                case measure => have := HIL.out; first | omega | (simp only [intOf]; omega) | (simp [intOf]; omega)
              | true =>
                rw [hz] at hst HEX
                have HST : Hid (ofA (S.take (i + 1)) key = Q0 ++ [x]) := Lib.hid (by rw [hst]; simp)
                clear hst hz
                go_upto_region 35 with fail
                refine wp_region_held_drew (S := fun v => Chg none wl v) (by kernel_rfl) hS0 (fun _ => ?_)
                generalize wr.drew = v0 at *
                refine wpAnyH_take (i := 0) (oi := ⟨some 157, _, _, _, _, _⟩) (v := ?_) rfl (by kernel_rfl) (by kernel_rfl) (by kernel_rfl) (fun _ _ _ h => h) (Or.inl ⟨by rfl, ?_⟩) (by assumption) ?_
                rotate_left
                · intro v hSv; (try dsimp only at hSv); skip; go_simp; (try with_reducible rfl)
                try simp only [Act.put, List.setIfInBounds_toArray, List.set_cons_zero, List.set_cons_succ]
                refine wpAnyH_take (i := 1) (oi := ⟨some 158, _, _, _, _, _⟩) (v := ?_) rfl (by kernel_rfl) (by kernel_rfl) (by kernel_rfl) (fun _ _ _ h => h) (Or.inl ⟨by rfl, ?_⟩) (by assumption) ?_
                rotate_left
                · intro v hSv; (try dsimp only at hSv); skip; go_simp; (try with_reducible rfl)
                try simp only [Act.put, List.setIfInBounds_toArray, List.set_cons_zero, List.set_cons_succ]
                refine wpAnyH_take (i := 2) (oi := ⟨some 159, _, _, _, _, _⟩) (v := ?_) rfl (by kernel_rfl) (by kernel_rfl) (by kernel_rfl) (fun _ _ _ h => h) (Or.inl ⟨by rfl, ?_⟩) (by assumption) ?_
                rotate_left
                · intro v hSv; (try dsimp only at hSv); skip; go_simp; (try with_reducible rfl)
                try simp only [Act.put, List.setIfInBounds_toArray, List.set_cons_zero, List.set_cons_succ]
                refine wpAnyH_take (i := 3) (oi := ⟨some 160, _, _, _, _, _⟩) (v := ?_) rfl (by kernel_rfl) (by kernel_rfl) (by kernel_rfl) (fun _ _ _ h => h) (Or.inl ⟨by rfl, ?_⟩) (by assumption) ?_
                rotate_left
                · intro v hSv; (try dsimp only at hSv); skip; go_simp; (try with_reducible rfl)
                try simp only [Act.put, List.setIfInBounds_toArray, List.set_cons_zero, List.set_cons_succ]
                refine wpAnyH_take (i := 4) (oi := ⟨some 161, _, _, _, _, _⟩) (v := .agg (byteVals x.k.1).toArray) rfl (by kernel_rfl) (by kernel_rfl) (by kernel_rfl) (fun _ _ _ h => h) (yieldsIf_load_mid (by rfl) 30 _ rfl rb (i * 97) rfl (byteVals x.k.1) _ (fun v h => HRXK.out v h) Tryd.underlying30 rfl (HIK.out x.k)) (by assumption) ?_
                try simp only [Act.put, List.setIfInBounds_toArray, List.set_cons_zero, List.set_cons_succ]
                refine wpAnyH_take (i := 5) (oi := ⟨some 162, _, _, _, _, _⟩) (v := .agg (byteVals key.1).toArray) rfl (by kernel_rfl) (by kernel_rfl) (by kernel_rfl) (fun _ _ _ h => h) (yieldsIf_load_mid (by rfl) 30 _ rfl pK 0 rfl (byteVals key.1) _ (fun v h => HKR.out v h) Tryd.underlying30 rfl (HIK.out key)) (by assumption) ?_
                try simp only [Act.put, List.setIfInBounds_toArray, List.set_cons_zero, List.set_cons_succ]
                refine wpAnyH_take (i := 6) (oi := ⟨some 163, _, _, _, _, _⟩) (v := .bool true) rfl (by kernel_rfl) (by kernel_rfl) (by kernel_rfl) (fun _ _ _ h => h) (Or.inl ⟨by rfl, ?_⟩) (by assumption) ?_
                · intro v hSv; have hz := HEX.out; go_simp
                try simp only [Act.put, List.setIfInBounds_toArray, List.set_cons_zero, List.set_cons_succ]
                refine wpAnyH_done (by kernel_rfl) ?_ _
                try simp only [Act.put]
                have HFI := Lib.hid (fill46 x i0 hz1)
                obtain ⟨WB, hWB⟩ : ∃ WB, WB = v0.alloc (.cells (attCells x).toArray 46) := ⟨_, rfl⟩
                have HOWB : Hid (WB.ownsRow wl.heap.size 46 97 (.slice A2 Q0.length c2) Q0.length (Q0.flatMap attCells)) := Lib.hid (by rw [hWB]; exact HOWD.out.alloc _)
                have HGB : Hid (Chg none wl WB) := Lib.hid (by rw [hWB]; exact hS0.alloc _)
                have HNW2 : Hid (∀ j u, (attCells x)[j]? = some u → WB.cell? ((⟨v0.heap.size, 0, none⟩ : Addr).add j) = some u) := Lib.hid fun j u hj => by
                  rw [Go.WideShapes.add_plain, Nat.zero_add, hWB, BlkL.cell (show BlkL (v0.alloc (.cells (attCells x).toArray 46)) v0.heap.size (attCells x) 46 from Blk.new _ _ _)]
                  exact hj
                have HNL : Hid ((attCells x).length = 1 * 97) := Lib.hid (by rw [attCells_len])
                have HONE := Lib.hid (ones_att x)
                have hs1 : Q0.length + 1 ≤ maxLen := by unfold maxLen; omega
                have hs2 : (Q0.length + 1) * 104 ≤ 140737488355328 := by omega
                have hs3 : wl.heap.size ≤ WB.heap.size := HGB.out.size
                have HWB := Lib.hid hWB
                have HRX0 := Lib.hid (HRX.out v0 hS0)
                clear hWB
                go_wp2_with (first
                  | (refine wpList_load_mid rfl 46 _ rfl rb (i * 97) rfl (attCells x) _ HRX0.out Tryd.underlying46 rfl HIX.out ?_)
                  | (refine wpList_buildSlice rfl 64 46 1 _ rfl (attCells x).toArray i0 (.agg (attCells attZero).toArray) Tryd.underlying64 hi0 hz0 (by rw [hz1]; decide) (by rw [hz1]; decide) (by simp only [List.map_toArray, List.map_cons, List.map_nil]; exact HFI.out) ?_; rw [← HWB.out])
                  | (refine wpList_append_own _ rfl (.tmp 164) (.tmp 169) 64 rfl wl.heap.size 46 i0 (.agg (attCells attZero).toArray) 97 104 Tryd.underlying64 hi0 hz0 hz1 hz2 HZ.out (by decide) (.slice A2 Q0.length c2) Q0.length _ rfl HOWB.out ⟨v0.heap.size, 0, none⟩ 1 1 (attCells x) rfl HNL.out HNW2.out HONE.out hs1 hs2 hs3 ?_
                     intro v' w' hown hgr hno
                     obtain ⟨A3, c3, rfl⟩ : ∃ A3 c3, v' = .slice A3 (Q0.length + 1) c3 := by
                       rcases hown.2 with ⟨e, h0⟩ | ⟨g, cap, cur, e, -⟩
                       · omega
                       · exact ⟨_, _, e⟩
                     have HOW3 := Lib.hid hown
                     have HG3 : Hid (Chg none wl w') := Lib.hid (Chg.ownRow HGB.out hgr (fun y hy => (HOWB.out.lt y hy).1))
                     clear hown hgr hno hs1 hs2 hs3))
                go_roundw
                case rel =>
                  refine ⟨i + 1, A3, c3, by have := HIL.out; omega, by first | rfl | go_num, by rw [HST.out, List.length_append]; rfl, ?_, HG3⟩
                  rw [HST.out, List.length_append, List.flatMap_append]
                  have := HOW3.out
                  refine Lib.hid ?_
                  simpa using this
                case measure => have := HIL.out; first | omega | (simp only [intOf]; omega) | (simp [intOf]; omega)
            · have hq3 : decide (i < S.length) = false := by rw [decide_eq_false_iff_not]; exact hil
              have hq4 : decide ((i : Int) < (S.length : Int)) = false := by rw [decide_eq_false_iff_not]; omega
              obtain rfl : i = S.length := by omega
              rw [List.take_length] at HOW ⊢
              have hol : (ofA S key).length ≤ 200 := Nat.le_trans (List.length_filter_le _ _) hs200
              have HOF := Lib.hid (of_new (HSL.out.chg HGR.out).new key (by omega))
              have HKX := Lib.hid (HKR.out wr HGR.out)
              have HGA := Lib.hid (HG.out.trans HGR.out)
              generalize ofA S key = Q at *
              clear hil hi
              go_wp2_with (refine wpList_load_mid rfl 30 _ rfl pK 0 rfl (byteVals key.1) _ HKX.out Tryd.underlying30 rfl (HIK.out key) ?_)
              refine HOF.out.mono ?_
              rintro e w20 ⟨A20, c20, rfl, hown20, g20⟩
              have hsc := same52_any Q Q _ _ A20 A2 c20 c2 w20 hown20 (World.ownsRow.kept HOW.out g20 (by cases (Value.slice A2 Q.length c2).ownBlock <;> simp)) (by omega)
              rw [decide_eq_true rfl] at hsc
              have HSC := Lib.hid hsc
              have HG20 := Lib.hid (HGA.out.trans g20)
              clear hown20 g20 hsc HOF
              go_wp2_with fail
              refine HSC.out.mono ?_
              rintro e w21 ⟨rfl, g21⟩
              have HG21 := Lib.hid (HG20.out.trans g21)
              clear g21 HSC
              go_wp2_with fail
              refine (HBN.out w21 HG21.out).mono ?_
              rintro e w22 ⟨A22, c22, rfl, hown22, g22⟩
              have hsd := same52_any S S _ _ A22 A' c22 c' w22 hown22 (HROW.out w22 (HG21.out.trans g22)) (by omega)
              rw [decide_eq_true rfl] at hsd
              have HSD := Lib.hid hsd
              have HG22 := Lib.hid (HG21.out.trans g22)
              clear hown22 g22 hsd
              go_wp2_with fail
              refine HSD.out.mono ?_
              rintro e w23 ⟨rfl, g23⟩
              have HG23 := Lib.hid (HS.out.new.grew.trans (HG22.out.trans g23))
              have HKZ := Lib.hid (HKN.out w23 HG23.out)
              clear g23 HSD
              go_wp2_with fail
              refine HKZ.out.mono ?_
              rintro e w24 ⟨rfl, g24⟩
              go_wp2_with fail
              go_ret
              exact ⟨rfl, HG23.out.trans g24⟩

end Go.Proofs.YtkcammaccgkflaaDoor
