/-
  TreeRoots, walked.
-/
import Derived.Test.YtglfakglcoffkaaDoorTRT
import Derived.Test.YtglfakglcoffkaaDoorQ
namespace Go.Proofs.YtglfakglcoffkaaDoor
open Go.RowKit

/-- Root, in whatever case. -/
theorem troot_all (L : List Fil) (A : Option Addr) (c : Nat) (w : World) (hT : TreeAt w A L) (hl : L.length ≤ 9223372036854775807) (hTb : Tabs w) :
    Calls Tryd.prog 24 #[.slice A L.length c] w fun e w' => ∃ (D : List UInt8) (n : Int), D.length = 32 ∧ e = .returned (.tuple #[.agg (byteVals D).toArray, .int .i64 n]) ∧ Chg none w w' ∧
      (mayT L = true → D = rootB (treeB L) ∧ n = 0) ∧ (mayT L = false → n = 2) := by
  by_cases hm : mayT L = true
  · refine (troot_yes L A c w hT hm hTb).mono fun e w' h => ⟨rootB (treeB L), 0, rootB_len _, h.1, h.2, fun _ => ⟨rfl, rfl⟩, fun h => by rw [hm] at h; cases h⟩
  · have hm' : mayT L = false := by simpa using hm
    refine (troot_no L A c w hT hl hm').mono fun e w' h => ⟨zeros 32, 2, by decide, ?_, h.2, fun h => absurd h hm, fun _ => rfl⟩
    rw [h.1]
    rfl
set_option maxRecDepth 100000 in
set_option maxHeartbeats 32000000 in
theorem troots_law (L N : List Fil) (A B : Option Addr) (c d : Nat) (w : World) (hL : TreeAt w A L) (hN : TreeAt w B N) (hl : L.length ≤ 9223372036854775807) (hn : N.length ≤ 9223372036854775807) (hTb : Tabs w) :
    Calls Tryd.prog 7 #[.slice A L.length c, .slice B N.length d] w fun e w' => e = .returned (.bool true) ∧ Chg none w w' := by
  have HK := Lib.hid (fun v => known5_any v)
  have HGR := Lib.hid (t_great_any L A c w hL hl)
  have HGS := Lib.hid (fun v (g : Chg none w v) => t_great_any N B d v (hN.chg g) hn)
  have HR1 := Lib.hid (fun v (g : Chg none w v) => troot_all L A c v (hL.chg g) hl (hTb.chg g (by simp)))
  have HR2 := Lib.hid (fun v (g : Chg none w v) => troot_all N B d v (hN.chg g) hn (hTb.chg g (by simp)))
  have HL : Hid (∀ v, Chg none w v → TreeAt v A L) := fun v g => hL.chg g
  have HN : Hid (∀ v, Chg none w v → TreeAt v B N) := fun v g => hN.chg g
  have HLL := Lib.hid hl
  have hZ30 : ∀ W : World, (W.alloc (.cells #[Value.int IntKind.u8 0, Value.int IntKind.u8 0, Value.int IntKind.u8 0, Value.int IntKind.u8 0, Value.int IntKind.u8 0, Value.int IntKind.u8 0, Value.int IntKind.u8 0, Value.int IntKind.u8 0, Value.int IntKind.u8 0, Value.int IntKind.u8 0, Value.int IntKind.u8 0, Value.int IntKind.u8 0, Value.int IntKind.u8 0, Value.int IntKind.u8 0, Value.int IntKind.u8 0, Value.int IntKind.u8 0, Value.int IntKind.u8 0, Value.int IntKind.u8 0, Value.int IntKind.u8 0, Value.int IntKind.u8 0, Value.int IntKind.u8 0, Value.int IntKind.u8 0, Value.int IntKind.u8 0, Value.int IntKind.u8 0, Value.int IntKind.u8 0, Value.int IntKind.u8 0, Value.int IntKind.u8 0, Value.int IntKind.u8 0, Value.int IntKind.u8 0, Value.int IntKind.u8 0, Value.int IntKind.u8 0, Value.int IntKind.u8 0] 30)).heap[W.heap.size]? = some (.cells zero32 30 (0, 0)) := fun W => heap_alloc_new W _
  have HZ30 := Lib.hid hZ30
  have hg30 := guard30
  clear hL hN hl hn hTb hZ30
  go_enter Tryd.func7, Tryd.ntmps7
  go_wp2_with fail
  refine HGR.out.mono ?_
  rintro e w1 ⟨b, rfl, g1⟩
  have G1 := Lib.hid g1
  clear g1 HGR
  cases b
  rotate_left
  · clear HL HN HR1 HR2
    as_aux_lemma =>
      go_wp2_with fail
      refine (HK.out _).mono ?_
      rintro e wk ⟨rfl, gk⟩
      go_wp2_with fail
      go_ret
      exact ⟨rfl, G1.out.trans gk⟩
  have HG2 := Lib.hid (HGS.out w1 G1.out)
  clear HGS
  go_wp2_with fail
  refine HG2.out.mono ?_
  rintro e w2 ⟨b, rfl, g2⟩
  have G2 := Lib.hid (G1.out.trans g2)
  clear g2 HG2
  cases b
  rotate_left
  · clear HL HN HR1 HR2
    as_aux_lemma =>
      go_wp2_with fail
      refine (HK.out _).mono ?_
      rintro e wk ⟨rfl, gk⟩
      go_wp2_with fail
      go_ret
      exact ⟨rfl, G2.out.trans gk⟩
  have HRA := Lib.hid (HR1.out w2 G2.out)
  clear HR1
  go_wp2_with fail
  refine HRA.out.mono ?_
  rintro e w3 ⟨D1, n1, hD1, rfl, g3, hy1, hz1⟩
  have G3 := Lib.hid (G2.out.trans g3)
  obtain ⟨C1, hC1⟩ : ∃ C1, C1 = (byteVals D1).toArray := ⟨_, rfl⟩
  have HC1 := Lib.hid hC1
  have HI1 : Hid ((Tryd.prog.info? 30).map (·.size) = some C1.size) := by rw [hC1]; exact byD_info D1 hD1
  have HO1 : Hid (C1.all (·.oneCell') = true) := by rw [hC1]; exact byD_one D1
  have HS1 : Hid (zero32.size = C1.size) := by rw [hC1, byD_size D1 hD1]; rfl
  have HD1 := Lib.hid hD1
  have HY1 := Lib.hid hy1
  have HX1 := Lib.hid hz1
  rw [← hC1]
  clear g3 hC1 hD1 hy1 hz1 HRA
  go_upto_region 4 with (refine wpList_store_row rfl 30 _ _ rfl w3.heap.size C1 rfl rfl 30 _ (HZ30.out w3) HI1.out HS1.out HO1.out ?_)
  have HG4 : Hid (Chg none w ((w3.alloc (.cells #[Value.int IntKind.u8 0, Value.int IntKind.u8 0, Value.int IntKind.u8 0, Value.int IntKind.u8 0, Value.int IntKind.u8 0, Value.int IntKind.u8 0, Value.int IntKind.u8 0, Value.int IntKind.u8 0, Value.int IntKind.u8 0, Value.int IntKind.u8 0, Value.int IntKind.u8 0, Value.int IntKind.u8 0, Value.int IntKind.u8 0, Value.int IntKind.u8 0, Value.int IntKind.u8 0, Value.int IntKind.u8 0, Value.int IntKind.u8 0, Value.int IntKind.u8 0, Value.int IntKind.u8 0, Value.int IntKind.u8 0, Value.int IntKind.u8 0, Value.int IntKind.u8 0, Value.int IntKind.u8 0, Value.int IntKind.u8 0, Value.int IntKind.u8 0, Value.int IntKind.u8 0, Value.int IntKind.u8 0, Value.int IntKind.u8 0, Value.int IntKind.u8 0, Value.int IntKind.u8 0, Value.int IntKind.u8 0, Value.int IntKind.u8 0] 30)).setRow w3.heap.size C1)) := Chg.own (b := w3.heap.size) (G3.out.alloc _) (chg_setRow _ _ _) G3.out.size
  have HB4 : Hid (Blk ((w3.alloc (.cells #[Value.int IntKind.u8 0, Value.int IntKind.u8 0, Value.int IntKind.u8 0, Value.int IntKind.u8 0, Value.int IntKind.u8 0, Value.int IntKind.u8 0, Value.int IntKind.u8 0, Value.int IntKind.u8 0, Value.int IntKind.u8 0, Value.int IntKind.u8 0, Value.int IntKind.u8 0, Value.int IntKind.u8 0, Value.int IntKind.u8 0, Value.int IntKind.u8 0, Value.int IntKind.u8 0, Value.int IntKind.u8 0, Value.int IntKind.u8 0, Value.int IntKind.u8 0, Value.int IntKind.u8 0, Value.int IntKind.u8 0, Value.int IntKind.u8 0, Value.int IntKind.u8 0, Value.int IntKind.u8 0, Value.int IntKind.u8 0, Value.int IntKind.u8 0, Value.int IntKind.u8 0, Value.int IntKind.u8 0, Value.int IntKind.u8 0, Value.int IntKind.u8 0, Value.int IntKind.u8 0, Value.int IntKind.u8 0, Value.int IntKind.u8 0] 30)).setRow w3.heap.size C1) w3.heap.size C1 30) := setRow_heap _ _ _ _ _ _ (HZ30.out w3)
  generalize (w3.alloc (.cells #[Value.int IntKind.u8 0, Value.int IntKind.u8 0, Value.int IntKind.u8 0, Value.int IntKind.u8 0, Value.int IntKind.u8 0, Value.int IntKind.u8 0, Value.int IntKind.u8 0, Value.int IntKind.u8 0, Value.int IntKind.u8 0, Value.int IntKind.u8 0, Value.int IntKind.u8 0, Value.int IntKind.u8 0, Value.int IntKind.u8 0, Value.int IntKind.u8 0, Value.int IntKind.u8 0, Value.int IntKind.u8 0, Value.int IntKind.u8 0, Value.int IntKind.u8 0, Value.int IntKind.u8 0, Value.int IntKind.u8 0, Value.int IntKind.u8 0, Value.int IntKind.u8 0, Value.int IntKind.u8 0, Value.int IntKind.u8 0, Value.int IntKind.u8 0, Value.int IntKind.u8 0, Value.int IntKind.u8 0, Value.int IntKind.u8 0, Value.int IntKind.u8 0, Value.int IntKind.u8 0, Value.int IntKind.u8 0, Value.int IntKind.u8 0] 30)).setRow w3.heap.size C1 = w4 at *
  generalize w3.heap.size = pX at *
  have HRB := Lib.hid (HR2.out w4 HG4.out)
  clear HR2
  go_wp2_with fail
  refine HRB.out.mono ?_
  rintro e w5 ⟨D2, n2, hD2, rfl, g5, hy2, hz2⟩
  have G5 := Lib.hid (HG4.out.trans g5)
  have HB5 := Lib.hid (HB4.out.chg g5 (by simp))
  obtain ⟨C2, hC2⟩ : ∃ C2, C2 = (byteVals D2).toArray := ⟨_, rfl⟩
  have HC2 := Lib.hid hC2
  have HI2 : Hid ((Tryd.prog.info? 30).map (·.size) = some C2.size) := by rw [hC2]; exact byD_info D2 hD2
  have HO2 : Hid (C2.all (·.oneCell') = true) := by rw [hC2]; exact byD_one D2
  have HS2 : Hid (zero32.size = C2.size) := by rw [hC2, byD_size D2 hD2]; rfl
  have HD2 := Lib.hid hD2
  have HY2 := Lib.hid hy2
  have HX2 := Lib.hid hz2
  rw [← hC2]
  clear g5 hC2 hD2 hy2 hz2 HRB
  go_upto_region 5 with (refine wpList_store_row rfl 30 _ _ rfl w5.heap.size C2 rfl rfl 30 _ (HZ30.out w5) HI2.out HS2.out HO2.out ?_)
  have HG6 : Hid (Chg none w ((w5.alloc (.cells #[Value.int IntKind.u8 0, Value.int IntKind.u8 0, Value.int IntKind.u8 0, Value.int IntKind.u8 0, Value.int IntKind.u8 0, Value.int IntKind.u8 0, Value.int IntKind.u8 0, Value.int IntKind.u8 0, Value.int IntKind.u8 0, Value.int IntKind.u8 0, Value.int IntKind.u8 0, Value.int IntKind.u8 0, Value.int IntKind.u8 0, Value.int IntKind.u8 0, Value.int IntKind.u8 0, Value.int IntKind.u8 0, Value.int IntKind.u8 0, Value.int IntKind.u8 0, Value.int IntKind.u8 0, Value.int IntKind.u8 0, Value.int IntKind.u8 0, Value.int IntKind.u8 0, Value.int IntKind.u8 0, Value.int IntKind.u8 0, Value.int IntKind.u8 0, Value.int IntKind.u8 0, Value.int IntKind.u8 0, Value.int IntKind.u8 0, Value.int IntKind.u8 0, Value.int IntKind.u8 0, Value.int IntKind.u8 0, Value.int IntKind.u8 0] 30)).setRow w5.heap.size C2)) := Chg.own (b := w5.heap.size) (G5.out.alloc _) (chg_setRow _ _ _) G5.out.size
  have HB6 : Hid (Blk ((w5.alloc (.cells #[Value.int IntKind.u8 0, Value.int IntKind.u8 0, Value.int IntKind.u8 0, Value.int IntKind.u8 0, Value.int IntKind.u8 0, Value.int IntKind.u8 0, Value.int IntKind.u8 0, Value.int IntKind.u8 0, Value.int IntKind.u8 0, Value.int IntKind.u8 0, Value.int IntKind.u8 0, Value.int IntKind.u8 0, Value.int IntKind.u8 0, Value.int IntKind.u8 0, Value.int IntKind.u8 0, Value.int IntKind.u8 0, Value.int IntKind.u8 0, Value.int IntKind.u8 0, Value.int IntKind.u8 0, Value.int IntKind.u8 0, Value.int IntKind.u8 0, Value.int IntKind.u8 0, Value.int IntKind.u8 0, Value.int IntKind.u8 0, Value.int IntKind.u8 0, Value.int IntKind.u8 0, Value.int IntKind.u8 0, Value.int IntKind.u8 0, Value.int IntKind.u8 0, Value.int IntKind.u8 0, Value.int IntKind.u8 0, Value.int IntKind.u8 0] 30)).setRow w5.heap.size C2) w5.heap.size C2 30) := setRow_heap _ _ _ _ _ _ (HZ30.out w5)
  have HBX6 : Hid (Blk ((w5.alloc (.cells #[Value.int IntKind.u8 0, Value.int IntKind.u8 0, Value.int IntKind.u8 0, Value.int IntKind.u8 0, Value.int IntKind.u8 0, Value.int IntKind.u8 0, Value.int IntKind.u8 0, Value.int IntKind.u8 0, Value.int IntKind.u8 0, Value.int IntKind.u8 0, Value.int IntKind.u8 0, Value.int IntKind.u8 0, Value.int IntKind.u8 0, Value.int IntKind.u8 0, Value.int IntKind.u8 0, Value.int IntKind.u8 0, Value.int IntKind.u8 0, Value.int IntKind.u8 0, Value.int IntKind.u8 0, Value.int IntKind.u8 0, Value.int IntKind.u8 0, Value.int IntKind.u8 0, Value.int IntKind.u8 0, Value.int IntKind.u8 0, Value.int IntKind.u8 0, Value.int IntKind.u8 0, Value.int IntKind.u8 0, Value.int IntKind.u8 0, Value.int IntKind.u8 0, Value.int IntKind.u8 0, Value.int IntKind.u8 0, Value.int IntKind.u8 0] 30)).setRow w5.heap.size C2) pX C1 30) := (HB5.out.alloc _).chg (chg_setRow _ w5.heap.size _) (by have := HB5.out.lt; intro e; injection e with e; omega)
  generalize (w5.alloc (.cells #[Value.int IntKind.u8 0, Value.int IntKind.u8 0, Value.int IntKind.u8 0, Value.int IntKind.u8 0, Value.int IntKind.u8 0, Value.int IntKind.u8 0, Value.int IntKind.u8 0, Value.int IntKind.u8 0, Value.int IntKind.u8 0, Value.int IntKind.u8 0, Value.int IntKind.u8 0, Value.int IntKind.u8 0, Value.int IntKind.u8 0, Value.int IntKind.u8 0, Value.int IntKind.u8 0, Value.int IntKind.u8 0, Value.int IntKind.u8 0, Value.int IntKind.u8 0, Value.int IntKind.u8 0, Value.int IntKind.u8 0, Value.int IntKind.u8 0, Value.int IntKind.u8 0, Value.int IntKind.u8 0, Value.int IntKind.u8 0, Value.int IntKind.u8 0, Value.int IntKind.u8 0, Value.int IntKind.u8 0, Value.int IntKind.u8 0, Value.int IntKind.u8 0, Value.int IntKind.u8 0, Value.int IntKind.u8 0, Value.int IntKind.u8 0] 30)).setRow w5.heap.size C2 = w6 at *
  generalize w5.heap.size = pY at *
  clear HB5 HB4 HG4 G5 G3 HO1 HO2 HS1 HS2 HZ30
  by_cases hmL : mayT L = true
  rotate_left
  · have hn1 : n1 = 2 := HX1.out (by simpa using hmL)
    subst hn1
    clear hmL HL HN
    as_aux_lemma =>
      go_wp2_with fail
      refine (HK.out _).mono ?_
      rintro e wk ⟨rfl, gk⟩
      go_wp2_with fail
      go_ret
      exact ⟨rfl, HG6.out.trans gk⟩
  obtain ⟨hd1, hn1⟩ := HY1.out hmL
  subst hn1
  by_cases hmN : mayT N = true
  rotate_left
  · have hn2 : n2 = 2 := HX2.out (by simpa using hmN)
    subst hn2
    clear hmL hmN HL HN hd1
    as_aux_lemma =>
      go_wp2_with fail
      refine (HK.out _).mono ?_
      rintro e wk ⟨rfl, gk⟩
      go_wp2_with fail
      go_ret
      exact ⟨rfl, HG6.out.trans gk⟩
  obtain ⟨hd2, hn2⟩ := HY2.out hmN
  subst hn2
  have HE1 := Lib.hid hd1
  have HE2 := Lib.hid hd2
  have HML := Lib.hid hmL
  have HMN := Lib.hid hmN
  have HSA := Lib.hid (tsame_any L N A B c d w6 (HL.out w6 HG6.out) (HN.out w6 HG6.out) HLL.out)
  clear hd1 hd2 hmL hmN HY1 HX1 HY2 HX2
  have hqq : ∀ v : World, (binOp .eql 30 (.agg C1) (.agg C2)).run Tryd.prog v = .ok (.bool (D1 == D2)) v := fun v => by rw [HC1.out, HC2.out]; exact eql30 D1 D2 HD1.out HD2.out v
  have hqn : ∀ v : World, (binOp .neq 30 (.agg C1) (.agg C2)).run Tryd.prog v = .ok (.bool (!(D1 == D2))) v := fun v => by rw [HC1.out, HC2.out]; exact neq30 D1 D2 HD1.out HD2.out v
  by_cases hke : keys L = keys N
  · rw [decide_eq_true hke] at HSA
    have hdd : (D1 == D2) = true := by rw [beq_iff_eq, HE1.out, HE2.out, treeB_keys, treeB_keys, hke]
    rw [hdd] at hqq
    clear hke hdd hqn HL HN
    go_wp2_with fail
    refine HSA.out.mono ?_
    rintro e w7 ⟨rfl, g7⟩
    have G7 := Lib.hid (HG6.out.trans g7)
    have HBX7 : Hid (w7.heap[pX]? = some (.cells C1 30 (0, 0))) := HBX6.out.chg g7 (by simp)
    have HBY7 : Hid (w7.heap[pY]? = some (.cells C2 30 (0, 0))) := HB6.out.chg g7 (by simp)
    clear g7 HSA
    go_wp2_with (first
      | (refine wpList_load_row rfl 30 (.tmp 5) rfl pX rfl 30 C1 (0, 0) _ HBX7.out Tryd.underlying30 rfl HI1.out ?_)
      | (refine wpList_load_row rfl 30 (.tmp 7) rfl pY rfl 30 C2 (0, 0) _ HBY7.out Tryd.underlying30 rfl HI2.out ?_))
    refine (HK.out _).mono ?_
    rintro e wk ⟨rfl, gk⟩
    go_wp2_with fail
    go_ret
    exact ⟨rfl, G7.out.trans gk⟩
  · rw [decide_eq_false hke] at HSA
    have HKE := Lib.hid hke
    clear hke hqq
    go_wp2_with fail
    refine HSA.out.mono ?_
    rintro e w7 ⟨rfl, g7⟩
    have G7 := Lib.hid (HG6.out.trans g7)
    have HBX7 : Hid (w7.heap[pX]? = some (.cells C1 30 (0, 0))) := HBX6.out.chg g7 (by simp)
    have HBY7 : Hid (w7.heap[pY]? = some (.cells C2 30 (0, 0))) := HB6.out.chg g7 (by simp)
    clear g7 HSA
    by_cases hdd : D1 = D2
    rotate_left
    · have hbb : (D1 == D2) = false := by rw [beq_eq_false_iff_ne]; exact hdd
      rw [hbb] at hqn
      clear hdd hbb HL HN
      go_wp2_with (first
        | (refine wpList_load_row rfl 30 (.tmp 5) rfl pX rfl 30 C1 (0, 0) _ HBX7.out Tryd.underlying30 rfl HI1.out ?_)
        | (refine wpList_load_row rfl 30 (.tmp 7) rfl pY rfl 30 C2 (0, 0) _ HBY7.out Tryd.underlying30 rfl HI2.out ?_))
      refine (HK.out _).mono ?_
      rintro e wk ⟨rfl, gk⟩
      go_wp2_with fail
      go_ret
      exact ⟨rfl, G7.out.trans gk⟩
    have hbb : (D1 == D2) = true := by rw [beq_iff_eq]; exact hdd
    rw [hbb] at hqn
    have HP1 := Lib.hid (refbytes37 L A c w7 (HL.out w7 G7.out) HML.out)
    have HP2 := Lib.hid (fun v (g : Chg none w7 v) => refbytes37 N B d v (HN.out v (G7.out.trans g)) HMN.out)
    have hne : treeB L ≠ treeB N := by
      rw [treeB_keys, treeB_keys]
      intro e
      exact HKE.out ((tree_inj (by rw [← mayT_keys]; exact HML.out) (by rw [← mayT_keys]; exact HMN.out)).1 e)
    have hPl : (treeB L).length ≤ 33000 := by rw [← partT_all (Nat.le_refl _)]; exact partT_len HML.out _
    have hQl : (treeB N).length ≤ 33000 := by rw [← partT_all (Nat.le_refl _)]; exact partT_len HMN.out _
    obtain ⟨P, hP⟩ : ∃ P, P = treeB L := ⟨_, rfl⟩
    obtain ⟨R, hR⟩ : ∃ R, R = treeB N := ⟨_, rfl⟩
    rw [← hP, ← hR] at hne
    rw [← hP] at HP1 hPl
    rw [← hR] at HP2 hQl
    have HRP : Hid (C1 = (byteVals (rootB P)).toArray) := by show _ = _; rw [HC1.out, HE1.out, hP]
    have HRR : Hid (C1 = (byteVals (rootB R)).toArray) := by show _ = _; rw [HC1.out, hdd, HE2.out, hR]
    have HPL := Lib.hid hPl
    have HQL := Lib.hid hQl
    have HNE := Lib.hid hne
    clear hdd hbb HL HN hP hR hPl hQl hne
    go_wp2_with (first
      | (refine wpList_load_row rfl 30 (.tmp 5) rfl pX rfl 30 C1 (0, 0) _ HBX7.out Tryd.underlying30 rfl HI1.out ?_)
      | (refine wpList_load_row rfl 30 (.tmp 7) rfl pY rfl 30 C2 (0, 0) _ HBY7.out Tryd.underlying30 rfl HI2.out ?_))
    refine HP1.out.mono ?_
    rintro e w8 ⟨A8, n8, c8, rfl, hb8⟩
    have HQ8 := Lib.hid (HP2.out w8 hb8.2.2)
    have HB8 := Lib.hid hb8
    clear hb8 HP1 HP2
    go_wp2_with fail
    refine HQ8.out.mono ?_
    rintro e w9 ⟨A9, n9, c9, rfl, hb9⟩
    have HB9 := Lib.hid hb9
    have G79 : Hid (Chg none w7 w9) := HB8.out.2.2.trans hb9.2.2
    have HBX : Hid (∀ v, Chg none w9.drew v → Blk v pX C1 30) := fun v g => Blk.chg (show Blk w7 pX C1 30 from HBX7.out) (G79.out.drew.trans g) (by simp)
    have HCV1 : Hid (∀ v, Chg none w9.drew v → (convert 22 9 (.slice A8 n8 c8)).run Tryd.prog v = .ok (.string ⟨P.toArray⟩) v) := fun v g => conv_reads v (Reads.of_own (own_chgW HB8.out.2.1 (HB9.out.2.2.drew.trans g)))
    have HCV2 : Hid (∀ v, Chg none w9.drew v → (convert 22 9 (.slice A9 n9 c9)).run Tryd.prog v = .ok (.string ⟨R.toArray⟩) v) := fun v g => conv_reads v (Reads.of_own (own_chgW HB9.out.2.1 ((Chg.refl none w9).drew.trans g)))
    have HD1' : Hid (∀ v, Chg none w9.drew v → Calls Tryd.prog 30 #[.slice A8 n8 c8] v fun e w' => e = .returned (.agg C1) ∧ Chg none v w') := fun v g => by
      have h := HB8.out
      obtain ⟨rfl, h2, -⟩ := h
      have ht := own_txt (own_chgW h2 (HB9.out.2.2.drew.trans g))
      rw [HRP.out]
      exact rootd_any ⟨A8, P, c8⟩ v ⟨ht.1, ht.2.2⟩ (by have := HPL.out; show P.length ≤ _; omega)
    have HD2' : Hid (∀ v, Chg none w9.drew v → Calls Tryd.prog 30 #[.slice A9 n9 c9] v fun e w' => e = .returned (.agg C1) ∧ Chg none v w') := fun v g => by
      have h := HB9.out
      obtain ⟨rfl, h2, -⟩ := h
      have ht := own_txt (own_chgW h2 ((Chg.refl none w9).drew.trans g))
      rw [HRR.out]
      exact rootd_any ⟨A9, R, c9⟩ v ⟨ht.1, ht.2.2⟩ (by have := HQL.out; show R.length ≤ _; omega)
    have HKV : Hid (∀ v, Chg none w9.drew v → Calls Tryd.prog 21 #[] v fun e w' => e = .returned (.bool true) ∧ Chg none v w') := fun v _ => HK.out v
    have HGW : Hid (Chg none w w9.drew) := (G7.out.trans G79.out).drew
    have hqc : ∀ v : World, (binOp .eql 30 (.agg C1) (.agg C1)).run Tryd.prog v = .ok (.bool true) v := fun v => by rw [HC1.out, eql30 D1 D1 HD1.out HD1.out v]; simp
    have hpr : (P == R) = false := by rw [beq_eq_false_iff_ne]; exact HNE.out
    have hpn : ¬ P = R := HNE.out
    have hS9 : Chg none w9.drew w9.drew := Chg.refl _ _
    obtain ⟨CL, hCL⟩ : ∃ CL, CL = byteVals D1 := ⟨_, rfl⟩
    have hC : C1 = CL.toArray := by rw [hCL]; exact HC1.out
    have HICL : Hid ((Tryd.prog.info? 30).map (·.size) = some CL.length) := by
      have h := HI1.out
      rw [hC, List.size_toArray] at h
      exact h
    rw [hC] at HBX HD1' HD2' hqc
    have HRX : Hid (∀ v, Chg none w9.drew v → v.rangeAt pX 0 CL) := fun v g => Blk.range (HBX.out v g)
    clear hC hCL
    clear HBX hb9 HB9 HB8 HQ8 G79 HRP HRR HPL HQL HNE hqn HBX7 HBY7 HBX6 HB6
    go_upto_region 12 with fail
    refine wp_region_held_drew (S := fun v => Chg none w9.drew v) (by kernel_rfl) hS9 (fun _ => ?_)
    generalize w9.drew = v0 at *
    refine wpAnyH_take (i := 0) (oi := ⟨some 52, _, _, _, _, _⟩) (v := ?_) rfl (by kernel_rfl) (by kernel_rfl) (by kernel_rfl) (fun _ _ _ h => h) (Or.inl ⟨by rfl, ?_⟩) (by assumption) ?_
    rotate_left
    · intro w hSw; (try dsimp only at hSw); go_simp; (try with_reducible rfl)
    try simp only [Act.put, List.setIfInBounds_toArray, List.set_cons_zero, List.set_cons_succ]
    refine wpAnyH_take (i := 1) (oi := ⟨some 53, _, _, _, _, _⟩) (v := .string ⟨P.toArray⟩) rfl (by kernel_rfl) (by kernel_rfl) (by kernel_rfl) (fun _ _ _ h => h) (Or.inl ⟨by rfl, ?_⟩) (by assumption) ?_
    · intro v hSv; have hc := HCV1.out v hSv; go_simp
    try simp only [Act.put, List.setIfInBounds_toArray, List.set_cons_zero, List.set_cons_succ]
    refine wpAnyH_take (i := 2) (oi := ⟨some 54, _, _, _, _, _⟩) (v := ?_) rfl (by kernel_rfl) (by kernel_rfl) (by kernel_rfl) (fun _ _ _ h => h) (Or.inl ⟨by rfl, ?_⟩) (by assumption) ?_
    rotate_left
    · intro w hSw; (try dsimp only at hSw); go_simp; (try with_reducible rfl)
    try simp only [Act.put, List.setIfInBounds_toArray, List.set_cons_zero, List.set_cons_succ]
    refine wpAnyH_take (i := 3) (oi := ⟨some 55, _, _, _, _, _⟩) (v := .string ⟨R.toArray⟩) rfl (by kernel_rfl) (by kernel_rfl) (by kernel_rfl) (fun _ _ _ h => h) (Or.inl ⟨by rfl, ?_⟩) (by assumption) ?_
    · intro v hSv; have hc := HCV2.out v hSv; go_simp
    try simp only [Act.put, List.setIfInBounds_toArray, List.set_cons_zero, List.set_cons_succ]
    refine wpAnyH_take (i := 4) (oi := ⟨some 56, _, _, _, _, _⟩) (v := .bool true) rfl (by kernel_rfl) (by kernel_rfl) (by kernel_rfl) (fun _ _ _ h => h) (Or.inl ⟨by rfl, ?_⟩) (by assumption) ?_
    · intro v hSv; skip; go_simp
    try simp only [Act.put, List.setIfInBounds_toArray, List.set_cons_zero, List.set_cons_succ]
    refine wpAnyH_take (i := 5) (oi := ⟨some 57, _, _, _, _, _⟩) (v := ?_) rfl (by kernel_rfl) (by kernel_rfl) (by kernel_rfl) (fun _ _ _ h => h) (Or.inl ⟨by rfl, ?_⟩) (by assumption) ?_
    rotate_left
    · intro w hSw; (try dsimp only at hSw); go_simp; (try with_reducible rfl)
    try simp only [Act.put, List.setIfInBounds_toArray, List.set_cons_zero, List.set_cons_succ]
    refine wpAnyH_take (i := 6) (oi := ⟨some 58, _, _, _, _, _⟩) (v := ?_) rfl (by kernel_rfl) (by kernel_rfl) (by kernel_rfl) (fun _ _ _ h => h) (Or.inl ⟨by rfl, ?_⟩) (by assumption) ?_
    rotate_left
    · intro w hSw; (try dsimp only at hSw); go_simp; (try with_reducible rfl)
    try simp only [Act.put, List.setIfInBounds_toArray, List.set_cons_zero, List.set_cons_succ]
    refine wpAnyH_take (i := 8) (oi := ⟨some 60, _, _, _, _, _⟩) (v := .agg CL.toArray) rfl (by kernel_rfl) (by kernel_rfl) (by kernel_rfl) (fun _ _ _ h => h) (yieldsIf_load_mid (by rfl) 30 (.tmp 5) rfl pX 0 rfl CL _ (fun v hSv => HRX.out v hSv) Tryd.underlying30 rfl HICL.out) (by assumption) ?_
    try simp only [Act.put, List.setIfInBounds_toArray, List.set_cons_zero, List.set_cons_succ]
    refine wpAnyH_ready (rs := [7]) (by kernel_rfl) (by simp) ?_
    refine AllReadyH.cons (o := ⟨some 59, _, _, _, _, _⟩) rfl (fun K hK => ?_) (AllReadyH.nil)
    go_simp
    go_at_call 30
    refine (HD1'.out _ hS9).mono ?_
    rintro e v1 ⟨rfl, kv1⟩
    have hS1 := Chg.trans hS9 kv1
    clear kv1
    go_wp2_with fail
    refine hK.out _ _ hS1 (fun _ => ?_)
    clear hK K
    try simp only [Act.put, List.setIfInBounds_toArray, List.set_cons_zero, List.set_cons_succ]
    refine wpAnyH_take (i := 9) (oi := ⟨some 61, _, _, _, _, _⟩) (v := ?_) rfl (by kernel_rfl) (by kernel_rfl) (by kernel_rfl) (fun _ _ _ h => h) (Or.inl ⟨by rfl, ?_⟩) (by assumption) ?_
    rotate_left
    · intro w hSw; (try dsimp only at hSw); go_simp; (try with_reducible rfl)
    try simp only [Act.put, List.setIfInBounds_toArray, List.set_cons_zero, List.set_cons_succ]
    refine wpAnyH_take (i := 10) (oi := ⟨some 62, _, _, _, _, _⟩) (v := ?_) rfl (by kernel_rfl) (by kernel_rfl) (by kernel_rfl) (fun _ _ _ h => h) (Or.inl ⟨by rfl, ?_⟩) (by assumption) ?_
    rotate_left
    · intro w hSw; (try dsimp only at hSw); go_simp; (try with_reducible rfl)
    try simp only [Act.put, List.setIfInBounds_toArray, List.set_cons_zero, List.set_cons_succ]
    refine wpAnyH_take (i := 11) (oi := ⟨some 63, _, _, _, _, _⟩) (v := ?_) rfl (by kernel_rfl) (by kernel_rfl) (by kernel_rfl) (fun _ _ _ h => h) (Or.inl ⟨by rfl, ?_⟩) (by assumption) ?_
    rotate_left
    · intro w hSw; (try dsimp only at hSw); go_simp; (try with_reducible rfl)
    try simp only [Act.put, List.setIfInBounds_toArray, List.set_cons_zero, List.set_cons_succ]
    refine wpAnyH_take (i := 12) (oi := ⟨some 64, _, _, _, _, _⟩) (v := ?_) rfl (by kernel_rfl) (by kernel_rfl) (by kernel_rfl) (fun _ _ _ h => h) (Or.inl ⟨by rfl, ?_⟩) (by assumption) ?_
    rotate_left
    · intro w hSw; (try dsimp only at hSw); go_simp; (try with_reducible rfl)
    try simp only [Act.put, List.setIfInBounds_toArray, List.set_cons_zero, List.set_cons_succ]
    refine wpAnyH_take (i := 14) (oi := ⟨some 66, _, _, _, _, _⟩) (v := .agg CL.toArray) rfl (by kernel_rfl) (by kernel_rfl) (by kernel_rfl) (fun _ _ _ h => h) (yieldsIf_load_mid (by rfl) 30 (.tmp 5) rfl pX 0 rfl CL _ (fun v hSv => HRX.out v hSv) Tryd.underlying30 rfl HICL.out) (by assumption) ?_
    try simp only [Act.put, List.setIfInBounds_toArray, List.set_cons_zero, List.set_cons_succ]
    refine wpAnyH_ready (rs := [13]) (by kernel_rfl) (by simp) ?_
    refine AllReadyH.cons (o := ⟨some 65, _, _, _, _, _⟩) rfl (fun K hK => ?_) (AllReadyH.nil)
    go_simp
    go_at_call 30
    refine (HD2'.out _ hS1).mono ?_
    rintro e v2 ⟨rfl, kv2⟩
    have hS2 := Chg.trans hS1 kv2
    clear kv2
    go_wp2_with fail
    refine hK.out _ _ hS2 (fun _ => ?_)
    clear hK K
    try simp only [Act.put, List.setIfInBounds_toArray, List.set_cons_zero, List.set_cons_succ]
    refine wpAnyH_take (i := 15) (oi := ⟨some 67, _, _, _, _, _⟩) (v := ?_) rfl (by kernel_rfl) (by kernel_rfl) (by kernel_rfl) (fun _ _ _ h => h) (Or.inl ⟨by rfl, ?_⟩) (by assumption) ?_
    rotate_left
    · intro w hSw; (try dsimp only at hSw); go_simp; (try with_reducible rfl)
    try simp only [Act.put, List.setIfInBounds_toArray, List.set_cons_zero, List.set_cons_succ]
    refine wpAnyH_take (i := 16) (oi := ⟨some 68, _, _, _, _, _⟩) (v := ?_) rfl (by kernel_rfl) (by kernel_rfl) (by kernel_rfl) (fun _ _ _ h => h) (Or.inl ⟨by rfl, ?_⟩) (by assumption) ?_
    rotate_left
    · intro w hSw; (try dsimp only at hSw); go_simp; (try with_reducible rfl)
    try simp only [Act.put, List.setIfInBounds_toArray, List.set_cons_zero, List.set_cons_succ]
    refine wpAnyH_take (i := 17) (oi := ⟨some 69, _, _, _, _, _⟩) (v := ?_) rfl (by kernel_rfl) (by kernel_rfl) (by kernel_rfl) (fun _ _ _ h => h) (Or.inl ⟨by rfl, ?_⟩) (by assumption) ?_
    rotate_left
    · intro w hSw; (try dsimp only at hSw); go_simp; (try with_reducible rfl)
    try simp only [Act.put, List.setIfInBounds_toArray, List.set_cons_zero, List.set_cons_succ]
    refine wpAnyH_ready (rs := [18]) (by kernel_rfl) (by simp) ?_
    refine AllReadyH.cons (o := ⟨some 70, _, _, _, _, _⟩) rfl (fun K hK => ?_) (AllReadyH.nil)
    go_simp
    go_at_call 21
    refine (HKV.out _ hS2).mono ?_
    rintro e v3 ⟨rfl, kv3⟩
    have hS3 := Chg.trans hS2 kv3
    clear kv3
    go_wp2_with fail
    refine hK.out _ _ hS3 (fun _ => ?_)
    clear hK K
    try simp only [Act.put, List.setIfInBounds_toArray, List.set_cons_zero, List.set_cons_succ]
    refine wpAnyH_take (i := 19) (oi := ⟨some 71, _, _, _, _, _⟩) (v := ?_) rfl (by kernel_rfl) (by kernel_rfl) (by kernel_rfl) (fun _ _ _ h => h) (Or.inl ⟨by rfl, ?_⟩) (by assumption) ?_
    rotate_left
    · intro w hSw; (try dsimp only at hSw); go_simp; (try with_reducible rfl)
    try simp only [Act.put, List.setIfInBounds_toArray, List.set_cons_zero, List.set_cons_succ]
    refine wpAnyH_take (i := 20) (oi := ⟨some 4, _, _, _, _, _⟩) (v := ?_) rfl (by kernel_rfl) (by kernel_rfl) (by kernel_rfl) (fun _ _ _ h => h) (Or.inl ⟨by rfl, ?_⟩) (by assumption) ?_
    rotate_left
    · intro w hSw; (try dsimp only at hSw); go_simp; (try with_reducible rfl)
    try simp only [Act.put, List.setIfInBounds_toArray, List.set_cons_zero, List.set_cons_succ]
    refine wpAnyH_done (by kernel_rfl) ?_ _
    try simp only [Act.put]
    go_wp2_with fail
    go_ret
    exact ⟨rfl, HGW.out.trans hS3⟩

end Go.Proofs.YtglfakglcoffkaaDoor
