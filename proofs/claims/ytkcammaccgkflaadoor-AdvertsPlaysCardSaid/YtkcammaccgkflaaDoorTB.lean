/-
  Package adverts: the known case of the statements.
-/
import Derived.Test.YtkcammaccgkflaaDoorTA
namespace Go.Proofs.YtkcammaccgkflaaDoor
open Go.RowKit

def keyK : Dg := ⟨63 :: zeros 31, by decide⟩
def attK : Att := ⟨keyK, zeroDg, 1, zeroDg⟩
theorem built30k : Tryd.prog.built 30 [(0, .int .u8 63)] = some (byteVals keyK.1).toArray := by kernel_rfl
theorem built46k : Tryd.prog.built 46 [(0, .agg (byteVals keyK.1).toArray), (2, .int .i64 1)] = some (attCells attK).toArray := by kernel_rfl
theorem mayK : mayB attK.n = true := by decide
theorem addK0 : addM [] attK = ([attK], 0) := by
  unfold addM
  rw [if_pos mayK, if_neg (List.not_mem_nil), if_neg (by decide)]
  rfl
theorem addK1 : addM [attK] attK = ([attK], 7) := by
  unfold addM
  rw [if_pos mayK, if_pos (List.mem_singleton.2 rfl)]
theorem inK1 : inP [3] attK = true := by decide
theorem inK2 : inP [3, 15] attK = true := by decide
theorem inK3 : inP [4] attK = false := by decide
theorem belK1 : belowA [attK] [3] = [attK] := by unfold belowA; rw [if_pos (by decide), List.filter_cons, inK1]; rfl
theorem belK2 : belowA [attK] [3, 15] = [attK] := by unfold belowA; rw [if_pos (by decide), List.filter_cons, inK2]; rfl
theorem belK3 : belowA [attK] [4] = [] := by unfold belowA; rw [if_pos (by decide), List.filter_cons, inK3]; rfl
theorem okK : OkA [attK] := by
  have := addM_ok ok_nil attK
  rwa [addK0] at this
theorem txt_new (w : World) (bs : List UInt8) (n : Nat) (_hn : bs.length = n) : Txt (w.alloc (.cells (byteVals bs).toArray 5)) (some ⟨w.heap.size, 0, none⟩) bs := fun _ => ⟨w.heap.size, 0, rfl, by simp, fun j c hj => by
  rw [Nat.zero_add, Blk.cell (Blk.new w _ 5)]
  simpa using byteVals_get hj⟩

theorem wpList_load_mid_if {P : Program} {ops : Array Oper} {rest : List Oper} {op : Oper} {a : Act} {w : World} {Q : Exit → Act → World → Prop} (hw : Region.wanted op (yielded ops a.tmps) = true) (ty : TypeId) (x : Operand) (ho : op.op = .load ty x)
    (b o : Nat) (hx : a.eval x = .pointer (some ⟨b, o, none⟩)) (cs : List Value) (d : TypeDesc) (hc : w.rangeAt b o cs)
    (hu : P.underlying ty = some d) (hd : d.isRow = true) (hi : (P.info? ty).map (·.size) = some cs.length)
    (h : wpList P ops Q rest (a.put op.dst (.agg cs.toArray)) w) : wpList P ops Q (op :: rest) a w :=
  wpList_step fun K hK => by
    rw [if_pos hw]
    exact wp_load_mid ty x ho b o hx cs d hc hu hd hi (hK _ _ h)
set_option maxRecDepth 100000 in
set_option maxHeartbeats 8000000 in
theorem known41_any (w : World) (hTb : Tabs w) : Calls Tryd.prog 41 #[] w fun e w' => e = .returned (.bool true) ∧ Chg none w w' := by
  have HB30 := Lib.hid built30k
  have HB46 := Lib.hid built46k
  have HNEW := Lib.hid (new_any w)
  have HI46 := Lib.hid (info46a attK)
  have HIX := Lib.hid (info46 attK)
  have HO1 := Lib.hid (attCells_one attK)
  have HZS : Hid (Tryd.zeroCells46.size = (attCells attK).toArray.size) := Lib.hid (by
    have h97 : (attCells attK).toArray.size = 97 := by rw [List.size_toArray, attCells_len]
    rw [h97]; show _ = _; kernel_rfl)
  obtain ⟨CL, hCK⟩ : ∃ CL, attCells attK = CL := ⟨_, rfl⟩
  have HA1 : Hid (∀ (u : World) (p pa : Nat), SetBy w u p [] pa CL → Calls Tryd.prog 45 #[.pointer (some ⟨p, 0, none⟩), .agg (attCells attK).toArray] u fun e w' => e = .returned (.int .i64 0) ∧ SetBy w w' p [attK] pa CL) := Lib.hid fun u p pa h => by
    have := add_by h ok_nil attK
    rwa [addK0] at this
  have HA2 : Hid (∀ (u : World) (p pa : Nat), SetBy w u p [attK] pa CL → Calls Tryd.prog 45 #[.pointer (some ⟨p, 0, none⟩), .agg (attCells attK).toArray] u fun e w' => e = .returned (.int .i64 7) ∧ SetBy w w' p [attK] pa CL) := Lib.hid fun u p pa h => by
    have := add_by h okK attK
    rwa [addK1] at this
  have HA3 : Hid (∀ (u : World) (p pa : Nat), SetBy w u p [attK] pa CL → Calls Tryd.prog 51 #[.pointer (some ⟨p, 0, none⟩)] u fun e w' => e = .returned (.int .i64 1) ∧ u = w') := Lib.hid fun u p pa h => len_new h.new
  have HB1 : Hid (∀ (u : World) (p pa : Nat), SetBy w u p [attK] pa CL → Calls Tryd.prog 48 #[.pointer (some ⟨p, 0, none⟩), .slice (some ⟨u.heap.size, 0, none⟩) 1 1] (u.alloc (.cells #[.int .u8 3] 5)) fun e w' => ∃ A c, e = .returned (.slice A 1 c) ∧ SetBy w w' p [attK] pa CL) := Lib.hid fun u p pa h =>
    (below_new (h.chg ((Chg.refl _ _).alloc _)).new okK [3] _ 1 (txt_new u [3] 1 rfl) (by decide)).mono fun e w' k => by
      obtain ⟨A, c, e1, -, g⟩ := k
      rw [belK1] at e1
      exact ⟨A, c, e1, (h.chg ((Chg.refl _ _).alloc _)).chg g⟩
  have HB2 : Hid (∀ (u : World) (p pa : Nat), SetBy w u p [attK] pa CL → Calls Tryd.prog 48 #[.pointer (some ⟨p, 0, none⟩), .slice (some ⟨u.heap.size, 0, none⟩) 2 2] (u.alloc (.cells #[.int .u8 3, .int .u8 15] 5)) fun e w' => ∃ A c, e = .returned (.slice A 1 c) ∧ SetBy w w' p [attK] pa CL) := Lib.hid fun u p pa h =>
    (below_new (h.chg ((Chg.refl _ _).alloc _)).new okK [3, 15] _ 2 (txt_new u [3, 15] 2 rfl) (by decide)).mono fun e w' k => by
      obtain ⟨A, c, e1, -, g⟩ := k
      rw [belK2] at e1
      exact ⟨A, c, e1, (h.chg ((Chg.refl _ _).alloc _)).chg g⟩
  have HB3 : Hid (∀ (u : World) (p pa : Nat), SetBy w u p [attK] pa CL → Calls Tryd.prog 48 #[.pointer (some ⟨p, 0, none⟩), .slice (some ⟨u.heap.size, 0, none⟩) 1 1] (u.alloc (.cells #[.int .u8 4] 5)) fun e w' => ∃ A c, e = .returned (.slice A 0 c) ∧ SetBy w w' p [attK] pa CL) := Lib.hid fun u p pa h =>
    (below_new (h.chg ((Chg.refl _ _).alloc _)).new okK [4] _ 1 (txt_new u [4] 1 rfl) (by decide)).mono fun e w' k => by
      obtain ⟨A, c, e1, -, g⟩ := k
      rw [belK3] at e1
      exact ⟨A, c, e1, (h.chg ((Chg.refl _ _).alloc _)).chg g⟩
  have HSM : Hid (∀ (u : World) (p pa : Nat), SetBy w u p [attK] pa CL → Calls Tryd.prog 49 #[.pointer (some ⟨p, 0, none⟩), .slice (some ⟨u.heap.size, 0, none⟩) 1 1] (u.alloc (.cells #[.int .u8 3] 5)) fun e w' => ∃ D : List UInt8, D.length = 32 ∧ e = .returned (.tuple #[.agg (byteVals D).toArray, .int .i64 1]) ∧ SetBy w w' p [attK] pa CL) := Lib.hid fun u p pa h => by
    have hs := h.chg ((Chg.refl none u).alloc (.cells #[.int .u8 3] 5))
    refine (sum_new hs.new okK [3] _ 1 (txt_new u [3] 1 rfl) (by decide) ?_).mono fun e w' k => ?_
    · obtain ⟨A, c, -, g, -⟩ := hs
      exact hTb.chg g (by simp)
    · obtain ⟨e1, g⟩ := k
      rw [belK1] at e1
      exact ⟨_, by unfold sumD; rw [if_pos (by decide), dig_len], e1, hs.chg g⟩
  have HP1 : Hid (∀ (u : World), Calls Tryd.prog 54 #[.slice (some ⟨u.heap.size, 0, none⟩) 1 1] (u.alloc (.cells #[.int .u8 15] 5)) fun e w' => e = .returned (.bool true) ∧ u.alloc (.cells #[.int .u8 15] 5) = w') := Lib.hid fun u => isprefix_any [15] _ 1 _ (txt_new u [15] 1 rfl) (by decide)
  have HP2 : Hid (∀ (u : World) (n : Nat), n = u.heap.size → Calls Tryd.prog 54 #[.slice (some ⟨n, 0, none⟩) 1 1] (u.alloc (.cells #[.int .u8 16] 5)) fun e w' => e = .returned (.bool false) ∧ u.alloc (.cells #[.int .u8 16] 5) = w') := Lib.hid fun u n hn => by subst hn; exact isprefix_any [16] _ 1 _ (txt_new u [16] 1 rfl) (by decide)
  clear hTb
  rw [hCK] at HB46 HI46 HIX HO1 HZS HA1 HA2
  generalize hDK : (byteVals keyK.1).toArray = DK at *
  clear hDK
  have HCL : Hid (CL.length = 97) := Lib.hid (by rw [← hCK, attCells_len])
  clear hCK
  go_enter Tryd.func41, Tryd.ntmps41
  go_wp2_with fail
  refine HNEW.out.mono ?_
  rintro e w1 ⟨rfl, hset, g1⟩
  obtain ⟨W2, hW2⟩ : ∃ W2, W2 = (w1.alloc (.cells Tryd.zeroCells46 46)).setRow w1.heap.size CL.toArray := ⟨_, rfl⟩
  have hzb : (w1.alloc (.cells Tryd.zeroCells46 46)).heap[w1.heap.size]? = some (.cells Tryd.zeroCells46 46 (0, 0)) := heap_alloc_new w1 _
  have hbx : BlkL W2 w1.heap.size CL 46 := by rw [hW2]; exact setRow_heap _ _ _ _ 46 _ hzb
  have hga : Chg none w1 W2 := by rw [hW2]; exact Chg.own ((Chg.refl none w1).alloc _) (chg_setRow _ _ _) (Nat.le_refl _)
  have HZB := Lib.hid hzb
  have HW2 := Lib.hid hW2
  have HS2 : Hid (SetBy w W2 w.heap.size [] w1.heap.size CL) := Lib.hid (by
    refine ⟨none, 0, hset.chg hga, g1.trans hga, fun e => ?_, Blk.lt hbx, Blk.range hbx⟩
    rcases e with e | e
    · have := Blk.lt hset.hd; omega
    · cases e)
  clear hW2 hzb hga hset g1 hbx
  go_upto_region 3 with (first
      | (refine wpList_build_is rfl 30 _ rfl DK (by simp only [List.map_toArray, List.map_cons, List.map_nil]; exact HB30.out) ?_)
      | (refine wpList_build_is rfl 46 _ rfl CL.toArray (by simp only [List.map_toArray, List.map_cons, List.map_nil]; exact HB46.out) ?_)
      | (refine wpList_store_row rfl 46 _ _ rfl w1.heap.size CL.toArray rfl rfl 46 _ HZB.out HI46.out HZS.out HO1.out ?_; rw [← HW2.out]))
  generalize w1.heap.size = pa at *
  generalize w.heap.size = ps at *
  have HR2 := Lib.hid HS2.out.range
  have HC2 := Lib.hid (HA1.out W2 ps pa HS2.out)
  go_wp2_with (refine wpList_load_mid_if rfl 46 _ rfl pa 0 rfl CL _ HR2.out Tryd.underlying46 rfl HIX.out ?_)
  refine HC2.out.mono ?_
  rintro e w3 ⟨rfl, hs⟩
  have HS3 := Lib.hid hs
  have HR3 := Lib.hid hs.range
  have HC3 := Lib.hid (HA2.out w3 ps pa hs)
  clear hs HC2 HR2
  go_wp2_with (refine wpList_load_mid_if rfl 46 _ rfl pa 0 rfl CL _ HR3.out Tryd.underlying46 rfl HIX.out ?_)
  refine HC3.out.mono ?_
  rintro e w4 ⟨rfl, hs⟩
  have HS4 := Lib.hid hs
  have HC4 := Lib.hid (HA3.out w4 ps pa hs)
  clear hs HC3 HR3
  go_wp2_with fail
  refine HC4.out.mono ?_
  rintro e w5 ⟨rfl, rfl⟩
  clear HC4
  go_wp2_with fail
  refine (HSM.out w4 ps pa HS4.out).mono ?_
  rintro e w6 ⟨D, hD, rfl, hs⟩
  obtain ⟨DD, hDD⟩ : ∃ DD, DD = (byteVals D).toArray := ⟨_, rfl⟩
  have hlc : DD.size = 32 := by rw [hDD, List.size_toArray, byteVals_len, hD]
  have HI30 : Hid ((Tryd.prog.info? 30).map (·.size) = some DD.size) := by rw [hlc]; show _ = _; kernel_rfl
  have HZ30 : Hid (zero32.size = DD.size) := Lib.hid (by rw [hlc]; rfl)
  have HO30 : Hid (DD.all (·.oneCell') = true) := Lib.hid (by rw [hDD]; exact Array.all_eq_true_iff_forall_mem.2 (fun v hv => byteVals_one _ v (by simpa using hv)))
  rw [← hDD]
  obtain ⟨W7, hW7⟩ : ∃ W7, W7 = (w6.alloc (.cells zero32 30)).setRow w6.heap.size DD := ⟨_, rfl⟩
  have hzb : (w6.alloc (.cells zero32 30)).heap[w6.heap.size]? = some (.cells zero32 30 (0, 0)) := heap_alloc_new w6 _
  have hga : Chg none w6 W7 := by rw [hW7]; exact Chg.own ((Chg.refl none w6).alloc _) (chg_setRow _ _ _) (Nat.le_refl _)
  have HS7 := Lib.hid (hs.chg hga)
  have HZB7 := Lib.hid hzb
  have HW7 := Lib.hid hW7
  clear hD hDD hlc hs hga hzb hW7
  unfold zero32 at HZB7 HW7 HZ30
  go_upto_region 6 with (refine wpList_store_row rfl 30 _ _ rfl w6.heap.size DD rfl rfl 30 _ HZB7.out HI30.out HZ30.out HO30.out ?_; rw [← HW7.out])
  clear HZB7 HW7 HS4
  go_wp2_with fail
  refine (HB1.out W7 ps pa HS7.out).mono ?_
  rintro e w8 ⟨A8, c8, rfl, hs⟩
  have HS8 := Lib.hid hs
  clear hs
  go_wp2_with fail
  refine (HB2.out w8 ps pa HS8.out).mono ?_
  rintro e w9 ⟨A9, c9, rfl, hs⟩
  have HS9 := Lib.hid hs
  clear hs
  go_wp2_with fail
  refine (HB3.out w9 ps pa HS9.out).mono ?_
  rintro e w10 ⟨A10, c10, rfl, hs⟩
  have HS10 := Lib.hid hs
  clear hs
  go_wp2_with fail
  refine (HP1.out w10).mono ?_
  rintro e w11 ⟨rfl, rfl⟩
  go_wp2_with fail
  refine (HP2.out (w10.alloc (.cells #[.int .u8 15] 5)) (w10.heap.size + 1) (by simp)).mono ?_
  rintro e w12 ⟨rfl, rfl⟩
  go_wp2_with fail
  go_ret
  obtain ⟨A, c, -, g, -⟩ := HS10.out
  exact ⟨rfl, (g.alloc _).alloc _⟩

end Go.Proofs.YtkcammaccgkflaaDoor
