/-
  Package attest: Make.
-/
import Derived.Test.YtehpigmcmgfkoaaDoorA2
namespace Go.Proofs.YtehpigmcmgfkoaaDoor
open Go.RowKit

theorem results_cell_tmp {P : Program} {fn : Func} {p q : Tmp} {ty : TypeId} (h : fn.results = #[.cell p ty, .tmp q]) (tmps : Array Value) (w : World) (g : Nat) (t : TypeId) (cs : Array Value) (fr : Nat × Nat) (d : TypeDesc)
    (hp : tmps.getD p undef = .pointer (some ⟨g, 0, none⟩)) (hg : w.heap[g]? = some (.cells cs t fr))
    (hu : P.underlying ty = some d) (hd : (match d with | .struct _ | .array _ _ => true | _ => false) = true) (hi : (P.info? ty).map (·.size) = some cs.size) :
    (results fn tmps).run P w = .ok (.tuple #[.agg cs, tmps.getD q undef]) w := by
  have hp' : tmps[p]?.getD undef = .pointer (some ⟨g, 0, none⟩) := by simpa using hp
  simp [results, h, hp', asAddr, run_loadVar_row w g t ty cs fr d hg hu hd hi]
theorem blk_setCells {T : TypeId} (b : Nat) : ∀ (vs : List Value) (o : Nat) (cs : List Value) (w : World), BlkL w b cs T → o + vs.length ≤ cs.length → BlkL (w.setCells b o vs) b (splice cs o vs) T
  | [], o, cs, w, h, _ => by
    have : splice cs o [] = cs := by simp [splice]
    rw [this]; exact h
  | v :: vs, o, cs, w, h, hl => by
    rw [List.length_cons] at hl
    have h2 := blk_setCells b vs (o + 1) (cs.set o v) (w.setCell ⟨b, o, none⟩ v) (BlkL.set h o v) (by rw [List.length_set]; omega)
    have e : splice (cs.set o v) (o + 1) vs = splice cs o (v :: vs) := by
      unfold splice
      have e1 : (cs.set o v).take (o + 1) = cs.take o ++ [v] := by
        rw [List.take_succ_eq_append_getElem (by rw [List.length_set]; omega), List.getElem_set_self, List.take_set_of_le (Nat.le_refl _)]
      rw [e1, List.drop_set_of_lt (by omega), List.length_cons, List.append_assoc, List.singleton_append, List.cons_append, show o + 1 + vs.length = o + (vs.length + 1) by omega]
    rw [← e]
    exact h2
theorem chg_setCells (b : Nat) : ∀ (vs : List Value) (o : Nat) (w : World), Chg (some b) w (w.setCells b o vs)
  | [], _, _w => Chg.refl _ _
  | v :: vs, o, w => ((Chg.refl _ w).setCell o v).trans (chg_setCells b vs (o + 1) _)
theorem there_of_blk {w : World} {b : Nat} {cs : List Value} {T : TypeId} (h : BlkL w b cs T) (o n : Nat) (hn : o + n ≤ cs.length) : w.there b o n := fun j hj => by
  refine ⟨?_, Blk.frozen h _⟩
  rw [BlkL.cell h, List.getElem?_eq_getElem (by omega)]; rfl
theorem att_splice (a : Att) (t : Dg) : splice (attCells a) 65 (byteVals t.1) = attCells ⟨a.k, a.r, a.n, t⟩ := by
  unfold splice
  have h0 : attCells a = (byteVals a.k.1 ++ (byteVals a.r.1 ++ [.int .i64 a.n])) ++ byteVals a.t.1 := by unfold attCells; simp
  have hl : (byteVals a.k.1 ++ (byteVals a.r.1 ++ [Value.int .i64 a.n])).length = 65 := by rw [List.length_append, List.length_append, byteVals_len, byteVals_len, a.k.2, a.r.2]; rfl
  rw [List.drop_eq_nil_of_le (by rw [attCells_len, byteVals_len, t.2]; decide), List.append_nil, h0, ← hl, List.take_left]
  unfold attCells
  simp

def MakeYes (w : World) (a : Att) (e : Ending) (w' : World) : Prop := e = .returned (.tuple #[.agg (attCells a).toArray, .int .i64 0]) ∧ Chg none w w'

set_option maxRecDepth 100000 in
set_option maxHeartbeats 8000000 in
theorem make_yes (k r : Dg) (m : Nat) (p : Prt) (w : World) (hm1 : 1 ≤ m) (hm2 : m ≤ 5000) (hp : p.ok w) (hpl : p.x.length ≤ 900000) (hT : Tabs w) :
    Calls Tryd.prog 25 #[.slice p.A p.x.length p.c, .agg (byteVals k.1).toArray, .agg (byteVals r.1).toArray, .int .i64 m] w (MakeYes w ⟨k, r, m, tagDg p.x k r m⟩) := by
  obtain ⟨W3, hW3⟩ : ∃ W3, W3 = ((w.alloc (.cells (byteVals k.1).toArray 30)).alloc (.cells (byteVals r.1).toArray 30)).alloc (.cells Tryd.zeroCells46 46) := ⟨_, rfl⟩
  have HW3 : Hid (((w.alloc (.cells (byteVals k.1).toArray 30)).alloc (.cells (byteVals r.1).toArray 30)).alloc (.cells Tryd.zeroCells46 46) = W3) := hW3.symm
  have g0 : Chg none w W3 := by rw [hW3]; exact (((Chg.refl _ _).alloc _).alloc _).alloc _
  have bK : BlkL W3 w.heap.size (byteVals k.1) 30 := by rw [hW3]; exact Blk.alloc (Blk.alloc (Blk.new _ _ _) _) _
  have bR : BlkL W3 (w.heap.size + 1) (byteVals r.1) 30 := by rw [hW3]; exact Blk.alloc (Blk.newAt _ _ (by simp)) _
  have bS : BlkL W3 (w.heap.size + 1 + 1) (attCells zeroAtt) 46 := by rw [hW3, zero46]; exact Blk.newAt _ _ (by simp)
  obtain ⟨a0, ha0⟩ : ∃ a0 : Att, a0 = ⟨k, r, m, zeroDg⟩ := ⟨_, rfl⟩
  obtain ⟨T, hTT⟩ : ∃ T, T = tagDg p.x k r m := ⟨_, rfl⟩
  obtain ⟨a1, ha1⟩ : ∃ a1 : Att, a1 = ⟨k, r, m, T⟩ := ⟨_, rfl⟩
  have hspl : splice (attCells a0) 65 (byteVals T.1) = attCells a1 := by rw [att_splice, ha0, ha1]
  have hbu : Tryd.prog.built 46 [(0, .agg (byteVals k.1).toArray), (1, .agg (byteVals r.1).toArray), (2, .int .i64 m)] = some (attCells a0).toArray := by rw [ha0]; exact built46_3 k r m
  have HBU := Lib.hid hbu
  have HSP := Lib.hid hspl
  have HIK : Hid ((Tryd.prog.info? 30).map (·.size) = some (byteVals k.1).length) := by rw [byteVals_len, k.2]; show _ = _; kernel_rfl
  have HIR : Hid ((Tryd.prog.info? 30).map (·.size) = some (byteVals r.1).length) := by rw [byteVals_len, r.2]; show _ = _; kernel_rfl
  have HIT : Hid ((Tryd.prog.info? 30).map (·.size) = some (byteVals T.1).toArray.size) := by rw [(row_facts T.1 32 T.2).1]; show _ = _; kernel_rfl
  have HOT := Lib.hid (row_facts T.1 32 T.2).2
  have HI0 := Lib.hid (info46a a0)
  have HI0l := Lib.hid (info46 a0)
  have HI1 := Lib.hid (info46a a1)
  have HI1l := Lib.hid (info46 a1)
  have HO0 := Lib.hid (attCells_one a0)
  have HO1 := Lib.hid (attCells_one a1)
  have HZ0 : Hid (Tryd.zeroCells46.size = (attCells a0).toArray.size) := by rw [zero46, List.size_toArray, List.size_toArray, attCells_len, attCells_len]; rfl
  have HZ1 : Hid ((attCells zeroAtt).toArray.size = (attCells a1).toArray.size) := by rw [List.size_toArray, List.size_toArray, attCells_len, attCells_len]; rfl
  have HMY : Hid (∀ v, Calls Tryd.prog 45 #[.agg (attCells a0).toArray] v fun e w' => e = .returned (.bool true) ∧ Chg none v w') := fun v => by
    have := may_any a0 v
    have hb : mayB a0.n = true := by rw [ha0]; unfold mayB; simp; omega
    rwa [hb] at this
  have HTG : Hid (∀ v, Chg none w v → Calls Tryd.prog 46 #[.slice p.A p.x.length p.c, .agg (attCells a0).toArray] v fun e w' => e = .returned (.agg (byteVals T.1).toArray) ∧ Chg none v w') := fun v g => by
    have := tagof_any a0 m p v (by rw [ha0]) (by omega) (hp.chg g) hpl (hT.chg g (by simp))
    rw [ha0] at this
    rw [hTT, ha0]; exact this
  rw [← hTT, ← ha1]
  unfold MakeYes
  have hle1 : w.heap.size ≤ w.heap.size + 1 + 1 := by omega
  obtain ⟨C0, hC0⟩ : ∃ C0, C0 = (attCells a0).toArray := ⟨_, rfl⟩
  obtain ⟨C1, hC1⟩ : ∃ C1, C1 = (attCells a1).toArray := ⟨_, rfl⟩
  have HC0 := Lib.hid hC0
  have HC1 := Lib.hid hC1
  rw [← hC0] at HBU HI0 HO0 HZ0 HMY HTG
  rw [← hC1] at HI1 HO1 HZ1 ⊢
  have HLS : Hid (w.heap.size + 1 + 1 < W3.heap.size) := Blk.lt bS
  obtain ⟨CK, hCK⟩ : ∃ CK, CK = (byteVals k.1).toArray := ⟨_, rfl⟩
  obtain ⟨CR, hCR⟩ : ∃ CR, CR = (byteVals r.1).toArray := ⟨_, rfl⟩
  have HCK := Lib.hid hCK
  have HCR := Lib.hid hCR
  rw [← hCK, ← hCR] at HW3 ⊢
  rw [← hCK, ← hCR] at HBU
  clear hW3 ha0 hTT ha1 hspl hbu hC0 hC1 hCK hCR hp hT
  go_enter Tryd.func25, Tryd.ntmps25
  go_upto_region 1 with fail
  rw [HW3.out]
  clear HW3
  generalize hpS : w.heap.size + 1 + 1 = pS at *
  generalize w.heap.size + 1 = pR at *
  generalize hpK : w.heap.size = pK at *
  have HPK := Lib.hid hpK
  clear hpK hpS
  have HRK := Lib.hid (Blk.range bK)
  have HRR := Lib.hid (Blk.range bR)
  have HNW := Lib.hid (heap_alloc_new W3 (.cells Tryd.zeroCells46 46))
  have gB : Chg none W3 (W3.alloc (.cells Tryd.zeroCells46 46)) := (Chg.refl _ _).alloc _
  have gB2 : Chg (some W3.heap.size) (W3.alloc (.cells Tryd.zeroCells46 46)) ((W3.alloc (.cells Tryd.zeroCells46 46)).setRow W3.heap.size C0) := chg_setRow _ _ _
  obtain ⟨W4, hW4⟩ : ∃ W4, W4 = (W3.alloc (.cells Tryd.zeroCells46 46)).setRow W3.heap.size C0 := ⟨_, rfl⟩
  have HW4 : Hid ((W3.alloc (.cells Tryd.zeroCells46 46)).setRow W3.heap.size C0 = W4) := hW4.symm
  have g34 : Chg none W3 W4 := by rw [hW4]; exact Chg.own (b := W3.heap.size) gB gB2 (Nat.le_refl _)
  have bA : BlkL W4 W3.heap.size (attCells a0) 46 := by
    rw [hW4]
    have h : ((W3.alloc (.cells Tryd.zeroCells46 46)).setRow W3.heap.size C0).heap[W3.heap.size]? = some (.cells C0 46 (0, 0)) := setRow_heap _ _ _ _ _ _ HNW.out
    rw [HC0.out] at h ⊢
    exact h
  have bS4 := Blk.chg bS g34 (by simp)
  have g04 := g0.trans g34
  clear hW4 gB gB2 bS
  go_upto_region 2 with (first
    | (refine wpList_load_mid rfl 30 _ rfl pK 0 rfl (byteVals k.1) _ HRK.out Tryd.underlying30 rfl HIK.out ?_)
    | (refine wpList_load_mid rfl 30 _ rfl pR 0 rfl (byteVals r.1) _ HRR.out Tryd.underlying30 rfl HIR.out ?_)
    | (refine wpList_buildTo rfl 46 _ rfl (some 14) rfl C0 (by simp only [List.map_toArray, List.map_cons, List.map_nil]; have h := HBU.out; rw [HCK.out, HCR.out] at h; exact h) ?_)
    | (refine wpList_store_row rfl 46 _ _ rfl W3.heap.size C0 rfl rfl 46 _ HNW.out HI0.out HZ0.out HO0.out ?_))
  rw [HW4.out]
  clear HW4 HNW HRK HRR HBU HZ0 HO0 bK bR
  have HLA : Hid (pK ≤ W3.heap.size) := by rw [← HPK.out]; exact g0.size
  have hSA : pS ≠ W3.heap.size := by have := HLS.out; omega
  have HSA := Lib.hid hSA
  clear hSA HLS g34 g0
  generalize W3.heap.size = pA at *
  have HRA := Lib.hid (Blk.range bA)
  go_wp2_with (refine wpList_load_mid rfl 46 _ rfl pA 0 rfl (attCells a0) _ HRA.out Tryd.underlying46 rfl HI0l.out ?_)
  rw [← HC0.out]
  refine (HMY.out _).mono ?_
  rintro e w5 ⟨rfl, g5⟩
  have bA5 := Blk.chg bA g5 (by simp)
  have bS5 := Blk.chg bS4 g5 (by simp)
  have g05 := g04.trans g5
  have HRA5 := Lib.hid (Blk.range bA5)
  have HTG5 := Lib.hid (HTG.out w5 g05)
  clear HMY HTG bA bS4 g04 g5 HRA
  go_wp2_with (refine wpList_load_mid rfl 46 _ rfl pA 0 rfl (attCells a0) _ HRA5.out Tryd.underlying46 rfl HI0l.out ?_)
  rw [← HC0.out]
  refine HTG5.out.mono ?_
  rintro e w6 ⟨rfl, g6⟩
  have bA6 := Blk.chg bA5 g6 (by simp)
  have bS6 := Blk.chg bS5 g6 (by simp)
  have g06 := g05.trans g6
  have HTH := Lib.hid (there_of_blk bA6 65 (byteVals T.1).toArray.size (by rw [(row_facts T.1 32 T.2).1, attCells_len]; decide))
  have hset := blk_setCells pA (byteVals T.1) 65 _ w6 bA6 (by rw [byteVals_len, T.2, attCells_len]; decide)
  rw [HSP.out] at hset
  have gS : Chg (some pA) w6 (w6.setCells pA 65 (byteVals T.1)) := chg_setCells pA _ _ _
  have bS7 := Blk.chg bS6 gS (by simp; exact HSA.out)
  have g07 : Chg none w (w6.setCells pA 65 (byteVals T.1)) := Chg.own (b := pA) g06 gS (by rw [HPK.out]; exact HLA.out)
  have HRA7 := Lib.hid (Blk.range hset)
  have HRS : Hid ((w6.setCells pA 65 (byteVals T.1)).heap[pS]? = some (.cells (attCells zeroAtt).toArray 46 (0, 0))) := bS7
  clear HTG5 bA5 bS5 g05 g6 HRA5 hset bA6 bS6 g06 gS bS7
  go_wp2_with (first
    | (refine wpList_store_mid rfl 30 _ _ rfl pA 65 (byteVals T.1).toArray rfl rfl HTH.out HIT.out HOT.out ?_)
    | (refine wpList_load_mid rfl 46 _ rfl pA 0 rfl (attCells a1) _ HRA7.out Tryd.underlying46 rfl HI1l.out ?_)
    | (rw [← HC1.out]; refine wpList_store_row rfl 46 _ _ rfl pS C1 rfl rfl 46 _ HRS.out HI1.out HZ1.out HO1.out ?_)
    | (refine wpList_store_row rfl 46 _ _ rfl pS (attCells a1).toArray rfl rfl 46 _ HRS.out (info46a a1) (by rw [← HC1.out]; exact HZ1.out) (attCells_one a1) ?_))
  refine bodyPost_ret (results_cell_tmp (p := 8) (q := 9) (ty := 46) Tryd.results25 _ _ pS 46 C1 (0, 0) _ rfl (setRow_heap _ _ _ _ _ _ HRS.out) Tryd.underlying46 rfl HI1.out) rfl ⟨rfl, ?_⟩
  exact Chg.own (b := pS) g07 (chg_setRow _ _ _) (by rw [HPK.out]; exact hle1)

end Go.Proofs.YtehpigmcmgfkoaaDoor
