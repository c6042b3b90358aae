/-
  Package tree: Root; the document's root.
-/
import Derived.Test.YtglfakglcoffkaaDoorTT
import Derived.Test.YtglfakglcoffkaaDoorRM
import Derived.Test.YtglfakglcoffkaaDoorTX
import Derived.Great.BuildSlice
namespace Go.Proofs.YtglfakglcoffkaaDoor
open Go.RowKit

theorem results_cell_tmp {P : Program} {fn : Func} {p q : Tmp} {ty : TypeId} (h : fn.results = #[.cell p ty, .tmp q]) (tmps : Array Value) (w : World) (g : Nat) (t : TypeId) (cs : Array Value) (fr : Nat × Nat) (d : TypeDesc)
    (hp : tmps.getD p undef = .pointer (some ⟨g, 0, none⟩)) (hg : w.heap[g]? = some (.cells cs t fr))
    (hu : P.underlying ty = some d) (hd : (match d with | .struct _ | .array _ _ => true | _ => false) = true) (hi : (P.info? ty).map (·.size) = some cs.size) :
    (results fn tmps).run P w = .ok (.tuple #[.agg cs, tmps.getD q undef]) w := by
  have hp' : tmps[p]?.getD undef = .pointer (some ⟨g, 0, none⟩) := by simpa using hp
  simp [results, h, hp', asAddr, run_loadVar_row w g t ty cs fr d hg hu hd hi]
theorem built30_0 : Tryd.prog.built 30 [] = some zero32 := by kernel_rfl
theorem byD_size (D : List UInt8) (h : D.length = 32) : (byteVals D).toArray.size = 32 := by rw [List.size_toArray, byteVals_len, h]
theorem byD_one (D : List UInt8) : (byteVals D).toArray.all (·.oneCell') = true := Array.all_eq_true_iff_forall_mem.2 (fun v hv => byteVals_one _ v (by simpa using hv))
theorem byD_info (D : List UInt8) (h : D.length = 32) : (Tryd.prog.info? 30).map (·.size) = some (byteVals D).toArray.size := by rw [byD_size D h]; kernel_rfl

set_option maxRecDepth 100000 in
set_option maxHeartbeats 8000000 in
theorem troot_no (L : List Fil) (A : Option Addr) (c : Nat) (w : World) (hT : TreeAt w A L) (hl : L.length ≤ 9223372036854775807) (hm : mayT L = false) :
    Calls Tryd.prog 24 #[.slice A L.length c] w fun e w' => e = .returned (.tuple #[.agg zero32, .int .i64 2]) ∧ Chg none w w' := by
  obtain ⟨W1, hW1⟩ : ∃ W1, W1 = w.alloc (.cells zero32 30) := ⟨_, rfl⟩
  have HW1 : Hid (w.alloc (.cells #[Value.int IntKind.u8 0, Value.int IntKind.u8 0, Value.int IntKind.u8 0, Value.int IntKind.u8 0, Value.int IntKind.u8 0, Value.int IntKind.u8 0, Value.int IntKind.u8 0, Value.int IntKind.u8 0, Value.int IntKind.u8 0, Value.int IntKind.u8 0, Value.int IntKind.u8 0, Value.int IntKind.u8 0, Value.int IntKind.u8 0, Value.int IntKind.u8 0, Value.int IntKind.u8 0, Value.int IntKind.u8 0, Value.int IntKind.u8 0, Value.int IntKind.u8 0, Value.int IntKind.u8 0, Value.int IntKind.u8 0, Value.int IntKind.u8 0, Value.int IntKind.u8 0, Value.int IntKind.u8 0, Value.int IntKind.u8 0, Value.int IntKind.u8 0, Value.int IntKind.u8 0, Value.int IntKind.u8 0, Value.int IntKind.u8 0, Value.int IntKind.u8 0, Value.int IntKind.u8 0, Value.int IntKind.u8 0, Value.int IntKind.u8 0] 30) = W1) := hW1.symm
  have g1 : Chg none w W1 := by rw [hW1]; exact (Chg.refl _ _).alloc _
  have bR1 : Blk W1 w.heap.size zero32 30 := by rw [hW1]; exact Blk.new _ _ _
  have HBY := Lib.hid (tbytes_no L A c W1 (hT.chg g1) hl hm)
  obtain ⟨Z, hZ⟩ : ∃ Z, Z = zero32 := ⟨_, rfl⟩
  have HBZ : Hid (Tryd.prog.built 30 [] = some Z) := by rw [hZ]; exact built30_0
  have HIZ : Hid ((Tryd.prog.info? 30).map (·.size) = some Z.size) := by rw [hZ]; show _ = _; kernel_rfl
  have HOZ : Hid (Z.all (·.oneCell') = true) := by rw [hZ]; show _ = _; kernel_rfl
  rw [← hZ] at bR1 ⊢
  have HB1 := Lib.hid bR1
  have G1 := Lib.hid g1
  have hge : w.heap.size ≤ w.heap.size := Nat.le_refl _
  have HGE := Lib.hid hge
  clear hW1 hZ hT hl hm bR1 g1 hge
  go_enter Tryd.func24, Tryd.ntmps24
  go_upto_region 1 with fail
  rw [HW1.out]
  clear HW1
  generalize hpR : w.heap.size = pR at *
  have HPR := Lib.hid hpR
  clear hpR
  go_wp2_with fail
  refine HBY.out.mono ?_
  rintro e w2 ⟨rfl, g2⟩
  have G2 := Lib.hid (G1.out.trans g2)
  have HB2 : Hid (w2.heap[pR]? = some (.cells Z 30 (0, 0))) := HB1.out.chg g2 (by simp)
  clear g2 HBY
  go_wp2_with (first
    | (refine wpList_buildTo rfl 30 _ rfl (some 13) rfl Z (by simp only [List.map_toArray, List.map_nil]; exact HBZ.out) ?_)
    | (refine wpList_store_row rfl 30 _ _ rfl pR Z rfl rfl 30 _ HB2.out HIZ.out rfl HOZ.out ?_))
  refine bodyPost_ret (results_cell_tmp (p := 2) (q := 3) (ty := 30) Tryd.results24 _ _ pR 30 Z (0, 0) _ rfl (setRow_heap _ _ _ _ _ _ HB2.out) Tryd.underlying30 rfl HIZ.out) rfl ⟨rfl, ?_⟩
  exact Chg.own (b := pR) G2.out (chg_setRow _ _ _) (by rw [HPR.out]; exact Nat.le_refl _)

set_option maxRecDepth 100000 in
set_option maxHeartbeats 8000000 in
theorem troot_yes (L : List Fil) (A : Option Addr) (c : Nat) (w : World) (hT : TreeAt w A L) (hm : mayT L = true) (hTb : Tabs w) :
    Calls Tryd.prog 24 #[.slice A L.length c] w fun e w' => e = .returned (.tuple #[.agg (byteVals (rootB (treeB L))).toArray, .int .i64 0]) ∧ Chg none w w' := by
  obtain ⟨W1, hW1⟩ : ∃ W1, W1 = w.alloc (.cells zero32 30) := ⟨_, rfl⟩
  have HW1 : Hid (w.alloc (.cells #[Value.int IntKind.u8 0, Value.int IntKind.u8 0, Value.int IntKind.u8 0, Value.int IntKind.u8 0, Value.int IntKind.u8 0, Value.int IntKind.u8 0, Value.int IntKind.u8 0, Value.int IntKind.u8 0, Value.int IntKind.u8 0, Value.int IntKind.u8 0, Value.int IntKind.u8 0, Value.int IntKind.u8 0, Value.int IntKind.u8 0, Value.int IntKind.u8 0, Value.int IntKind.u8 0, Value.int IntKind.u8 0, Value.int IntKind.u8 0, Value.int IntKind.u8 0, Value.int IntKind.u8 0, Value.int IntKind.u8 0, Value.int IntKind.u8 0, Value.int IntKind.u8 0, Value.int IntKind.u8 0, Value.int IntKind.u8 0, Value.int IntKind.u8 0, Value.int IntKind.u8 0, Value.int IntKind.u8 0, Value.int IntKind.u8 0, Value.int IntKind.u8 0, Value.int IntKind.u8 0, Value.int IntKind.u8 0, Value.int IntKind.u8 0] 30) = W1) := hW1.symm
  have g1 : Chg none w W1 := by rw [hW1]; exact (Chg.refl _ _).alloc _
  have bR1 : Blk W1 w.heap.size zero32 30 := by rw [hW1]; exact Blk.new _ _ _
  have HBY := Lib.hid (tbytes_yes L A c W1 (hT.chg g1) hm)
  obtain ⟨B, hB⟩ : ∃ B, B = treeB L := ⟨_, rfl⟩
  have hBl : B.length ≤ 33000 := by rw [hB, ← partT_all (Nat.le_refl _)]; exact partT_len hm _
  obtain ⟨D, hD⟩ : ∃ D, D = rootB B := ⟨_, rfl⟩
  have hDl : D.length = 32 := by rw [hD, rootB_len]
  rw [← hB] at HBY ⊢
  rw [← hD]
  have HRF : Hid (∀ v (A' : Option Addr) (n c' : Nat), ByAt W1 v A' n c' B → Calls Tryd.prog 63 #[.slice A' n c'] v fun e w' => e = .returned (.agg (byteVals D).toArray) ∧ Chg none v w') := fun v A' n c' h => by
    obtain ⟨rfl, h2, h3⟩ := h
    have ht := own_txt h2
    rw [hD]
    exact rootf_any ⟨A', B, c'⟩ v ⟨ht.1, ht.2.2⟩ (by show B.length ≤ _; omega) (hTb.chg (g1.trans h3) (by simp))
  obtain ⟨Z, hZ⟩ : ∃ Z, Z = (byteVals D).toArray := ⟨_, rfl⟩
  have HIZ : Hid ((Tryd.prog.info? 30).map (·.size) = some Z.size) := by rw [hZ]; exact byD_info D hDl
  have HOZ : Hid (Z.all (·.oneCell') = true) := by rw [hZ]; exact byD_one D
  have HCZ : Hid (zero32.size = Z.size) := by rw [hZ, byD_size D hDl]; rfl
  rw [← hZ] at HRF ⊢
  have HB1 := Lib.hid bR1
  have G1 := Lib.hid g1
  clear hW1 hZ hT hm bR1 g1 hB hBl hD hDl hTb
  go_enter Tryd.func24, Tryd.ntmps24
  go_upto_region 1 with fail
  rw [HW1.out]
  clear HW1
  generalize hpR : w.heap.size = pR at *
  have HPR := Lib.hid hpR
  clear hpR
  go_wp2_with fail
  refine HBY.out.mono ?_
  rintro e w2 ⟨A2, n2, c2, rfl, hb2⟩
  have G2 := Lib.hid (G1.out.trans hb2.2.2)
  have HB2 := Lib.hid (HB1.out.chg hb2.2.2 (by simp))
  have HR2 := Lib.hid (HRF.out w2 A2 n2 c2 hb2)
  clear hb2 HBY HRF
  go_wp2_with fail
  refine HR2.out.mono ?_
  rintro e w3 ⟨rfl, g3⟩
  have G3 := Lib.hid (G2.out.trans g3)
  have HB3 : Hid (w3.heap[pR]? = some (.cells zero32 30 (0, 0))) := HB2.out.chg g3 (by simp)
  clear g3 HR2
  go_wp2_with (refine wpList_store_row rfl 30 _ _ rfl pR Z rfl rfl 30 _ HB3.out HIZ.out HCZ.out HOZ.out ?_)
  refine bodyPost_ret (results_cell_tmp (p := 2) (q := 3) (ty := 30) Tryd.results24 _ _ pR 30 Z (0, 0) _ rfl (setRow_heap _ _ _ _ _ _ HB3.out) Tryd.underlying30 rfl HIZ.out) rfl ⟨rfl, ?_⟩
  exact Chg.own (b := pR) G3.out (chg_setRow _ _ _) (by rw [HPR.out]; exact Nat.le_refl _)

set_option maxRecDepth 100000 in
set_option maxHeartbeats 8000000 in
/-- The document's root of a blob, by a hash of its own. -/
theorem rootd_any (p : Prt) (w : World) (hp : p.ok w) (hn : p.x.length ≤ 100000) :
    Calls Tryd.prog 30 #[.slice p.A p.x.length p.c] w fun e w' => e = .returned (.agg (byteVals (rootB p.x)).toArray) ∧ Chg none w w' := by
  obtain ⟨W1, hW1⟩ : ∃ W1, W1 = w.alloc (.cells zero32 30) := ⟨_, rfl⟩
  have HW1 : Hid (w.alloc (.cells #[Value.int IntKind.u8 0, Value.int IntKind.u8 0, Value.int IntKind.u8 0, Value.int IntKind.u8 0, Value.int IntKind.u8 0, Value.int IntKind.u8 0, Value.int IntKind.u8 0, Value.int IntKind.u8 0, Value.int IntKind.u8 0, Value.int IntKind.u8 0, Value.int IntKind.u8 0, Value.int IntKind.u8 0, Value.int IntKind.u8 0, Value.int IntKind.u8 0, Value.int IntKind.u8 0, Value.int IntKind.u8 0, Value.int IntKind.u8 0, Value.int IntKind.u8 0, Value.int IntKind.u8 0, Value.int IntKind.u8 0, Value.int IntKind.u8 0, Value.int IntKind.u8 0, Value.int IntKind.u8 0, Value.int IntKind.u8 0, Value.int IntKind.u8 0, Value.int IntKind.u8 0, Value.int IntKind.u8 0, Value.int IntKind.u8 0, Value.int IntKind.u8 0, Value.int IntKind.u8 0, Value.int IntKind.u8 0, Value.int IntKind.u8 0] 30) = W1) := hW1.symm
  have g1 : Chg none w W1 := by rw [hW1]; exact (Chg.refl _ _).alloc _
  have bR1 : Blk W1 w.heap.size zero32 30 := by rw [hW1]; exact Blk.new _ _ _
  obtain ⟨D, hD⟩ : ∃ D, D = rootB p.x := ⟨_, rfl⟩
  have hDl : D.length = 32 := by rw [hD, rootB_len]
  rw [← hD]
  have HRF : Hid (∀ v x, Chg none w v → HashAt v x → Calls Tryd.prog 51 #[.pointer (some ⟨x, 0, none⟩), .slice p.A p.x.length p.c] v fun e w' => e = .returned (.agg (byteVals D).toArray) ∧ Chg none v w') := fun v x g h => by
    rw [hD]
    exact rootr_any x p v h (hp.chg g) hn
  have HNW := Lib.hid (fun v => newr_any v)
  obtain ⟨Z, hZ⟩ : ∃ Z, Z = (byteVals D).toArray := ⟨_, rfl⟩
  have HIZ : Hid ((Tryd.prog.info? 30).map (·.size) = some Z.size) := by rw [hZ]; exact byD_info D hDl
  have HOZ : Hid (Z.all (·.oneCell') = true) := by rw [hZ]; exact byD_one D
  have HCZ : Hid (zero32.size = Z.size) := by rw [hZ, byD_size D hDl]; rfl
  rw [← hZ] at HRF ⊢
  have HB1 := Lib.hid bR1
  have G1 := Lib.hid g1
  clear hW1 hZ bR1 g1 hD hDl hp hn
  go_enter Tryd.func30, Tryd.ntmps30
  go_upto_region 1 with fail
  rw [HW1.out]
  clear HW1
  generalize hpR : w.heap.size = pR at *
  have HPR := Lib.hid hpR
  clear hpR
  go_wp2_with fail
  refine (HNW.out _).mono ?_
  rintro e w2 ⟨x, rfl, hh, g2⟩
  have G2 := Lib.hid (G1.out.trans g2)
  have HB2 := Lib.hid (HB1.out.chg g2 (by simp))
  have HR2 := Lib.hid (HRF.out w2 x G2.out hh)
  clear hh g2 HNW HRF
  go_wp2_with fail
  refine HR2.out.mono ?_
  rintro e w3 ⟨rfl, g3⟩
  have G3 := Lib.hid (G2.out.trans g3)
  have HB3 : Hid (w3.heap[pR]? = some (.cells zero32 30 (0, 0))) := HB2.out.chg g3 (by simp)
  clear g3 HR2
  go_wp2_with (refine wpList_store_row rfl 30 _ _ rfl pR Z rfl rfl 30 _ HB3.out HIZ.out HCZ.out HOZ.out ?_)
  refine bodyPost_ret (results_cell_row (p := 2) (ty := 30) Tryd.results30 _ _ pR 30 Z (0, 0) _ rfl (setRow_heap _ _ _ _ _ _ HB3.out) Tryd.underlying30 rfl HIZ.out) rfl ⟨rfl, ?_⟩
  exact Chg.own (b := pR) G3.out (chg_setRow _ _ _) (by rw [HPR.out]; exact Nat.le_refl _)

end Go.Proofs.YtglfakglcoffkaaDoor
