/-
  TreeForms, walked.
-/
import Derived.Test.YtglfakglcoffkaaDoorTRT
import Derived.Test.YtglfakglcoffkaaDoorCP
namespace Go.Proofs.YtglfakglcoffkaaDoor
open Go.RowKit

/-- Bytes that lie at a block's beginning. -/
structure RowU8 (w : World) (g n : Nat) : Prop where
  blk : ∃ cs, Blk w g cs 5 ∧ ∀ i, i < n → ∃ x : Int, 0 ≤ x ∧ x ≤ 255 ∧ cs[i]? = some (.int .u8 x)
theorem RowU8.at_ {w : World} {g n k : Nat} (h : RowU8 w g n) (hk : k < n) : ∃ x : Int, 0 ≤ x ∧ x ≤ 255 ∧ w.cell? ⟨g, k, none⟩ = some (.int .u8 x) ∧ w.frozen? ⟨g, k, none⟩ = false := by
  obtain ⟨cs, hb, hc⟩ := h.blk
  obtain ⟨x, h0, h1, h2⟩ := hc k hk
  exact ⟨x, h0, h1, by rw [hb.cell]; exact h2, hb.frozen _⟩
theorem RowU8.set {w : World} {g n k : Nat} {y : Int} (h : RowU8 w g n) (_ : k < n) (hy : 0 ≤ y ∧ y ≤ 255) : RowU8 (w.setCell ⟨g, k, none⟩ (.int .u8 y)) g n := by
  obtain ⟨cs, hb, hc⟩ := h.blk
  refine ⟨cs.setIfInBounds k (.int .u8 y), hb.set k _, fun i hi => ?_⟩
  obtain ⟨x, h0, h1, h2⟩ := hc i hi
  have hs : i < cs.size := (Array.getElem?_eq_some_iff.1 h2).1
  rw [Array.getElem?_setIfInBounds]
  by_cases e : k = i
  · subst e; rw [if_pos rfl, if_pos hs]; exact ⟨y, hy.1, hy.2, rfl⟩
  · rw [if_neg e]; exact ⟨x, h0, h1, h2⟩
theorem wpList_build_is {P : Program} {ops : Array Oper} {rest : List Oper} {o : Oper} {a : Act} {w : World} {Q : Exit → Act → World → Prop} (hg : o.guard = none) (t : TypeId) (parts : Array (Nat × Operand)) (ho : o.op = .build t parts) (cs : Array Value)
    (hf : P.built t (parts.map fun (i, x) => (i, a.eval x)).toList = some cs) (h : wpList P ops Q rest (a.put o.dst (.agg cs)) w) : wpList P ops Q (o :: rest) a w :=
  wpList_build hg t parts ho (by rw [hf]; rfl) (by rw [hf]; exact h)
theorem wpList_load_want {P : Program} {ops : Array Oper} {rest : List Oper} {op : Oper} {a : Act} {w : World} {Q : Exit → Act → World → Prop} (hw : Region.wanted op (yielded ops a.tmps) = true) (ty : TypeId) (x : Operand) (ho : op.op = .load ty x)
    (b o : Nat) (hx : a.eval x = .pointer (some ⟨b, o, none⟩)) (cs : List Value) (d : TypeDesc) (hc : w.rangeAt b o cs)
    (hu : P.underlying ty = some d) (hd : d.isRow = true) (hi : (P.info? ty).map (·.size) = some cs.length)
    (h : wpList P ops Q rest (a.put op.dst (.agg cs.toArray)) w) : wpList P ops Q (op :: rest) a w :=
  BigFrame.wpList_want hw fun _ hK => wp_load_mid ty x ho b o hx cs d hc hu hd hi (hK _ _ h)
theorem row_u8 {w : World} {base n c : Nat} {A : Option Addr} {bs : List UInt8} (h : w.ownsRow base 5 1 (.slice A n c) n (byteVals bs)) (hn : 0 < n) : ∃ g, A = some ⟨g, 0, none⟩ ∧ base ≤ g ∧ g < w.heap.size ∧ RowU8 w g n := by
  have hl := h.1
  rw [byteVals_len, Nat.mul_one] at hl
  rcases h.2 with ⟨h1, h2⟩ | ⟨g, cap, cur, h1, h2, h3, h4, h5, h6, h7⟩
  · omega
  · injection h1 with h8 _ _
    refine ⟨g, h8, h2, (Array.getElem?_eq_some_iff.1 h3).1, ⟨cur, h3, fun i hi => ?_⟩⟩
    have hx : (byteVals bs)[i]? = some (.int .u8 (bs[i]'(by omega)).toNat) := by unfold byteVals; rw [List.getElem?_map, List.getElem?_eq_getElem (by omega)]; rfl
    rw [← h7, Nat.mul_one, List.getElem?_take_of_lt hi, Array.getElem?_toList] at hx
    have hb := (bs[i]'(by omega)).toNat_lt
    exact ⟨_, by omega, by omega, hx⟩
theorem own_ne {w : World} {base n g : Nat} {e : TypeId} {k : Nat} {v : Value} {xs : List Value} (h : w.ownsRow base e k v n xs) (hg : g < base) : v.ownBlock = none ∨ v.ownBlock ≠ some g := by
  rcases h.2 with ⟨rfl, -⟩ | ⟨g', cap, cur, rfl, hb, -⟩
  · exact .inl rfl
  · right
    simp [Value.ownBlock]
    omega
theorem OwnL.tree_but {w0 w w' : World} {A : Option Addr} {c g : Nat} {M : List Fil} (h : OwnL w0 w A c M) (k : Chg (some g) w w') (hg : g < w0.heap.size) (hp : ∀ m ∈ M, m.p.length ≤ 9223372036854775807) : TreeAt w' A M :=
  ⟨(rows_of_own38 (World.ownsRow.kept h.row k (own_ne h.row hg))).1, fun m hm => own_fil (World.ownsRow.kept (h.own m hm) k (own_ne (h.own m hm) hg)) (hp m hm)⟩

set_option maxRecDepth 100000 in
set_option maxHeartbeats 64000000 in
theorem tforms_no (L : List Fil) (A : Option Addr) (c : Nat) (w : World) (hT : TreeAt w A L) (hl : L.length ≤ 9223372036854775807) (hTb : Tabs w) (hnl : L.length * 40 ≤ 140737488355328) (hnx : ∀ f ∈ L, f.x.length ≤ 140737488355328) (hm : mayT L = false) :
    Calls Tryd.prog 6 #[.slice A L.length c] w fun e w' => e = .returned (.bool true) ∧ Chg none w w' := by
  have HK : Hid (∀ v, Calls Tryd.prog 21 #[] v fun e w' => e = .returned (.bool true) ∧ Chg none v w') := Lib.hid fun v => known5_any v
  have HGR := Lib.hid (t_great_any L A c w hT hl)
  have HCP := Lib.hid (fun v (g : Chg none w v) => tcopy_any L A c v (hT.chg g) hnl hnx)
  have HTA := Lib.hid (fun v (g : Chg none w v) => hT.chg g)
  have HTB := Lib.hid (fun v (g : Chg none w v) => hTb.chg g (by simp))
  have HNL := Lib.hid hnl
  have HNP := Lib.hid (fun f (h : f ∈ L) => (hT.2 f h).p)
  have HMM := Lib.hid hm
  have HM26 : Hid (∀ v, Chg none w v → Calls Tryd.prog 26 #[.slice A L.length c] v fun e w' => e = .returned (.bool false) ∧ Chg none v w') := Lib.hid fun v g => by
    have h := t_refmay_any L A c v (hT.chg g) hl
    rw [hm] at h
    exact h
  have hZ30 : ∀ W : World, (W.alloc (.cells #[Value.int IntKind.u8 0, Value.int IntKind.u8 0, Value.int IntKind.u8 0, Value.int IntKind.u8 0, Value.int IntKind.u8 0, Value.int IntKind.u8 0, Value.int IntKind.u8 0, Value.int IntKind.u8 0, Value.int IntKind.u8 0, Value.int IntKind.u8 0, Value.int IntKind.u8 0, Value.int IntKind.u8 0, Value.int IntKind.u8 0, Value.int IntKind.u8 0, Value.int IntKind.u8 0, Value.int IntKind.u8 0, Value.int IntKind.u8 0, Value.int IntKind.u8 0, Value.int IntKind.u8 0, Value.int IntKind.u8 0, Value.int IntKind.u8 0, Value.int IntKind.u8 0, Value.int IntKind.u8 0, Value.int IntKind.u8 0, Value.int IntKind.u8 0, Value.int IntKind.u8 0, Value.int IntKind.u8 0, Value.int IntKind.u8 0, Value.int IntKind.u8 0, Value.int IntKind.u8 0, Value.int IntKind.u8 0, Value.int IntKind.u8 0] 30)).heap[W.heap.size]? = some (.cells zero32 30 (0, 0)) := fun W => heap_alloc_new W _
  have HZ30 := Lib.hid hZ30
  have hg30 := guard30
  clear hT hTb hnl hnx hl hm hZ30
  go_enter Tryd.func6, Tryd.ntmps6
  go_wp2_with fail
  refine HGR.out.mono ?_
  rintro e w1 ⟨b, rfl, g1⟩
  have G1 := Lib.hid g1
  clear g1 HGR
  cases b
  rotate_left
  · as_aux_lemma =>
      go_wp2_with fail
      refine (HK.out w1).mono ?_
      rintro e wk ⟨rfl, gk⟩
      go_wp2_with fail
      go_ret
      exact ⟨rfl, G1.out.trans gk⟩
  have HC1 := Lib.hid (HCP.out w1 G1.out)
  clear HCP
  go_wp2_with fail
  refine HC1.out.mono ?_
  rintro e w2 ⟨A2, c2, M, rfl, ho2, hk2, hm2⟩
  have G2 := Lib.hid (G1.out.trans ho2.chg)
  have hkp : ∀ m ∈ M, m.p.length ≤ 9223372036854775807 := fun m hm => by
    have h1 : keyF m ∈ keys L := by rw [← hk2]; exact List.mem_map_of_mem hm
    obtain ⟨f, hf, hfe⟩ := List.mem_map.1 h1
    have h2 := HNP.out f hf
    have h3 : f.p = m.p := congrArg Prod.fst hfe
    rw [← h3]; exact h2
  have ht2 := ho2.tree hkp
  have hmM : mayT M = false := by rw [mayT_keys, hk2, ← mayT_keys]; exact HMM.out
  have htM : treeB M = treeB L := by rw [treeB_keys, hk2, ← treeB_keys]
  have hlM : M.length ≤ 9223372036854775807 := by rw [hm2]; have := HNL.out; omega
  have HSA : Hid (∀ v, Chg none w2 v → Calls Tryd.prog 27 #[.slice A2 L.length c2, .slice A L.length c] v fun e w' => e = .returned (.bool true) ∧ Chg none v w') := Lib.hid fun v g => by
    have h := t_refsame_any M L A2 A c2 c v (ht2.chg g) (HTA.out v (G2.out.trans g)) (by have := HNL.out; omega)
    rw [decide_eq_true hk2, hm2] at h
    exact h
  have HM25 : Hid (∀ v, Chg none w2 v → Calls Tryd.prog 25 #[.slice A2 L.length c2] v fun e w' => e = .returned (.bool false) ∧ Chg none v w') := Lib.hid fun v g => by
    have h := mayt_any M A2 c2 v (ht2.chg g) hlM
    rw [hm2, hmM] at h
    exact h
  have HB : Hid (Calls Tryd.prog 23 #[.slice A2 L.length c2] w2 fun e w' => e = .returned (.tuple #[.slice none 0 0, .int .i64 2]) ∧ Chg none w2 w') := Lib.hid (by
    have h := tbytes_no M A2 c2 w2 ht2 hlM hmM
    rw [hm2] at h
    exact h)
  have HR : Hid (∀ v, Chg none w2 v → Calls Tryd.prog 24 #[.slice A2 L.length c2] v fun e w' => e = .returned (.tuple #[.agg zero32, .int .i64 2]) ∧ Chg none v w') := Lib.hid fun v g => by
    have h := troot_no M A2 c2 v (ht2.chg g) hlM hmM
    rw [hm2] at h
    exact h
  clear ho2 hk2 hm2 hkp ht2 hmM htM hlM HC1 HNP HNL HMM HTA HTB
  go_wp2_with fail
  refine HB.out.mono ?_
  rintro e w3 ⟨rfl, g3⟩
  have K3 := Lib.hid g3
  clear g3 HB
  go_wp2_with fail
  refine (HR.out _ K3.out).mono ?_
  rintro e w4 ⟨rfl, g4⟩
  have K4 := Lib.hid (K3.out.trans g4)
  clear g4 HR
  have HIZ : Hid ((Tryd.prog.info? 30).map (·.size) = some zero32.size) := Lib.hid (by kernel_rfl)
  obtain ⟨M1, hM1⟩ : ∃ M, M = byteVals (zeros 32) := ⟨_, rfl⟩
  have HMZ : Hid (zero32 = M1.toArray) := Lib.hid (by rw [hM1]; rfl)
  have HIZ2 : Hid ((Tryd.prog.info? 30).map (·.size) = some M1.length) := Lib.hid (by rw [hM1]; kernel_rfl)
  have HOZ : Hid (zero32.all (·.oneCell') = true) := Lib.hid (by kernel_rfl)
  have hqq : ∀ v : World, (binOp .eql 30 (.agg M1.toArray) (.agg #[Value.int IntKind.u8 0, Value.int IntKind.u8 0, Value.int IntKind.u8 0, Value.int IntKind.u8 0, Value.int IntKind.u8 0, Value.int IntKind.u8 0, Value.int IntKind.u8 0, Value.int IntKind.u8 0, Value.int IntKind.u8 0, Value.int IntKind.u8 0, Value.int IntKind.u8 0, Value.int IntKind.u8 0, Value.int IntKind.u8 0, Value.int IntKind.u8 0, Value.int IntKind.u8 0, Value.int IntKind.u8 0, Value.int IntKind.u8 0, Value.int IntKind.u8 0, Value.int IntKind.u8 0, Value.int IntKind.u8 0, Value.int IntKind.u8 0, Value.int IntKind.u8 0, Value.int IntKind.u8 0, Value.int IntKind.u8 0, Value.int IntKind.u8 0, Value.int IntKind.u8 0, Value.int IntKind.u8 0, Value.int IntKind.u8 0, Value.int IntKind.u8 0, Value.int IntKind.u8 0, Value.int IntKind.u8 0, Value.int IntKind.u8 0])).run Tryd.prog v = .ok (.bool true) v := fun v => by rw [hM1]; exact (eql30 (zeros 32) (zeros 32) (by decide) (by decide) v).trans (by simp)
  clear hM1
  go_upto_region 6 with (refine wpList_store_row rfl 30 _ _ rfl w4.heap.size zero32 rfl rfl 30 _ (HZ30.out w4) HIZ.out rfl HOZ.out ?_)
  have k5 : Chg none w4 ((w4.alloc (.cells #[Value.int IntKind.u8 0, Value.int IntKind.u8 0, Value.int IntKind.u8 0, Value.int IntKind.u8 0, Value.int IntKind.u8 0, Value.int IntKind.u8 0, Value.int IntKind.u8 0, Value.int IntKind.u8 0, Value.int IntKind.u8 0, Value.int IntKind.u8 0, Value.int IntKind.u8 0, Value.int IntKind.u8 0, Value.int IntKind.u8 0, Value.int IntKind.u8 0, Value.int IntKind.u8 0, Value.int IntKind.u8 0, Value.int IntKind.u8 0, Value.int IntKind.u8 0, Value.int IntKind.u8 0, Value.int IntKind.u8 0, Value.int IntKind.u8 0, Value.int IntKind.u8 0, Value.int IntKind.u8 0, Value.int IntKind.u8 0, Value.int IntKind.u8 0, Value.int IntKind.u8 0, Value.int IntKind.u8 0, Value.int IntKind.u8 0, Value.int IntKind.u8 0, Value.int IntKind.u8 0, Value.int IntKind.u8 0, Value.int IntKind.u8 0] 30)).setRow w4.heap.size zero32) := Chg.own (b := w4.heap.size) ((Chg.refl none w4).alloc _) (chg_setRow _ _ _) (Nat.le_refl _)
  have HU : Hid (Blk ((w4.alloc (.cells #[Value.int IntKind.u8 0, Value.int IntKind.u8 0, Value.int IntKind.u8 0, Value.int IntKind.u8 0, Value.int IntKind.u8 0, Value.int IntKind.u8 0, Value.int IntKind.u8 0, Value.int IntKind.u8 0, Value.int IntKind.u8 0, Value.int IntKind.u8 0, Value.int IntKind.u8 0, Value.int IntKind.u8 0, Value.int IntKind.u8 0, Value.int IntKind.u8 0, Value.int IntKind.u8 0, Value.int IntKind.u8 0, Value.int IntKind.u8 0, Value.int IntKind.u8 0, Value.int IntKind.u8 0, Value.int IntKind.u8 0, Value.int IntKind.u8 0, Value.int IntKind.u8 0, Value.int IntKind.u8 0, Value.int IntKind.u8 0, Value.int IntKind.u8 0, Value.int IntKind.u8 0, Value.int IntKind.u8 0, Value.int IntKind.u8 0, Value.int IntKind.u8 0, Value.int IntKind.u8 0, Value.int IntKind.u8 0, Value.int IntKind.u8 0] 30)).setRow w4.heap.size zero32) w4.heap.size zero32 30) := setRow_heap _ _ _ _ _ _ (HZ30.out w4)
  have K5 := Lib.hid (K4.out.trans k5)
  clear k5 HZ30 HOZ HIZ
  generalize (w4.alloc (.cells #[Value.int IntKind.u8 0, Value.int IntKind.u8 0, Value.int IntKind.u8 0, Value.int IntKind.u8 0, Value.int IntKind.u8 0, Value.int IntKind.u8 0, Value.int IntKind.u8 0, Value.int IntKind.u8 0, Value.int IntKind.u8 0, Value.int IntKind.u8 0, Value.int IntKind.u8 0, Value.int IntKind.u8 0, Value.int IntKind.u8 0, Value.int IntKind.u8 0, Value.int IntKind.u8 0, Value.int IntKind.u8 0, Value.int IntKind.u8 0, Value.int IntKind.u8 0, Value.int IntKind.u8 0, Value.int IntKind.u8 0, Value.int IntKind.u8 0, Value.int IntKind.u8 0, Value.int IntKind.u8 0, Value.int IntKind.u8 0, Value.int IntKind.u8 0, Value.int IntKind.u8 0, Value.int IntKind.u8 0, Value.int IntKind.u8 0, Value.int IntKind.u8 0, Value.int IntKind.u8 0, Value.int IntKind.u8 0, Value.int IntKind.u8 0] 30)).setRow w4.heap.size zero32 = w5 at *
  generalize w4.heap.size = pX at *
  go_wp2_with fail
  refine (HM25.out _ K5.out).mono ?_
  rintro e w6 ⟨rfl, g6⟩
  have K6 := Lib.hid (K5.out.trans g6)
  have U6 := Lib.hid (HU.out.chg g6 (by simp))
  clear g6 HU
  go_wp2_with fail
  refine (HM26.out _ (G2.out.trans K6.out)).mono ?_
  rintro e w7 ⟨rfl, g7⟩
  have K7 := Lib.hid (K6.out.trans g7)
  have U7 := Lib.hid (U6.out.chg g7 (by simp))
  clear g7 U6
  go_wp2_with fail
  refine (HSA.out _ K7.out).mono ?_
  rintro e w8 ⟨rfl, g8⟩
  have K8 := Lib.hid (K7.out.trans g8)
  have U8 := Lib.hid (U7.out.chg g8 (by simp))
  clear g8 U7
  go_wp2_with fail
  refine (HM26.out _ (G2.out.trans K8.out)).mono ?_
  rintro e w9 ⟨rfl, g9⟩
  have K9 := Lib.hid (G2.out.trans (K8.out.trans g9))
  have HRX : Hid (w9.rangeAt pX 0 M1) := Lib.hid (Blk.range (show BlkL w9 pX M1 30 from (by have h := U8.out.chg g9 (by simp); rw [HMZ.out] at h; exact h)))
  clear g9 U8 K3 K4 K5 K6 K7 K8 G1 G2 HM25 HM26 HSA
  go_wp2_with (refine wpList_load_want (by rfl) 30 (.tmp 6) rfl pX 0 rfl M1 _ HRX.out Tryd.underlying30 rfl HIZ2.out ?_)
  refine (HK.out _).mono ?_
  rintro e wk ⟨rfl, gk⟩
  have GK := Lib.hid (K9.out.trans gk)
  clear gk
  go_wp2_with fail
  go_ret
  exact ⟨rfl, GK.out⟩

set_option maxRecDepth 100000 in
set_option maxHeartbeats 64000000 in
theorem tforms_yes (L : List Fil) (A : Option Addr) (c : Nat) (w : World) (hT : TreeAt w A L) (hl : L.length ≤ 9223372036854775807) (hTb : Tabs w) (hnl : L.length * 40 ≤ 140737488355328) (hnx : ∀ f ∈ L, f.x.length ≤ 140737488355328) (hm : mayT L = true) :
    Calls Tryd.prog 6 #[.slice A L.length c] w fun e w' => e = .returned (.bool true) ∧ Chg none w w' := by
  have HK : Hid (∀ v, Calls Tryd.prog 21 #[] v fun e w' => e = .returned (.bool true) ∧ Chg none v w') := Lib.hid fun v => known5_any v
  have HGR := Lib.hid (t_great_any L A c w hT hl)
  have HCP := Lib.hid (fun v (g : Chg none w v) => tcopy_any L A c v (hT.chg g) hnl hnx)
  have HTA := Lib.hid (fun v (g : Chg none w v) => hT.chg g)
  have HTB := Lib.hid (fun v (g : Chg none w v) => hTb.chg g (by simp))
  have HNL := Lib.hid hnl
  have HNP := Lib.hid (fun f (h : f ∈ L) => (hT.2 f h).p)
  have HMM := Lib.hid hm
  have HM26 : Hid (∀ v, Chg none w v → Calls Tryd.prog 26 #[.slice A L.length c] v fun e w' => e = .returned (.bool true) ∧ Chg none v w') := Lib.hid fun v g => by
    have h := t_refmay_any L A c v (hT.chg g) hl
    rw [hm] at h
    exact h
  have hZ30 : ∀ W : World, (W.alloc (.cells #[Value.int IntKind.u8 0, Value.int IntKind.u8 0, Value.int IntKind.u8 0, Value.int IntKind.u8 0, Value.int IntKind.u8 0, Value.int IntKind.u8 0, Value.int IntKind.u8 0, Value.int IntKind.u8 0, Value.int IntKind.u8 0, Value.int IntKind.u8 0, Value.int IntKind.u8 0, Value.int IntKind.u8 0, Value.int IntKind.u8 0, Value.int IntKind.u8 0, Value.int IntKind.u8 0, Value.int IntKind.u8 0, Value.int IntKind.u8 0, Value.int IntKind.u8 0, Value.int IntKind.u8 0, Value.int IntKind.u8 0, Value.int IntKind.u8 0, Value.int IntKind.u8 0, Value.int IntKind.u8 0, Value.int IntKind.u8 0, Value.int IntKind.u8 0, Value.int IntKind.u8 0, Value.int IntKind.u8 0, Value.int IntKind.u8 0, Value.int IntKind.u8 0, Value.int IntKind.u8 0, Value.int IntKind.u8 0, Value.int IntKind.u8 0] 30)).heap[W.heap.size]? = some (.cells zero32 30 (0, 0)) := fun W => heap_alloc_new W _
  have HZ30 := Lib.hid hZ30
  have hg30 := guard30
  clear hT hTb hnl hnx hl hm hZ30
  go_enter Tryd.func6, Tryd.ntmps6
  go_wp2_with fail
  refine HGR.out.mono ?_
  rintro e w1 ⟨b, rfl, g1⟩
  have G1 := Lib.hid g1
  clear g1 HGR
  cases b
  rotate_left
  · as_aux_lemma =>
      go_wp2_with fail
      refine (HK.out w1).mono ?_
      rintro e wk ⟨rfl, gk⟩
      go_wp2_with fail
      go_ret
      exact ⟨rfl, G1.out.trans gk⟩
  have HC1 := Lib.hid (HCP.out w1 G1.out)
  clear HCP
  go_wp2_with fail
  refine HC1.out.mono ?_
  rintro e w2 ⟨A2, c2, M, rfl, ho2, hk2, hm2⟩
  have G2 := Lib.hid (G1.out.trans ho2.chg)
  have hkp : ∀ m ∈ M, m.p.length ≤ 9223372036854775807 := fun m hm => by
    have h1 : keyF m ∈ keys L := by rw [← hk2]; exact List.mem_map_of_mem hm
    obtain ⟨f, hf, hfe⟩ := List.mem_map.1 h1
    have h2 := HNP.out f hf
    have h3 : f.p = m.p := congrArg Prod.fst hfe
    rw [← h3]; exact h2
  have ht2 := ho2.tree hkp
  have hmM : mayT M = true := by rw [mayT_keys, hk2, ← mayT_keys]; exact HMM.out
  have htM : treeB M = treeB L := by rw [treeB_keys, hk2, ← treeB_keys]
  have hlM : M.length ≤ 9223372036854775807 := by rw [hm2]; have := HNL.out; omega
  have HSA : Hid (∀ v, Chg none w2 v → Calls Tryd.prog 27 #[.slice A2 L.length c2, .slice A L.length c] v fun e w' => e = .returned (.bool true) ∧ Chg none v w') := Lib.hid fun v g => by
    have h := t_refsame_any M L A2 A c2 c v (ht2.chg g) (HTA.out v (G2.out.trans g)) (by have := HNL.out; omega)
    rw [decide_eq_true hk2, hm2] at h
    exact h
  have HM25 : Hid (∀ v, Chg none w2 v → Calls Tryd.prog 25 #[.slice A2 L.length c2] v fun e w' => e = .returned (.bool true) ∧ Chg none v w') := Lib.hid fun v g => by
    have h := mayt_any M A2 c2 v (ht2.chg g) hlM
    rw [hm2, hmM] at h
    exact h
  have HB : Hid (Calls Tryd.prog 23 #[.slice A2 L.length c2] w2 fun e w' => ∃ A' n c', e = .returned (.tuple #[.slice A' n c', .int .i64 0]) ∧ ByAt w2 w' A' n c' (treeB L)) := Lib.hid (by
    have h := tbytes_yes M A2 c2 w2 ht2 hmM
    rw [hm2, htM] at h
    exact h)
  have HR : Hid (∀ v, Chg none w2 v → Calls Tryd.prog 24 #[.slice A2 L.length c2] v fun e w' => e = .returned (.tuple #[.agg (byteVals (rootB (treeB L))).toArray, .int .i64 0]) ∧ Chg none v w') := Lib.hid fun v g => by
    have h := troot_yes M A2 c2 v (ht2.chg g) hmM (HTB.out v (G2.out.trans g))
    rw [hm2, htM] at h
    exact h
  clear ho2 hk2 hm2 hkp ht2 hmM htM hlM HC1
  obtain ⟨X, hX⟩ : ∃ X, X = treeB L := ⟨_, rfl⟩
  have hXl : X.length ≤ 33000 := by rw [hX, ← partT_all (Nat.le_refl _)]; exact partT_len HMM.out _
  have hRX : readT X = some (keys L) := by rw [hX, treeB_keys]; exact readT_self (by rw [← mayT_keys]; exact HMM.out)
  have HRF : Hid (∀ v, Chg none w v → Calls Tryd.prog 29 #[.slice A L.length c] v fun e w' => ∃ A' n c', e = .returned (.slice A' n c') ∧ ByAt v w' A' n c' X) := Lib.hid fun v g => by
    rw [hX]
    exact refbytes37 L A c v (HTA.out v g) HMM.out
  rw [← hX] at HB HR
  have HXL := Lib.hid hXl
  have HXP := Lib.hid (readT_pos hRX)
  have HRX := Lib.hid hRX
  obtain ⟨D1, hD⟩ : ∃ D, D = rootB X := ⟨_, rfl⟩
  have hDl : D1.length = 32 := by rw [hD, rootB_len]
  obtain ⟨M1, hM1⟩ : ∃ M, M = byteVals D1 := ⟨_, rfl⟩
  have HRR : Hid (∀ (p : Prt) (v : World), p.ok v → p.x = X → Calls Tryd.prog 30 #[.slice p.A p.x.length p.c] v fun e w' => e = .returned (.agg M1.toArray) ∧ Chg none v w') := Lib.hid fun p v hp hx => by
    have h := rootd_any p v hp (by rw [hx]; omega)
    rw [hx, ← hD, ← hM1, ← hx] at h
    exact h
  rw [← hD, ← hM1] at HR
  have HI1 : Hid ((Tryd.prog.info? 30).map (·.size) = some M1.toArray.size) := Lib.hid (by rw [hM1]; exact byD_info D1 hDl)
  have HJ1 : Hid ((Tryd.prog.info? 30).map (·.size) = some M1.length) := Lib.hid (by have h := HI1.out; rw [List.size_toArray] at h; exact h)
  have HO1 : Hid (M1.toArray.all (·.oneCell') = true) := Lib.hid (by rw [hM1]; exact byD_one D1)
  have HS1 : Hid (zero32.size = M1.toArray.size) := Lib.hid (by rw [hM1, byD_size D1 hDl]; rfl)
  have hqc : ∀ v : World, (binOp .eql 30 (.agg M1.toArray) (.agg M1.toArray)).run Tryd.prog v = .ok (.bool true) v := fun v => by rw [hM1, eql30 D1 D1 hDl hDl v]; simp
  clear hX hXl hRX hD hDl hM1
  go_wp2_with fail
  refine HB.out.mono ?_
  rintro e w3 ⟨Ab, nb, cb, rfl, hb3⟩
  have K3 := Lib.hid hb3.2.2
  have HOB := Lib.hid hb3.2.1
  have HNB := Lib.hid hb3.1
  clear hb3 HB
  go_wp2_with fail
  refine (HR.out _ K3.out).mono ?_
  rintro e w4 ⟨rfl, g4⟩
  have K4 := Lib.hid g4
  clear g4 HR
  go_upto_region 6 with (refine wpList_store_row rfl 30 _ _ rfl w4.heap.size M1.toArray rfl rfl 30 _ (HZ30.out w4) HI1.out HS1.out HO1.out ?_)
  have k5 : Chg none w4 ((w4.alloc (.cells #[Value.int IntKind.u8 0, Value.int IntKind.u8 0, Value.int IntKind.u8 0, Value.int IntKind.u8 0, Value.int IntKind.u8 0, Value.int IntKind.u8 0, Value.int IntKind.u8 0, Value.int IntKind.u8 0, Value.int IntKind.u8 0, Value.int IntKind.u8 0, Value.int IntKind.u8 0, Value.int IntKind.u8 0, Value.int IntKind.u8 0, Value.int IntKind.u8 0, Value.int IntKind.u8 0, Value.int IntKind.u8 0, Value.int IntKind.u8 0, Value.int IntKind.u8 0, Value.int IntKind.u8 0, Value.int IntKind.u8 0, Value.int IntKind.u8 0, Value.int IntKind.u8 0, Value.int IntKind.u8 0, Value.int IntKind.u8 0, Value.int IntKind.u8 0, Value.int IntKind.u8 0, Value.int IntKind.u8 0, Value.int IntKind.u8 0, Value.int IntKind.u8 0, Value.int IntKind.u8 0, Value.int IntKind.u8 0, Value.int IntKind.u8 0] 30)).setRow w4.heap.size M1.toArray) := Chg.own (b := w4.heap.size) ((Chg.refl none w4).alloc _) (chg_setRow _ _ _) (Nat.le_refl _)
  have HU : Hid (Blk ((w4.alloc (.cells #[Value.int IntKind.u8 0, Value.int IntKind.u8 0, Value.int IntKind.u8 0, Value.int IntKind.u8 0, Value.int IntKind.u8 0, Value.int IntKind.u8 0, Value.int IntKind.u8 0, Value.int IntKind.u8 0, Value.int IntKind.u8 0, Value.int IntKind.u8 0, Value.int IntKind.u8 0, Value.int IntKind.u8 0, Value.int IntKind.u8 0, Value.int IntKind.u8 0, Value.int IntKind.u8 0, Value.int IntKind.u8 0, Value.int IntKind.u8 0, Value.int IntKind.u8 0, Value.int IntKind.u8 0, Value.int IntKind.u8 0, Value.int IntKind.u8 0, Value.int IntKind.u8 0, Value.int IntKind.u8 0, Value.int IntKind.u8 0, Value.int IntKind.u8 0, Value.int IntKind.u8 0, Value.int IntKind.u8 0, Value.int IntKind.u8 0, Value.int IntKind.u8 0, Value.int IntKind.u8 0, Value.int IntKind.u8 0, Value.int IntKind.u8 0] 30)).setRow w4.heap.size M1.toArray) w4.heap.size M1.toArray 30) := setRow_heap _ _ _ _ _ _ (HZ30.out w4)
  have K5 := Lib.hid (K4.out.trans k5)
  clear k5 HZ30 HO1 HI1 HS1
  generalize (w4.alloc (.cells #[Value.int IntKind.u8 0, Value.int IntKind.u8 0, Value.int IntKind.u8 0, Value.int IntKind.u8 0, Value.int IntKind.u8 0, Value.int IntKind.u8 0, Value.int IntKind.u8 0, Value.int IntKind.u8 0, Value.int IntKind.u8 0, Value.int IntKind.u8 0, Value.int IntKind.u8 0, Value.int IntKind.u8 0, Value.int IntKind.u8 0, Value.int IntKind.u8 0, Value.int IntKind.u8 0, Value.int IntKind.u8 0, Value.int IntKind.u8 0, Value.int IntKind.u8 0, Value.int IntKind.u8 0, Value.int IntKind.u8 0, Value.int IntKind.u8 0, Value.int IntKind.u8 0, Value.int IntKind.u8 0, Value.int IntKind.u8 0, Value.int IntKind.u8 0, Value.int IntKind.u8 0, Value.int IntKind.u8 0, Value.int IntKind.u8 0, Value.int IntKind.u8 0, Value.int IntKind.u8 0, Value.int IntKind.u8 0, Value.int IntKind.u8 0] 30)).setRow w4.heap.size M1.toArray = w5 at *
  generalize w4.heap.size = pX at *
  go_wp2_with fail
  refine (HM25.out _ (K3.out.trans K5.out)).mono ?_
  rintro e w6 ⟨rfl, g6⟩
  have K6 := Lib.hid (K5.out.trans g6)
  have U6 := Lib.hid (HU.out.chg g6 (by simp))
  clear g6 HU
  go_wp2_with fail
  refine (HM26.out _ (G2.out.trans (K3.out.trans K6.out))).mono ?_
  rintro e w7 ⟨rfl, g7⟩
  have K7 := Lib.hid (K6.out.trans g7)
  have U7 := Lib.hid (U6.out.chg g7 (by simp))
  clear g7 U6
  go_wp2_with fail
  refine (HSA.out _ (K3.out.trans K7.out)).mono ?_
  rintro e w8 ⟨rfl, g8⟩
  have K8 := Lib.hid (K7.out.trans g8)
  have U8 := Lib.hid (U7.out.chg g8 (by simp))
  clear g8 U7
  go_wp2_with fail
  refine (HM26.out _ (G2.out.trans (K3.out.trans K8.out))).mono ?_
  rintro e w9 ⟨rfl, g9⟩
  have K9 := Lib.hid (K8.out.trans g9)
  have U9 := Lib.hid (U8.out.chg g9 (by simp))
  have G9 := Lib.hid (G2.out.trans (K3.out.trans (K8.out.trans g9)))
  clear g9 U8 K4 K5 K6 K7 K8 G1 HM25 HM26 HSA
  have HOB9 := Lib.hid (own_chgW HOB.out K9.out)
  have HRD : Hid (Calls Tryd.prog 28 #[.slice Ab nb cb] w9 (ToldR w9 (readT X))) := Lib.hid (by
    have h := own_txt HOB9.out
    have hr := Reads.of_own HOB9.out
    rw [h.2.1] at hr ⊢
    exact tread_any Ab X cb w9 hr (by rw [← h.2.1]; exact h.2.2) (by have := HXL.out; omega))
  go_wp2_with fail
  refine HRD.out.mono ?_
  intro e w10 htold
  rcases htold with ⟨h1, -, -⟩ | ⟨A5, c5, M5, h1, rfl, ho5, hmay5⟩
  · exfalso; rw [HRX.out] at h1; cases h1
  have hk5 : keys M5 = keys L := by rw [HRX.out] at h1; injection h1 with h1; exact h1.symm
  have hkp5 : ∀ m ∈ M5, m.p.length ≤ 9223372036854775807 := fun m hm => by
    have h1 : keyF m ∈ keys L := by rw [← hk5]; exact List.mem_map_of_mem hm
    obtain ⟨f, hf, hfe⟩ := List.mem_map.1 h1
    have h2 := HNP.out f hf
    have h3 : f.p = m.p := congrArg Prod.fst hfe
    rw [← h3]; exact h2
  have hl5 : M5.length ≤ 16 := (mayT_parts hmay5).1
  have ht5 := ho5.tree hkp5
  have G10 := Lib.hid (G9.out.trans ho5.chg)
  have U10 := Lib.hid (U9.out.chg ho5.chg (by simp))
  have HO5 := Lib.hid ho5
  have HKP5 := Lib.hid hkp5
  have HSS : Hid (∀ v, TreeAt v A5 M5 → Chg none w v → Calls Tryd.prog 27 #[.slice A5 M5.length c5, .slice A L.length c] v fun e w' => e = .returned (.bool true) ∧ Chg none v w') := Lib.hid fun v h g => by
    have h := t_refsame_any M5 L A5 A c5 c v h (HTA.out v g) (by omega)
    rw [decide_eq_true hk5] at h
    exact h
  have HT5 := Lib.hid ht5
  have HOBX := Lib.hid (own_chgW HOB9.out ho5.chg)
  clear h1 hk5 hkp5 hl5 ht5 ho5 hmay5 HRD U9 HRX HNP HNL HMM HTA HTB
  go_upto_region 11 with fail
  have HS0 : Hid (∀ v, Chg none w10.drew v → Chg none w10 v) := Lib.hid fun v g => (Chg.refl none w10).drew.trans g
  have HCV : Hid (∀ v, Chg none w10.drew v → (convert 22 9 (.slice Ab nb cb)).run Tryd.prog v = .ok (.string ⟨X.toArray⟩) v) := Lib.hid fun v g => conv_reads v (Reads.of_own (own_chgW HOBX.out (HS0.out v g)))
  have HXR : Hid (∀ v, Chg none w10.drew v → Calls Tryd.prog 29 #[.slice A L.length c] v fun e w' => ∃ A' n c', e = .returned (.slice A' n c') ∧ ByAt v w' A' n c' X) := Lib.hid fun v g => HRF.out v (G10.out.trans (HS0.out v g))
  have HKR : Hid (∀ v, Chg none w10.drew v → Calls Tryd.prog 30 #[.slice Ab nb cb] v fun e w' => e = .returned (.agg M1.toArray) ∧ Chg none v w') := Lib.hid fun v g => by
    have h := own_txt (own_chgW HOBX.out (HS0.out v g))
    have h2 := HRR.out ⟨Ab, X, cb⟩ v ⟨h.1, by rw [← h.2.1]; exact h.2.2⟩ rfl
    rw [h.2.1]
    exact h2
  have HRG : Hid (∀ v, Chg none w10.drew v → v.rangeAt pX 0 M1) := Lib.hid fun v g => Blk.range (show BlkL v pX M1 30 from (U10.out.chg (HS0.out v g) (by simp)))
  have HSU : Hid (∀ v, Chg none w10.drew v → Calls Tryd.prog 27 #[.slice A5 M5.length c5, .slice A L.length c] v fun e w' => e = .returned (.bool true) ∧ Chg none v w') := Lib.hid fun v g => HSS.out v (HT5.out.chg (HS0.out v g)) (G10.out.trans (HS0.out v g))
  have HS0' := HS0
  have hS : Chg none w10.drew w10.drew := Chg.refl _ _
  refine wp_region_held_drew (S := fun v => Chg none w10.drew v) (by kernel_rfl) hS (fun _ => ?_)
  clear HS0 HRF HRR U10 HT5
  refine wpAnyH_take (i := 0) (oi := ⟨some 65, _, _, _, _, _⟩) (v := ?_) rfl (by kernel_rfl) (by kernel_rfl) (by kernel_rfl) (fun _ _ _ h => h) (Or.inl ⟨by rfl, ?_⟩) (by assumption) ?_
  rotate_left
  · intro v hSv; (try dsimp only at hSv); skip; go_simp; (try with_reducible rfl)
  try simp only [Act.put, List.setIfInBounds_toArray, List.set_cons_zero, List.set_cons_succ]
  refine wpAnyH_take (i := 1) (oi := ⟨some 66, _, _, _, _, _⟩) (v := ?_) rfl (by kernel_rfl) (by kernel_rfl) (by kernel_rfl) (fun _ _ _ h => h) (Or.inl ⟨by rfl, ?_⟩) (by assumption) ?_
  rotate_left
  · intro v hSv; (try dsimp only at hSv); skip; go_simp; (try with_reducible rfl)
  try simp only [Act.put, List.setIfInBounds_toArray, List.set_cons_zero, List.set_cons_succ]
  refine wpAnyH_take (i := 2) (oi := ⟨some 67, _, _, _, _, _⟩) (v := ?_) rfl (by kernel_rfl) (by kernel_rfl) (by kernel_rfl) (fun _ _ _ h => h) (Or.inl ⟨by rfl, ?_⟩) (by assumption) ?_
  rotate_left
  · intro v hSv; (try dsimp only at hSv); skip; go_simp; (try with_reducible rfl)
  try simp only [Act.put, List.setIfInBounds_toArray, List.set_cons_zero, List.set_cons_succ]
  refine wpAnyH_take (i := 3) (oi := ⟨some 68, _, _, _, _, _⟩) (v := ?_) rfl (by kernel_rfl) (by kernel_rfl) (by kernel_rfl) (fun _ _ _ h => h) (Or.inl ⟨by rfl, ?_⟩) (by assumption) ?_
  rotate_left
  · intro v hSv; (try dsimp only at hSv); skip; go_simp; (try with_reducible rfl)
  try simp only [Act.put, List.setIfInBounds_toArray, List.set_cons_zero, List.set_cons_succ]
  refine wpAnyH_take (i := 4) (oi := ⟨some 69, _, _, _, _, _⟩) (v := ?_) rfl (by kernel_rfl) (by kernel_rfl) (by kernel_rfl) (fun _ _ _ h => h) (Or.inl ⟨by rfl, ?_⟩) (by assumption) ?_
  rotate_left
  · intro v hSv; (try dsimp only at hSv); skip; go_simp; (try with_reducible rfl)
  try simp only [Act.put, List.setIfInBounds_toArray, List.set_cons_zero, List.set_cons_succ]
  refine wpAnyH_take (i := 5) (oi := ⟨some 70, _, _, _, _, _⟩) (v := ?_) rfl (by kernel_rfl) (by kernel_rfl) (by kernel_rfl) (fun _ _ _ h => h) (Or.inl ⟨by rfl, ?_⟩) (by assumption) ?_
  rotate_left
  · intro v hSv; (try dsimp only at hSv); skip; go_simp; (try with_reducible rfl)
  try simp only [Act.put, List.setIfInBounds_toArray, List.set_cons_zero, List.set_cons_succ]
  refine wpAnyH_take (i := 6) (oi := ⟨some 71, _, _, _, _, _⟩) (v := ?_) rfl (by kernel_rfl) (by kernel_rfl) (by kernel_rfl) (fun _ _ _ h => h) (Or.inl ⟨by rfl, ?_⟩) (by assumption) ?_
  rotate_left
  · intro v hSv; (try dsimp only at hSv); skip; go_simp; (try with_reducible rfl)
  try simp only [Act.put, List.setIfInBounds_toArray, List.set_cons_zero, List.set_cons_succ]
  refine wpAnyH_take (i := 7) (oi := ⟨some 72, _, _, _, _, _⟩) (v := ?_) rfl (by kernel_rfl) (by kernel_rfl) (by kernel_rfl) (fun _ _ _ h => h) (Or.inl ⟨by rfl, ?_⟩) (by assumption) ?_
  rotate_left
  · intro v hSv; (try dsimp only at hSv); skip; go_simp; (try with_reducible rfl)
  try simp only [Act.put, List.setIfInBounds_toArray, List.set_cons_zero, List.set_cons_succ]
  refine wpAnyH_take (i := 8) (oi := ⟨some 73, _, _, _, _, _⟩) (v := ?_) rfl (by kernel_rfl) (by kernel_rfl) (by kernel_rfl) (fun _ _ _ h => h) (Or.inl ⟨by rfl, ?_⟩) (by assumption) ?_
  rotate_left
  · intro v hSv; (try dsimp only at hSv); skip; go_simp; (try with_reducible rfl)
  try simp only [Act.put, List.setIfInBounds_toArray, List.set_cons_zero, List.set_cons_succ]
  refine wpAnyH_take (i := 9) (oi := ⟨some 74, _, _, _, _, _⟩) (v := ?_) rfl (by kernel_rfl) (by kernel_rfl) (by kernel_rfl) (fun _ _ _ h => h) (Or.inl ⟨by rfl, ?_⟩) (by assumption) ?_
  rotate_left
  · intro v hSv; (try dsimp only at hSv); skip; go_simp; (try with_reducible rfl)
  try simp only [Act.put, List.setIfInBounds_toArray, List.set_cons_zero, List.set_cons_succ]
  refine wpAnyH_take (i := 10) (oi := ⟨some 75, _, _, _, _, _⟩) (v := ?_) rfl (by kernel_rfl) (by kernel_rfl) (by kernel_rfl) (fun _ _ _ h => h) (Or.inl ⟨by rfl, ?_⟩) (by assumption) ?_
  rotate_left
  · intro v hSv; (try dsimp only at hSv); skip; go_simp; (try with_reducible rfl)
  try simp only [Act.put, List.setIfInBounds_toArray, List.set_cons_zero, List.set_cons_succ]
  refine wpAnyH_take (i := 11) (oi := ⟨some 76, _, _, _, _, _⟩) (v := ?_) rfl (by kernel_rfl) (by kernel_rfl) (by kernel_rfl) (fun _ _ _ h => h) (Or.inl ⟨by rfl, ?_⟩) (by assumption) ?_
  rotate_left
  · intro v hSv; (try dsimp only at hSv); skip; go_simp; (try with_reducible rfl)
  try simp only [Act.put, List.setIfInBounds_toArray, List.set_cons_zero, List.set_cons_succ]
  refine wpAnyH_take (i := 12) (oi := ⟨some 77, _, _, _, _, _⟩) (v := .string ⟨X.toArray⟩) rfl (by kernel_rfl) (by kernel_rfl) (by kernel_rfl) (fun _ _ _ h => h) (Or.inl ⟨by rfl, ?_⟩) (by assumption) ?_
  · intro v hSv; have hc := HCV.out v hSv; go_simp
  try simp only [Act.put, List.setIfInBounds_toArray, List.set_cons_zero, List.set_cons_succ]
  refine wpAnyH_take (i := 13) (oi := ⟨some 78, _, _, _, _, _⟩) (v := ?_) rfl (by kernel_rfl) (by kernel_rfl) (by kernel_rfl) (fun _ _ _ h => h) (Or.inl ⟨by rfl, ?_⟩) (by assumption) ?_
  rotate_left
  · intro v hSv; (try dsimp only at hSv); skip; go_simp; (try with_reducible rfl)
  try simp only [Act.put, List.setIfInBounds_toArray, List.set_cons_zero, List.set_cons_succ]
  refine wpAnyH_ready (rs := [14]) (by kernel_rfl) (by simp) ?_
  refine AllReadyH.cons (o := ⟨some 79, _, _, _, _, _⟩) rfl (fun K hK => ?_) (AllReadyH.nil)
  (try rw [if_pos (by rfl)])
  go_simp
  go_at_call 29
  refine (HXR.out _ hS).mono ?_
  rintro e v1 ⟨PA, pn, pc, rfl, hb1⟩
  have hS1 := Chg.trans hS hb1.2.2
  have HC2 : Hid (∀ v, Chg none v1 v → (convert 22 9 (.slice PA pn pc)).run Tryd.prog v = .ok (.string ⟨X.toArray⟩) v) := fun v g => conv_reads v (Reads.of_own (own_chgW hb1.2.1 g))
  clear hb1
  go_wp2_with fail
  refine hK.out _ _ hS1 (fun _ => ?_)
  clear hK K
  try simp only [Act.put, List.setIfInBounds_toArray, List.set_cons_zero, List.set_cons_succ]
  refine wpAnyH_to (S2 := fun v => Chg none v1 v) (fun v h => hS1.trans h) ?_
  have E1 := Chg.refl none v1
  refine wpAnyH_take (i := 15) (oi := ⟨some 80, _, _, _, _, _⟩) (v := .string ⟨X.toArray⟩) rfl (by kernel_rfl) (by kernel_rfl) (by kernel_rfl) (fun _ _ _ h => h) (Or.inl ⟨by rfl, ?_⟩) (by assumption) ?_
  · intro v hSv; have hc := HC2.out v hSv; go_simp
  try simp only [Act.put, List.setIfInBounds_toArray, List.set_cons_zero, List.set_cons_succ]
  refine wpAnyH_take (i := 16) (oi := ⟨some 81, _, _, _, _, _⟩) (v := .bool true) rfl (by kernel_rfl) (by kernel_rfl) (by kernel_rfl) (fun _ _ _ h => h) (Or.inl ⟨by rfl, ?_⟩) (by assumption) ?_
  · intro v hSv; have hc := hSv; go_simp
  try simp only [Act.put, List.setIfInBounds_toArray, List.set_cons_zero, List.set_cons_succ]
  refine wpAnyH_take (i := 17) (oi := ⟨some 82, _, _, _, _, _⟩) (v := ?_) rfl (by kernel_rfl) (by kernel_rfl) (by kernel_rfl) (fun _ _ _ h => h) (Or.inl ⟨by rfl, ?_⟩) (by assumption) ?_
  rotate_left
  · intro v hSv; (try dsimp only at hSv); skip; go_simp; (try with_reducible rfl)
  try simp only [Act.put, List.setIfInBounds_toArray, List.set_cons_zero, List.set_cons_succ]
  refine wpAnyH_take (i := 18) (oi := ⟨some 83, _, _, _, _, _⟩) (v := ?_) rfl (by kernel_rfl) (by kernel_rfl) (by kernel_rfl) (fun _ _ _ h => h) (Or.inl ⟨by rfl, ?_⟩) (by assumption) ?_
  rotate_left
  · intro v hSv; (try dsimp only at hSv); skip; go_simp; (try with_reducible rfl)
  try simp only [Act.put, List.setIfInBounds_toArray, List.set_cons_zero, List.set_cons_succ]
  refine wpAnyH_take (i := 19) (oi := ⟨some 84, _, _, _, _, _⟩) (v := .agg M1.toArray) rfl (by kernel_rfl) (by kernel_rfl) (by kernel_rfl) (fun _ _ _ h => h) (yieldsIf_load_mid (by rfl) 30 _ rfl pX 0 rfl M1 _ (fun v h => HRG.out v (hS1.trans h)) Tryd.underlying30 rfl HJ1.out) (by assumption) ?_
  try simp only [Act.put, List.setIfInBounds_toArray, List.set_cons_zero, List.set_cons_succ]
  refine wpAnyH_take (i := 20) (oi := ⟨some 85, _, _, _, _, _⟩) (v := ?_) rfl (by kernel_rfl) (by kernel_rfl) (by kernel_rfl) (fun _ _ _ h => h) (Or.inl ⟨by rfl, ?_⟩) (by assumption) ?_
  rotate_left
  · intro v hSv; (try dsimp only at hSv); skip; go_simp; (try with_reducible rfl)
  try simp only [Act.put, List.setIfInBounds_toArray, List.set_cons_zero, List.set_cons_succ]
  refine wpAnyH_ready (rs := [21]) (by kernel_rfl) (by simp) ?_
  refine AllReadyH.cons (o := ⟨some 86, _, _, _, _, _⟩) rfl (fun K hK => ?_) (AllReadyH.nil)
  (try rw [if_pos (by rfl)])
  go_simp
  go_at_call 30
  refine (HKR.out _ (hS1.trans E1)).mono ?_
  rintro e v2 ⟨rfl, k2⟩
  have E2 := Chg.trans E1 k2
  clear k2
  go_wp2_with fail
  refine hK.out _ _ E2 (fun _ => ?_)
  clear hK K
  try simp only [Act.put, List.setIfInBounds_toArray, List.set_cons_zero, List.set_cons_succ]
  refine wpAnyH_take (i := 22) (oi := ⟨some 87, _, _, _, _, _⟩) (v := .bool true) rfl (by kernel_rfl) (by kernel_rfl) (by kernel_rfl) (fun _ _ _ h => h) (Or.inl ⟨by rfl, ?_⟩) (by assumption) ?_
  · intro v hSv; have hq := hqc v; go_simp
  try simp only [Act.put, List.setIfInBounds_toArray, List.set_cons_zero, List.set_cons_succ]
  refine wpAnyH_take (i := 23) (oi := ⟨some 88, _, _, _, _, _⟩) (v := ?_) rfl (by kernel_rfl) (by kernel_rfl) (by kernel_rfl) (fun _ _ _ h => h) (Or.inl ⟨by rfl, ?_⟩) (by assumption) ?_
  rotate_left
  · intro v hSv; (try dsimp only at hSv); skip; go_simp; (try with_reducible rfl)
  try simp only [Act.put, List.setIfInBounds_toArray, List.set_cons_zero, List.set_cons_succ]
  refine wpAnyH_take (i := 24) (oi := ⟨some 89, _, _, _, _, _⟩) (v := ?_) rfl (by kernel_rfl) (by kernel_rfl) (by kernel_rfl) (fun _ _ _ h => h) (Or.inl ⟨by rfl, ?_⟩) (by assumption) ?_
  rotate_left
  · intro v hSv; (try dsimp only at hSv); skip; go_simp; (try with_reducible rfl)
  try simp only [Act.put, List.setIfInBounds_toArray, List.set_cons_zero, List.set_cons_succ]
  refine wpAnyH_take (i := 25) (oi := ⟨some 90, _, _, _, _, _⟩) (v := ?_) rfl (by kernel_rfl) (by kernel_rfl) (by kernel_rfl) (fun _ _ _ h => h) (Or.inl ⟨by rfl, ?_⟩) (by assumption) ?_
  rotate_left
  · intro v hSv; (try dsimp only at hSv); skip; go_simp; (try with_reducible rfl)
  try simp only [Act.put, List.setIfInBounds_toArray, List.set_cons_zero, List.set_cons_succ]
  refine wpAnyH_take (i := 26) (oi := ⟨some 91, _, _, _, _, _⟩) (v := ?_) rfl (by kernel_rfl) (by kernel_rfl) (by kernel_rfl) (fun _ _ _ h => h) (Or.inl ⟨by rfl, ?_⟩) (by assumption) ?_
  rotate_left
  · intro v hSv; (try dsimp only at hSv); skip; go_simp; (try with_reducible rfl)
  try simp only [Act.put, List.setIfInBounds_toArray, List.set_cons_zero, List.set_cons_succ]
  refine wpAnyH_ready (rs := [27]) (by kernel_rfl) (by simp) ?_
  refine AllReadyH.cons (o := ⟨some 92, _, _, _, _, _⟩) rfl (fun K hK => ?_) (AllReadyH.nil)
  (try rw [if_pos (by rfl)])
  go_simp
  go_at_call 27
  refine (HSU.out _ (hS1.trans E2)).mono ?_
  rintro e v3 ⟨rfl, k3⟩
  have E3 := Chg.trans E2 k3
  clear k3
  go_wp2_with fail
  refine hK.out _ _ E3 (fun _ => ?_)
  clear hK K
  try simp only [Act.put, List.setIfInBounds_toArray, List.set_cons_zero, List.set_cons_succ]
  refine wpAnyH_take (i := 28) (oi := ⟨some 93, _, _, _, _, _⟩) (v := ?_) rfl (by kernel_rfl) (by kernel_rfl) (by kernel_rfl) (fun _ _ _ h => h) (Or.inl ⟨by rfl, ?_⟩) (by assumption) ?_
  rotate_left
  · intro v hSv; (try dsimp only at hSv); skip; go_simp; (try with_reducible rfl)
  try simp only [Act.put, List.setIfInBounds_toArray, List.set_cons_zero, List.set_cons_succ]
  refine wpAnyH_take (i := 29) (oi := ⟨some 10, _, _, _, _, _⟩) (v := ?_) rfl (by kernel_rfl) (by kernel_rfl) (by kernel_rfl) (fun _ _ _ h => h) (Or.inl ⟨by rfl, ?_⟩) (by assumption) ?_
  rotate_left
  · intro v hSv; (try dsimp only at hSv); skip; go_simp; (try with_reducible rfl)
  try simp only [Act.put, List.setIfInBounds_toArray, List.set_cons_zero, List.set_cons_succ]
  refine wpAnyH_done (by kernel_rfl) ?_ _
  try simp only [Act.put]
  have K11 := Lib.hid (HS0'.out _ (hS1.trans E3))
  clear HS0' HCV HXR HKR HRG HSU hS HC2 hqc hS1 E1 E2 E3
  obtain ⟨w11, rfl⟩ : ∃ v, v = v3 := ⟨_, rfl⟩
  have G11 := Lib.hid (G10.out.trans K11.out)
  have HOB11 := Lib.hid (own_chgW HOBX.out K11.out)
  have hnpos : 0 < nb := by rw [HNB.out]; exact HXP.out
  obtain ⟨g, rfl, hgb, hgl, hrow⟩ := row_u8 HOB11.out hnpos
  have hg9 : g < w9.heap.size := by
    obtain ⟨g', rfl', -, hgl', -⟩ := row_u8 HOB9.out hnpos
    injection rfl' with e1; injection e1 with e2; rw [e2]; exact hgl'
  have hgw : w.heap.size ≤ g := by have := G2.out.size; omega
  have hn : nb ≤ 33000 := by have := HXL.out; have := HNB.out; omega
  have HROW := Lib.hid hrow
  have HG9 := Lib.hid hg9
  have HGW := Lib.hid hgw
  clear hrow hg9 hgw hgb hgl HOB HOB9 HOBX HOB11 HNB K3 K9 HXL HXP hnpos
  go_wp2_with fail
  go_loopw [96] (fun s96 wr => ∃ k : Nat, k ≤ nb ∧ s96 = .int .i64 k ∧ Hid (Chg (some g) w11 wr ∧ RowU8 wr g nb)) (fun i _ => nb - (intOf i).toNat)
  case atStart => exact ⟨0, by omega, rfl, Lib.hid ⟨Chg.refl _ _, HROW.out⟩⟩
  case round =>
    obtain ⟨k, hk, rfl, HR2⟩ := hrel
    by_cases hlt : k < nb
    · obtain ⟨x, hx0, hx1, hcx, hfx⟩ := HR2.out.2.at_ hlt
      go_wp2_with fail
      go_roundw
      case rel => exact ⟨k + 1, by omega, by go_num, Lib.hid ⟨HR2.out.1.setCell _ _, HR2.out.2.set hlt (by omega)⟩⟩
      case measure => simp [intOf]; omega
    · have G12 := Lib.hid (Chg.own G11.out HR2.out.1 HGW.out)
      have HT6 := Lib.hid ((HO5.out.on K11.out).tree_but HR2.out.1 HG9.out HKP5.out)
      go_wp2_with fail
      refine (HSS.out _ HT6.out G12.out).mono ?_
      rintro e w12 ⟨rfl, g12⟩
      have G13 := Lib.hid (G12.out.trans g12)
      clear g12
      go_wp2_with fail
      refine (HK.out _).mono ?_
      rintro e wk ⟨rfl, gk⟩
      have GK := Lib.hid (G13.out.trans gk)
      clear gk
      go_wp2_with fail
      go_ret
      exact ⟨rfl, GK.out⟩


theorem tforms_law (L : List Fil) (A : Option Addr) (c : Nat) (w : World) (hT : TreeAt w A L) (hl : L.length ≤ 9223372036854775807) (hTb : Tabs w) (hnl : L.length * 40 ≤ 140737488355328) (hnx : ∀ f ∈ L, f.x.length ≤ 140737488355328) :
    Calls Tryd.prog 6 #[.slice A L.length c] w fun e w' => e = .returned (.bool true) ∧ Chg none w w' := by
  by_cases hm : mayT L = true
  · exact tforms_yes L A c w hT hl hTb hnl hnx hm
  · exact tforms_no L A c w hT hl hTb hnl hnx (by simpa using hm)

end Go.Proofs.YtglfakglcoffkaaDoor
