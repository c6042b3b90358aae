/-
  Package attest: Make that refuses; Right.
-/
import Derived.Test.YtehpigmcmgfkoaaDoorA3
namespace Go.Proofs.YtehpigmcmgfkoaaDoor
open Go.RowKit

set_option maxRecDepth 100000 in
set_option maxHeartbeats 8000000 in
theorem make_no (k r : Dg) (n : Int) (A : Option Addr) (l c : Nat) (w : World) (hm : mayB n = false) :
    Calls Tryd.prog 25 #[.slice A l c, .agg (byteVals k.1).toArray, .agg (byteVals r.1).toArray, .int .i64 n] w fun e w' => e = .returned (.tuple #[.agg (attCells zeroAtt).toArray, .int .i64 2]) ∧ Chg none w w' := by
  obtain ⟨W3, hW3⟩ : ∃ W3, W3 = ((w.alloc (.cells (byteVals k.1).toArray 30)).alloc (.cells (byteVals r.1).toArray 30)).alloc (.cells Tryd.zeroCells46 46) := ⟨_, rfl⟩
  have HW3 : Hid (((w.alloc (.cells (byteVals k.1).toArray 30)).alloc (.cells (byteVals r.1).toArray 30)).alloc (.cells Tryd.zeroCells46 46) = W3) := hW3.symm
  have g0 : Chg none w W3 := by rw [hW3]; exact (((Chg.refl _ _).alloc _).alloc _).alloc _
  have bK : BlkL W3 w.heap.size (byteVals k.1) 30 := by rw [hW3]; exact Blk.alloc (Blk.alloc (Blk.new _ _ _) _) _
  have bR : BlkL W3 (w.heap.size + 1) (byteVals r.1) 30 := by rw [hW3]; exact Blk.alloc (Blk.newAt _ _ (by simp)) _
  have bS : BlkL W3 (w.heap.size + 1 + 1) (attCells zeroAtt) 46 := by rw [hW3, zero46]; exact Blk.newAt _ _ (by simp)
  obtain ⟨a0, ha0⟩ : ∃ a0 : Att, a0 = ⟨k, r, n, zeroDg⟩ := ⟨_, rfl⟩
  have hbu : Tryd.prog.built 46 [(0, .agg (byteVals k.1).toArray), (1, .agg (byteVals r.1).toArray), (2, .int .i64 n)] = some (attCells a0).toArray := by rw [ha0]; exact built46_3 k r n
  have HBU := Lib.hid hbu
  have HIK : Hid ((Tryd.prog.info? 30).map (·.size) = some (byteVals k.1).length) := by rw [byteVals_len, k.2]; show _ = _; kernel_rfl
  have HIR : Hid ((Tryd.prog.info? 30).map (·.size) = some (byteVals r.1).length) := by rw [byteVals_len, r.2]; show _ = _; kernel_rfl
  have HI0 := Lib.hid (info46a a0)
  have HI0l := Lib.hid (info46 a0)
  have HO0 := Lib.hid (attCells_one a0)
  have HOZ := Lib.hid (attCells_one zeroAtt)
  have HIZ := Lib.hid (info46a zeroAtt)
  have HZ0 : Hid (Tryd.zeroCells46.size = (attCells a0).toArray.size) := by rw [zero46, List.size_toArray, List.size_toArray, attCells_len, attCells_len]; rfl
  have HMY : Hid (∀ v, Calls Tryd.prog 45 #[.agg (attCells a0).toArray] v fun e w' => e = .returned (.bool false) ∧ Chg none v w') := fun v => by
    have := may_any a0 v
    have hb : mayB a0.n = false := by rw [ha0]; exact hm
    rwa [hb] at this
  have hle1 : w.heap.size ≤ w.heap.size + 1 + 1 := by omega
  obtain ⟨C0, hC0⟩ : ∃ C0, C0 = (attCells a0).toArray := ⟨_, rfl⟩
  obtain ⟨CZ, hCZ⟩ : ∃ CZ, CZ = (attCells zeroAtt).toArray := ⟨_, rfl⟩
  have HC0 := Lib.hid hC0
  rw [← hC0] at HBU HI0 HO0 HZ0 HMY
  rw [← hCZ] at HOZ HIZ ⊢
  have HBZ : Hid (Tryd.prog.built 46 [] = some CZ) := by rw [hCZ]; exact built46_0
  have HBS : Hid (∀ v, Chg none W3 v → v.heap[w.heap.size + 1 + 1]? = some (.cells CZ 46 (0, 0))) := fun v g => by rw [hCZ]; exact Blk.chg bS g (by simp)
  have HLS : Hid (w.heap.size + 1 + 1 < W3.heap.size) := Blk.lt bS
  obtain ⟨CK, hCK⟩ : ∃ CK, CK = (byteVals k.1).toArray := ⟨_, rfl⟩
  obtain ⟨CR, hCR⟩ : ∃ CR, CR = (byteVals r.1).toArray := ⟨_, rfl⟩
  have HCK := Lib.hid hCK
  have HCR := Lib.hid hCR
  rw [← hCK, ← hCR] at HW3 ⊢
  rw [← hCK, ← hCR] at HBU
  clear hW3 ha0 hbu hC0 hCZ hCK hCR hm bS
  go_enter Tryd.func25, Tryd.ntmps25
  go_upto_region 1 with fail
  rw [HW3.out]
  clear HW3
  generalize hpS : w.heap.size + 1 + 1 = pS at *
  generalize w.heap.size + 1 = pR at *
  generalize hpK : w.heap.size = pK at *
  have HPK := Lib.hid hpK
  clear hpK hpS
  have HRK := Lib.hid (Blk.range bK)
  have HRR := Lib.hid (Blk.range bR)
  have HNW := Lib.hid (heap_alloc_new W3 (.cells Tryd.zeroCells46 46))
  have gB : Chg none W3 (W3.alloc (.cells Tryd.zeroCells46 46)) := (Chg.refl _ _).alloc _
  have gB2 : Chg (some W3.heap.size) (W3.alloc (.cells Tryd.zeroCells46 46)) ((W3.alloc (.cells Tryd.zeroCells46 46)).setRow W3.heap.size C0) := chg_setRow _ _ _
  obtain ⟨W4, hW4⟩ : ∃ W4, W4 = (W3.alloc (.cells Tryd.zeroCells46 46)).setRow W3.heap.size C0 := ⟨_, rfl⟩
  have HW4 : Hid ((W3.alloc (.cells Tryd.zeroCells46 46)).setRow W3.heap.size C0 = W4) := hW4.symm
  have g34 : Chg none W3 W4 := by rw [hW4]; exact Chg.own (b := W3.heap.size) gB gB2 (Nat.le_refl _)
  have bA : BlkL W4 W3.heap.size (attCells a0) 46 := by
    rw [hW4]
    have h : ((W3.alloc (.cells Tryd.zeroCells46 46)).setRow W3.heap.size C0).heap[W3.heap.size]? = some (.cells C0 46 (0, 0)) := setRow_heap _ _ _ _ _ _ HNW.out
    rw [HC0.out] at h ⊢
    exact h
  have g04 := g0.trans g34
  clear hW4 gB gB2
  go_upto_region 2 with (first
    | (refine wpList_load_mid rfl 30 _ rfl pK 0 rfl (byteVals k.1) _ HRK.out Tryd.underlying30 rfl HIK.out ?_)
    | (refine wpList_load_mid rfl 30 _ rfl pR 0 rfl (byteVals r.1) _ HRR.out Tryd.underlying30 rfl HIR.out ?_)
    | (refine wpList_buildTo rfl 46 _ rfl (some 14) rfl C0 (by simp only [List.map_toArray, List.map_cons, List.map_nil]; have h := HBU.out; rw [HCK.out, HCR.out] at h; exact h) ?_)
    | (refine wpList_store_row rfl 46 _ _ rfl W3.heap.size C0 rfl rfl 46 _ HNW.out HI0.out HZ0.out HO0.out ?_))
  rw [HW4.out]
  clear HW4 HNW HRK HRR HBU HZ0 HO0 bK bR HLS
  generalize W3.heap.size = pA at *
  have HRA := Lib.hid (Blk.range bA)
  go_wp2_with (refine wpList_load_mid rfl 46 _ rfl pA 0 rfl (attCells a0) _ HRA.out Tryd.underlying46 rfl HI0l.out ?_)
  rw [← HC0.out]
  refine (HMY.out _).mono ?_
  rintro e w5 ⟨rfl, g5⟩
  have HRS := Lib.hid (HBS.out w5 (g34.trans g5))
  have g05 := g04.trans g5
  clear HMY HBS bA g04 g5 HRA g34 g0
  go_wp2_with (first
    | (refine wpList_buildTo rfl 46 _ rfl (some 18) rfl CZ (by simp only [List.map_toArray, List.map_nil]; exact HBZ.out) ?_)
    | (refine wpList_store_row rfl 46 _ _ rfl pS CZ rfl rfl 46 _ HRS.out HIZ.out rfl HOZ.out ?_))
  refine bodyPost_ret (results_cell_tmp (p := 8) (q := 9) (ty := 46) Tryd.results25 _ _ pS 46 CZ (0, 0) _ rfl (setRow_heap _ _ _ _ _ _ HRS.out) Tryd.underlying46 rfl HIZ.out) rfl ⟨rfl, ?_⟩
  exact Chg.own (b := pS) g05 (chg_setRow _ _ _) (by rw [HPK.out]; exact hle1)

/-- Is it right by the secret? -/
def rightB (s : List UInt8) (a : Att) : Bool := mayB a.n && (a.t.1 == (tagDg s a.k a.r a.n.toNat).1)

set_option maxRecDepth 100000 in
set_option maxHeartbeats 8000000 in
theorem right_any (a : Att) (p : Prt) (w : World) (hp : p.ok w) (hpl : p.x.length ≤ 900000) (hT : Tabs w) :
    Calls Tryd.prog 27 #[.slice p.A p.x.length p.c, .agg (attCells a).toArray] w fun e w' => e = .returned (.bool (rightB p.x a)) ∧ Chg none w w' := by
  have gA : Chg none w (w.alloc (.cells (attCells a).toArray 46)) := (Chg.refl _ _).alloc _
  have rA := Blk.range (show BlkL (w.alloc (.cells (attCells a).toArray 46)) w.heap.size (attCells a) 46 from Blk.new _ _ _)
  have HMY := Lib.hid (fun v => may_any a v)
  have HI46 := Lib.hid (info46 a)
  have HIT : Hid ((Tryd.prog.info? 30).map (·.size) = some (byteVals a.t.1).length) := by rw [byteVals_len, a.t.2]; show _ = _; kernel_rfl
  obtain ⟨C0, hC0⟩ : ∃ C0, C0 = (attCells a).toArray := ⟨_, rfl⟩
  have HC0 := Lib.hid hC0
  have hS0 : (w.alloc (.cells (attCells a).toArray 46)).drew.rangeAt w.heap.size 0 (attCells a) := rA
  have E0 : Chg none w (w.alloc (.cells (attCells a).toArray 46)).drew := gA.drew
  rw [← hC0] at hS0 E0 HMY ⊢
  obtain ⟨W1, hW1⟩ : ∃ W1, W1 = w.alloc (.cells C0 46) := ⟨_, rfl⟩
  have HW1 : Hid (w.alloc (.cells C0 46) = W1) := hW1.symm
  rw [← hW1] at hS0 E0
  obtain ⟨RB, hRB⟩ : ∃ RB, RB = rightB p.x a := ⟨_, rfl⟩
  have HRB := Lib.hid hRB
  rw [← hRB]
  have HTG : Hid (mayB a.n = true → ∀ v, Chg none w v → Calls Tryd.prog 46 #[.slice p.A p.x.length p.c, .agg C0] v fun e w' => e = .returned (.agg (byteVals (tagDg p.x a.k a.r a.n.toNat).1).toArray) ∧ Chg none v w') := fun hm v g => by
    have h2 : 1 ≤ a.n ∧ a.n ≤ 5000 := by unfold mayB at hm; simpa using hm
    have := tagof_any a a.n.toNat p v (by omega) (by omega) (hp.chg g) hpl (hT.chg g (by simp))
    rw [hC0]; exact this
  have HSA : Hid (∀ (v : World) (x y : Dg), Calls Tryd.prog 23 #[.agg (byteVals x.1).toArray, .agg (byteVals y.1).toArray] v fun e w' => e = .returned (.bool (x.1 == y.1)) ∧ Chg none v w') := fun v x y => same_any x.1 y.1 x.2 y.2 v
  clear hC0 hW1 hRB hp hT gA rA
  by_cases hm : mayB a.n = true
  · have HT1 := Lib.hid (HTG.out hm)
    have hrb : RB = (a.t.1 == (tagDg p.x a.k a.r a.n.toNat).1) := by rw [HRB.out]; unfold rightB; rw [hm, Bool.true_and]
    rw [hm] at HMY
    generalize tagDg p.x a.k a.r a.n.toNat = T at *
    have HRR := Lib.hid hrb
    clear HTG hm hrb HRB
    go_enter Tryd.func27, Tryd.ntmps27
    go_upto_region 1 with fail
    rw [HW1.out]
    clear HW1
    generalize w.heap.size = pA at *
    refine wp_region_held_drew (S := fun w' => w'.rangeAt pA 0 (attCells a)) (by kernel_rfl) hS0 (fun _ => ?_)
    generalize W1.drew = v0 at *
    refine wpAnyH_take (i := 0) (oi := ⟨some 5, _, _, _, _, _⟩) (v := .agg C0) rfl (by kernel_rfl) (by kernel_rfl) (by kernel_rfl) (fun _ _ _ h => h) (by rw [HC0.out]; exact yieldsIf_load_mid (by rfl) 46 _ rfl pA 0 rfl (attCells a) _ (fun _ h => h) Tryd.underlying46 rfl HI46.out) (by assumption) ?_
    try simp only [Act.put, List.setIfInBounds_toArray, List.set_cons_zero, List.set_cons_succ]
    refine wpAnyH_ready (rs := [1]) (by kernel_rfl) (by simp) ?_
    refine AllReadyH.cons (o := ⟨some 6, _, _, _, _, _⟩) rfl (fun K hK => ?_) (AllReadyH.nil)
    go_simp
    go_at_call 45
    refine (HMY.out _).mono ?_
    rintro e v1 ⟨rfl, g1⟩
    have E1 := E0.trans g1
    have hS1 : v1.rangeAt pA 0 (attCells a) := rangeAt_chg hS0 g1 (by simp)
    go_wp2_with fail
    refine hK.out _ _ hS1 (fun _ => ?_)
    clear hK K
    try simp only [Act.put, List.setIfInBounds_toArray, List.set_cons_zero, List.set_cons_succ]
    refine wpAnyH_take (i := 2) (oi := ⟨some 7, _, _, _, _, _⟩) (v := ?_) rfl (by kernel_rfl) (by kernel_rfl) (by kernel_rfl) (fun _ _ _ h => h) (Or.inl ⟨by rfl, ?_⟩) (by assumption) ?_
    rotate_left
    · intro w hSw; (try dsimp only at hSw); go_simp; (try with_reducible rfl)
    try simp only [Act.put, List.setIfInBounds_toArray, List.set_cons_zero, List.set_cons_succ]
    refine wpAnyH_take (i := 3) (oi := ⟨some 8, _, _, _, _, _⟩) (v := ?_) rfl (by kernel_rfl) (by kernel_rfl) (by kernel_rfl) (fun _ _ _ h => h) (Or.inl ⟨by rfl, ?_⟩) (by assumption) ?_
    rotate_left
    · intro w hSw; (try dsimp only at hSw); go_simp; (try with_reducible rfl)
    try simp only [Act.put, List.setIfInBounds_toArray, List.set_cons_zero, List.set_cons_succ]
    refine wpAnyH_take (i := 4) (oi := ⟨some 9, _, _, _, _, _⟩) (v := .agg (byteVals a.t.1).toArray) rfl (by kernel_rfl) (by kernel_rfl) (by kernel_rfl) (fun _ _ _ h => h) (yieldsIf_load_mid (by rfl) 30 _ rfl pA 65 rfl (byteVals a.t.1) _ (fun _ h => att_tag h) Tryd.underlying30 rfl HIT.out) (by assumption) ?_
    try simp only [Act.put, List.setIfInBounds_toArray, List.set_cons_zero, List.set_cons_succ]
    refine wpAnyH_take (i := 5) (oi := ⟨some 10, _, _, _, _, _⟩) (v := ?_) rfl (by kernel_rfl) (by kernel_rfl) (by kernel_rfl) (fun _ _ _ h => h) (Or.inl ⟨by rfl, ?_⟩) (by assumption) ?_
    rotate_left
    · intro w hSw; (try dsimp only at hSw); go_simp; (try with_reducible rfl)
    try simp only [Act.put, List.setIfInBounds_toArray, List.set_cons_zero, List.set_cons_succ]
    refine wpAnyH_take (i := 6) (oi := ⟨some 11, _, _, _, _, _⟩) (v := .agg C0) rfl (by kernel_rfl) (by kernel_rfl) (by kernel_rfl) (fun _ _ _ h => h) (by rw [HC0.out]; exact yieldsIf_load_mid (by rfl) 46 _ rfl pA 0 rfl (attCells a) _ (fun _ h => h) Tryd.underlying46 rfl HI46.out) (by assumption) ?_
    try simp only [Act.put, List.setIfInBounds_toArray, List.set_cons_zero, List.set_cons_succ]
    refine wpAnyH_ready (rs := [7]) (by kernel_rfl) (by simp) ?_
    refine AllReadyH.cons (o := ⟨some 12, _, _, _, _, _⟩) rfl (fun K hK => ?_) (AllReadyH.nil)
    go_simp
    go_at_call 46
    refine (HT1.out _ E1).mono ?_
    rintro e v2 ⟨rfl, g2⟩
    have E2 := E1.trans g2
    have hS2 : v2.rangeAt pA 0 (attCells a) := rangeAt_chg hS1 g2 (by simp)
    go_wp2_with fail
    refine hK.out _ _ hS2 (fun _ => ?_)
    clear hK K
    try simp only [Act.put, List.setIfInBounds_toArray, List.set_cons_zero, List.set_cons_succ]
    refine wpAnyH_ready (rs := [8]) (by kernel_rfl) (by simp) ?_
    refine AllReadyH.cons (o := ⟨some 13, _, _, _, _, _⟩) rfl (fun K hK => ?_) (AllReadyH.nil)
    go_simp
    go_at_call 23
    refine (HSA.out _ _ _).mono ?_
    rintro e v3 ⟨rfl, g3⟩
    have E3 := E2.trans g3
    have hS3 : v3.rangeAt pA 0 (attCells a) := rangeAt_chg hS2 g3 (by simp)
    go_wp2_with fail
    refine hK.out _ _ hS3 (fun _ => ?_)
    clear hK K
    try simp only [Act.put, List.setIfInBounds_toArray, List.set_cons_zero, List.set_cons_succ]
    refine wpAnyH_take (i := 9) (oi := ⟨some 14, _, _, _, _, _⟩) (v := ?_) rfl (by kernel_rfl) (by kernel_rfl) (by kernel_rfl) (fun _ _ _ h => h) (Or.inl ⟨by rfl, ?_⟩) (by assumption) ?_
    rotate_left
    · intro w hSw; (try dsimp only at hSw); go_simp; (try with_reducible rfl)
    try simp only [Act.put, List.setIfInBounds_toArray, List.set_cons_zero, List.set_cons_succ]
    refine wpAnyH_take (i := 10) (oi := ⟨some 4, _, _, _, _, _⟩) (v := ?_) rfl (by kernel_rfl) (by kernel_rfl) (by kernel_rfl) (fun _ _ _ h => h) (Or.inl ⟨by rfl, ?_⟩) (by assumption) ?_
    rotate_left
    · intro w hSw; (try dsimp only at hSw); go_simp; (try with_reducible rfl)
    try simp only [Act.put, List.setIfInBounds_toArray, List.set_cons_zero, List.set_cons_succ]
    refine wpAnyH_done (by kernel_rfl) ?_ _
    try simp only [Act.put]
    go_wp2_with fail
    go_ret
    exact ⟨by rw [HRR.out]; rfl, E3⟩
  · have hm' : mayB a.n = false := by simpa using hm
    have hrb : RB = false := by rw [HRB.out]; unfold rightB; rw [hm', Bool.false_and]
    rw [hm'] at HMY
    have HRR := Lib.hid hrb
    clear HTG hm hm' hrb HRB
    go_enter Tryd.func27, Tryd.ntmps27
    go_upto_region 1 with fail
    rw [HW1.out]
    clear HW1
    generalize w.heap.size = pA at *
    refine wp_region_held_drew (S := fun w' => w'.rangeAt pA 0 (attCells a)) (by kernel_rfl) hS0 (fun _ => ?_)
    generalize W1.drew = v0 at *
    refine wpAnyH_take (i := 0) (oi := ⟨some 5, _, _, _, _, _⟩) (v := .agg C0) rfl (by kernel_rfl) (by kernel_rfl) (by kernel_rfl) (fun _ _ _ h => h) (by rw [HC0.out]; exact yieldsIf_load_mid (by rfl) 46 _ rfl pA 0 rfl (attCells a) _ (fun _ h => h) Tryd.underlying46 rfl HI46.out) (by assumption) ?_
    try simp only [Act.put, List.setIfInBounds_toArray, List.set_cons_zero, List.set_cons_succ]
    refine wpAnyH_ready (rs := [1]) (by kernel_rfl) (by simp) ?_
    refine AllReadyH.cons (o := ⟨some 6, _, _, _, _, _⟩) rfl (fun K hK => ?_) (AllReadyH.nil)
    go_simp
    go_at_call 45
    refine (HMY.out _).mono ?_
    rintro e v1 ⟨rfl, g1⟩
    have E1 := E0.trans g1
    have hS1 : v1.rangeAt pA 0 (attCells a) := rangeAt_chg hS0 g1 (by simp)
    go_wp2_with fail
    refine hK.out _ _ hS1 (fun _ => ?_)
    clear hK K
    try simp only [Act.put, List.setIfInBounds_toArray, List.set_cons_zero, List.set_cons_succ]
    refine wpAnyH_take (i := 2) (oi := ⟨some 7, _, _, _, _, _⟩) (v := ?_) rfl (by kernel_rfl) (by kernel_rfl) (by kernel_rfl) (fun _ _ _ h => h) (Or.inl ⟨by rfl, ?_⟩) (by assumption) ?_
    rotate_left
    · intro w hSw; (try dsimp only at hSw); go_simp; (try with_reducible rfl)
    try simp only [Act.put, List.setIfInBounds_toArray, List.set_cons_zero, List.set_cons_succ]
    refine wpAnyH_take (i := 3) (oi := ⟨some 8, _, _, _, _, _⟩) (v := undef) rfl (by kernel_rfl) (by kernel_rfl) (by kernel_rfl) (fun _ _ _ h => h) (Or.inr ⟨by rfl, rfl⟩) (by assumption) ?_
    try simp only [Act.put, List.setIfInBounds_toArray, List.set_cons_zero, List.set_cons_succ]
    refine wpAnyH_take (i := 4) (oi := ⟨some 9, _, _, _, _, _⟩) (v := undef) rfl (by kernel_rfl) (by kernel_rfl) (by kernel_rfl) (fun _ _ _ h => h) (Or.inr ⟨by rfl, rfl⟩) (by assumption) ?_
    try simp only [Act.put, List.setIfInBounds_toArray, List.set_cons_zero, List.set_cons_succ]
    refine wpAnyH_take (i := 5) (oi := ⟨some 10, _, _, _, _, _⟩) (v := undef) rfl (by kernel_rfl) (by kernel_rfl) (by kernel_rfl) (fun _ _ _ h => h) (Or.inr ⟨by rfl, rfl⟩) (by assumption) ?_
    try simp only [Act.put, List.setIfInBounds_toArray, List.set_cons_zero, List.set_cons_succ]
    refine wpAnyH_take (i := 6) (oi := ⟨some 11, _, _, _, _, _⟩) (v := undef) rfl (by kernel_rfl) (by kernel_rfl) (by kernel_rfl) (fun _ _ _ h => h) (Or.inr ⟨by rfl, rfl⟩) (by assumption) ?_
    try simp only [Act.put, List.setIfInBounds_toArray, List.set_cons_zero, List.set_cons_succ]
    refine wpAnyH_take (i := 7) (oi := ⟨some 12, _, _, _, _, _⟩) (v := undef) rfl (by kernel_rfl) (by kernel_rfl) (by kernel_rfl) (fun _ _ _ h => h) (Or.inr ⟨by rfl, rfl⟩) (by assumption) ?_
    try simp only [Act.put, List.setIfInBounds_toArray, List.set_cons_zero, List.set_cons_succ]
    refine wpAnyH_take (i := 8) (oi := ⟨some 13, _, _, _, _, _⟩) (v := undef) rfl (by kernel_rfl) (by kernel_rfl) (by kernel_rfl) (fun _ _ _ h => h) (Or.inr ⟨by rfl, rfl⟩) (by assumption) ?_
    try simp only [Act.put, List.setIfInBounds_toArray, List.set_cons_zero, List.set_cons_succ]
    refine wpAnyH_take (i := 9) (oi := ⟨some 14, _, _, _, _, _⟩) (v := ?_) rfl (by kernel_rfl) (by kernel_rfl) (by kernel_rfl) (fun _ _ _ h => h) (Or.inl ⟨by rfl, ?_⟩) (by assumption) ?_
    rotate_left
    · intro w hSw; (try dsimp only at hSw); go_simp; (try with_reducible rfl)
    try simp only [Act.put, List.setIfInBounds_toArray, List.set_cons_zero, List.set_cons_succ]
    refine wpAnyH_take (i := 10) (oi := ⟨some 4, _, _, _, _, _⟩) (v := ?_) rfl (by kernel_rfl) (by kernel_rfl) (by kernel_rfl) (fun _ _ _ h => h) (Or.inl ⟨by rfl, ?_⟩) (by assumption) ?_
    rotate_left
    · intro w hSw; (try dsimp only at hSw); go_simp; (try with_reducible rfl)
    try simp only [Act.put, List.setIfInBounds_toArray, List.set_cons_zero, List.set_cons_succ]
    refine wpAnyH_done (by kernel_rfl) ?_ _
    try simp only [Act.put]
    go_wp2_with fail
    go_ret
    exact ⟨by rw [HRR.out]; rfl, E1⟩

end Go.Proofs.YtehpigmcmgfkoaaDoor
