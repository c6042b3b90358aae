/-
  HmacSame: the walk.
-/
import Derived.Test.YtdkgecphkppglaaDoorKn2
import Derived.Test.YtdkgecphkppglaaDoorVD
namespace Go.Proofs.YtdkgecphkppglaaDoor
open Go.RowKit

theorem at32 (at_ : Int) : ∃ n : Nat, n < 32 ∧ (IntKind.u64.wrap at_).tmod 32 = (n : Int) := by
  have hx : 0 ≤ IntKind.u64.wrap at_ := by rw [IntKind.wrap_u64]; omega
  rw [Int.tmod_eq_emod_of_nonneg hx]
  generalize IntKind.u64.wrap at_ = x at *
  exact ⟨(x % 32).toNat, by omega, by omega⟩

set_option maxRecDepth 100000 in
set_option maxHeartbeats 8000000 in
theorem same_law (a : List UInt8) (ha : a.length = 32) (at_ : Int) (turn : UInt8) (w : World) (hT : Tabs w) :
    Calls Tryd.prog 8 #[.agg (byteVals a).toArray, .int .i64 at_, .int .u8 turn.toNat] w fun e w' => e = .returned (.bool true) ∧ Chg none w w' := by
  obtain ⟨n, hn, hnv⟩ := at32 at_
  obtain ⟨b, hb⟩ : ∃ b, b = a.set n (a.getD n 0 ^^^ turn) := ⟨_, rfl⟩
  have hbl : b.length = 32 := by rw [hb, List.length_set]; exact ha
  have hbn : b.getD n 0 = a.getD n 0 ^^^ turn := by
    rw [hb, List.getD_eq_getElem?_getD, List.getElem?_set_self (by omega)]; rfl
  obtain ⟨W2, hW2⟩ : ∃ W2, W2 = ((w.alloc (.cells (byteVals a).toArray 30)).alloc (.cells zero32 30)).setRow (w.heap.size + 1) (byteVals a).toArray := ⟨_, rfl⟩
  have hs1 : (w.alloc (.cells (byteVals a).toArray 30)).heap.size = w.heap.size + 1 := by simp
  have hnr := new_row (w.alloc (.cells (byteVals a).toArray 30)) (byteVals a).toArray
  rw [hs1, ← hW2] at hnr
  have g2 : Chg none w W2 := ((Chg.refl none w).alloc _).trans hnr.1
  have bA : BlkL W2 w.heap.size (byteVals a) 30 := Blk.chg (Blk.new w (byteVals a).toArray 30) hnr.1 (by simp)
  have bB : BlkL W2 (w.heap.size + 1) (byteVals a) 30 := hnr.2
  have HW : Hid (((w.alloc (.cells (byteVals a).toArray 30)).alloc (.cells #[Value.int IntKind.u8 0, Value.int IntKind.u8 0, Value.int IntKind.u8 0, Value.int IntKind.u8 0, Value.int IntKind.u8 0, Value.int IntKind.u8 0, Value.int IntKind.u8 0, Value.int IntKind.u8 0, Value.int IntKind.u8 0, Value.int IntKind.u8 0, Value.int IntKind.u8 0, Value.int IntKind.u8 0, Value.int IntKind.u8 0, Value.int IntKind.u8 0, Value.int IntKind.u8 0, Value.int IntKind.u8 0, Value.int IntKind.u8 0, Value.int IntKind.u8 0, Value.int IntKind.u8 0, Value.int IntKind.u8 0, Value.int IntKind.u8 0, Value.int IntKind.u8 0, Value.int IntKind.u8 0, Value.int IntKind.u8 0, Value.int IntKind.u8 0, Value.int IntKind.u8 0, Value.int IntKind.u8 0, Value.int IntKind.u8 0, Value.int IntKind.u8 0, Value.int IntKind.u8 0, Value.int IntKind.u8 0, Value.int IntKind.u8 0] 30)).setRow (w.heap.size + 1) (byteVals a).toArray = W2) := hW2.symm
  have HNW : Hid (((w.alloc (.cells (byteVals a).toArray 30)).alloc (.cells zero32 30)).heap[w.heap.size + 1]? = some (.cells zero32 30 (0, 0))) := by
    have := heap_alloc_new (w.alloc (.cells (byteVals a).toArray 30)) (.cells zero32 30)
    rw [hs1] at this
    exact this
  have HNA : Hid ((w.alloc (.cells (byteVals a).toArray 30)).heap[w.heap.size]? = some (.cells (byteVals a).toArray 30 (0, 0))) := heap_alloc_new w _
  obtain ⟨has, hao⟩ := row_facts a 32 ha
  have HI : Hid ((Tryd.prog.info? 30).map (·.size) = some (byteVals a).toArray.size) := by rw [has]; show _ = _; kernel_rfl
  have HZ : Hid (zero32.size = (byteVals a).toArray.size) := by rw [has]; rfl
  have HO := Lib.hid hao
  have HIa : Hid ((Tryd.prog.info? 30).map (·.size) = some (byteVals a).length) := by rw [byteVals_len, ha]; show _ = _; kernel_rfl
  have HIb : Hid ((Tryd.prog.info? 30).map (·.size) = some (byteVals b).length) := by rw [byteVals_len, hbl]; show _ = _; kernel_rfl
  have cB := (BlkL.cell bB n).trans (byte_at (a := a) (by omega))
  have hfz := Blk.frozen bB n
  have hset := BlkL.set bB n (.int .u8 (a.getD n 0 ^^^ turn).toNat)
  rw [byteVals_set, ← hb, ← u8_xor] at hset
  have hA2 := bA.setOther ⟨w.heap.size + 1, n, none⟩ (.int .u8 (bits .xor .u8 ((a.getD n 0).toNat : Int) (turn.toNat : Int))) (by show w.heap.size ≠ w.heap.size + 1; omega)
  have g3 : Chg none w (W2.setCell ⟨w.heap.size + 1, n, none⟩ (.int .u8 (bits .xor .u8 ((a.getD n 0).toNat : Int) (turn.toNat : Int)))) := g2.setNew _ (by show w.heap.size ≤ w.heap.size + 1; omega) _
  obtain ⟨X, hX⟩ : ∃ X : Bool, X = (turn == 0) := ⟨_, rfl⟩
  have hX1 : (a == b) = X := by
    rw [hX, Bool.eq_iff_iff, beq_iff_eq, beq_iff_eq]
    constructor
    · intro h
      have h1 := hbn
      rw [← h] at h1
      have h2 : a.getD n 0 ^^^ turn = a.getD n 0 := h1.symm
      have h3 : (a.getD n 0 ^^^ a.getD n 0) ^^^ turn = a.getD n 0 ^^^ a.getD n 0 := by rw [UInt8.xor_assoc, h2]
      rw [UInt8.xor_self, UInt8.zero_xor] at h3
      exact h3
    · rintro rfl
      rw [hb, UInt8.xor_zero, List.getD_eq_getElem?_getD, List.getElem?_eq_getElem (by omega)]
      simp
  have hX2 : (b == a) = X := by rw [← hX1, Bool.eq_iff_iff, beq_iff_eq, beq_iff_eq]; exact eq_comm
  have hX3 : ((turn.toNat : Int) == 0) = X := by
    rw [hX, Bool.eq_iff_iff, beq_iff_eq, beq_iff_eq]
    constructor
    · intro h; exact UInt8.toNat_inj.1 (by have h1 : (0 : UInt8).toNat = 0 := rfl; rw [h1]; omega)
    · intro h; rw [h]; rfl
  have HAA : Hid (∀ v : World, Calls Tryd.prog 23 #[.agg (byteVals a).toArray, .agg (byteVals a).toArray] v fun e w' => e = .returned (.bool true) ∧ Chg none v w') := fun v =>
    (same_any a a ha ha v).mono fun e w' ⟨he, h⟩ => ⟨by rw [he]; simp, h⟩
  have HAB : Hid (∀ v : World, Calls Tryd.prog 23 #[.agg (byteVals a).toArray, .agg (byteVals b).toArray] v fun e w' => e = .returned (.bool X) ∧ Chg none v w') := fun v =>
    (same_any a b ha hbl v).mono fun e w' ⟨he, h⟩ => ⟨by rw [he, hX1], h⟩
  have HBA : Hid (∀ v : World, Calls Tryd.prog 23 #[.agg (byteVals b).toArray, .agg (byteVals a).toArray] v fun e w' => e = .returned (.bool X) ∧ Chg none v w') := fun v =>
    (same_any b a hbl ha v).mono fun e w' ⟨he, h⟩ => ⟨by rw [he, hX2], h⟩
  have hqe : ∀ v : World, (binOp .eql 30 (.agg (byteVals a).toArray) (.agg (byteVals b).toArray)).run Tryd.prog v = .ok (.bool X) v := fun v => by
    rw [eql30 a b ha hbl v, hX1]
  have HQE := Lib.hid hqe
  have HX3 := Lib.hid hX3
  have HHB := Lib.hid hb
  generalize a.getD n 0 = xa at *
  clear has hao hb hbl hbn hX hX1 hX2 hX3 hqe hnr hs1 hW2 bB g2 bA
  go_enter Tryd.func8, Tryd.ntmps8
  go_upto_region 2 with (first
    | (refine wpList_load_row rfl 30 _ rfl w.heap.size rfl 30 _ (0, 0) _ HNA.out Tryd.underlying30 rfl HI.out ?_)
    | (refine wpList_store_row rfl 30 _ _ rfl (w.heap.size + 1) (byteVals a).toArray rfl rfl 30 _ HNW.out HI.out HZ.out HO.out ?_))
  have e1 := HW.out
  rw [e1]
  clear e1
  generalize hpB : w.heap.size + 1 = pB at *
  generalize hpA : w.heap.size = pA at *
  have HPB := Lib.hid hpB
  have HPA := Lib.hid hpA
  clear hpA hpB
  go_upto_region 3 with (fail)
  obtain ⟨W3, hW3⟩ : ∃ W3, W3 = W2.setCell ⟨pB, n, none⟩ (.int .u8 (bits .xor .u8 (xa.toNat : Int) (turn.toNat : Int))) := ⟨_, rfl⟩
  rw [← hW3]
  rw [← hW3] at hset hA2 g3
  clear hW3 cB hfz hnv
  have gw : Chg none w W3.drew := g3.drew
  have hS0 : W3.drew.rangeAt pA 0 (byteVals a) ∧ W3.drew.rangeAt pB 0 (byteVals b) := ⟨Blk.range hA2, Blk.range hset⟩
  have HKN : Hid (∀ v : World, Chg none W3.drew v → Calls Tryd.prog 20 #[] v fun e w' => e = .returned (.bool true) ∧ Chg none v w') := fun v g => known2_any v ((hT.chg gw (by simp)).chg g (by simp))
  have E0 : Chg none W3.drew W3.drew := Chg.refl _ _
  have hX3 := HX3.out
  have hqe := HQE.out
  have hg30 := guard30
  clear HX3 HQE hset hA2 g3
  refine wp_region_held_drew (S := fun w' => w'.rangeAt pA 0 (byteVals a) ∧ w'.rangeAt pB 0 (byteVals b)) (by kernel_rfl) hS0 (fun _ => ?_)
  generalize W3.drew = v0 at *
  cases X
  all_goals
    refine wpAnyH_take (i := 0) (oi := ⟨some 17, _, _, _, _, _⟩) (v := .agg (byteVals a).toArray) rfl (by kernel_rfl) (by kernel_rfl) (by kernel_rfl) (fun _ _ _ h => h) (yieldsIf_load_mid (by rfl) 30 _ rfl pA 0 rfl (byteVals a) _ (fun _ h => h.1) Tryd.underlying30 rfl HIa.out) (by assumption) ?_
    try simp only [Act.put, List.setIfInBounds_toArray, List.set_cons_zero, List.set_cons_succ]
    refine wpAnyH_take (i := 1) (oi := ⟨some 18, _, _, _, _, _⟩) (v := .agg (byteVals a).toArray) rfl (by kernel_rfl) (by kernel_rfl) (by kernel_rfl) (fun _ _ _ h => h) (yieldsIf_load_mid (by rfl) 30 _ rfl pA 0 rfl (byteVals a) _ (fun _ h => h.1) Tryd.underlying30 rfl HIa.out) (by assumption) ?_
    try simp only [Act.put, List.setIfInBounds_toArray, List.set_cons_zero, List.set_cons_succ]
    refine wpAnyH_ready (rs := [2]) (by kernel_rfl) (by simp) ?_
    refine AllReadyH.cons (o := ⟨some 19, _, _, _, _, _⟩) rfl (fun K hK => ?_) (AllReadyH.nil)
    go_simp
    go_at_call 23
    refine (HAA.out _).mono ?_
    rintro e v1 ⟨rfl, g1⟩
    have E1 := E0.trans g1
    have hS1 := known_chg hS0 g1
    go_wp2_with fail
    refine hK.out _ _ hS1 (fun _ => ?_)
    clear hK K
    try simp only [Act.put, List.setIfInBounds_toArray, List.set_cons_zero, List.set_cons_succ]
    refine wpAnyH_take (i := 3) (oi := ⟨some 20, _, _, _, _, _⟩) (v := ?_) rfl (by kernel_rfl) (by kernel_rfl) (by kernel_rfl) (fun _ _ _ h => h) (Or.inl ⟨by rfl, ?_⟩) (by assumption) ?_
    rotate_left
    · intro w hSw; (try dsimp only at hSw); go_simp; (try with_reducible rfl)
    try simp only [Act.put, List.setIfInBounds_toArray, List.set_cons_zero, List.set_cons_succ]
    refine wpAnyH_take (i := 4) (oi := ⟨some 21, _, _, _, _, _⟩) (v := .agg (byteVals a).toArray) rfl (by kernel_rfl) (by kernel_rfl) (by kernel_rfl) (fun _ _ _ h => h) (yieldsIf_load_mid (by rfl) 30 _ rfl pA 0 rfl (byteVals a) _ (fun _ h => h.1) Tryd.underlying30 rfl HIa.out) (by assumption) ?_
    try simp only [Act.put, List.setIfInBounds_toArray, List.set_cons_zero, List.set_cons_succ]
    refine wpAnyH_take (i := 5) (oi := ⟨some 22, _, _, _, _, _⟩) (v := .agg (byteVals b).toArray) rfl (by kernel_rfl) (by kernel_rfl) (by kernel_rfl) (fun _ _ _ h => h) (yieldsIf_load_mid (by rfl) 30 _ rfl pB 0 rfl (byteVals b) _ (fun _ h => h.2) Tryd.underlying30 rfl HIb.out) (by assumption) ?_
    try simp only [Act.put, List.setIfInBounds_toArray, List.set_cons_zero, List.set_cons_succ]
    refine wpAnyH_take (i := 7) (oi := ⟨some 24, _, _, _, _, _⟩) (v := ?_) rfl (by kernel_rfl) (by kernel_rfl) (by kernel_rfl) (fun _ _ _ h => h) (Or.inl ⟨by rfl, ?_⟩) (by assumption) ?_
    rotate_left
    · intro w hSw; (try dsimp only at hSw); go_simp; (try with_reducible rfl)
    try simp only [Act.put, List.setIfInBounds_toArray, List.set_cons_zero, List.set_cons_succ]
    refine wpAnyH_take (i := 8) (oi := ⟨some 25, _, _, _, _, _⟩) (v := ?_) rfl (by kernel_rfl) (by kernel_rfl) (by kernel_rfl) (fun _ _ _ h => h) (Or.inl ⟨by rfl, ?_⟩) (by assumption) ?_
    rotate_left
    · intro w hSw; (try dsimp only at hSw); go_simp; (try with_reducible rfl)
    try simp only [Act.put, List.setIfInBounds_toArray, List.set_cons_zero, List.set_cons_succ]
    refine wpAnyH_ready (rs := [6]) (by kernel_rfl) (by simp) ?_
    refine AllReadyH.cons (o := ⟨some 23, _, _, _, _, _⟩) rfl (fun K hK => ?_) (AllReadyH.nil)
    go_simp
    go_at_call 23
    refine (HAB.out _).mono ?_
    rintro e v2 ⟨rfl, g2⟩
    have E2 := E1.trans g2
    have hS2 := known_chg hS1 g2
    go_wp2_with fail
    refine hK.out _ _ hS2 (fun _ => ?_)
    clear hK K
    try simp only [Act.put, List.setIfInBounds_toArray, List.set_cons_zero, List.set_cons_succ]
    refine wpAnyH_take (i := 9) (oi := ⟨some 26, _, _, _, _, _⟩) (v := ?_) rfl (by kernel_rfl) (by kernel_rfl) (by kernel_rfl) (fun _ _ _ h => h) (Or.inl ⟨by rfl, ?_⟩) (by assumption) ?_
    rotate_left
    · intro w hSw; (try dsimp only at hSw); go_simp; (try with_reducible rfl)
    try simp only [Act.put, List.setIfInBounds_toArray, List.set_cons_zero, List.set_cons_succ]
    refine wpAnyH_take (i := 10) (oi := ⟨some 27, _, _, _, _, _⟩) (v := ?_) rfl (by kernel_rfl) (by kernel_rfl) (by kernel_rfl) (fun _ _ _ h => h) (Or.inl ⟨by rfl, ?_⟩) (by assumption) ?_
    rotate_left
    · intro w hSw; (try dsimp only at hSw); go_simp; (try with_reducible rfl)
    try simp only [Act.put, List.setIfInBounds_toArray, List.set_cons_zero, List.set_cons_succ]
    refine wpAnyH_take (i := 11) (oi := ⟨some 28, _, _, _, _, _⟩) (v := ?_) rfl (by kernel_rfl) (by kernel_rfl) (by kernel_rfl) (fun _ _ _ h => h) (Or.inl ⟨by rfl, ?_⟩) (by assumption) ?_
    rotate_left
    · intro w hSw; (try dsimp only at hSw); go_simp; (try with_reducible rfl)
    try simp only [Act.put, List.setIfInBounds_toArray, List.set_cons_zero, List.set_cons_succ]
    refine wpAnyH_take (i := 12) (oi := ⟨some 29, _, _, _, _, _⟩) (v := .agg (byteVals b).toArray) rfl (by kernel_rfl) (by kernel_rfl) (by kernel_rfl) (fun _ _ _ h => h) (yieldsIf_load_mid (by rfl) 30 _ rfl pB 0 rfl (byteVals b) _ (fun _ h => h.2) Tryd.underlying30 rfl HIb.out) (by assumption) ?_
    try simp only [Act.put, List.setIfInBounds_toArray, List.set_cons_zero, List.set_cons_succ]
    refine wpAnyH_take (i := 13) (oi := ⟨some 30, _, _, _, _, _⟩) (v := .agg (byteVals a).toArray) rfl (by kernel_rfl) (by kernel_rfl) (by kernel_rfl) (fun _ _ _ h => h) (yieldsIf_load_mid (by rfl) 30 _ rfl pA 0 rfl (byteVals a) _ (fun _ h => h.1) Tryd.underlying30 rfl HIa.out) (by assumption) ?_
    try simp only [Act.put, List.setIfInBounds_toArray, List.set_cons_zero, List.set_cons_succ]
    refine wpAnyH_take (i := 15) (oi := ⟨some 32, _, _, _, _, _⟩) (v := .agg (byteVals a).toArray) rfl (by kernel_rfl) (by kernel_rfl) (by kernel_rfl) (fun _ _ _ h => h) (yieldsIf_load_mid (by rfl) 30 _ rfl pA 0 rfl (byteVals a) _ (fun _ h => h.1) Tryd.underlying30 rfl HIa.out) (by assumption) ?_
    try simp only [Act.put, List.setIfInBounds_toArray, List.set_cons_zero, List.set_cons_succ]
    refine wpAnyH_take (i := 16) (oi := ⟨some 33, _, _, _, _, _⟩) (v := .agg (byteVals b).toArray) rfl (by kernel_rfl) (by kernel_rfl) (by kernel_rfl) (fun _ _ _ h => h) (yieldsIf_load_mid (by rfl) 30 _ rfl pB 0 rfl (byteVals b) _ (fun _ h => h.2) Tryd.underlying30 rfl HIb.out) (by assumption) ?_
    try simp only [Act.put, List.setIfInBounds_toArray, List.set_cons_zero, List.set_cons_succ]
    refine wpAnyH_take (i := 17) (oi := ⟨some 34, _, _, _, _, _⟩) (v := ?_) rfl (by kernel_rfl) (by kernel_rfl) (by kernel_rfl) (fun _ _ _ h => h) (Or.inl ⟨by rfl, ?_⟩) (by assumption) ?_
    rotate_left
    · intro w hSw; (try dsimp only at hSw); go_simp; (try with_reducible rfl)
    try simp only [Act.put, List.setIfInBounds_toArray, List.set_cons_zero, List.set_cons_succ]
    refine wpAnyH_ready (rs := [14]) (by kernel_rfl) (by simp) ?_
    refine AllReadyH.cons (o := ⟨some 31, _, _, _, _, _⟩) rfl (fun K hK => ?_) (AllReadyH.nil)
    go_simp
    go_at_call 23
    refine (HBA.out _).mono ?_
    rintro e v3 ⟨rfl, g3⟩
    have E3 := E2.trans g3
    have hS3 := known_chg hS2 g3
    go_wp2_with fail
    refine hK.out _ _ hS3 (fun _ => ?_)
    clear hK K
    try simp only [Act.put, List.setIfInBounds_toArray, List.set_cons_zero, List.set_cons_succ]
    refine wpAnyH_take (i := 18) (oi := ⟨some 35, _, _, _, _, _⟩) (v := ?_) rfl (by kernel_rfl) (by kernel_rfl) (by kernel_rfl) (fun _ _ _ h => h) (Or.inl ⟨by rfl, ?_⟩) (by assumption) ?_
    rotate_left
    · intro w hSw; (try dsimp only at hSw); go_simp; (try with_reducible rfl)
    try simp only [Act.put, List.setIfInBounds_toArray, List.set_cons_zero, List.set_cons_succ]
    refine wpAnyH_take (i := 19) (oi := ⟨some 36, _, _, _, _, _⟩) (v := ?_) rfl (by kernel_rfl) (by kernel_rfl) (by kernel_rfl) (fun _ _ _ h => h) (Or.inl ⟨by rfl, ?_⟩) (by assumption) ?_
    rotate_left
    · intro w hSw; (try dsimp only at hSw); go_simp; (try with_reducible rfl)
    try simp only [Act.put, List.setIfInBounds_toArray, List.set_cons_zero, List.set_cons_succ]
    refine wpAnyH_take (i := 20) (oi := ⟨some 37, _, _, _, _, _⟩) (v := ?_) rfl (by kernel_rfl) (by kernel_rfl) (by kernel_rfl) (fun _ _ _ h => h) (Or.inl ⟨by rfl, ?_⟩) (by assumption) ?_
    rotate_left
    · intro w hSw; (try dsimp only at hSw); go_simp; (try with_reducible rfl)
    try simp only [Act.put, List.setIfInBounds_toArray, List.set_cons_zero, List.set_cons_succ]
    refine wpAnyH_ready (rs := [21]) (by kernel_rfl) (by simp) ?_
    refine AllReadyH.cons (o := ⟨some 38, _, _, _, _, _⟩) rfl (fun K hK => ?_) (AllReadyH.nil)
    go_simp
    go_at_call 20
    refine (HKN.out _ E3).mono ?_
    rintro e v4 ⟨rfl, g4⟩
    have E4 := E3.trans g4
    have hS4 := known_chg hS3 g4
    go_wp2_with fail
    refine hK.out _ _ hS4 (fun _ => ?_)
    clear hK K
    try simp only [Act.put, List.setIfInBounds_toArray, List.set_cons_zero, List.set_cons_succ]
    refine wpAnyH_take (i := 22) (oi := ⟨some 39, _, _, _, _, _⟩) (v := ?_) rfl (by kernel_rfl) (by kernel_rfl) (by kernel_rfl) (fun _ _ _ h => h) (Or.inl ⟨by rfl, ?_⟩) (by assumption) ?_
    rotate_left
    · intro w hSw; (try dsimp only at hSw); go_simp; (try with_reducible rfl)
    try simp only [Act.put, List.setIfInBounds_toArray, List.set_cons_zero, List.set_cons_succ]
    refine wpAnyH_take (i := 23) (oi := ⟨some 6, _, _, _, _, _⟩) (v := ?_) rfl (by kernel_rfl) (by kernel_rfl) (by kernel_rfl) (fun _ _ _ h => h) (Or.inl ⟨by rfl, ?_⟩) (by assumption) ?_
    rotate_left
    · intro w hSw; (try dsimp only at hSw); go_simp; (try with_reducible rfl)
    try simp only [Act.put, List.setIfInBounds_toArray, List.set_cons_zero, List.set_cons_succ]
    refine wpAnyH_done (by kernel_rfl) ?_ _
    go_wp2_with fail
    go_ret
    exact ⟨rfl, gw.trans E4⟩

end Go.Proofs.YtdkgecphkppglaaDoor
