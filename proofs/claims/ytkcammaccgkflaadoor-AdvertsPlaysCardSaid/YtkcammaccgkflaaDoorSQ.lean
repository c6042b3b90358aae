/-
  Package adverts, the document's: which is ahead.
-/
import Derived.Test.YtkcammaccgkflaaDoorSP
namespace Go.Proofs.YtkcammaccgkflaaDoor
open Go.RowKit

theorem less_cmp : ∀ (x y : List UInt8), Op.bytesLess x y = decide (cmpB x y < 0)
  | [], [] => rfl
  | _ :: _, [] => by symm; exact decide_eq_false (by show ¬ (1 : Int) < 0; decide)
  | [], _ :: _ => by symm; exact decide_eq_true (by show (-1 : Int) < 0; decide)
  | a :: x, b :: y => by
    rw [cmp_cons]
    show (decide (a < b) || (a == b && Op.bytesLess x y)) = _
    rw [less_cmp x y]
    by_cases h1 : a < b
    · simp [h1]
    · by_cases h2 : b < a
      · have h3 : (a == b) = false := by rw [beq_eq_false_iff_ne]; intro e; subst e; exact UInt8.lt_irrefl _ h2
        simp [h1, h2, h3]
      · have e : a = b := UInt8.le_antisymm (UInt8.not_lt.1 h2) (UInt8.not_lt.1 h1)
        subst e
        simp [h1]
theorem lss_bytes (x y : List UInt8) (w : World) : (binOp .lss 9 (.string ⟨x.toArray⟩) (.string ⟨y.toArray⟩)).run Tryd.prog w = .ok (.bool (decide (cmpB x y < 0))) w := by
  rw [binOp_string_lss, ByteArray.toList_mk, ByteArray.toList_mk, less_cmp]
  rfl
theorem conv_own {w : World} {B c : Nat} {A : Option Addr} {bs : List UInt8} {n : Nat} (h : w.ownsRow B 5 1 (.slice A n c) n (byteVals bs)) : ∀ v, Chg none w v → (convert 22 9 (.slice A n c)).run Tryd.prog v = .ok (.string ⟨bs.toArray⟩) v := fun v g => by
  obtain ⟨h1, rfl, -⟩ := own_txt h
  exact conv_reads v (txt_reads (h1.chg g))
set_option maxRecDepth 100000 in
set_option maxHeartbeats 8000000 in
theorem refless_any (a b : Att) (w : World) : Calls Tryd.prog 59 #[.agg (attCells a).toArray, .agg (attCells b).toArray] w fun e w' => e = .returned (.bool (lessB a b)) ∧ Chg none w w' := by
  obtain ⟨W, hW⟩ : ∃ W, W = (w.alloc (.cells (attCells a).toArray 46)).alloc (.cells (attCells b).toArray 46) := ⟨_, rfl⟩
  have g0 : Chg none w W := by rw [hW]; exact ((Chg.refl _ _).alloc _).alloc _
  have bA : BlkL W w.heap.size (attCells a) 46 := by rw [hW]; exact Blk.alloc (Blk.new _ _ _) _
  have bB : BlkL W (w.heap.size + 1) (attCells b) 46 := by rw [hW]; exact Blk.newAt _ _ (by simp)
  have HRA : Hid (∀ v, Chg none W v → v.rangeAt w.heap.size 0 (attCells a)) := Lib.hid fun v g => Blk.range (Blk.chg bA g (by simp))
  have HRB : Hid (∀ v, Chg none W v → v.rangeAt (w.heap.size + 1) 0 (attCells b)) := Lib.hid fun v g => Blk.range (Blk.chg bB g (by simp))
  have HIA := Lib.hid (info46 a)
  have HIB := Lib.hid (info46 b)
  have HBQ := Lib.hid bytesq_any
  have HLS : Hid (Op.bytesLess (attBytes a (u64n a.n)) (attBytes b (u64n b.n)) = lessB a b) := Lib.hid (less_cmp _ _)
  have HW := Lib.hid hW
  have HG0 := Lib.hid g0
  have hS0 : Chg none W W.drew := (Chg.refl _ _).drew
  clear hW bA bB g0
  go_enter Tryd.func59, Tryd.ntmps59
  go_upto_region 1 with fail
  rw [← HW.out]
  generalize w.heap.size + 1 = pB at *
  generalize w.heap.size = pA at *
  refine wp_region_held_drew (S := fun v => Chg none W v) (by kernel_rfl) hS0 (fun _ => ?_)
  generalize W.drew = v0 at *
  refine wpAnyH_take (i := 0) (oi := ⟨some 5, _, _, _, _, _⟩) (v := .agg (attCells a).toArray) rfl (by kernel_rfl) (by kernel_rfl) (by kernel_rfl) (fun _ _ _ h => h) (yieldsIf_load_mid (by rfl) 46 _ rfl pA 0 rfl (attCells a) _ (fun v h => HRA.out v h) Tryd.underlying46 rfl HIA.out) (by assumption) ?_
  try simp only [Act.put, List.setIfInBounds_toArray, List.set_cons_zero, List.set_cons_succ]
  refine wpAnyH_take (i := 3) (oi := ⟨some 8, _, _, _, _, _⟩) (v := .agg (attCells b).toArray) rfl (by kernel_rfl) (by kernel_rfl) (by kernel_rfl) (fun _ _ _ h => h) (yieldsIf_load_mid (by rfl) 46 _ rfl pB 0 rfl (attCells b) _ (fun v h => HRB.out v h) Tryd.underlying46 rfl HIB.out) (by assumption) ?_
  try simp only [Act.put, List.setIfInBounds_toArray, List.set_cons_zero, List.set_cons_succ]
  refine wpAnyH_ready (rs := [1]) (by kernel_rfl) (by simp) ?_
  refine AllReadyH.cons (o := ⟨some 6, _, _, _, _, _⟩) rfl (fun K hK => ?_) (AllReadyH.nil)
  go_simp
  go_at_call 37
  refine (HBQ.out a _).mono ?_
  rintro e v1 ⟨A1, c1, rfl, hown, g⟩
  have HV1 := Lib.hid (conv_own hown)
  clear hown
  have hSv1 := (show Chg none W _ by assumption).trans g
  have Gv1 := Lib.hid g
  clear g
  go_wp2_with fail
  refine hK.out _ _ hSv1 (fun _ => ?_)
  clear hK K
  try simp only [Act.put, List.setIfInBounds_toArray, List.set_cons_zero, List.set_cons_succ]
  refine wpAnyH_ready (rs := [2, 4]) (by kernel_rfl) (by simp) ?_
  refine AllReadyH.cons (o := ⟨some 7, _, _, _, _, _⟩) rfl (fun K hK => ?_) (AllReadyH.cons (o := ⟨some 9, _, _, _, _, _⟩) rfl (fun K hK => ?_) (AllReadyH.nil))
  · have hc1 := HV1.out _ (by first | exact Gv2.out | exact Chg.refl _ _)
    go_simp
    refine hK.out _ _ (by first | exact hSv2 | exact hSv1) (fun _ => ?_)
    clear hK K
    try simp only [Act.put, List.setIfInBounds_toArray, List.set_cons_zero, List.set_cons_succ]
    refine wpAnyH_ready (rs := [4]) (by kernel_rfl) (by simp) ?_
    refine AllReadyH.cons (o := ⟨some 9, _, _, _, _, _⟩) rfl (fun K hK => ?_) (AllReadyH.nil)
    go_simp
    go_at_call 37
    refine (HBQ.out b _).mono ?_
    rintro e v2 ⟨A2, c2, rfl, hown, g⟩
    have HV2 := Lib.hid (conv_own hown)
    clear hown
    have hSv2 := (show Chg none W _ by assumption).trans g
    have Gv2 := Lib.hid g
    clear g
    go_wp2_with fail
    refine hK.out _ _ hSv2 (fun _ => ?_)
    clear hK K
    try simp only [Act.put, List.setIfInBounds_toArray, List.set_cons_zero, List.set_cons_succ]
    refine wpAnyH_ready (rs := [5]) (by kernel_rfl) (by simp) ?_
    refine AllReadyH.cons (o := ⟨some 10, _, _, _, _, _⟩) rfl (fun K hK => ?_) (AllReadyH.nil)
    have hc2 := HV2.out _ (Chg.refl _ _)
    go_simp
    refine hK.out _ _ hSv2 (fun _ => ?_)
    clear hK K
    try simp only [Act.put, List.setIfInBounds_toArray, List.set_cons_zero, List.set_cons_succ]
    refine wpAnyH_take (i := 6) (oi := ⟨some 11, _, _, _, _, _⟩) (v := .bool (lessB a b)) rfl (by kernel_rfl) (by kernel_rfl) (by kernel_rfl) (fun _ _ _ h => h) (Or.inl ⟨by rfl, ?_⟩) (by assumption) ?_
    · intro v hSv; have hz := HLS.out; go_simp
    try simp only [Act.put, List.setIfInBounds_toArray, List.set_cons_zero, List.set_cons_succ]
    refine wpAnyH_take (i := 7) (oi := ⟨some 4, _, _, _, _, _⟩) (v := ?_) rfl (by kernel_rfl) (by kernel_rfl) (by kernel_rfl) (fun _ _ _ h => h) (Or.inl ⟨by rfl, ?_⟩) (by assumption) ?_
    rotate_left
    · intro v hSv; (try dsimp only at hSv); skip; go_simp; (try with_reducible rfl)
    try simp only [Act.put, List.setIfInBounds_toArray, List.set_cons_zero, List.set_cons_succ]
    refine wpAnyH_done (by kernel_rfl) ?_ _
    try simp only [Act.put]
    go_wp2_with fail
    go_ret
    exact ⟨rfl, HG0.out.trans hSv2⟩
  · go_simp
    go_at_call 37
    refine (HBQ.out b _).mono ?_
    rintro e v2 ⟨A2, c2, rfl, hown, g⟩
    have HV2 := Lib.hid (conv_own hown)
    clear hown
    have hSv2 := (show Chg none W _ by assumption).trans g
    have Gv2 := Lib.hid g
    clear g
    go_wp2_with fail
    refine hK.out _ _ hSv2 (fun _ => ?_)
    clear hK K
    try simp only [Act.put, List.setIfInBounds_toArray, List.set_cons_zero, List.set_cons_succ]
    refine wpAnyH_ready (rs := [2, 5]) (by kernel_rfl) (by simp) ?_
    refine AllReadyH.cons (o := ⟨some 7, _, _, _, _, _⟩) rfl (fun K hK => ?_) (AllReadyH.cons (o := ⟨some 10, _, _, _, _, _⟩) rfl (fun K hK => ?_) (AllReadyH.nil))
    · have hc1 := HV1.out _ (by first | exact Gv2.out | exact Chg.refl _ _)
      go_simp
      refine hK.out _ _ (by first | exact hSv2 | exact hSv1) (fun _ => ?_)
      clear hK K
      try simp only [Act.put, List.setIfInBounds_toArray, List.set_cons_zero, List.set_cons_succ]
      refine wpAnyH_ready (rs := [5]) (by kernel_rfl) (by simp) ?_
      refine AllReadyH.cons (o := ⟨some 10, _, _, _, _, _⟩) rfl (fun K hK => ?_) (AllReadyH.nil)
      have hc2 := HV2.out _ (Chg.refl _ _)
      go_simp
      refine hK.out _ _ hSv2 (fun _ => ?_)
      clear hK K
      try simp only [Act.put, List.setIfInBounds_toArray, List.set_cons_zero, List.set_cons_succ]
      refine wpAnyH_take (i := 6) (oi := ⟨some 11, _, _, _, _, _⟩) (v := .bool (lessB a b)) rfl (by kernel_rfl) (by kernel_rfl) (by kernel_rfl) (fun _ _ _ h => h) (Or.inl ⟨by rfl, ?_⟩) (by assumption) ?_
      · intro v hSv; have hz := HLS.out; go_simp
      try simp only [Act.put, List.setIfInBounds_toArray, List.set_cons_zero, List.set_cons_succ]
      refine wpAnyH_take (i := 7) (oi := ⟨some 4, _, _, _, _, _⟩) (v := ?_) rfl (by kernel_rfl) (by kernel_rfl) (by kernel_rfl) (fun _ _ _ h => h) (Or.inl ⟨by rfl, ?_⟩) (by assumption) ?_
      rotate_left
      · intro v hSv; (try dsimp only at hSv); skip; go_simp; (try with_reducible rfl)
      try simp only [Act.put, List.setIfInBounds_toArray, List.set_cons_zero, List.set_cons_succ]
      refine wpAnyH_done (by kernel_rfl) ?_ _
      try simp only [Act.put]
      go_wp2_with fail
      go_ret
      exact ⟨rfl, HG0.out.trans hSv2⟩
    · have hc2 := HV2.out _ (Chg.refl _ _)
      go_simp
      refine hK.out _ _ hSv2 (fun _ => ?_)
      clear hK K
      try simp only [Act.put, List.setIfInBounds_toArray, List.set_cons_zero, List.set_cons_succ]
      refine wpAnyH_ready (rs := [2]) (by kernel_rfl) (by simp) ?_
      refine AllReadyH.cons (o := ⟨some 7, _, _, _, _, _⟩) rfl (fun K hK => ?_) (AllReadyH.nil)
      have hc1 := HV1.out _ (by first | exact Gv2.out | exact Chg.refl _ _)
      go_simp
      refine hK.out _ _ (by first | exact hSv2 | exact hSv1) (fun _ => ?_)
      clear hK K
      try simp only [Act.put, List.setIfInBounds_toArray, List.set_cons_zero, List.set_cons_succ]
      refine wpAnyH_take (i := 6) (oi := ⟨some 11, _, _, _, _, _⟩) (v := .bool (lessB a b)) rfl (by kernel_rfl) (by kernel_rfl) (by kernel_rfl) (fun _ _ _ h => h) (Or.inl ⟨by rfl, ?_⟩) (by assumption) ?_
      · intro v hSv; have hz := HLS.out; go_simp
      try simp only [Act.put, List.setIfInBounds_toArray, List.set_cons_zero, List.set_cons_succ]
      refine wpAnyH_take (i := 7) (oi := ⟨some 4, _, _, _, _, _⟩) (v := ?_) rfl (by kernel_rfl) (by kernel_rfl) (by kernel_rfl) (fun _ _ _ h => h) (Or.inl ⟨by rfl, ?_⟩) (by assumption) ?_
      rotate_left
      · intro v hSv; (try dsimp only at hSv); skip; go_simp; (try with_reducible rfl)
      try simp only [Act.put, List.setIfInBounds_toArray, List.set_cons_zero, List.set_cons_succ]
      refine wpAnyH_done (by kernel_rfl) ?_ _
      try simp only [Act.put]
      go_wp2_with fail
      go_ret
      exact ⟨rfl, HG0.out.trans hSv2⟩

end Go.Proofs.YtkcammaccgkflaaDoor
