/-
  Package merkle: the digest of a pair, of the root; which of two comes first.
-/
import Derived.Test.YtdkgecphkppglaaDoorM3
namespace Go.Proofs.YtdkgecphkppglaaDoor
open Go.RowKit

set_option maxRecDepth 100000 in
set_option maxHeartbeats 4000000 in
theorem pair_any (l r : List UInt8) (hl : l.length = 32) (hr : r.length = 32) (w : World) (hT : Tabs w) :
    Calls Tryd.prog 71 #[.agg (byteVals l).toArray, .agg (byteVals r).toArray] w fun e w' => e = .returned (.agg (byteVals (pairB l r)).toArray) ∧ Chg none w w' := by
  obtain ⟨W3, hW3⟩ : ∃ W3, W3 = ((w.alloc (.cells (byteVals l).toArray 30)).alloc (.cells (byteVals r).toArray 30)).alloc (.cells zero32 30) := ⟨_, rfl⟩
  have HW3 : Hid (((w.alloc (.cells (byteVals l).toArray 30)).alloc (.cells (byteVals r).toArray 30)).alloc (.cells #[Value.int IntKind.u8 0, Value.int IntKind.u8 0, Value.int IntKind.u8 0, Value.int IntKind.u8 0, Value.int IntKind.u8 0, Value.int IntKind.u8 0, Value.int IntKind.u8 0, Value.int IntKind.u8 0, Value.int IntKind.u8 0, Value.int IntKind.u8 0, Value.int IntKind.u8 0, Value.int IntKind.u8 0, Value.int IntKind.u8 0, Value.int IntKind.u8 0, Value.int IntKind.u8 0, Value.int IntKind.u8 0, Value.int IntKind.u8 0, Value.int IntKind.u8 0, Value.int IntKind.u8 0, Value.int IntKind.u8 0, Value.int IntKind.u8 0, Value.int IntKind.u8 0, Value.int IntKind.u8 0, Value.int IntKind.u8 0, Value.int IntKind.u8 0, Value.int IntKind.u8 0, Value.int IntKind.u8 0, Value.int IntKind.u8 0, Value.int IntKind.u8 0, Value.int IntKind.u8 0, Value.int IntKind.u8 0, Value.int IntKind.u8 0] 30) = W3) := hW3.symm
  have g0 : Chg none w W3 := by rw [hW3]; exact (((Chg.refl _ _).alloc _).alloc _).alloc _
  have hs1 : (w.alloc (.cells (byteVals l).toArray 30)).heap.size = w.heap.size + 1 := by simp
  have hs2 : ((w.alloc (.cells (byteVals l).toArray 30)).alloc (.cells (byteVals r).toArray 30)).heap.size = w.heap.size + 1 + 1 := by simp
  have bA : BlkL W3 w.heap.size (byteVals l) 30 := by rw [hW3]; exact Blk.alloc (Blk.alloc (Blk.new _ _ _) _) _
  have bB : BlkL W3 (w.heap.size + 1) (byteVals r) 30 := by
    have h := Blk.new (w.alloc (.cells (byteVals l).toArray 30)) (byteVals r).toArray 30
    rw [hs1] at h
    rw [hW3]; exact Blk.alloc h _
  have bR : Blk W3 (w.heap.size + 1 + 1) zero32 30 := by
    have h := Blk.new ((w.alloc (.cells (byteVals l).toArray 30)).alloc (.cells (byteVals r).toArray 30)) zero32 30
    rw [hs2] at h
    rw [hW3]; exact h
  have hRge : w.heap.size ≤ w.heap.size + 1 + 1 := by omega
  clear hW3 hs1 hs2
  obtain ⟨D, hD⟩ : ∃ D, D = pairB l r := ⟨_, rfl⟩
  have hDl : D.length = 32 := by rw [hD]; exact dig_len _
  rw [← hD]
  obtain ⟨CA, hCA⟩ : ∃ CA, CA = (byteVals l).toArray := ⟨_, rfl⟩
  obtain ⟨CB, hCB⟩ : ∃ CB, CB = (byteVals r).toArray := ⟨_, rfl⟩
  rw [← hCA, ← hCB]
  rw [← hCA, ← hCB] at HW3
  have HD := Lib.hid hD
  clear hD hCA hCB
  go_enter Tryd.func71, Tryd.ntmps71
  go_wp2_with fail
  rw [HW3.out]
  clear HW3
  generalize w.heap.size + 1 + 1 = pR at *
  generalize w.heap.size + 1 = pB at *
  generalize hpA : w.heap.size = pA at *
  have HPA := Lib.hid hpA
  clear hpA
  refine wp_region_held_drew (S := fun _ => True) (by kernel_rfl) trivial (fun _ => ?_)
  have g00 : Chg none w W3.drew := g0.drew
  have bA0 := bA.drew
  have bB0 := bB.drew
  have bR0 := bR.drew
  clear g0 bA bB bR
  generalize W3.drew = v0 at *
  have gA : Chg none v0 (v0.alloc (.cells #[.slice (some ⟨pA, 0, none⟩) 32 32, .slice (some ⟨pB, 0, none⟩) 32 32] 22)) := (Chg.refl _ _).alloc _
  have hQ : Blk (v0.alloc (.cells #[.slice (some ⟨pA, 0, none⟩) 32 32, .slice (some ⟨pB, 0, none⟩) 32 32] 22)) v0.heap.size #[(⟨some ⟨pA, 0, none⟩, l, 32⟩ : Prt).val, (⟨some ⟨pB, 0, none⟩, r, 32⟩ : Prt).val] 22 := by
    show Blk _ _ #[.slice (some ⟨pA, 0, none⟩) l.length 32, .slice (some ⟨pB, 0, none⟩) r.length 32] 22
    rw [hl, hr]; exact Blk.new _ _ _
  have hPA := parts_two hQ ((prt_of_row bA0 (by omega)).chg gA) ((prt_of_row bB0 (by omega)).chg gA)
  have hj : joined [(⟨some ⟨pA, 0, none⟩, l, 32⟩ : Prt), ⟨some ⟨pB, 0, none⟩, r, 32⟩] = l ++ r := by
    show l ++ (r ++ []) = _
    rw [List.append_nil]
  have HPT := Lib.hid (parts_any 1 (some ⟨v0.heap.size, 0, none⟩) [⟨some ⟨pA, 0, none⟩, l, 32⟩, ⟨some ⟨pB, 0, none⟩, r, 32⟩] 2 _ hPA (by rw [hj, List.length_append]; omega) (by simp) ((hT.chg g00 (by simp)).chg gA (by simp)))
  rw [hj] at HPT
  have hD := HD.out
  change Hid (Calls Tryd.prog 19 #[.int .u8 1, .slice (some ⟨v0.heap.size, 0, none⟩) 2 2] _ fun e w' => e = .returned (.agg (byteVals (pairB l r)).toArray) ∧ _) at HPT
  rw [← hD] at HPT
  have g03 := g00.trans gA
  have bR3 := bR0.chg gA (by simp)
  obtain ⟨hds, hdo⟩ := row_facts D 32 hDl
  have HI : Hid ((Tryd.prog.info? 30).map (·.size) = some (byteVals D).toArray.size) := by rw [hds]; show _ = _; kernel_rfl
  have HZ : Hid (zero32.size = (byteVals D).toArray.size) := by rw [hds]; rfl
  have HO := Lib.hid hdo
  clear hds hdo hQ hPA hj gA hD bA0 bB0 bR0 g00
  refine wpAnyH_take (i := 0) (oi := ⟨some 5, _, _, _, _, _⟩) (v := ?_) rfl (by kernel_rfl) (by kernel_rfl) (by kernel_rfl) (fun _ _ _ h => h) (Or.inl ⟨by rfl, ?_⟩) (by assumption) ?_
  rotate_left
  · intro w hSw; (try dsimp only at hSw); go_simp; (try with_reducible rfl)
  try simp only [Act.put, List.setIfInBounds_toArray, List.set_cons_zero, List.set_cons_succ]
  refine wpAnyH_take (i := 1) (oi := ⟨some 6, _, _, _, _, _⟩) (v := ?_) rfl (by kernel_rfl) (by kernel_rfl) (by kernel_rfl) (fun _ _ _ h => h) (Or.inl ⟨by rfl, ?_⟩) (by assumption) ?_
  rotate_left
  · intro w hSw; (try dsimp only at hSw); go_simp; (try with_reducible rfl)
  try simp only [Act.put, List.setIfInBounds_toArray, List.set_cons_zero, List.set_cons_succ]
  refine wpAnyH_ready (rs := [2]) (by kernel_rfl) (by simp) ?_
  refine AllReadyH.cons (o := ⟨some 7, _, _, _, _, _⟩) rfl (fun K hK => ?_) (AllReadyH.nil)
  go_simp
  refine hK.out _ _ trivial (fun _ => ?_)
  clear hK K
  try simp only [Act.put, List.setIfInBounds_toArray, List.set_cons_zero, List.set_cons_succ]
  refine wpAnyH_ready (rs := [3]) (by kernel_rfl) (by simp) ?_
  refine AllReadyH.cons (o := ⟨some 8, _, _, _, _, _⟩) rfl (fun K hK => ?_) (AllReadyH.nil)
  go_simp
  go_at_call 19
  refine (HPT.out).mono ?_
  rintro e w4 ⟨rfl, g4⟩
  have bR4 := Blk.chg bR3 g4 (by simp)
  go_wp2_with fail
  refine hK.out _ _ trivial (fun _ => ?_)
  clear hK K
  try simp only [Act.put, List.setIfInBounds_toArray, List.set_cons_zero, List.set_cons_succ]
  refine wpAnyH_ready (rs := [4]) (by kernel_rfl) (by simp) ?_
  refine AllReadyH.cons (o := ⟨none, _, _, _, _, _⟩) rfl (fun K hK => ?_) (AllReadyH.nil)
  rw [if_pos (by rfl)]
  refine wp_store_row 30 (.tmp 4) (.tmp 8) (by rfl) pR (byteVals D).toArray (by rfl) (by rfl) 30 zero32 bR4 HI.out HZ.out HO.out ?_
  refine hK.out _ _ trivial (fun _ => ?_)
  clear hK K
  refine wpAnyH_done (by kernel_rfl) ?_ _
  try simp only [Act.put]
  go_wp2_with fail
  refine bodyPost_ret (results_cell_row (p := 4) (ty := 30) Tryd.results71 _ _ pR 30 (byteVals D).toArray (0, 0) _ rfl (setRow_heap _ _ _ _ _ _ bR4) Tryd.underlying30 rfl HI.out) rfl ⟨rfl, ?_⟩
  exact Chg.own (b := pR) (g03.trans g4) (chg_setRow _ _ _) (by rw [HPA.out]; exact hRge)

set_option maxRecDepth 100000 in
set_option maxHeartbeats 4000000 in
theorem root_any (n : Nat) (top : List UInt8) (hn : n < 9223372036854775808) (ht : top.length = 32) (w : World) (hT : Tabs w) :
    Calls Tryd.prog 50 #[.int .i64 n, .agg (byteVals top).toArray] w fun e w' => e = .returned (.agg (byteVals (rootOfB n top)).toArray) ∧ Chg none w w' := by
  obtain ⟨W3, hW3⟩ : ∃ W3, W3 = (w.alloc (.cells (byteVals top).toArray 30)).alloc (.cells zero32 30) := ⟨_, rfl⟩
  have HW3 : Hid ((w.alloc (.cells (byteVals top).toArray 30)).alloc (.cells #[Value.int IntKind.u8 0, Value.int IntKind.u8 0, Value.int IntKind.u8 0, Value.int IntKind.u8 0, Value.int IntKind.u8 0, Value.int IntKind.u8 0, Value.int IntKind.u8 0, Value.int IntKind.u8 0, Value.int IntKind.u8 0, Value.int IntKind.u8 0, Value.int IntKind.u8 0, Value.int IntKind.u8 0, Value.int IntKind.u8 0, Value.int IntKind.u8 0, Value.int IntKind.u8 0, Value.int IntKind.u8 0, Value.int IntKind.u8 0, Value.int IntKind.u8 0, Value.int IntKind.u8 0, Value.int IntKind.u8 0, Value.int IntKind.u8 0, Value.int IntKind.u8 0, Value.int IntKind.u8 0, Value.int IntKind.u8 0, Value.int IntKind.u8 0, Value.int IntKind.u8 0, Value.int IntKind.u8 0, Value.int IntKind.u8 0, Value.int IntKind.u8 0, Value.int IntKind.u8 0, Value.int IntKind.u8 0, Value.int IntKind.u8 0] 30) = W3) := hW3.symm
  have g0 : Chg none w W3 := by rw [hW3]; exact ((Chg.refl _ _).alloc _).alloc _
  have hs1 : (w.alloc (.cells (byteVals top).toArray 30)).heap.size = w.heap.size + 1 := by simp
  have bA : BlkL W3 w.heap.size (byteVals top) 30 := by rw [hW3]; exact Blk.alloc (Blk.new _ _ _) _
  have bR : Blk W3 (w.heap.size + 1) zero32 30 := by
    have h := Blk.new (w.alloc (.cells (byteVals top).toArray 30)) zero32 30
    rw [hs1] at h
    rw [hW3]; exact h
  have hRge : w.heap.size ≤ w.heap.size + 1 := by omega
  clear hW3 hs1
  obtain ⟨D, hD⟩ : ∃ D, D = rootOfB n top := ⟨_, rfl⟩
  have hDl : D.length = 32 := by rw [hD]; exact dig_len _
  rw [← hD]
  obtain ⟨CA, hCA⟩ : ∃ CA, CA = (byteVals top).toArray := ⟨_, rfl⟩
  rw [← hCA]
  rw [← hCA] at HW3
  have HD := Lib.hid hD
  clear hD hCA
  go_enter Tryd.func50, Tryd.ntmps50
  go_wp2_with fail
  rw [HW3.out]
  clear HW3
  generalize w.heap.size + 1 = pR at *
  generalize hpA : w.heap.size = pA at *
  have HPA := Lib.hid hpA
  clear hpA
  refine wp_region_held_drew (S := fun _ => True) (by kernel_rfl) trivial (fun _ => ?_)
  have g00 : Chg none w W3.drew := g0.drew
  have bA0 := bA.drew
  have bR0 := bR.drew
  clear g0 bA bR
  generalize W3.drew = v0 at *
  have HE := Lib.hid (eight_any n hn v0)
  have HPT0 : Hid (∀ (b : Nat) (w2 : World), BlkL w2 b (byteVals (be 8 n)) 5 → Chg none v0 w2 → Calls Tryd.prog 19 #[.int .u8 2, .slice (some ⟨w2.heap.size, 0, none⟩) 2 2] (w2.alloc (.cells #[.slice (some ⟨b, 0, none⟩) 8 8, .slice (some ⟨pA, 0, none⟩) 32 32] 22)) fun e w' =>
      e = .returned (.agg (byteVals D).toArray) ∧ Chg none (w2.alloc (.cells #[.slice (some ⟨b, 0, none⟩) 8 8, .slice (some ⟨pA, 0, none⟩) 32 32] 22)) w') := fun b w2 b2 g2 => by
    have gA : Chg none w2 (w2.alloc (.cells #[.slice (some ⟨b, 0, none⟩) 8 8, .slice (some ⟨pA, 0, none⟩) 32 32] 22)) := (Chg.refl _ _).alloc _
    have hQ : Blk (w2.alloc (.cells #[.slice (some ⟨b, 0, none⟩) 8 8, .slice (some ⟨pA, 0, none⟩) 32 32] 22)) w2.heap.size #[(⟨some ⟨b, 0, none⟩, be 8 n, 8⟩ : Prt).val, (⟨some ⟨pA, 0, none⟩, top, 32⟩ : Prt).val] 22 := by
      show Blk _ _ #[.slice (some ⟨b, 0, none⟩) (be 8 n).length 8, .slice (some ⟨pA, 0, none⟩) top.length 32] 22
      rw [be_len, ht]; exact Blk.new _ _ _
    have hPA := parts_two hQ ((prt_of_row b2 (by rw [be_len]; exact Nat.le_refl _)).chg gA) ((prt_of_row (Blk.chg bA0 g2 (by simp)) (by omega)).chg gA)
    have hj : joined [(⟨some ⟨b, 0, none⟩, be 8 n, 8⟩ : Prt), ⟨some ⟨pA, 0, none⟩, top, 32⟩] = be 8 n ++ top := by
      show be 8 n ++ (top ++ []) = _
      rw [List.append_nil]
    have h := parts_any 2 (some ⟨w2.heap.size, 0, none⟩) [⟨some ⟨b, 0, none⟩, be 8 n, 8⟩, ⟨some ⟨pA, 0, none⟩, top, 32⟩] 2 _ hPA (by rw [hj, List.length_append, be_len]; omega) (by simp) (((hT.chg g00 (by simp)).chg g2 (by simp)).chg gA (by simp))
    rw [hj] at h
    exact h.mono fun e w' ⟨he, h⟩ => ⟨by rw [he, HD.out]; rfl, h⟩
  obtain ⟨hds, hdo⟩ := row_facts D 32 hDl
  have HI : Hid ((Tryd.prog.info? 30).map (·.size) = some (byteVals D).toArray.size) := by rw [hds]; show _ = _; kernel_rfl
  have HZ : Hid (zero32.size = (byteVals D).toArray.size) := by rw [hds]; rfl
  have HO := Lib.hid hdo
  clear hds hdo bA0
  refine wpAnyH_take (i := 0) (oi := ⟨some 5, _, _, _, _, _⟩) (v := ?_) rfl (by kernel_rfl) (by kernel_rfl) (by kernel_rfl) (fun _ _ _ h => h) (Or.inl ⟨by rfl, ?_⟩) (by assumption) ?_
  rotate_left
  · intro w hSw; (try dsimp only at hSw); go_simp; (try with_reducible rfl)
  try simp only [Act.put, List.setIfInBounds_toArray, List.set_cons_zero, List.set_cons_succ]
  refine wpAnyH_take (i := 2) (oi := ⟨some 7, _, _, _, _, _⟩) (v := ?_) rfl (by kernel_rfl) (by kernel_rfl) (by kernel_rfl) (fun _ _ _ h => h) (Or.inl ⟨by rfl, ?_⟩) (by assumption) ?_
  rotate_left
  · intro w hSw; (try dsimp only at hSw); go_simp; (try with_reducible rfl)
  try simp only [Act.put, List.setIfInBounds_toArray, List.set_cons_zero, List.set_cons_succ]
  refine wpAnyH_ready (rs := [1]) (by kernel_rfl) (by simp) ?_
  refine AllReadyH.cons (o := ⟨some 6, _, _, _, _, _⟩) rfl (fun K hK => ?_) (AllReadyH.nil)
  go_simp
  go_at_call 72
  refine (HE.out).mono ?_
  rintro e w2 ⟨b, rfl, b2, hb2, g2⟩
  go_wp2_with fail
  refine hK.out _ _ trivial (fun _ => ?_)
  clear hK K
  try simp only [Act.put, List.setIfInBounds_toArray, List.set_cons_zero, List.set_cons_succ]
  refine wpAnyH_ready (rs := [3]) (by kernel_rfl) (by simp) ?_
  refine AllReadyH.cons (o := ⟨some 8, _, _, _, _, _⟩) rfl (fun K hK => ?_) (AllReadyH.nil)
  have HPT := Lib.hid (HPT0.out b w2 b2 g2)
  have bR3 := Blk.chg bR0 (g2.trans ((Chg.refl none w2).alloc (.cells #[.slice (some ⟨b, 0, none⟩) 8 8, .slice (some ⟨pA, 0, none⟩) 32 32] 22))) (by simp)
  have g03 := g00.trans (g2.trans ((Chg.refl none w2).alloc (.cells #[.slice (some ⟨b, 0, none⟩) 8 8, .slice (some ⟨pA, 0, none⟩) 32 32] 22)))
  go_simp
  refine hK.out _ _ trivial (fun _ => ?_)
  clear hK K
  try simp only [Act.put, List.setIfInBounds_toArray, List.set_cons_zero, List.set_cons_succ]
  refine wpAnyH_ready (rs := [4]) (by kernel_rfl) (by simp) ?_
  refine AllReadyH.cons (o := ⟨some 9, _, _, _, _, _⟩) rfl (fun K hK => ?_) (AllReadyH.nil)
  go_simp
  go_at_call 19
  refine (HPT.out).mono ?_
  rintro e w4 ⟨rfl, g4⟩
  have bR4 := Blk.chg bR3 g4 (by simp)
  go_wp2_with fail
  refine hK.out _ _ trivial (fun _ => ?_)
  clear hK K
  try simp only [Act.put, List.setIfInBounds_toArray, List.set_cons_zero, List.set_cons_succ]
  refine wpAnyH_ready (rs := [5]) (by kernel_rfl) (by simp) ?_
  refine AllReadyH.cons (o := ⟨none, _, _, _, _, _⟩) rfl (fun K hK => ?_) (AllReadyH.nil)
  rw [if_pos (by rfl)]
  refine wp_store_row 30 (.tmp 4) (.tmp 9) (by rfl) pR (byteVals D).toArray (by rfl) (by rfl) 30 zero32 bR4 HI.out HZ.out HO.out ?_
  refine hK.out _ _ trivial (fun _ => ?_)
  clear hK K
  refine wpAnyH_done (by kernel_rfl) ?_ _
  try simp only [Act.put]
  go_wp2_with fail
  refine bodyPost_ret (results_cell_row (p := 4) (ty := 30) Tryd.results50 _ _ pR 30 (byteVals D).toArray (0, 0) _ rfl (setRow_heap _ _ _ _ _ _ bR4) Tryd.underlying30 rfl HI.out) rfl ⟨rfl, ?_⟩
  exact Chg.own (b := pR) (g03.trans g4) (chg_setRow _ _ _) (by rw [HPA.out]; exact hRge)

end Go.Proofs.YtdkgecphkppglaaDoor
