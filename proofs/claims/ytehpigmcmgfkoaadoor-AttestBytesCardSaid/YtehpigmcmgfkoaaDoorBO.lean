/-
  AttestOrder: the walk.
-/
import Derived.Test.YtehpigmcmgfkoaaDoorBM
import Derived.Test.YtehpigmcmgfkoaaDoorA9
namespace Go.Proofs.YtehpigmcmgfkoaaDoor
open Go.RowKit

theorem lessB_asym (a b : Att) (h : lessB a b = true) : lessB b a = false := by
  unfold lessB at h ⊢
  exact decide_eq_false (cmp_asym _ _ (of_decide_eq_true h))
theorem lessB_trans (a b c : Att) (h1 : lessB a b = true) (h2 : lessB b c = true) : lessB a c = true := by
  unfold lessB at h1 h2 ⊢
  exact decide_eq_true (cmp_trans _ _ _ (of_decide_eq_true h1) (of_decide_eq_true h2))
theorem lessB_self (a : Att) : lessB a a = false := by
  unfold lessB
  rw [cmp_self]; rfl
theorem be8_inj64 (m n : Nat) (hm : m < 18446744073709551616) (hn : n < 18446744073709551616) (h : be 8 m = be 8 n) : m = n := by
  have h1 := be_cmp 8 m n
  have h2 := be_cmp 8 n m
  rw [h, cmp_self] at h1
  rw [h, cmp_self] at h2
  have e1 : (2 : Nat) ^ (8 * 8) = 18446744073709551616 := by decide
  rw [e1] at h1 h2
  omega
theorem lessB_none (a b : Att) (ha : -9223372036854775808 ≤ a.n ∧ a.n ≤ 9223372036854775807) (hb : -9223372036854775808 ≤ b.n ∧ b.n ≤ 9223372036854775807) (h1 : lessB a b = false) (h2 : lessB b a = false) : a = b := by
  unfold lessB at h1 h2
  have h1 := of_decide_eq_false h1
  have h2 := of_decide_eq_false h2
  rcases cmp_tot (attBytes a (u64n a.n)) (attBytes b (u64n b.n)) with h | h | h
  · exact absurd h h1
  · unfold attBytes at h
    obtain ⟨e1, h⟩ := List.append_inj h (by rw [a.k.2, b.k.2])
    obtain ⟨e2, h⟩ := List.append_inj h (by rw [a.r.2, b.r.2])
    obtain ⟨e3, e4⟩ := List.append_inj h (by rw [be_len, be_len])
    have e5 := be8_inj64 _ _ (by unfold u64n; omega) (by unfold u64n; omega) e3
    obtain ⟨k, r, n, t⟩ := a
    obtain ⟨k', r', n', t'⟩ := b
    dsimp only at *
    have e6 : n = n' := by unfold u64n at e5; omega
    rw [Subtype.ext e1, Subtype.ext e2, Subtype.ext e4, e6]
  · exact absurd h h2

set_option maxRecDepth 100000 in
set_option maxHeartbeats 16000000 in
theorem order_law (a b c : Att) (w : World) (ha : -9223372036854775808 ≤ a.n ∧ a.n ≤ 9223372036854775807) (hb : -9223372036854775808 ≤ b.n ∧ b.n ≤ 9223372036854775807) (hc : -9223372036854775808 ≤ c.n ∧ c.n ≤ 9223372036854775807) (hT : Tabs w) :
    Calls Tryd.prog 13 #[.agg (attCells a).toArray, .agg (attCells b).toArray, .agg (attCells c).toArray] w fun e w' => e = .returned (.bool true) ∧ Chg none w w' := by
  obtain ⟨CA, hCA⟩ : ∃ CA, CA = (attCells a).toArray := ⟨_, rfl⟩
  obtain ⟨CB, hCB⟩ : ∃ CB, CB = (attCells b).toArray := ⟨_, rfl⟩
  obtain ⟨CC, hCC⟩ : ∃ CC, CC = (attCells c).toArray := ⟨_, rfl⟩
  have HCA := Lib.hid hCA
  have HCB := Lib.hid hCB
  have HCC := Lib.hid hCC
  obtain ⟨W3, hW3⟩ : ∃ W3, W3 = ((w.alloc (.cells CA 46)).alloc (.cells CB 46)).alloc (.cells CC 46) := ⟨_, rfl⟩
  have HW3 : Hid (((w.alloc (.cells CA 46)).alloc (.cells CB 46)).alloc (.cells CC 46) = W3) := hW3.symm
  have gR : Chg none w W3 := by rw [hW3]; exact (((Chg.refl _ _).alloc _).alloc _).alloc _
  have bA : BlkL W3 w.heap.size (attCells a) 46 := by rw [hW3, hCA]; exact Blk.alloc (Blk.alloc (Blk.new _ _ _) _) _
  have bB : BlkL W3 (w.heap.size + 1) (attCells b) 46 := by rw [hW3, hCB]; exact Blk.alloc (Blk.newAt _ _ (by simp)) _
  have bC : BlkL W3 (w.heap.size + 1 + 1) (attCells c) 46 := by rw [hW3, hCC]; exact Blk.newAt _ _ (by simp)
  have E0 := gR.drew
  have hS0 : W3.drew.rangeAt w.heap.size 0 (attCells a) ∧ W3.drew.rangeAt (w.heap.size + 1) 0 (attCells b) ∧ W3.drew.rangeAt (w.heap.size + 1 + 1) 0 (attCells c) :=
    ⟨Blk.range (w := W3.drew) (T := 46) bA, Blk.range (w := W3.drew) (T := 46) bB, Blk.range (w := W3.drew) (T := 46) bC⟩
  have HIA := Lib.hid (info46 a)
  have HIB := Lib.hid (info46 b)
  have HIC := Lib.hid (info46 c)
  have HKN : Hid (∀ v, Chg none w v → Calls Tryd.prog 24 #[] v fun e w' => e = .returned (.bool true) ∧ Chg none v w') := fun v g => known9_any v (hT.chg g (by simp))
  have HAB := Lib.hid (fun v => less_any a b v ha hb)
  have HBA := Lib.hid (fun v => less_any b a v hb ha)
  have HBC := Lib.hid (fun v => less_any b c v hb hc)
  have HAC := Lib.hid (fun v => less_any a c v ha hc)
  have HEQ : Hid (∀ v : World, (binOp .eql 46 (.agg CA) (.agg CB)).run Tryd.prog v = .ok (.bool (sameAtt a b)) v) := fun v => by rw [hCA, hCB]; exact eql46 a b v
  have f1 : sameAtt a b = (!lessB a b && !lessB b a) := by
    by_cases e : a = b
    · subst e; rw [(sameAtt_iff a a).2 rfl, lessB_self]; rfl
    · have h1 : sameAtt a b = false := by rw [← Bool.not_eq_true, sameAtt_iff]; exact e
      rw [h1]
      cases h2 : lessB a b <;> cases h3 : lessB b a <;> first | rfl | exact absurd (lessB_none a b ha hb h2 h3) e
  have f2 : lessB a b = true → lessB b a = false := lessB_asym a b
  have f3 : lessB a b = true → lessB b c = true → lessB a c = true := lessB_trans a b c
  have hg46 := guard46
  rw [← hCA, ← hCB] at HAB HBA
  rw [← hCB, ← hCC] at HBC
  rw [← hCA, ← hCC] at HAC
  rw [← hCA, ← hCB, ← hCC]
  generalize lessB a b = AB at *
  generalize lessB b a = BA at *
  generalize lessB b c = BC at *
  generalize lessB a c = AC at *
  generalize sameAtt a b = EQ at *
  clear hCA hCB hCC hW3 bA bB bC gR ha hb hc hT
  go_enter Tryd.func13, Tryd.ntmps13
  go_upto_region 1 with fail
  rw [HW3.out]
  clear HW3
  generalize w.heap.size + 1 + 1 = pC at *
  generalize w.heap.size + 1 = pB at *
  generalize w.heap.size = pA at *
  refine wp_region_held_drew (S := fun w' => w'.rangeAt pA 0 (attCells a) ∧ w'.rangeAt pB 0 (attCells b) ∧ w'.rangeAt pC 0 (attCells c)) (by kernel_rfl) hS0 (fun _ => ?_)
  generalize W3.drew = v0 at *
  refine wpAnyH_take (i := 0) (oi := ⟨some 11, _, _, _, _, _⟩) (v := .agg CA) rfl (by kernel_rfl) (by kernel_rfl) (by kernel_rfl) (fun _ _ _ h => h) (by rw [HCA.out]; exact yieldsIf_load_mid (by rfl) 46 _ rfl pA 0 rfl (attCells a) _ (fun _ h => h.1) Tryd.underlying46 rfl HIA.out) (by assumption) ?_
  try simp only [Act.put, List.setIfInBounds_toArray, List.set_cons_zero, List.set_cons_succ]
  refine wpAnyH_take (i := 1) (oi := ⟨some 12, _, _, _, _, _⟩) (v := .agg CB) rfl (by kernel_rfl) (by kernel_rfl) (by kernel_rfl) (fun _ _ _ h => h) (by rw [HCB.out]; exact yieldsIf_load_mid (by rfl) 46 _ rfl pB 0 rfl (attCells b) _ (fun _ h => h.2.1) Tryd.underlying46 rfl HIB.out) (by assumption) ?_
  try simp only [Act.put, List.setIfInBounds_toArray, List.set_cons_zero, List.set_cons_succ]
  refine wpAnyH_take (i := 3) (oi := ⟨some 14, _, _, _, _, _⟩) (v := .agg CB) rfl (by kernel_rfl) (by kernel_rfl) (by kernel_rfl) (fun _ _ _ h => h) (by rw [HCB.out]; exact yieldsIf_load_mid (by rfl) 46 _ rfl pB 0 rfl (attCells b) _ (fun _ h => h.2.1) Tryd.underlying46 rfl HIB.out) (by assumption) ?_
  try simp only [Act.put, List.setIfInBounds_toArray, List.set_cons_zero, List.set_cons_succ]
  refine wpAnyH_take (i := 4) (oi := ⟨some 15, _, _, _, _, _⟩) (v := .agg CA) rfl (by kernel_rfl) (by kernel_rfl) (by kernel_rfl) (fun _ _ _ h => h) (by rw [HCA.out]; exact yieldsIf_load_mid (by rfl) 46 _ rfl pA 0 rfl (attCells a) _ (fun _ h => h.1) Tryd.underlying46 rfl HIA.out) (by assumption) ?_
  try simp only [Act.put, List.setIfInBounds_toArray, List.set_cons_zero, List.set_cons_succ]
  refine wpAnyH_take (i := 6) (oi := ⟨some 17, _, _, _, _, _⟩) (v := .agg CB) rfl (by kernel_rfl) (by kernel_rfl) (by kernel_rfl) (fun _ _ _ h => h) (by rw [HCB.out]; exact yieldsIf_load_mid (by rfl) 46 _ rfl pB 0 rfl (attCells b) _ (fun _ h => h.2.1) Tryd.underlying46 rfl HIB.out) (by assumption) ?_
  try simp only [Act.put, List.setIfInBounds_toArray, List.set_cons_zero, List.set_cons_succ]
  refine wpAnyH_take (i := 7) (oi := ⟨some 18, _, _, _, _, _⟩) (v := .agg CC) rfl (by kernel_rfl) (by kernel_rfl) (by kernel_rfl) (fun _ _ _ h => h) (by rw [HCC.out]; exact yieldsIf_load_mid (by rfl) 46 _ rfl pC 0 rfl (attCells c) _ (fun _ h => h.2.2) Tryd.underlying46 rfl HIC.out) (by assumption) ?_
  try simp only [Act.put, List.setIfInBounds_toArray, List.set_cons_zero, List.set_cons_succ]
  refine wpAnyH_take (i := 9) (oi := ⟨some 20, _, _, _, _, _⟩) (v := .agg CA) rfl (by kernel_rfl) (by kernel_rfl) (by kernel_rfl) (fun _ _ _ h => h) (by rw [HCA.out]; exact yieldsIf_load_mid (by rfl) 46 _ rfl pA 0 rfl (attCells a) _ (fun _ h => h.1) Tryd.underlying46 rfl HIA.out) (by assumption) ?_
  try simp only [Act.put, List.setIfInBounds_toArray, List.set_cons_zero, List.set_cons_succ]
  refine wpAnyH_take (i := 10) (oi := ⟨some 21, _, _, _, _, _⟩) (v := .agg CC) rfl (by kernel_rfl) (by kernel_rfl) (by kernel_rfl) (fun _ _ _ h => h) (by rw [HCC.out]; exact yieldsIf_load_mid (by rfl) 46 _ rfl pC 0 rfl (attCells c) _ (fun _ h => h.2.2) Tryd.underlying46 rfl HIC.out) (by assumption) ?_
  try simp only [Act.put, List.setIfInBounds_toArray, List.set_cons_zero, List.set_cons_succ]
  refine wpAnyH_ready (rs := [2]) (by kernel_rfl) (by simp) ?_
  refine AllReadyH.cons (o := ⟨some 13, _, _, _, _, _⟩) rfl (fun K hK => ?_) (AllReadyH.nil)
  go_simp
  go_at_call 30
  refine (HAB.out _).mono ?_
  rintro e v1 ⟨rfl, g1⟩
  have E1 := E0.trans g1
  have hS1 : v1.rangeAt pA 0 (attCells a) ∧ v1.rangeAt pB 0 (attCells b) ∧ v1.rangeAt pC 0 (attCells c) := ⟨rangeAt_chg hS0.1 g1 (by simp), rangeAt_chg hS0.2.1 g1 (by simp), rangeAt_chg hS0.2.2 g1 (by simp)⟩
  go_wp2_with fail
  refine hK.out _ _ hS1 (fun _ => ?_)
  clear hK K
  try simp only [Act.put, List.setIfInBounds_toArray, List.set_cons_zero, List.set_cons_succ]
  refine wpAnyH_ready (rs := [5]) (by kernel_rfl) (by simp) ?_
  refine AllReadyH.cons (o := ⟨some 16, _, _, _, _, _⟩) rfl (fun K hK => ?_) (AllReadyH.nil)
  go_simp
  go_at_call 30
  refine (HBA.out _).mono ?_
  rintro e v2 ⟨rfl, g2⟩
  have E2 := E1.trans g2
  have hS2 : v2.rangeAt pA 0 (attCells a) ∧ v2.rangeAt pB 0 (attCells b) ∧ v2.rangeAt pC 0 (attCells c) := ⟨rangeAt_chg hS1.1 g2 (by simp), rangeAt_chg hS1.2.1 g2 (by simp), rangeAt_chg hS1.2.2 g2 (by simp)⟩
  go_wp2_with fail
  refine hK.out _ _ hS2 (fun _ => ?_)
  clear hK K
  try simp only [Act.put, List.setIfInBounds_toArray, List.set_cons_zero, List.set_cons_succ]
  refine wpAnyH_ready (rs := [8]) (by kernel_rfl) (by simp) ?_
  refine AllReadyH.cons (o := ⟨some 19, _, _, _, _, _⟩) rfl (fun K hK => ?_) (AllReadyH.nil)
  go_simp
  go_at_call 30
  refine (HBC.out _).mono ?_
  rintro e v3 ⟨rfl, g3⟩
  have E3 := E2.trans g3
  have hS3 : v3.rangeAt pA 0 (attCells a) ∧ v3.rangeAt pB 0 (attCells b) ∧ v3.rangeAt pC 0 (attCells c) := ⟨rangeAt_chg hS2.1 g3 (by simp), rangeAt_chg hS2.2.1 g3 (by simp), rangeAt_chg hS2.2.2 g3 (by simp)⟩
  go_wp2_with fail
  refine hK.out _ _ hS3 (fun _ => ?_)
  clear hK K
  try simp only [Act.put, List.setIfInBounds_toArray, List.set_cons_zero, List.set_cons_succ]
  refine wpAnyH_ready (rs := [11]) (by kernel_rfl) (by simp) ?_
  refine AllReadyH.cons (o := ⟨some 22, _, _, _, _, _⟩) rfl (fun K hK => ?_) (AllReadyH.nil)
  go_simp
  go_at_call 30
  refine (HAC.out _).mono ?_
  rintro e v4 ⟨rfl, g4⟩
  have E4 := E3.trans g4
  have hS4 : v4.rangeAt pA 0 (attCells a) ∧ v4.rangeAt pB 0 (attCells b) ∧ v4.rangeAt pC 0 (attCells c) := ⟨rangeAt_chg hS3.1 g4 (by simp), rangeAt_chg hS3.2.1 g4 (by simp), rangeAt_chg hS3.2.2 g4 (by simp)⟩
  go_wp2_with fail
  refine hK.out _ _ hS4 (fun _ => ?_)
  clear hK K
  try simp only [Act.put, List.setIfInBounds_toArray, List.set_cons_zero, List.set_cons_succ]
  refine wpAnyH_take (i := 12) (oi := ⟨some 7, _, _, _, _, _⟩) (v := ?_) rfl (by kernel_rfl) (by kernel_rfl) (by kernel_rfl) (fun _ _ _ h => h) (Or.inl ⟨by rfl, ?_⟩) (by assumption) ?_
  rotate_left
  · intro w hSw; (try dsimp only at hSw); go_simp; (try with_reducible rfl)
  try simp only [Act.put, List.setIfInBounds_toArray, List.set_cons_zero, List.set_cons_succ]
  refine wpAnyH_take (i := 13) (oi := ⟨some 8, _, _, _, _, _⟩) (v := ?_) rfl (by kernel_rfl) (by kernel_rfl) (by kernel_rfl) (fun _ _ _ h => h) (Or.inl ⟨by rfl, ?_⟩) (by assumption) ?_
  rotate_left
  · intro w hSw; (try dsimp only at hSw); go_simp; (try with_reducible rfl)
  try simp only [Act.put, List.setIfInBounds_toArray, List.set_cons_zero, List.set_cons_succ]
  refine wpAnyH_take (i := 14) (oi := ⟨some 9, _, _, _, _, _⟩) (v := ?_) rfl (by kernel_rfl) (by kernel_rfl) (by kernel_rfl) (fun _ _ _ h => h) (Or.inl ⟨by rfl, ?_⟩) (by assumption) ?_
  rotate_left
  · intro w hSw; (try dsimp only at hSw); go_simp; (try with_reducible rfl)
  try simp only [Act.put, List.setIfInBounds_toArray, List.set_cons_zero, List.set_cons_succ]
  refine wpAnyH_take (i := 15) (oi := ⟨some 10, _, _, _, _, _⟩) (v := ?_) rfl (by kernel_rfl) (by kernel_rfl) (by kernel_rfl) (fun _ _ _ h => h) (Or.inl ⟨by rfl, ?_⟩) (by assumption) ?_
  rotate_left
  · intro w hSw; (try dsimp only at hSw); go_simp; (try with_reducible rfl)
  try simp only [Act.put, List.setIfInBounds_toArray, List.set_cons_zero, List.set_cons_succ]
  refine wpAnyH_done (by kernel_rfl) ?_ _
  try simp only [Act.put]
  have HK := Lib.hid (HKN.out v4 E4)
  have HA4 := Lib.hid hS4.1
  have HB4 := Lib.hid hS4.2.1
  have hqe := HEQ.out
  clear HKN HAB HBA HBC HAC HEQ hS0 hS1 hS2 hS3 hS4 E0 E1 E2 E3 g1 g2 g3 g4
  have hbr : (AB = true ∧ BA = false ∧ EQ = false ∧ (BC = true ∧ AC = true ∨ BC = false)) ∨ (AB = false ∧ BA = true ∧ EQ = false) ∨ (AB = false ∧ BA = false ∧ EQ = true) := by
    revert f1 f2 f3
    clear hqe
    cases AB <;> cases BA <;> cases EQ <;> cases BC <;> cases AC <;> decide
  clear f1 f2 f3
  rcases hbr with ⟨rfl, rfl, rfl, ⟨rfl, rfl⟩ | rfl⟩ | ⟨rfl, rfl, rfl⟩ | ⟨rfl, rfl, rfl⟩
  all_goals
    go_wp2_with (first
      | (refine wpList_load_mid rfl 46 _ rfl pA 0 rfl (attCells a) _ HA4.out Tryd.underlying46 rfl HIA.out ?_; rw [← HCA.out])
      | (refine wpList_load_mid rfl 46 _ rfl pB 0 rfl (attCells b) _ HB4.out Tryd.underlying46 rfl HIB.out ?_; rw [← HCB.out]))
    refine HK.out.mono ?_
    rintro e v5 ⟨rfl, g5⟩
    go_wp2_with fail
    go_ret
    exact ⟨rfl, E4.trans g5⟩

end Go.Proofs.YtehpigmcmgfkoaaDoor
