/-
  The document's attest: Make.
-/
import Derived.Test.YtehpigmcmgfkoaaDoorA8
namespace Go.Proofs.YtehpigmcmgfkoaaDoor
open Go.RowKit

theorem yieldsIf_build {P : Program} {ops : Array Oper} {S : World → Prop} {op : Oper} {a : Act} (hw : Region.wanted op (yielded ops a.tmps) = true) (t : TypeId) (parts : Array (Nat × Operand)) (ho : op.op = .build t parts)
    (cells : Array Value) (hf : P.built t (parts.map fun (i, x) => (i, a.eval x)).toList = some cells) : YieldsIf P ops S op (.agg cells) a :=
  .inl ⟨hw, fun w _ => by
    unfold execOp
    simp only [ho, Sem.run_bind, run_build w t _ cells hf, Sem.run_pure, Result.andThen_ok]⟩

theorem built46_4 (k r t : Dg) (n : Int) : Tryd.prog.built 46 [(0, .agg (byteVals k.1).toArray), (1, .agg (byteVals r.1).toArray), (2, .int .i64 n), (3, .agg (byteVals t.1).toArray)] = some (attCells ⟨k, r, n, t⟩).toArray := by
  obtain ⟨k, hk⟩ := k
  obtain ⟨r, hr⟩ := r
  obtain ⟨t, ht⟩ := t
  match k, hk, r, hr, t, ht with
  | [a0, a1, a2, a3, a4, a5, a6, a7, a8, a9, a10, a11, a12, a13, a14, a15, a16, a17, a18, a19, a20, a21, a22, a23, a24, a25, a26, a27, a28, a29, a30, a31], _, [b0, b1, b2, b3, b4, b5, b6, b7, b8, b9, b10, b11, b12, b13, b14, b15, b16, b17, b18, b19, b20, b21, b22, b23, b24, b25, b26, b27, b28, b29, b30, b31], _, [c0, c1, c2, c3, c4, c5, c6, c7, c8, c9, c10, c11, c12, c13, c14, c15, c16, c17, c18, c19, c20, c21, c22, c23, c24, c25, c26, c27, c28, c29, c30, c31], _ => show _ = _; kernel_rfl

set_option maxRecDepth 100000 in
set_option maxHeartbeats 8000000 in
theorem makeq_any (k r : Dg) (m : Nat) (p : Prt) (w : World) (hm : m < 9223372036854775808) (hp : p.ok w) (hpl : p.x.length ≤ 900000) :
    Calls Tryd.prog 26 #[.slice p.A p.x.length p.c, .agg (byteVals k.1).toArray, .agg (byteVals r.1).toArray, .int .i64 m] w fun e w' => e = .returned (.agg (attCells ⟨k, r, m, tagDg p.x k r m⟩).toArray) ∧ Chg none w w' := by
  obtain ⟨W3, hW3⟩ : ∃ W3, W3 = ((w.alloc (.cells (byteVals k.1).toArray 30)).alloc (.cells (byteVals r.1).toArray 30)).alloc (.cells Tryd.zeroCells46 46) := ⟨_, rfl⟩
  have HW3 : Hid (((w.alloc (.cells (byteVals k.1).toArray 30)).alloc (.cells (byteVals r.1).toArray 30)).alloc (.cells Tryd.zeroCells46 46) = W3) := hW3.symm
  have g0 : Chg none w W3 := by rw [hW3]; exact (((Chg.refl _ _).alloc _).alloc _).alloc _
  have bK : BlkL W3 w.heap.size (byteVals k.1) 30 := by rw [hW3]; exact Blk.alloc (Blk.alloc (Blk.new _ _ _) _) _
  have bR : BlkL W3 (w.heap.size + 1) (byteVals r.1) 30 := by rw [hW3]; exact Blk.alloc (Blk.newAt _ _ (by simp)) _
  have bS : BlkL W3 (w.heap.size + 1 + 1) (attCells zeroAtt) 46 := by rw [hW3, zero46]; exact Blk.newAt _ _ (by simp)
  obtain ⟨T, hTT⟩ : ∃ T, T = tagDg p.x k r m := ⟨_, rfl⟩
  obtain ⟨a1, ha1⟩ : ∃ a1 : Att, a1 = ⟨k, r, m, T⟩ := ⟨_, rfl⟩
  obtain ⟨C1, hC1⟩ : ∃ C1, C1 = (attCells a1).toArray := ⟨_, rfl⟩
  have HBU : Hid (Tryd.prog.built 46 [(0, .agg (byteVals k.1).toArray), (1, .agg (byteVals r.1).toArray), (2, .int .i64 m), (3, .agg (byteVals T.1).toArray)] = some C1) := by rw [hC1, ha1]; exact built46_4 k r T m
  have HIK : Hid ((Tryd.prog.info? 30).map (·.size) = some (byteVals k.1).length) := by rw [byteVals_len, k.2]; show _ = _; kernel_rfl
  have HIR : Hid ((Tryd.prog.info? 30).map (·.size) = some (byteVals r.1).length) := by rw [byteVals_len, r.2]; show _ = _; kernel_rfl
  have HI1 : Hid ((Tryd.prog.info? 46).map (·.size) = some C1.size) := by rw [hC1]; exact info46a a1
  have HO1 : Hid (C1.all (·.oneCell') = true) := by rw [hC1]; exact attCells_one a1
  have HZ1 : Hid ((attCells zeroAtt).toArray.size = C1.size) := by rw [hC1, List.size_toArray, List.size_toArray, attCells_len, attCells_len]; rfl
  have HBD := Lib.hid (fun v => bodyr_any k r m hm v)
  have HTA : Hid (∀ v A c, Chg none w v → Txt v A (bodyB k r m) → 73 ≤ c → Calls Tryd.prog 22 #[.slice p.A p.x.length p.c, .slice A 73 c] v fun e w' => e = .returned (.agg (byteVals T.1).toArray) ∧ Chg none v w') := fun v A c g h1 h2 => by
    have hl := body_len k r m
    have := tagr_any p ⟨A, bodyB k r m, c⟩ v (hp.chg g) ⟨h1, by show (bodyB k r m).length ≤ c; omega⟩ hpl (by show (bodyB k r m).length ≤ 900000; omega)
    dsimp only at this
    rw [hl] at this
    rw [hTT]; exact this
  rw [← hTT, ← ha1, ← hC1]
  have hle1 : w.heap.size ≤ w.heap.size + 1 + 1 := by omega
  have hneK : w.heap.size ≠ w.heap.size + 1 + 1 := by omega
  have hneR : w.heap.size + 1 ≠ w.heap.size + 1 + 1 := by omega
  obtain ⟨CK, hCK⟩ : ∃ CK, CK = (byteVals k.1).toArray := ⟨_, rfl⟩
  obtain ⟨CR, hCR⟩ : ∃ CR, CR = (byteVals r.1).toArray := ⟨_, rfl⟩
  have HCK := Lib.hid hCK
  have HCR := Lib.hid hCR
  rw [← hCK, ← hCR] at HW3 HBD ⊢
  rw [← hCK, ← hCR] at HBU
  have hS0 : W3.drew.rangeAt w.heap.size 0 (byteVals k.1) ∧ W3.drew.rangeAt (w.heap.size + 1) 0 (byteVals r.1) := ⟨Blk.range (w := W3.drew) (T := 30) bK, Blk.range (w := W3.drew) (T := 30) bR⟩
  have bS0 : Blk W3.drew (w.heap.size + 1 + 1) (attCells zeroAtt).toArray 46 := bS
  have E0 : Chg none w W3.drew := g0.drew
  clear hW3 hTT ha1 hC1 hCK hCR hp bK bR bS g0
  go_enter Tryd.func26, Tryd.ntmps26
  go_upto_region 1 with fail
  rw [HW3.out]
  clear HW3
  generalize hpS : w.heap.size + 1 + 1 = pS at *
  generalize w.heap.size + 1 = pR at *
  generalize hpK : w.heap.size = pK at *
  have HPK := Lib.hid hpK
  clear hpK hpS
  refine wp_region_held_drew (S := fun w' => w'.rangeAt pK 0 (byteVals k.1) ∧ w'.rangeAt pR 0 (byteVals r.1)) (by kernel_rfl) hS0 (fun _ => ?_)
  generalize W3.drew = v0 at *
  refine wpAnyH_take (i := 0) (oi := ⟨some 9, _, _, _, _, _⟩) (v := .agg CK) rfl (by kernel_rfl) (by kernel_rfl) (by kernel_rfl) (fun _ _ _ h => h) (by rw [HCK.out]; exact yieldsIf_load_mid (by rfl) 30 _ rfl pK 0 rfl (byteVals k.1) _ (fun _ h => h.1) Tryd.underlying30 rfl HIK.out) (by assumption) ?_
  try simp only [Act.put, List.setIfInBounds_toArray, List.set_cons_zero, List.set_cons_succ]
  refine wpAnyH_take (i := 1) (oi := ⟨some 10, _, _, _, _, _⟩) (v := .agg CR) rfl (by kernel_rfl) (by kernel_rfl) (by kernel_rfl) (fun _ _ _ h => h) (by rw [HCR.out]; exact yieldsIf_load_mid (by rfl) 30 _ rfl pR 0 rfl (byteVals r.1) _ (fun _ h => h.2) Tryd.underlying30 rfl HIR.out) (by assumption) ?_
  try simp only [Act.put, List.setIfInBounds_toArray, List.set_cons_zero, List.set_cons_succ]
  refine wpAnyH_take (i := 2) (oi := ⟨some 11, _, _, _, _, _⟩) (v := ?_) rfl (by kernel_rfl) (by kernel_rfl) (by kernel_rfl) (fun _ _ _ h => h) (Or.inl ⟨by rfl, ?_⟩) (by assumption) ?_
  rotate_left
  · intro w hSw; (try dsimp only at hSw); go_simp; (try with_reducible rfl)
  try simp only [Act.put, List.setIfInBounds_toArray, List.set_cons_zero, List.set_cons_succ]
  refine wpAnyH_take (i := 3) (oi := ⟨some 12, _, _, _, _, _⟩) (v := ?_) rfl (by kernel_rfl) (by kernel_rfl) (by kernel_rfl) (fun _ _ _ h => h) (Or.inl ⟨by rfl, ?_⟩) (by assumption) ?_
  rotate_left
  · intro w hSw; (try dsimp only at hSw); go_simp; (try with_reducible rfl)
  try simp only [Act.put, List.setIfInBounds_toArray, List.set_cons_zero, List.set_cons_succ]
  refine wpAnyH_take (i := 4) (oi := ⟨some 13, _, _, _, _, _⟩) (v := .agg CK) rfl (by kernel_rfl) (by kernel_rfl) (by kernel_rfl) (fun _ _ _ h => h) (by rw [HCK.out]; exact yieldsIf_load_mid (by rfl) 30 _ rfl pK 0 rfl (byteVals k.1) _ (fun _ h => h.1) Tryd.underlying30 rfl HIK.out) (by assumption) ?_
  try simp only [Act.put, List.setIfInBounds_toArray, List.set_cons_zero, List.set_cons_succ]
  refine wpAnyH_take (i := 5) (oi := ⟨some 14, _, _, _, _, _⟩) (v := .agg CR) rfl (by kernel_rfl) (by kernel_rfl) (by kernel_rfl) (fun _ _ _ h => h) (by rw [HCR.out]; exact yieldsIf_load_mid (by rfl) 30 _ rfl pR 0 rfl (byteVals r.1) _ (fun _ h => h.2) Tryd.underlying30 rfl HIR.out) (by assumption) ?_
  try simp only [Act.put, List.setIfInBounds_toArray, List.set_cons_zero, List.set_cons_succ]
  refine wpAnyH_take (i := 6) (oi := ⟨some 15, _, _, _, _, _⟩) (v := ?_) rfl (by kernel_rfl) (by kernel_rfl) (by kernel_rfl) (fun _ _ _ h => h) (Or.inl ⟨by rfl, ?_⟩) (by assumption) ?_
  rotate_left
  · intro w hSw; (try dsimp only at hSw); go_simp; (try with_reducible rfl)
  try simp only [Act.put, List.setIfInBounds_toArray, List.set_cons_zero, List.set_cons_succ]
  refine wpAnyH_ready (rs := [7]) (by kernel_rfl) (by simp) ?_
  refine AllReadyH.cons (o := ⟨some 16, _, _, _, _, _⟩) rfl (fun K hK => ?_) (AllReadyH.nil)
  go_simp
  go_at_call 34
  refine (HBD.out _).mono ?_
  rintro e v1 ⟨A1, c1, rfl, hown1, g1⟩
  obtain ⟨hT1, -, hc1⟩ := own_txt hown1
  have E1 := E0.trans g1
  have hS1 : v1.rangeAt pK 0 (byteVals k.1) ∧ v1.rangeAt pR 0 (byteVals r.1) := ⟨rangeAt_chg hS0.1 g1 (by simp), rangeAt_chg hS0.2 g1 (by simp)⟩
  have bS1 := Blk.chg bS0 g1 (by simp)
  have HC := Lib.hid (HTA.out v1 A1 c1 E1 hT1 hc1)
  clear hown1 hT1 hc1
  go_wp2_with fail
  refine hK.out _ _ hS1 (fun _ => ?_)
  clear hK K
  try simp only [Act.put, List.setIfInBounds_toArray, List.set_cons_zero, List.set_cons_succ]
  refine wpAnyH_ready (rs := [8]) (by kernel_rfl) (by simp) ?_
  refine AllReadyH.cons (o := ⟨some 17, _, _, _, _, _⟩) rfl (fun K hK => ?_) (AllReadyH.nil)
  go_simp
  go_at_call 22
  refine HC.out.mono ?_
  rintro e v2 ⟨rfl, g2⟩
  have E2 := E1.trans g2
  have hS2 : v2.rangeAt pK 0 (byteVals k.1) ∧ v2.rangeAt pR 0 (byteVals r.1) := ⟨rangeAt_chg hS1.1 g2 (by simp), rangeAt_chg hS1.2 g2 (by simp)⟩
  have bS2 := Blk.chg bS1 g2 (by simp)
  go_wp2_with fail
  refine hK.out _ _ hS2 (fun _ => ?_)
  clear hK K
  try simp only [Act.put, List.setIfInBounds_toArray, List.set_cons_zero, List.set_cons_succ]
  refine wpAnyH_take (i := 9) (oi := ⟨some 18, _, _, _, _, _⟩) (v := .agg C1) rfl (by kernel_rfl) (by kernel_rfl) (by kernel_rfl) (fun _ _ _ h => h) (yieldsIf_build (by rfl) 46 _ rfl C1 (by simp only [List.map_toArray, List.map_cons, List.map_nil]; exact HBU.out)) (by assumption) ?_
  try simp only [Act.put, List.setIfInBounds_toArray, List.set_cons_zero, List.set_cons_succ]
  refine wpAnyH_ready (rs := [10]) (by kernel_rfl) (by simp) ?_
  refine AllReadyH.cons (o := ⟨none, _, _, _, _, _⟩) rfl (fun K hK => ?_) (AllReadyH.nil)
  rw [if_pos (by rfl)]
  have gS : Chg (some pS) v2 (World.setRow v2 pS C1) := chg_setRow _ _ _
  have hSZ : (World.setRow v2 pS C1).rangeAt pK 0 (byteVals k.1) ∧ (World.setRow v2 pS C1).rangeAt pR 0 (byteVals r.1) := ⟨rangeAt_chg hS2.1 gS (by simp; exact hneK), rangeAt_chg hS2.2 gS (by simp; exact hneR)⟩
  refine wp_store_row 46 (.tmp 8) (.tmp 18) (by rfl) pS C1 (by rfl) (by rfl) 46 _ bS2 HI1.out HZ1.out HO1.out ?_
  refine hK.out _ _ hSZ (fun _ => ?_)
  clear hK K
  refine wpAnyH_done (by kernel_rfl) ?_ _
  try simp only [Act.put]
  go_wp2_with fail
  refine bodyPost_ret (results_cell_row (p := 8) (ty := 46) Tryd.results26 _ _ pS 46 C1 (0, 0) _ rfl (setRow_heap _ _ _ _ _ _ bS2) Tryd.underlying46 rfl HI1.out) rfl ⟨rfl, ?_⟩
  exact Chg.own (b := pS) E2 (chg_setRow _ _ _) (by rw [HPK.out]; exact hle1)

end Go.Proofs.YtehpigmcmgfkoaaDoor
