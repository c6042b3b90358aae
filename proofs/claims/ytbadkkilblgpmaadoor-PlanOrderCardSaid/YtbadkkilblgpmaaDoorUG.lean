/-
  The document's tree: Copy.
-/
import Derived.Test.YtbadkkilblgpmaaDoorUF
namespace Go.Proofs.YtbadkkilblgpmaaDoor
open Go.RowKit

set_option maxHeartbeats 16000000 in
set_option maxRecDepth 100000 in
theorem tcopy_any (L : List Fil) (A : Option Addr) (c : Nat) (w : World) (hT : TreeAt w A L) (hl : L.length * 40 ≤ 140737488355328) (hx : ∀ f ∈ L, f.x.length ≤ 140737488355328) :
    Calls Tryd.prog 28 #[.slice A L.length c] w fun e w' => ∃ A' c' M, e = .returned (.slice A' L.length c') ∧ OwnL w w' A' c' M ∧ keys M = keys L ∧ M.length = L.length := by
  obtain ⟨i0, hi, hz0, hz1, hz2⟩ := info_parts Tryd.info91
  obtain ⟨i5, hi5, hz50, hz51, hz52⟩ := info_parts Tryd.info5
  have HT : Hid (∀ v, Chg none w v → TreeAt v A L) := fun v g => hT.chg g
  have HX := Lib.hid hx
  have HL := Lib.hid hl
  have HO0 : Hid (OwnL w w none 0 []) := ⟨World.ownsRow_nil _ _ _ _, fun m h => (by cases h), Chg.refl _ _⟩
  clear hT hx
  go_enter Tryd.func28, Tryd.ntmps28
  go_wp2_with fail
  go_loopw [3, 4] (fun s3 s4 wr => ∃ (k : Nat) (A1 : Option Addr) (c1 : Nat) (M : List Fil), s4 = .int .i64 k ∧ s3 = .slice A1 M.length c1 ∧ Hid (k ≤ L.length) ∧ Hid (OwnL w wr A1 c1 M) ∧ Hid (keys M = keys (L.take k) ∧ M.length = k)) (fun _ s4 _ => L.length - (intOf s4).toNat)
  case atStart => exact ⟨0, none, 0, [], rfl, rfl, Lib.hid (Nat.zero_le _), HO0, Lib.hid ⟨rfl, rfl⟩⟩
  case round =>
    obtain ⟨k, A1, c1, M, rfl, rfl, H1, H2, H3⟩ := hrel
    by_cases hlt : k < L.length
    · have hd : decide ((k : Int) < (L.length : Int)) = true := by rw [decide_eq_true_eq]; omega
      obtain ⟨x, hkx⟩ : ∃ x, L[k]? = some x := ⟨_, List.getElem?_eq_getElem hlt⟩
      have hne : L ≠ [] := by intro e; subst e; simp at hlt
      have HRW := Lib.hid (HT.out wr H2.out.chg)
      obtain ⟨b, off, rfl, -, -⟩ := HRW.out.1 hne
      have HTW : Hid (∀ v, Chg none w v → v.cell? ⟨b, off + k * 2, none⟩ = some (.string ⟨x.p.toArray⟩) ∧ v.cell? ⟨b, off + (k * 2 + 1), none⟩ = some (.slice x.A x.x.length x.c)) := fun v g => by
        have h := ((HT.out v g).1.two hkx).2
        exact h
      have HXK : Hid (∀ v, Chg none w v → x.ok v) := fun v g => (HT.out v g).2 x (List.mem_of_getElem? hkx)
      have HXL := Lib.hid (HX.out x (List.mem_of_getElem? hkx))
      have HTK : Hid (keys (L.take (k + 1)) = keys (L.take k) ++ [keyF x]) := by
        show _ = _
        unfold keys
        rw [List.take_add_one, hkx, List.map_append]; rfl
      have HKL : Hid ((M.length + 1) * 40 ≤ 140737488355328) := by have h1 := H3.out.2; have h2 := HL.out; show _ ≤ _; omega
      have HLT := Lib.hid hlt
      clear hkx hne HRW HT HX HO0 hlt
      obtain ⟨fp, fA, fx, fc⟩ := x
      dsimp only at HTW HXL
      go_upto_region 5 with fail
      have hS : Chg none w wr.drew := H2.out.chg.drew
      refine wp_region_held_drew (S := fun v => Chg none w v) (by kernel_rfl) hS (fun _ => ?_)
      have HO1 := Lib.hid (H2.out.on (Chg.refl none wr).drew)
      clear H2
      generalize wr.drew = v0 at *
      refine wpAnyH_take (i := 0) (oi := ⟨some 11, _, _, _, _, _⟩) (v := ?_) rfl (by kernel_rfl) (by kernel_rfl) (by kernel_rfl) (fun _ _ _ h => h) (Or.inl ⟨by rfl, ?_⟩) (by assumption) ?_
      rotate_left
      · intro w hSw; (try dsimp only at hSw); go_simp; (try with_reducible rfl)
      try simp only [Act.put, List.setIfInBounds_toArray, List.set_cons_zero, List.set_cons_succ]
      refine wpAnyH_take (i := 1) (oi := ⟨some 12, _, _, _, _, _⟩) (v := ?_) rfl (by kernel_rfl) (by kernel_rfl) (by kernel_rfl) (fun _ _ _ h => h) (Or.inl ⟨by rfl, ?_⟩) (by assumption) ?_
      rotate_left
      · intro w hSw; (try dsimp only at hSw); go_simp; (try with_reducible rfl)
      try simp only [Act.put, List.setIfInBounds_toArray, List.set_cons_zero, List.set_cons_succ]
      refine wpAnyH_take (i := 2) (oi := ⟨some 13, _, _, _, _, _⟩) (v := ?_) rfl (by kernel_rfl) (by kernel_rfl) (by kernel_rfl) (fun _ _ _ h => h) (Or.inl ⟨by rfl, ?_⟩) (by assumption) ?_
      rotate_left
      · intro w hSw; (try dsimp only at hSw); go_simp; (try with_reducible rfl)
      try simp only [Act.put, List.setIfInBounds_toArray, List.set_cons_zero, List.set_cons_succ]
      refine wpAnyH_take (i := 3) (oi := ⟨some 14, _, _, _, _, _⟩) (v := ?_) rfl (by kernel_rfl) (by kernel_rfl) (by kernel_rfl) (fun _ _ _ h => h) (Or.inl ⟨by rfl, ?_⟩) (by assumption) ?_
      rotate_left
      · intro w hSw; (try dsimp only at hSw); go_simp; (try with_reducible rfl)
      try simp only [Act.put, List.setIfInBounds_toArray, List.set_cons_zero, List.set_cons_succ]
      refine wpAnyH_take (i := 4) (oi := ⟨some 15, _, _, _, _, _⟩) (v := ?_) rfl (by kernel_rfl) (by kernel_rfl) (by kernel_rfl) (fun _ _ _ h => h) (Or.inl ⟨by rfl, ?_⟩) (by assumption) ?_
      rotate_left
      · intro w hSw; (try dsimp only at hSw); go_simp; (try with_reducible rfl)
      try simp only [Act.put, List.setIfInBounds_toArray, List.set_cons_zero, List.set_cons_succ]
      refine wpAnyH_take (i := 5) (oi := ⟨some 16, _, _, _, _, _⟩) (v := .string ⟨fp.toArray⟩) rfl (by kernel_rfl) (by kernel_rfl) (by kernel_rfl) (fun _ _ _ h => h) (Or.inl ⟨by rfl, ?_⟩) (by assumption) ?_
      · intro v hSv; have hz := HTW.out v hSv; obtain ⟨z0, z1⟩ := hz; have z2 := z1; rw [← Nat.add_assoc] at z2; go_simp
      try simp only [Act.put, List.setIfInBounds_toArray, List.set_cons_zero, List.set_cons_succ]
      refine wpAnyH_take (i := 7) (oi := ⟨some 18, _, _, _, _, _⟩) (v := ?_) rfl (by kernel_rfl) (by kernel_rfl) (by kernel_rfl) (fun _ _ _ h => h) (Or.inl ⟨by rfl, ?_⟩) (by assumption) ?_
      rotate_left
      · intro w hSw; (try dsimp only at hSw); go_simp; (try with_reducible rfl)
      try simp only [Act.put, List.setIfInBounds_toArray, List.set_cons_zero, List.set_cons_succ]
      refine wpAnyH_take (i := 8) (oi := ⟨some 19, _, _, _, _, _⟩) (v := ?_) rfl (by kernel_rfl) (by kernel_rfl) (by kernel_rfl) (fun _ _ _ h => h) (Or.inl ⟨by rfl, ?_⟩) (by assumption) ?_
      rotate_left
      · intro w hSw; (try dsimp only at hSw); go_simp; (try with_reducible rfl)
      try simp only [Act.put, List.setIfInBounds_toArray, List.set_cons_zero, List.set_cons_succ]
      refine wpAnyH_take (i := 9) (oi := ⟨some 20, _, _, _, _, _⟩) (v := ?_) rfl (by kernel_rfl) (by kernel_rfl) (by kernel_rfl) (fun _ _ _ h => h) (Or.inl ⟨by rfl, ?_⟩) (by assumption) ?_
      rotate_left
      · intro w hSw; (try dsimp only at hSw); go_simp; (try with_reducible rfl)
      try simp only [Act.put, List.setIfInBounds_toArray, List.set_cons_zero, List.set_cons_succ]
      refine wpAnyH_take (i := 10) (oi := ⟨some 21, _, _, _, _, _⟩) (v := ?_) rfl (by kernel_rfl) (by kernel_rfl) (by kernel_rfl) (fun _ _ _ h => h) (Or.inl ⟨by rfl, ?_⟩) (by assumption) ?_
      rotate_left
      · intro w hSw; (try dsimp only at hSw); go_simp; (try with_reducible rfl)
      try simp only [Act.put, List.setIfInBounds_toArray, List.set_cons_zero, List.set_cons_succ]
      refine wpAnyH_take (i := 11) (oi := ⟨some 22, _, _, _, _, _⟩) (v := .slice fA fx.length fc) rfl (by kernel_rfl) (by kernel_rfl) (by kernel_rfl) (fun _ _ _ h => h) (Or.inl ⟨by rfl, ?_⟩) (by assumption) ?_
      · intro v hSv; have hz := HTW.out v hSv; obtain ⟨z0, z1⟩ := hz; have z2 := z1; rw [← Nat.add_assoc] at z2; go_simp
      try simp only [Act.put, List.setIfInBounds_toArray, List.set_cons_zero, List.set_cons_succ]
      refine wpAnyH_ready (rs := [6]) (by kernel_rfl) (by simp) ?_
      refine AllReadyH.cons (o := ⟨some 17, _, _, _, _, _⟩) rfl (fun K hK => ?_) (AllReadyH.nil)
      go_simp
      have hS1 : Chg none w (v0.alloc (.cells #[] 5)) := hS.alloc _
      have k1 : Chg none v0 (v0.alloc (.cells #[] 5)) := (Chg.refl none v0).alloc _
      have HE1 : Hid ((v0.alloc (.cells #[] 5)).ownsRow v0.heap.size 5 1 (.slice (some ⟨v0.heap.size, 0, none⟩) 0 0) 0 (byteVals [])) := own_empty5 v0 v0.heap.size (Nat.le_refl _)
      have HR1 : Hid (Reads (v0.alloc (.cells #[] 5)) (v0.alloc (.cells #[] 5)).heap.size 1 fA fx.length (byteVals fx)) := txt_reads (HXK.out _ hS1).t
      have HB1 : Hid (∀ u ∈ byteVals fx, u.oneCell' = true) := byteVals_one fx
      have hbz1 : v0.heap.size ≤ (v0.alloc (.cells #[] 5)).heap.size := k1.size
      refine hK.out _ _ hS1 (fun _ => ?_)
      clear hK K
      generalize v0.alloc (.cells #[] 5) = v1 at *
      try simp only [Act.put, List.setIfInBounds_toArray, List.set_cons_zero, List.set_cons_succ]
      refine wpAnyH_ready (rs := [12]) (by kernel_rfl) (by simp) ?_
      refine AllReadyH.cons (o := ⟨some 23, _, _, _, _, _⟩) rfl (fun K hK => ?_) (AllReadyH.nil)
      have hs1 : 0 + fx.length ≤ maxLen := by have := HXL.out; unfold maxLen; omega
      have hs2 : (0 + fx.length) * 1 ≤ 140737488355328 := by have := HXL.out; omega
      refine step_append_any _ rfl (.tmp 17) (.tmp 22) 22 rfl v0.heap.size 5 i5 (.int .u8 0) 1 1 Tryd.underlying22 hi5 hz50 hz51 hz52 rfl (by decide) (.slice (some ⟨v0.heap.size, 0, none⟩) 0 0) 0 (byteVals []) ?y2 HE1.out v1.heap.size fA fx.length fc (byteVals fx) ?y3 HR1.out HB1.out hs1 hs2 hbz1 ?_
      case y2 => first | rfl | simp [Act.eval, Act.put]
      case y3 => first | rfl | simp [Act.eval, Act.put]
      intro u2 v2 hown2 hgr2 _
      rw [Nat.zero_add, show byteVals [] ++ byteVals fx = byteVals fx from rfl] at hown2
      obtain ⟨A2, c2, rfl⟩ := own_slice hown2
      have k2 : Chg none v0 v2 := own_chg k1 HE1.out (Nat.le_refl _) hgr2
      have hS2 := hS.trans k2
      have HO2 := Lib.hid (HO1.out.on k2)
      have HW2 := Lib.hid (World.ownsRow.mono hown2 hS.size)
      clear hown2 hgr2 HE1 HR1 HB1 hs1 hs2 hbz1 HO1 k1 hS1 k2 hS
      refine hK.out _ _ hS2 (fun _ => ?_)
      clear hK K
      try simp only [Act.put, List.setIfInBounds_toArray, List.set_cons_zero, List.set_cons_succ]
      refine wpAnyH_take (i := 13) (oi := ⟨some 24, _, _, _, _, _⟩) (v := ?_) rfl (by kernel_rfl) (by kernel_rfl) (by kernel_rfl) (fun _ _ _ h => h) (Or.inl ⟨by rfl, ?_⟩) (by assumption) ?_
      rotate_left
      · intro w hSw; (try dsimp only at hSw); go_simp; (try with_reducible rfl)
      try simp only [Act.put, List.setIfInBounds_toArray, List.set_cons_zero, List.set_cons_succ]
      refine wpAnyH_ready (rs := [14]) (by kernel_rfl) (by simp) ?_
      refine AllReadyH.cons (o := ⟨some 25, _, _, _, _, _⟩) rfl (fun K hK => ?_) (AllReadyH.nil)
      go_simp
      have hS3 : Chg none w (v2.alloc (.cells #[.string ⟨fp.toArray⟩, .slice A2 fx.length c2] 91)) := hS2.alloc _
      have HO3 := Lib.hid (HO2.out.on ((Chg.refl none v2).alloc (.cells #[.string ⟨fp.toArray⟩, .slice A2 fx.length c2] 91)))
      have HW3 := Lib.hid (own_chgW HW2.out ((Chg.refl none v2).alloc (.cells #[.string ⟨fp.toArray⟩, .slice A2 fx.length c2] 91)))
      have HR3 : Hid (Reads (v2.alloc (.cells #[.string ⟨fp.toArray⟩, .slice A2 fx.length c2] 91)) (v2.alloc (.cells #[.string ⟨fp.toArray⟩, .slice A2 fx.length c2] 91)).heap.size 2 (some ⟨v2.heap.size, 0, none⟩) 1 (filCells ⟨fp, A2, fx, c2⟩)) := by
        have h := reads_lit38 v2 [⟨fp, A2, fx, c2⟩]
        simp only [List.flatMap_cons, List.flatMap_nil, List.append_nil, List.length_cons, List.length_nil, Nat.zero_add] at h
        exact h
      have HON : Hid (∀ u ∈ filCells ⟨fp, A2, fx, c2⟩, u.oneCell' = true) := fun u hu => filCells_one (L := [⟨fp, A2, fx, c2⟩]) u (by simpa using hu)
      refine hK.out _ _ hS3 (fun _ => ?_)
      clear hK K HO2 HW2
      generalize v2.alloc (.cells #[.string ⟨fp.toArray⟩, .slice A2 fx.length c2] 91) = v3 at *
      try simp only [Act.put, List.setIfInBounds_toArray, List.set_cons_zero, List.set_cons_succ]
      refine wpAnyH_ready (rs := [15]) (by kernel_rfl) (by simp) ?_
      refine AllReadyH.cons (o := ⟨some 26, _, _, _, _, _⟩) rfl (fun K hK => ?_) (AllReadyH.nil)
      have hs1 : M.length + 1 ≤ maxLen := by have := HKL.out; unfold maxLen; omega
      have hs2 : (M.length + 1) * 40 ≤ 140737488355328 := by have := HKL.out; omega
      refine step_append_any _ rfl (.tmp 11) (.tmp 25) 40 rfl w.heap.size 91 i0 (.agg #[.string ⟨#[]⟩, .slice none 0 0]) 2 40 Tryd.underlying40 hi hz0 hz1 hz2 rfl (by decide) (.slice A1 M.length c1) M.length (M.flatMap filCells) ?y2 HO3.out.row v3.heap.size (some ⟨v2.heap.size, 0, none⟩) 1 1 (filCells ⟨fp, A2, fx, c2⟩) ?y3 HR3.out HON.out hs1 hs2 hS3.size ?_
      case y2 => first | rfl | simp [Act.eval, Act.put]
      case y3 => first | rfl | simp [Act.eval, Act.put]
      intro u4 v4 hown4 hgr4 _
      obtain ⟨A4, c4, rfl⟩ := own_slice hown4
      have HO4 := Lib.hid (HO3.out.app (m := ⟨fp, A2, fx, c2⟩) HW3.out hown4 hgr4)
      have hS4 : Chg none w v4 := HO4.out.chg
      have HLN : Hid ((M ++ [(⟨fp, A2, fx, c2⟩ : Fil)]).length = M.length + 1) := by show _ = _; simp
      clear hown4 hgr4 HR3 HON hs1 hs2 HW3 HO3 hS3 hS2
      rw [← HLN.out]
      refine hK.out _ _ hS4 (fun _ => ?_)
      clear hK K
      try simp only [Act.put, List.setIfInBounds_toArray, List.set_cons_zero, List.set_cons_succ]
      refine wpAnyH_take (i := 16) (oi := ⟨some 3, _, _, _, _, _⟩) (v := ?_) rfl (by kernel_rfl) (by kernel_rfl) (by kernel_rfl) (fun _ _ _ h => h) (Or.inl ⟨by rfl, ?_⟩) (by assumption) ?_
      rotate_left
      · intro w hSw; (try dsimp only at hSw); go_simp; (try with_reducible rfl)
      try simp only [Act.put, List.setIfInBounds_toArray, List.set_cons_zero, List.set_cons_succ]
      refine wpAnyH_done (by kernel_rfl) ?_ _
      try simp only [Act.put]
      go_wp2_with fail
      go_roundw
      case rel => exact ⟨k + 1, A4, c4, M ++ [⟨fp, A2, fx, c2⟩], by first | rfl | (simp; done), by first | rfl | (rw [HLN.out]; done) | (simp; done), Lib.hid HLT.out, HO4, Lib.hid ⟨by rw [HTK.out, ← H3.out.1]; unfold keys; rw [List.map_append]; rfl, by rw [HLN.out, H3.out.2]⟩⟩
      case measure =>
        have := HLT.out
        first | omega | (simp only [intOf]; omega) | (simp [intOf]; omega)
    · have hd : decide (k < L.length) = false := by rw [decide_eq_false_iff_not]; exact hlt
      have hd2 : decide ((k : Int) < (L.length : Int)) = false := by rw [decide_eq_false_iff_not]; omega
      obtain rfl : k = L.length := by have := H1.out; omega
      have HK3 : Hid (keys M = keys L ∧ M.length = L.length) := ⟨by rw [H3.out.1, List.take_length], H3.out.2⟩
      clear hlt HT HO0 HX
      rw [HK3.out.2]
      go_wp2_with fail
      go_ret
      exact ⟨A1, c1, M, rfl, H2.out, HK3.out⟩

end Go.Proofs.YtbadkkilblgpmaaDoor
