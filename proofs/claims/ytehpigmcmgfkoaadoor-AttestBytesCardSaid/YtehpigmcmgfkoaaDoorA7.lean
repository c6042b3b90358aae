/-
  The document's attest: what is tagged; a result, opened.
-/
import Derived.Test.YtehpigmcmgfkoaaDoorA5
import Derived.Test.YtehpigmcmgfkoaaDoorA6
namespace Go.Proofs.YtehpigmcmgfkoaaDoor
open Go.RowKit

set_option maxRecDepth 100000 in
set_option maxHeartbeats 8000000 in
theorem bodyr_any (k r : Dg) (m : Nat) (hm : m < 9223372036854775808) (w : World) : Calls Tryd.prog 34 #[.agg (byteVals k.1).toArray, .agg (byteVals r.1).toArray, .int .i64 m] w fun e w' =>
    ∃ A c, e = .returned (.slice A 73 c) ∧ w'.ownsRow w.heap.size 5 1 (.slice A 73 c) 73 (byteVals (bodyB k r m)) ∧ Chg none w w' := by
  obtain ⟨i0, hi, hz0, hz1, hz2⟩ := info_parts Tryd.info5
  obtain ⟨W2, hW2⟩ : ∃ W2, W2 = (w.alloc (.cells (byteVals k.1).toArray 30)).alloc (.cells (byteVals r.1).toArray 30) := ⟨_, rfl⟩
  have HW2 : Hid ((w.alloc (.cells (byteVals k.1).toArray 30)).alloc (.cells (byteVals r.1).toArray 30) = W2) := hW2.symm
  have g0 : Chg none w W2 := by rw [hW2]; exact ((Chg.refl _ _).alloc _).alloc _
  have bK : BlkL W2 w.heap.size (byteVals k.1) 30 := by rw [hW2]; exact Blk.alloc (Blk.new _ _ _) _
  have bR : BlkL W2 (w.heap.size + 1) (byteVals r.1) 30 := by rw [hW2]; exact Blk.newAt _ _ (by simp)
  have HE := Lib.hid (fun v => eightq_any m hm v)
  have HRK : Hid (∀ v, Chg none W2 v → Reads v v.heap.size 1 (some ⟨w.heap.size, 0, none⟩) 32 (byteVals k.1)) := fun v g => by
    have := txt_reads (prt_of_row (n := 32) (Blk.chg bK g (by simp)) (by rw [k.2]; exact Nat.le_refl _)).1
    rwa [k.2] at this
  have HRR : Hid (∀ v, Chg none W2 v → Reads v v.heap.size 1 (some ⟨w.heap.size + 1, 0, none⟩) 32 (byteVals r.1)) := fun v g => by
    have := txt_reads (prt_of_row (n := 32) (Blk.chg bR g (by simp)) (by rw [r.2]; exact Nat.le_refl _)).1
    rwa [r.2] at this
  have HOk := Lib.hid (byteVals_one k.1)
  have HOr := Lib.hid (byteVals_one r.1)
  have HO8 := Lib.hid (byteVals_one (be 8 m))
  have HB : Hid (byteVals [17] ++ (byteVals k.1 ++ (byteVals r.1 ++ byteVals (be 8 m))) = byteVals (bodyB k r m)) := by
    show _ = _
    unfold bodyB
    rw [byteVals_append, byteVals_append, byteVals_append]; rfl
  have hc30 := cut30o
  obtain ⟨CK, hCK⟩ : ∃ CK, CK = (byteVals k.1).toArray := ⟨_, rfl⟩
  obtain ⟨CR, hCR⟩ : ∃ CR, CR = (byteVals r.1).toArray := ⟨_, rfl⟩
  rw [← hCK, ← hCR] at HW2 ⊢
  clear hW2 hCK hCR bK bR
  go_enter Tryd.func34, Tryd.ntmps34
  go_upto_region 1 with fail
  rw [HW2.out]
  clear HW2
  generalize hpR : w.heap.size + 1 = pR at *
  generalize hpK : w.heap.size = pK at *
  have HPK := Lib.hid hpK
  clear hpK hpR
  have g17 : Chg none W2 (W2.alloc (.cells #[.int .u8 17] 5)) := (Chg.refl _ _).alloc _
  have HOWN := Lib.hid (own_oneB W2 pK (by rw [← HPK.out]; exact g0.size) 17)
  have HSZ : Hid (pK ≤ (W2.alloc (.cells #[.int .u8 17] 5)).heap.size) := by rw [← HPK.out]; exact (g0.trans g17).size
  have HR1 := Lib.hid (HRK.out _ g17)
  have G1 := g0.trans g17
  go_wp2_with (at_builtin; refine wpList_append_any _ rfl (.tmp 9) (.tmp 10) 22 rfl pK 5 i0 (.int .u8 0) 1 1 Tryd.underlying22 hi hz0 hz1 hz2 rfl (by decide) _ 1 (byteVals [17]) rfl HOWN.out _ (some ⟨pK, 0, none⟩) 32 32 (byteVals k.1) rfl HR1.out HOk.out (by unfold maxLen; decide) (by decide) HSZ.out ?_)
  intro v3 w3 hown3 hgr3 _
  have G3 : Chg none w w3 := own_chg G1 HOWN.out (by rw [HPK.out]; exact Nat.le_refl _) hgr3
  have G32 : Chg none W2 w3 := own_chg g17 (own_oneB W2 W2.heap.size (Nat.le_refl _) 17) (Nat.le_refl _) hgr3
  have H3 : Hid (Reads w3 w3.heap.size 1 (some ⟨pR, 0, none⟩) 32 (byteVals r.1)) := HRR.out w3 G32
  try simp only [Nat.reduceAdd] at hown3
  obtain ⟨A3, c3, rfl⟩ := own_slice hown3
  have HOWN3 := Lib.hid hown3
  have HS3 : Hid (pK ≤ w3.heap.size) := by rw [← HPK.out]; exact G3.size
  clear hown3 hgr3 HOWN HR1 HSZ g17 G1
  go_wp2_with (at_builtin; refine wpList_append_any _ rfl (.tmp 12) (.tmp 13) 22 rfl pK 5 i0 (.int .u8 0) 1 1 Tryd.underlying22 hi hz0 hz1 hz2 rfl (by decide) _ 33 _ rfl HOWN3.out _ (some ⟨pR, 0, none⟩) 32 32 (byteVals r.1) rfl H3.out HOr.out (by unfold maxLen; decide) (by decide) HS3.out ?_)
  intro v4 w4 hown4 hgr4 _
  have G4 : Chg none w w4 := own_chg G3 HOWN3.out (by rw [HPK.out]; exact Nat.le_refl _) hgr4
  try simp only [Nat.reduceAdd] at hown4
  obtain ⟨A4, c4, rfl⟩ := own_slice hown4
  have HOWN4 := Lib.hid hown4
  clear hown4 hgr4 HOWN3 H3 HS3 G3
  go_wp2_with fail
  refine (HE.out _).mono ?_
  rintro e w5 ⟨b5, rfl, bB5, _, g5⟩
  have G5 := G4.trans g5
  have HOWN5 := Lib.hid (HOWN4.out.kept g5 (by cases (Value.slice A4 65 c4).ownBlock <;> simp))
  have hr5 := txt_reads (prt_of_row (n := 8) bB5 (by rw [be_len]; exact Nat.le_refl _)).1
  rw [be_len] at hr5
  have H5 := Lib.hid hr5
  have HS5 : Hid (pK ≤ w5.heap.size) := by rw [← HPK.out]; exact G5.size
  clear HOWN4 bB5 hr5 g5 G4 HE
  go_wp2_with (at_builtin; refine wpList_append_any _ rfl (.tmp 15) (.tmp 17) 22 rfl pK 5 i0 (.int .u8 0) 1 1 Tryd.underlying22 hi hz0 hz1 hz2 rfl (by decide) _ 65 _ rfl HOWN5.out _ (some ⟨b5, 0, none⟩) 8 8 (byteVals (be 8 m)) rfl H5.out HO8.out (by unfold maxLen; decide) (by decide) HS5.out ?_)
  intro v6 w6 hown6 hgr6 _
  have G6 : Chg none w w6 := own_chg G5 HOWN5.out (by rw [HPK.out]; exact Nat.le_refl _) hgr6
  try simp only [Nat.reduceAdd] at hown6
  try simp only [List.append_assoc] at hown6
  rw [HB.out] at hown6
  obtain ⟨A6, c6, rfl⟩ := own_slice hown6
  have HOWN6 := Lib.hid hown6
  clear hown6 hgr6 HOWN5 H5 HS5 G5
  go_wp2_with fail
  go_ret
  exact ⟨A6, c6, rfl, by rw [HPK.out]; exact HOWN6.out, G6⟩

theorem body_len (k r : Dg) (m : Nat) : (bodyB k r m).length = 73 := by
  unfold bodyB
  rw [List.length_cons, List.length_append, List.length_append, be_len, k.2, r.2]

section
open Go.ChangeShapes Go.WideShapes Go.ChangeAt
open Go.WideMaps Go.WideElems
variable {H : Type} {enc : TypeId × Value → H} {w : World} {base : Nat} {spare : Nat → Bool} {held : Bool}
set_option maxRecDepth 100000 in
theorem att_cells (fuel : Nat) (cs : List Value) (x) (h : DataW.trod enc Tryd.prog w base spare held fuel 46 cs = some x) : ∃ a : Att, (-9223372036854775808 ≤ a.n ∧ a.n ≤ 9223372036854775807) ∧ cs = attCells a := by
  obtain ⟨xs, m, _, _, hlen, hxl, hf⟩ := DataW.trod_struct Tryd.underlying46 h
  have h46 : Tryd.prog.cellsOf 46 = 97 := by kernel_rfl
  have h30 : Tryd.prog.cellsOf 30 = 32 := by kernel_rfl
  have h3 : Tryd.prog.cellsOf 3 = 1 := by kernel_rfl
  rw [h46] at hlen
  have hxl : xs.length = 4 := hxl
  have f0 := hf 0 _ rfl
  have f1 := hf 1 _ rfl
  have f2 := hf 2 _ rfl
  have f3 := hf 3 _ rfl
  rw [List.getElem?_eq_getElem (by omega)] at f0 f1 f2 f3
  obtain ⟨k, hk, ek⟩ := digest_cells _ _ _ f0
  obtain ⟨r, hr, er⟩ := digest_cells _ _ _ f1
  obtain ⟨n, en, _, hw⟩ := DataW.trod_int Tryd.underlying3 f2
  obtain ⟨t, ht, et⟩ := digest_cells _ _ _ f3
  have hn := wf_i64 hw
  refine ⟨⟨⟨k, hk⟩, ⟨r, hr⟩, n, ⟨t, ht⟩⟩, hn, ?_⟩
  change (cs.drop 0).take (Tryd.prog.cellsOf 30) = _ at ek
  change (cs.drop 32).take (Tryd.prog.cellsOf 30) = _ at er
  change (cs.drop 64).take (Tryd.prog.cellsOf 3) = _ at en
  change (cs.drop 65).take (Tryd.prog.cellsOf 30) = _ at et
  rw [h30, List.drop_zero] at ek
  rw [h30] at er et
  rw [h3] at en
  have e0 : cs = cs.take 32 ++ ((cs.drop 32).take 32 ++ ((cs.drop 64).take 1 ++ (cs.drop 65).take 32)) := by
    have a3 : (cs.drop 65).take 32 = cs.drop 65 := List.take_of_length_le (by rw [List.length_drop]; omega)
    have a2 : (cs.drop 64).take 1 ++ cs.drop 65 = cs.drop 64 := by
      have := List.take_append_drop 1 (cs.drop 64)
      rwa [List.drop_drop] at this
    have a1 : (cs.drop 32).take 32 ++ cs.drop 64 = cs.drop 32 := by
      have := List.take_append_drop 32 (cs.drop 32)
      rwa [List.drop_drop] at this
    rw [a3, a2, a1, List.take_append_drop]
  rw [e0]
  unfold attCells
  have ek' : cs.take 32 = byteVals k := ek
  have er' : (cs.drop 32).take 32 = byteVals r := er
  have en' : (cs.drop 64).take 1 = [.int .i64 n] := en
  have et' : (cs.drop 65).take 32 = byteVals t := et
  rw [ek', er', en', et']
  rfl
set_option maxRecDepth 100000 in
theorem open_att {r : Reach} {b0 : Nat} {v : Value} {d : DataW H} {p : List MemPlace} (hv : Value.okWide Tryd.prog w r b0 46 v) (h : DataW.Trod enc Tryd.prog w base spare held 46 v d p) :
    ∃ a : Att, (-9223372036854775808 ≤ a.n ∧ a.n ≤ 9223372036854775807) ∧ v = .agg (attCells a).toArray := by
  obtain ⟨cs, rfl, hsz⟩ := okWide_struct Tryd.underlying46 hv
  obtain ⟨fuel, hf⟩ := h
  obtain ⟨a, ha, hc⟩ := att_cells fuel _ _ hf
  refine ⟨a, ha, ?_⟩
  have hc : cs.toList = attCells a := hc
  rw [← hc]
end

end Go.Proofs.YtehpigmcmgfkoaaDoor
