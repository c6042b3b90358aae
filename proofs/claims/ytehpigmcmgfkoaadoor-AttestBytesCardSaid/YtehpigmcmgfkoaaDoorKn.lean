/-
  The digests of nothing and of abc, as the standard has them: known of the laws of layer 1.
-/
import Derived.Test.YtehpigmcmgfkoaaDoorQ
import Derived.Deep.MidRow
import Derived.Deep.RegionHeld3
import Derived.Lib.SlBytesConst
namespace Go.Proofs.YtehpigmcmgfkoaaDoor
open Go.RowKit

theorem wpAnyH_to {P : Program} {md : Region.Mode} {ops : Array Oper} {Q : Exit → Act → World → Prop} {S S2 : World → Prop} (hs : ∀ w, S2 w → S w) :
    ∀ {fuel : Nat} {listed : Array Bool} {a : Act} {w : World}, wpAnyH P md ops Q S2 fuel listed a w → wpAnyH P md ops Q S fuel listed a w
  | 0, _, _, _, h => h
  | _ + 1, _, _, _, h => ⟨h.1, fun i hi => wpOp_mono (fun _ _ h' => ⟨hs _ h'.1, wpAnyH_to hs h'.2⟩) (h.2 i hi)⟩

def noneB : List UInt8 := [0xe3, 0xb0, 0xc4, 0x42, 0x98, 0xfc, 0x1c, 0x14, 0x9a, 0xfb, 0xf4, 0xc8, 0x99, 0x6f, 0xb9, 0x24, 0x27, 0xae, 0x41, 0xe4, 0x64, 0x9b, 0x93, 0x4c, 0xa4, 0x95, 0x99, 0x1b, 0x78, 0x52, 0xb8, 0x55]
def abcB : List UInt8 := [0xba, 0x78, 0x16, 0xbf, 0x8f, 0x01, 0xcf, 0xea, 0x41, 0x41, 0x40, 0xde, 0x5d, 0xae, 0x22, 0x23, 0xb0, 0x03, 0x61, 0xa3, 0x96, 0x17, 0x7a, 0x9c, 0xb4, 0x10, 0xff, 0x61, 0xf2, 0x00, 0x15, 0xad]
theorem dig_none : dig [] = noneB := dig_empty
theorem dig_abcB : dig [97, 98, 99] = abcB := dig_abc
theorem built_none : Tryd.prog.built 30 [(0, .int .u8 227), (1, .int .u8 176), (2, .int .u8 196), (3, .int .u8 66), (4, .int .u8 152), (5, .int .u8 252), (6, .int .u8 28), (7, .int .u8 20), (8, .int .u8 154), (9, .int .u8 251), (10, .int .u8 244), (11, .int .u8 200), (12, .int .u8 153), (13, .int .u8 111), (14, .int .u8 185), (15, .int .u8 36), (16, .int .u8 39), (17, .int .u8 174), (18, .int .u8 65), (19, .int .u8 228), (20, .int .u8 100), (21, .int .u8 155), (22, .int .u8 147), (23, .int .u8 76), (24, .int .u8 164), (25, .int .u8 149), (26, .int .u8 153), (27, .int .u8 27), (28, .int .u8 120), (29, .int .u8 82), (30, .int .u8 184), (31, .int .u8 85)] = some (byteVals noneB).toArray := by kernel_rfl
theorem built_abc : Tryd.prog.built 30 [(0, .int .u8 186), (1, .int .u8 120), (2, .int .u8 22), (3, .int .u8 191), (4, .int .u8 143), (5, .int .u8 1), (6, .int .u8 207), (7, .int .u8 234), (8, .int .u8 65), (9, .int .u8 65), (10, .int .u8 64), (11, .int .u8 222), (12, .int .u8 93), (13, .int .u8 174), (14, .int .u8 34), (15, .int .u8 35), (16, .int .u8 176), (17, .int .u8 3), (18, .int .u8 97), (19, .int .u8 163), (20, .int .u8 150), (21, .int .u8 23), (22, .int .u8 122), (23, .int .u8 156), (24, .int .u8 180), (25, .int .u8 16), (26, .int .u8 255), (27, .int .u8 97), (28, .int .u8 242), (29, .int .u8 0), (30, .int .u8 21), (31, .int .u8 173)] = some (byteVals abcB).toArray := by kernel_rfl
theorem sum_nil (w : World) (hT : Tabs w) : Calls Tryd.prog 17 #[.slice none 0 0] w fun e w' => e = .returned (.agg (byteVals noneB).toArray) ∧ Chg none w w' :=
  (sum_any none [] 0 w (fun h => absurd h (by simp)) (Nat.le_refl _) (by simp) hT).mono fun e w' ⟨he, g⟩ => ⟨by rw [he, dig_none], g⟩
theorem sum_abc (w : World) (hT : Tabs w) :
    Calls Tryd.prog 17 #[.slice (some ⟨w.heap.size, 0, none⟩) 3 3] (w.alloc (.cells #[.int .u8 97, .int .u8 98, .int .u8 99] 5 (3, 4))) fun e w' => e = .returned (.agg (byteVals abcB).toArray) ∧ Chg none (w.alloc (.cells #[.int .u8 97, .int .u8 98, .int .u8 99] 5 (3, 4))) w' :=
  (sum_any (some ⟨w.heap.size, 0, none⟩) [97, 98, 99] 3 _ (fun _ => ⟨w.heap.size, 0, rfl, by simp, fun j c hj => by
    have hg : (w.alloc (.cells #[.int .u8 97, .int .u8 98, .int .u8 99] 5 (3, 4))).heap[w.heap.size]? = some (.cells #[.int .u8 97, .int .u8 98, .int .u8 99] 5 (3, 4)) := heap_alloc_new w _
    simp only [World.cell?, hg, Nat.zero_add]
    match j, hj with
    | 0, hj => simp at hj; subst hj; rfl
    | 1, hj => simp at hj; subst hj; rfl
    | 2, hj => simp at hj; subst hj; rfl⟩) (Nat.le_refl _) (by simp) (hT.chg ((Chg.refl none w).alloc _) (by simp))).mono fun e w' ⟨he, g⟩ => ⟨by rw [he, dig_abcB], g⟩
theorem range_chg {w w' : World} {b : Nat} {cs : List Value} (h : w.rangeAt b 0 cs) (g : Chg none w w') : w'.rangeAt b 0 cs :=
  fun j v hv => World.grownBy.cell g (h j v hv) (by simp)
theorem known_chg {w w' : World} {n1 n2 : Nat} {c1 c2 : List Value} (h : w.rangeAt n1 0 c1 ∧ w.rangeAt n2 0 c2) (g : Chg none w w') : w'.rangeAt n1 0 c1 ∧ w'.rangeAt n2 0 c2 :=
  ⟨range_chg h.1 g, range_chg h.2 g⟩
theorem Blk.range {w : World} {b : Nat} {cs : List Value} {T : TypeId} (h : BlkL w b cs T) : w.rangeAt b 0 cs := fun j v hv => by rw [Nat.zero_add, BlkL.cell h]; exact hv
theorem new_row (w : World) (cs : Array Value) : Chg none w ((w.alloc (.cells zero32 30)).setRow w.heap.size cs) ∧ Blk ((w.alloc (.cells zero32 30)).setRow w.heap.size cs) w.heap.size cs 30 :=
  ⟨Chg.own (b := w.heap.size) ((Chg.refl none w).alloc _) (chg_setRow _ _ _) (Nat.le_refl _), setRow_heap _ _ _ _ _ _ (heap_alloc_new w _)⟩

set_option maxRecDepth 100000 in
set_option maxHeartbeats 4000000 in
theorem known_any (w : World) (hT : Tabs w) : Calls Tryd.prog 15 #[] w fun e w' => e = .returned (.bool true) ∧ Chg none w w' := by
  have HI : Hid ((Tryd.prog.info? 30).map (·.size) = some (byteVals noneB).length) := by show _ = _; kernel_rfl
  have HIa : Hid ((Tryd.prog.info? 30).map (·.size) = some (byteVals noneB).toArray.size) := by show _ = _; kernel_rfl
  have HIb : Hid ((Tryd.prog.info? 30).map (·.size) = some (byteVals abcB).toArray.size) := by show _ = _; kernel_rfl
  have HBa := Lib.hid built_none
  have HBb := Lib.hid built_abc
  have HOa : Hid ((byteVals noneB).toArray.all (·.oneCell') = true) := by show _ = _; kernel_rfl
  have HOb : Hid ((byteVals abcB).toArray.all (·.oneCell') = true) := by show _ = _; kernel_rfl
  have HNW := Lib.hid (fun (W : World) => heap_alloc_new W (.cells zero32 30))
  obtain ⟨ga, ha⟩ := new_row w (byteVals noneB).toArray
  obtain ⟨W1, hW1⟩ : ∃ W1, W1 = (w.alloc (.cells zero32 30)).setRow w.heap.size (byteVals noneB).toArray := ⟨_, rfl⟩
  have hsr : (w.alloc (.cells #[Value.int IntKind.u8 0, Value.int IntKind.u8 0, Value.int IntKind.u8 0, Value.int IntKind.u8 0, Value.int IntKind.u8 0, Value.int IntKind.u8 0, Value.int IntKind.u8 0, Value.int IntKind.u8 0, Value.int IntKind.u8 0, Value.int IntKind.u8 0, Value.int IntKind.u8 0, Value.int IntKind.u8 0, Value.int IntKind.u8 0, Value.int IntKind.u8 0, Value.int IntKind.u8 0, Value.int IntKind.u8 0, Value.int IntKind.u8 0, Value.int IntKind.u8 0, Value.int IntKind.u8 0, Value.int IntKind.u8 0, Value.int IntKind.u8 0, Value.int IntKind.u8 0, Value.int IntKind.u8 0, Value.int IntKind.u8 0, Value.int IntKind.u8 0, Value.int IntKind.u8 0, Value.int IntKind.u8 0, Value.int IntKind.u8 0, Value.int IntKind.u8 0, Value.int IntKind.u8 0, Value.int IntKind.u8 0, Value.int IntKind.u8 0] 30)).setRow w.heap.size (byteVals noneB).toArray = W1 := hW1.symm
  rw [← hW1] at ga ha
  have HSR := Lib.hid hsr
  clear hW1 hsr
  obtain ⟨gb, hb⟩ := new_row W1 (byteVals abcB).toArray
  obtain ⟨W2, hW2⟩ : ∃ W2, W2 = (W1.alloc (.cells zero32 30)).setRow W1.heap.size (byteVals abcB).toArray := ⟨_, rfl⟩
  have hsr2 : (W1.alloc (.cells #[Value.int IntKind.u8 0, Value.int IntKind.u8 0, Value.int IntKind.u8 0, Value.int IntKind.u8 0, Value.int IntKind.u8 0, Value.int IntKind.u8 0, Value.int IntKind.u8 0, Value.int IntKind.u8 0, Value.int IntKind.u8 0, Value.int IntKind.u8 0, Value.int IntKind.u8 0, Value.int IntKind.u8 0, Value.int IntKind.u8 0, Value.int IntKind.u8 0, Value.int IntKind.u8 0, Value.int IntKind.u8 0, Value.int IntKind.u8 0, Value.int IntKind.u8 0, Value.int IntKind.u8 0, Value.int IntKind.u8 0, Value.int IntKind.u8 0, Value.int IntKind.u8 0, Value.int IntKind.u8 0, Value.int IntKind.u8 0, Value.int IntKind.u8 0, Value.int IntKind.u8 0, Value.int IntKind.u8 0, Value.int IntKind.u8 0, Value.int IntKind.u8 0, Value.int IntKind.u8 0, Value.int IntKind.u8 0, Value.int IntKind.u8 0] 30)).setRow W1.heap.size (byteVals abcB).toArray = W2 := hW2.symm
  rw [← hW2] at gb hb
  have HSR2 := Lib.hid hsr2
  clear hW2 hsr2
  have hT0 := (hT.chg ga (by simp)).chg gb (by simp)
  have g0 := ga.trans gb
  have hS0 : W2.rangeAt w.heap.size 0 (byteVals noneB) ∧ W2.rangeAt W1.heap.size 0 (byteVals abcB) := ⟨range_chg (Blk.range ha) gb, Blk.range hb⟩
  clear ga gb ha hb hT
  have q1 : ∀ W : World, (binOp .eql 30 (.agg (byteVals noneB).toArray) (.agg (byteVals noneB).toArray)).run Tryd.prog W = .ok (.bool true) W := fun W => by
    rw [eql30 noneB noneB rfl rfl W]; simp
  have q2 : ∀ W : World, (binOp .eql 30 (.agg (byteVals abcB).toArray) (.agg (byteVals abcB).toArray)).run Tryd.prog W = .ok (.bool true) W := fun W => by
    rw [eql30 abcB abcB rfl rfl W]; simp
  have hg30 := guard30
  have kc := fun (w : World) (C : Array Value) (n c : Nat) => Lib.run_convert_bytes_const (P := Tryd.prog) w 22 5 C n c Tryd.underlying22 Tryd.underlying5
  go_enter Tryd.func15, Tryd.ntmps15
  go_upto_region 2 with (first
    | (refine wpList_buildTo rfl 30 _ rfl (some 3) rfl (byteVals noneB).toArray (by simp only [List.map_toArray, List.map_cons, List.map_nil]; exact HBa.out) ?_)
    | (refine wpList_store_row rfl 30 _ _ rfl w.heap.size (byteVals noneB).toArray rfl rfl 30 _ (HNW.out w) HIa.out rfl HOa.out ?_))
  have e1 := HSR.out
  rw [e1]
  clear e1
  generalize hn1 : w.heap.size = n1 at *
  have HN1 := Lib.hid hn1
  clear hn1
  go_upto_region 3 with (first
    | (refine wpList_buildTo rfl 30 _ rfl (some 4) rfl (byteVals abcB).toArray (by simp only [List.map_toArray, List.map_cons, List.map_nil]; exact HBb.out) ?_)
    | (refine wpList_store_row rfl 30 _ _ rfl W1.heap.size (byteVals abcB).toArray rfl rfl 30 _ (HNW.out W1) HIb.out rfl HOb.out ?_))
  have e1 := HSR2.out
  rw [e1]
  clear e1
  generalize hn2 : W1.heap.size = n2 at *
  have HN2 := Lib.hid hn2
  clear hn2 HBa HBb HOa HOb HNW HIa HIb
  have g00 : Chg none W2 W2.drew := (Chg.refl _ _).drew
  have hSd := known_chg hS0 g00
  have hTd := hT0.chg g00 (by simp)
  have gd := g0.trans g00
  refine wp_region_held_drew (S := (fun w' => w'.rangeAt n1 0 (byteVals noneB) ∧ w'.rangeAt n2 0 (byteVals abcB))) (by kernel_rfl) hS0 (fun _ => ?_)
  refine wpAnyH_take (i := 1) (oi := ⟨some 6, _, _, _, _, _⟩) (v := .agg (byteVals noneB).toArray) rfl (by kernel_rfl) (by kernel_rfl) (by kernel_rfl) (fun _ _ _ h => h) (yieldsIf_load_mid (by rfl) 30 _ rfl n1 0 rfl (byteVals noneB) _ (fun _ h => h.1) Tryd.underlying30 rfl HI.out) (by assumption) ?_
  try simp only [Act.put, List.setIfInBounds_toArray, List.set_cons_zero, List.set_cons_succ]
  refine wpAnyH_ready (rs := [0]) (by kernel_rfl) (by simp) ?_
  refine AllReadyH.cons (o := ⟨some 5, _, _, _, _, _⟩) rfl (fun K hK => ?_) ?_
  rotate_left
  · exact AllReadyH.nil
  go_simp
  go_at_call 17
  refine (sum_nil _ ?_).mono ?_
  · exact hTd
  rintro e w5 ⟨rfl, g5⟩
  have hS5 := known_chg hSd g5
  have g5' := gd.trans g5
  have hT5 := hTd.chg g5 (by simp)
  go_wp2_with fail
  refine hK.out _ _ hS5 (fun _ => ?_)
  clear hK K
  try simp only [Act.put, List.setIfInBounds_toArray, List.set_cons_zero, List.set_cons_succ]
  refine wpAnyH_take (i := 2) (oi := ⟨some 7, _, _, _, _, _⟩) (v := ?_) rfl (by kernel_rfl) (by kernel_rfl) (by kernel_rfl) (fun _ _ _ h => h) (Or.inl ⟨by rfl, ?_⟩) (by assumption) ?_
  rotate_left
  · intro w hSw; (try dsimp only at hSw); go_simp; (try with_reducible rfl)
  try simp only [Act.put, List.setIfInBounds_toArray, List.set_cons_zero, List.set_cons_succ]
  refine wpAnyH_take (i := 3) (oi := ⟨some 8, _, _, _, _, _⟩) (v := ?_) rfl (by kernel_rfl) (by kernel_rfl) (by kernel_rfl) (fun _ _ _ h => h) (Or.inl ⟨by rfl, ?_⟩) (by assumption) ?_
  rotate_left
  · intro w hSw; (try dsimp only at hSw); go_simp; (try with_reducible rfl)
  try simp only [Act.put, List.setIfInBounds_toArray, List.set_cons_zero, List.set_cons_succ]
  refine wpAnyH_take (i := 7) (oi := ⟨some 12, _, _, _, _, _⟩) (v := .agg (byteVals abcB).toArray) rfl (by kernel_rfl) (by kernel_rfl) (by kernel_rfl) (fun _ _ _ h => h) (yieldsIf_load_mid (by rfl) 30 _ rfl n2 0 rfl (byteVals abcB) _ (fun _ h => h.2) Tryd.underlying30 rfl HI.out) (by assumption) ?_
  try simp only [Act.put, List.setIfInBounds_toArray, List.set_cons_zero, List.set_cons_succ]
  refine wpAnyH_ready (rs := [4]) (by kernel_rfl) (by simp) ?_
  refine AllReadyH.cons (o := ⟨some 9, _, _, _, _, _⟩) rfl (fun K hK => ?_) ?_
  rotate_left
  · exact AllReadyH.nil
  have ga6 : Chg none w5 (w5.alloc (.cells #[.int .u8 97, .int .u8 98, .int .u8 99] 5)) := (Chg.refl _ _).alloc _
  have hS6 := known_chg hS5 ga6
  have hT6 := hT5.chg ga6 (by simp)
  have g6' := g5'.trans ga6
  have HSA := Lib.hid (sum_abc w5 hT5)
  go_simp
  refine hK.out _ _ hS6 (fun _ => ?_)
  clear hK K
  try simp only [Act.put, List.setIfInBounds_toArray, List.set_cons_zero, List.set_cons_succ]
  refine wpAnyH_ready (rs := [5]) (by kernel_rfl) (by simp) ?_
  refine AllReadyH.cons (o := ⟨some 10, _, _, _, _, _⟩) rfl (fun K hK => ?_) ?_
  rotate_left
  · exact AllReadyH.nil
  have ga7 : Chg none w5 (w5.alloc (.cells #[.int .u8 97, .int .u8 98, .int .u8 99] 5 (3, 4))) := (Chg.refl _ _).alloc _
  have hS6b := known_chg hS5 ga7
  have g6b := g5'.trans ga7
  go_simp
  refine hK.out _ _ hS6b (fun _ => ?_)
  clear hK K
  try simp only [Act.put, List.setIfInBounds_toArray, List.set_cons_zero, List.set_cons_succ]
  refine wpAnyH_ready (rs := [6]) (by kernel_rfl) (by simp) ?_
  refine AllReadyH.cons (o := ⟨some 11, _, _, _, _, _⟩) rfl (fun K hK => ?_) ?_
  rotate_left
  · exact AllReadyH.nil
  go_simp
  go_at_call 17
  refine (HSA.out).mono ?_
  rintro e w7 ⟨rfl, g7⟩
  have hS7 := known_chg hS6b g7
  have g7' := g6b.trans g7
  go_wp2_with fail
  refine hK.out _ _ hS7 (fun _ => ?_)
  clear hK K
  try simp only [Act.put, List.setIfInBounds_toArray, List.set_cons_zero, List.set_cons_succ]
  refine wpAnyH_take (i := 8) (oi := ⟨some 13, _, _, _, _, _⟩) (v := ?_) rfl (by kernel_rfl) (by kernel_rfl) (by kernel_rfl) (fun _ _ _ h => h) (Or.inl ⟨by rfl, ?_⟩) (by assumption) ?_
  rotate_left
  · intro w hSw; (try dsimp only at hSw); go_simp; (try with_reducible rfl)
  try simp only [Act.put, List.setIfInBounds_toArray, List.set_cons_zero, List.set_cons_succ]
  refine wpAnyH_take (i := 9) (oi := ⟨some 14, _, _, _, _, _⟩) (v := ?_) rfl (by kernel_rfl) (by kernel_rfl) (by kernel_rfl) (fun _ _ _ h => h) (Or.inl ⟨by rfl, ?_⟩) (by assumption) ?_
  rotate_left
  · intro w hSw; (try dsimp only at hSw); go_simp; (try with_reducible rfl)
  try simp only [Act.put, List.setIfInBounds_toArray, List.set_cons_zero, List.set_cons_succ]
  refine wpAnyH_take (i := 10) (oi := ⟨some 0, _, _, _, _, _⟩) (v := ?_) rfl (by kernel_rfl) (by kernel_rfl) (by kernel_rfl) (fun _ _ _ h => h) (Or.inl ⟨by rfl, ?_⟩) (by assumption) ?_
  rotate_left
  · intro w hSw; (try dsimp only at hSw); go_simp; (try with_reducible rfl)
  try simp only [Act.put, List.setIfInBounds_toArray, List.set_cons_zero]
  refine wpAnyH_done (by kernel_rfl) ?_ _
  go_wp2_with fail
  go_ret
  exact ⟨rfl, g7'⟩

end Go.Proofs.YtehpigmcmgfkoaaDoor
