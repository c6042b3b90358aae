/-
  Results: which may be, their bytes, their order; arguments opened (merged).
-/
import Derived.Test.YtkcammaccgkflaaDoorZA
import Derived.Deep.MidRow
import Derived.Deep.RegionHeld3
import Derived.Lib.SlBytesConst
import Derived.LaidMore
import Derived.Lib.LaidTab
import Derived.Stop.Joined
import Derived.Stop.LaidErr
import Derived.Laws.BitsAllLaws
import Derived.Laws.BitsLemmas
import Derived.BigRegion
import Derived.Laws.IdiomStrings
import Derived.Laws.BytesArg
import Derived.WideKeyArr2
import Derived.Lib.BytesEntry
namespace Go.Proofs.YtkcammaccgkflaaDoor

section
open Go.RowKit

theorem wpAnyH_to {P : Program} {md : Region.Mode} {ops : Array Oper} {Q : Exit → Act → World → Prop} {S S2 : World → Prop} (hs : ∀ w, S2 w → S w) :
    ∀ {fuel : Nat} {listed : Array Bool} {a : Act} {w : World}, wpAnyH P md ops Q S2 fuel listed a w → wpAnyH P md ops Q S fuel listed a w
  | 0, _, _, _, h => h
  | _ + 1, _, _, _, h => ⟨h.1, fun i hi => wpOp_mono (fun _ _ h' => ⟨hs _ h'.1, wpAnyH_to hs h'.2⟩) (h.2 i hi)⟩

def noneB : List UInt8 := [0xe3, 0xb0, 0xc4, 0x42, 0x98, 0xfc, 0x1c, 0x14, 0x9a, 0xfb, 0xf4, 0xc8, 0x99, 0x6f, 0xb9, 0x24, 0x27, 0xae, 0x41, 0xe4, 0x64, 0x9b, 0x93, 0x4c, 0xa4, 0x95, 0x99, 0x1b, 0x78, 0x52, 0xb8, 0x55]
def abcB : List UInt8 := [0xba, 0x78, 0x16, 0xbf, 0x8f, 0x01, 0xcf, 0xea, 0x41, 0x41, 0x40, 0xde, 0x5d, 0xae, 0x22, 0x23, 0xb0, 0x03, 0x61, 0xa3, 0x96, 0x17, 0x7a, 0x9c, 0xb4, 0x10, 0xff, 0x61, 0xf2, 0x00, 0x15, 0xad]
theorem dig_none : dig [] = noneB := dig_empty
theorem dig_abcB : dig [97, 98, 99] = abcB := dig_abc
theorem built_none : Tryd.prog.built 30 [(0, .int .u8 227), (1, .int .u8 176), (2, .int .u8 196), (3, .int .u8 66), (4, .int .u8 152), (5, .int .u8 252), (6, .int .u8 28), (7, .int .u8 20), (8, .int .u8 154), (9, .int .u8 251), (10, .int .u8 244), (11, .int .u8 200), (12, .int .u8 153), (13, .int .u8 111), (14, .int .u8 185), (15, .int .u8 36), (16, .int .u8 39), (17, .int .u8 174), (18, .int .u8 65), (19, .int .u8 228), (20, .int .u8 100), (21, .int .u8 155), (22, .int .u8 147), (23, .int .u8 76), (24, .int .u8 164), (25, .int .u8 149), (26, .int .u8 153), (27, .int .u8 27), (28, .int .u8 120), (29, .int .u8 82), (30, .int .u8 184), (31, .int .u8 85)] = some (byteVals noneB).toArray := by kernel_rfl
theorem built_abc : Tryd.prog.built 30 [(0, .int .u8 186), (1, .int .u8 120), (2, .int .u8 22), (3, .int .u8 191), (4, .int .u8 143), (5, .int .u8 1), (6, .int .u8 207), (7, .int .u8 234), (8, .int .u8 65), (9, .int .u8 65), (10, .int .u8 64), (11, .int .u8 222), (12, .int .u8 93), (13, .int .u8 174), (14, .int .u8 34), (15, .int .u8 35), (16, .int .u8 176), (17, .int .u8 3), (18, .int .u8 97), (19, .int .u8 163), (20, .int .u8 150), (21, .int .u8 23), (22, .int .u8 122), (23, .int .u8 156), (24, .int .u8 180), (25, .int .u8 16), (26, .int .u8 255), (27, .int .u8 97), (28, .int .u8 242), (29, .int .u8 0), (30, .int .u8 21), (31, .int .u8 173)] = some (byteVals abcB).toArray := by kernel_rfl
theorem sum_nil (w : World) (hT : Tabs w) : Calls Tryd.prog 23 #[.slice none 0 0] w fun e w' => e = .returned (.agg (byteVals noneB).toArray) ∧ Chg none w w' :=
  (sum_any none [] 0 w (fun h => absurd h (by simp)) (Nat.le_refl _) (by simp) hT).mono fun e w' ⟨he, g⟩ => ⟨by rw [he, dig_none], g⟩
theorem sum_abc (w : World) (hT : Tabs w) :
    Calls Tryd.prog 23 #[.slice (some ⟨w.heap.size, 0, none⟩) 3 3] (w.alloc (.cells #[.int .u8 97, .int .u8 98, .int .u8 99] 5 (3, 4))) fun e w' => e = .returned (.agg (byteVals abcB).toArray) ∧ Chg none (w.alloc (.cells #[.int .u8 97, .int .u8 98, .int .u8 99] 5 (3, 4))) w' :=
  (sum_any (some ⟨w.heap.size, 0, none⟩) [97, 98, 99] 3 _ (fun _ => ⟨w.heap.size, 0, rfl, by simp, fun j c hj => by
    have hg : (w.alloc (.cells #[.int .u8 97, .int .u8 98, .int .u8 99] 5 (3, 4))).heap[w.heap.size]? = some (.cells #[.int .u8 97, .int .u8 98, .int .u8 99] 5 (3, 4)) := heap_alloc_new w _
    simp only [World.cell?, hg, Nat.zero_add]
    match j, hj with
    | 0, hj => simp at hj; subst hj; rfl
    | 1, hj => simp at hj; subst hj; rfl
    | 2, hj => simp at hj; subst hj; rfl⟩) (Nat.le_refl _) (by simp) (hT.chg ((Chg.refl none w).alloc _) (by simp))).mono fun e w' ⟨he, g⟩ => ⟨by rw [he, dig_abcB], g⟩
theorem range_chg {w w' : World} {b : Nat} {cs : List Value} (h : w.rangeAt b 0 cs) (g : Chg none w w') : w'.rangeAt b 0 cs :=
  fun j v hv => World.grownBy.cell g (h j v hv) (by simp)
theorem known_chg {w w' : World} {n1 n2 : Nat} {c1 c2 : List Value} (h : w.rangeAt n1 0 c1 ∧ w.rangeAt n2 0 c2) (g : Chg none w w') : w'.rangeAt n1 0 c1 ∧ w'.rangeAt n2 0 c2 :=
  ⟨range_chg h.1 g, range_chg h.2 g⟩
theorem Blk.range {w : World} {b : Nat} {cs : List Value} {T : TypeId} (h : BlkL w b cs T) : w.rangeAt b 0 cs := fun j v hv => by rw [Nat.zero_add, BlkL.cell h]; exact hv
theorem new_row (w : World) (cs : Array Value) : Chg none w ((w.alloc (.cells zero32 30)).setRow w.heap.size cs) ∧ Blk ((w.alloc (.cells zero32 30)).setRow w.heap.size cs) w.heap.size cs 30 :=
  ⟨Chg.own (b := w.heap.size) ((Chg.refl none w).alloc _) (chg_setRow _ _ _) (Nat.le_refl _), setRow_heap _ _ _ _ _ _ (heap_alloc_new w _)⟩

set_option maxRecDepth 100000 in
set_option maxHeartbeats 4000000 in
theorem known_any (w : World) (hT : Tabs w) : Calls Tryd.prog 21 #[] w fun e w' => e = .returned (.bool true) ∧ Chg none w w' := by
  have HI : Hid ((Tryd.prog.info? 30).map (·.size) = some (byteVals noneB).length) := by show _ = _; kernel_rfl
  have HIa : Hid ((Tryd.prog.info? 30).map (·.size) = some (byteVals noneB).toArray.size) := by show _ = _; kernel_rfl
  have HIb : Hid ((Tryd.prog.info? 30).map (·.size) = some (byteVals abcB).toArray.size) := by show _ = _; kernel_rfl
  have HBa := Lib.hid built_none
  have HBb := Lib.hid built_abc
  have HOa : Hid ((byteVals noneB).toArray.all (·.oneCell') = true) := by show _ = _; kernel_rfl
  have HOb : Hid ((byteVals abcB).toArray.all (·.oneCell') = true) := by show _ = _; kernel_rfl
  have HNW := Lib.hid (fun (W : World) => heap_alloc_new W (.cells zero32 30))
  obtain ⟨ga, ha⟩ := new_row w (byteVals noneB).toArray
  obtain ⟨W1, hW1⟩ : ∃ W1, W1 = (w.alloc (.cells zero32 30)).setRow w.heap.size (byteVals noneB).toArray := ⟨_, rfl⟩
  have hsr : (w.alloc (.cells #[Value.int IntKind.u8 0, Value.int IntKind.u8 0, Value.int IntKind.u8 0, Value.int IntKind.u8 0, Value.int IntKind.u8 0, Value.int IntKind.u8 0, Value.int IntKind.u8 0, Value.int IntKind.u8 0, Value.int IntKind.u8 0, Value.int IntKind.u8 0, Value.int IntKind.u8 0, Value.int IntKind.u8 0, Value.int IntKind.u8 0, Value.int IntKind.u8 0, Value.int IntKind.u8 0, Value.int IntKind.u8 0, Value.int IntKind.u8 0, Value.int IntKind.u8 0, Value.int IntKind.u8 0, Value.int IntKind.u8 0, Value.int IntKind.u8 0, Value.int IntKind.u8 0, Value.int IntKind.u8 0, Value.int IntKind.u8 0, Value.int IntKind.u8 0, Value.int IntKind.u8 0, Value.int IntKind.u8 0, Value.int IntKind.u8 0, Value.int IntKind.u8 0, Value.int IntKind.u8 0, Value.int IntKind.u8 0, Value.int IntKind.u8 0] 30)).setRow w.heap.size (byteVals noneB).toArray = W1 := hW1.symm
  rw [← hW1] at ga ha
  have HSR := Lib.hid hsr
  clear hW1 hsr
  obtain ⟨gb, hb⟩ := new_row W1 (byteVals abcB).toArray
  obtain ⟨W2, hW2⟩ : ∃ W2, W2 = (W1.alloc (.cells zero32 30)).setRow W1.heap.size (byteVals abcB).toArray := ⟨_, rfl⟩
  have hsr2 : (W1.alloc (.cells #[Value.int IntKind.u8 0, Value.int IntKind.u8 0, Value.int IntKind.u8 0, Value.int IntKind.u8 0, Value.int IntKind.u8 0, Value.int IntKind.u8 0, Value.int IntKind.u8 0, Value.int IntKind.u8 0, Value.int IntKind.u8 0, Value.int IntKind.u8 0, Value.int IntKind.u8 0, Value.int IntKind.u8 0, Value.int IntKind.u8 0, Value.int IntKind.u8 0, Value.int IntKind.u8 0, Value.int IntKind.u8 0, Value.int IntKind.u8 0, Value.int IntKind.u8 0, Value.int IntKind.u8 0, Value.int IntKind.u8 0, Value.int IntKind.u8 0, Value.int IntKind.u8 0, Value.int IntKind.u8 0, Value.int IntKind.u8 0, Value.int IntKind.u8 0, Value.int IntKind.u8 0, Value.int IntKind.u8 0, Value.int IntKind.u8 0, Value.int IntKind.u8 0, Value.int IntKind.u8 0, Value.int IntKind.u8 0, Value.int IntKind.u8 0] 30)).setRow W1.heap.size (byteVals abcB).toArray = W2 := hW2.symm
  rw [← hW2] at gb hb
  have HSR2 := Lib.hid hsr2
  clear hW2 hsr2
  have hT0 := (hT.chg ga (by simp)).chg gb (by simp)
  have g0 := ga.trans gb
  have hS0 : W2.rangeAt w.heap.size 0 (byteVals noneB) ∧ W2.rangeAt W1.heap.size 0 (byteVals abcB) := ⟨range_chg (Blk.range ha) gb, Blk.range hb⟩
  clear ga gb ha hb hT
  have q1 : ∀ W : World, (binOp .eql 30 (.agg (byteVals noneB).toArray) (.agg (byteVals noneB).toArray)).run Tryd.prog W = .ok (.bool true) W := fun W => by
    rw [eql30 noneB noneB rfl rfl W]; simp
  have q2 : ∀ W : World, (binOp .eql 30 (.agg (byteVals abcB).toArray) (.agg (byteVals abcB).toArray)).run Tryd.prog W = .ok (.bool true) W := fun W => by
    rw [eql30 abcB abcB rfl rfl W]; simp
  have hg30 := guard30
  have kc := fun (w : World) (C : Array Value) (n c : Nat) => Lib.run_convert_bytes_const (P := Tryd.prog) w 22 5 C n c Tryd.underlying22 Tryd.underlying5
  go_enter Tryd.func21, Tryd.ntmps21
  go_upto_region 2 with (first
    | (refine wpList_buildTo rfl 30 _ rfl (some 3) rfl (byteVals noneB).toArray (by simp only [List.map_toArray, List.map_cons, List.map_nil]; exact HBa.out) ?_)
    | (refine wpList_store_row rfl 30 _ _ rfl w.heap.size (byteVals noneB).toArray rfl rfl 30 _ (HNW.out w) HIa.out rfl HOa.out ?_))
  have e1 := HSR.out
  rw [e1]
  clear e1
  generalize hn1 : w.heap.size = n1 at *
  have HN1 := Lib.hid hn1
  clear hn1
  go_upto_region 3 with (first
    | (refine wpList_buildTo rfl 30 _ rfl (some 4) rfl (byteVals abcB).toArray (by simp only [List.map_toArray, List.map_cons, List.map_nil]; exact HBb.out) ?_)
    | (refine wpList_store_row rfl 30 _ _ rfl W1.heap.size (byteVals abcB).toArray rfl rfl 30 _ (HNW.out W1) HIb.out rfl HOb.out ?_))
  have e1 := HSR2.out
  rw [e1]
  clear e1
  generalize hn2 : W1.heap.size = n2 at *
  have HN2 := Lib.hid hn2
  clear hn2 HBa HBb HOa HOb HNW HIa HIb
  have g00 : Chg none W2 W2.drew := (Chg.refl _ _).drew
  have hSd := known_chg hS0 g00
  have hTd := hT0.chg g00 (by simp)
  have gd := g0.trans g00
  refine wp_region_held_drew (S := (fun w' => w'.rangeAt n1 0 (byteVals noneB) ∧ w'.rangeAt n2 0 (byteVals abcB))) (by kernel_rfl) hS0 (fun _ => ?_)
  refine wpAnyH_take (i := 1) (oi := ⟨some 6, _, _, _, _, _⟩) (v := .agg (byteVals noneB).toArray) rfl (by kernel_rfl) (by kernel_rfl) (by kernel_rfl) (fun _ _ _ h => h) (yieldsIf_load_mid (by rfl) 30 _ rfl n1 0 rfl (byteVals noneB) _ (fun _ h => h.1) Tryd.underlying30 rfl HI.out) (by assumption) ?_
  try simp only [Act.put, List.setIfInBounds_toArray, List.set_cons_zero, List.set_cons_succ]
  refine wpAnyH_ready (rs := [0]) (by kernel_rfl) (by simp) ?_
  refine AllReadyH.cons (o := ⟨some 5, _, _, _, _, _⟩) rfl (fun K hK => ?_) ?_
  rotate_left
  · exact AllReadyH.nil
  go_simp
  go_at_call 23
  refine (sum_nil _ ?_).mono ?_
  · exact hTd
  rintro e w5 ⟨rfl, g5⟩
  have hS5 := known_chg hSd g5
  have g5' := gd.trans g5
  have hT5 := hTd.chg g5 (by simp)
  go_wp2_with fail
  refine hK.out _ _ hS5 (fun _ => ?_)
  clear hK K
  try simp only [Act.put, List.setIfInBounds_toArray, List.set_cons_zero, List.set_cons_succ]
  refine wpAnyH_take (i := 2) (oi := ⟨some 7, _, _, _, _, _⟩) (v := ?_) rfl (by kernel_rfl) (by kernel_rfl) (by kernel_rfl) (fun _ _ _ h => h) (Or.inl ⟨by rfl, ?_⟩) (by assumption) ?_
  rotate_left
  · intro w hSw; (try dsimp only at hSw); go_simp; (try with_reducible rfl)
  try simp only [Act.put, List.setIfInBounds_toArray, List.set_cons_zero, List.set_cons_succ]
  refine wpAnyH_take (i := 3) (oi := ⟨some 8, _, _, _, _, _⟩) (v := ?_) rfl (by kernel_rfl) (by kernel_rfl) (by kernel_rfl) (fun _ _ _ h => h) (Or.inl ⟨by rfl, ?_⟩) (by assumption) ?_
  rotate_left
  · intro w hSw; (try dsimp only at hSw); go_simp; (try with_reducible rfl)
  try simp only [Act.put, List.setIfInBounds_toArray, List.set_cons_zero, List.set_cons_succ]
  refine wpAnyH_take (i := 7) (oi := ⟨some 12, _, _, _, _, _⟩) (v := .agg (byteVals abcB).toArray) rfl (by kernel_rfl) (by kernel_rfl) (by kernel_rfl) (fun _ _ _ h => h) (yieldsIf_load_mid (by rfl) 30 _ rfl n2 0 rfl (byteVals abcB) _ (fun _ h => h.2) Tryd.underlying30 rfl HI.out) (by assumption) ?_
  try simp only [Act.put, List.setIfInBounds_toArray, List.set_cons_zero, List.set_cons_succ]
  refine wpAnyH_ready (rs := [4]) (by kernel_rfl) (by simp) ?_
  refine AllReadyH.cons (o := ⟨some 9, _, _, _, _, _⟩) rfl (fun K hK => ?_) ?_
  rotate_left
  · exact AllReadyH.nil
  have ga6 : Chg none w5 (w5.alloc (.cells #[.int .u8 97, .int .u8 98, .int .u8 99] 5)) := (Chg.refl _ _).alloc _
  have hS6 := known_chg hS5 ga6
  have hT6 := hT5.chg ga6 (by simp)
  have g6' := g5'.trans ga6
  have HSA := Lib.hid (sum_abc w5 hT5)
  go_simp
  refine hK.out _ _ hS6 (fun _ => ?_)
  clear hK K
  try simp only [Act.put, List.setIfInBounds_toArray, List.set_cons_zero, List.set_cons_succ]
  refine wpAnyH_ready (rs := [5]) (by kernel_rfl) (by simp) ?_
  refine AllReadyH.cons (o := ⟨some 10, _, _, _, _, _⟩) rfl (fun K hK => ?_) ?_
  rotate_left
  · exact AllReadyH.nil
  have ga7 : Chg none w5 (w5.alloc (.cells #[.int .u8 97, .int .u8 98, .int .u8 99] 5 (3, 4))) := (Chg.refl _ _).alloc _
  have hS6b := known_chg hS5 ga7
  have g6b := g5'.trans ga7
  go_simp
  refine hK.out _ _ hS6b (fun _ => ?_)
  clear hK K
  try simp only [Act.put, List.setIfInBounds_toArray, List.set_cons_zero, List.set_cons_succ]
  refine wpAnyH_ready (rs := [6]) (by kernel_rfl) (by simp) ?_
  refine AllReadyH.cons (o := ⟨some 11, _, _, _, _, _⟩) rfl (fun K hK => ?_) ?_
  rotate_left
  · exact AllReadyH.nil
  go_simp
  go_at_call 23
  refine (HSA.out).mono ?_
  rintro e w7 ⟨rfl, g7⟩
  have hS7 := known_chg hS6b g7
  have g7' := g6b.trans g7
  go_wp2_with fail
  refine hK.out _ _ hS7 (fun _ => ?_)
  clear hK K
  try simp only [Act.put, List.setIfInBounds_toArray, List.set_cons_zero, List.set_cons_succ]
  refine wpAnyH_take (i := 8) (oi := ⟨some 13, _, _, _, _, _⟩) (v := ?_) rfl (by kernel_rfl) (by kernel_rfl) (by kernel_rfl) (fun _ _ _ h => h) (Or.inl ⟨by rfl, ?_⟩) (by assumption) ?_
  rotate_left
  · intro w hSw; (try dsimp only at hSw); go_simp; (try with_reducible rfl)
  try simp only [Act.put, List.setIfInBounds_toArray, List.set_cons_zero, List.set_cons_succ]
  refine wpAnyH_take (i := 9) (oi := ⟨some 14, _, _, _, _, _⟩) (v := ?_) rfl (by kernel_rfl) (by kernel_rfl) (by kernel_rfl) (fun _ _ _ h => h) (Or.inl ⟨by rfl, ?_⟩) (by assumption) ?_
  rotate_left
  · intro w hSw; (try dsimp only at hSw); go_simp; (try with_reducible rfl)
  try simp only [Act.put, List.setIfInBounds_toArray, List.set_cons_zero, List.set_cons_succ]
  refine wpAnyH_take (i := 10) (oi := ⟨some 0, _, _, _, _, _⟩) (v := ?_) rfl (by kernel_rfl) (by kernel_rfl) (by kernel_rfl) (fun _ _ _ h => h) (Or.inl ⟨by rfl, ?_⟩) (by assumption) ?_
  rotate_left
  · intro w hSw; (try dsimp only at hSw); go_simp; (try with_reducible rfl)
  try simp only [Act.put, List.setIfInBounds_toArray, List.set_cons_zero]
  refine wpAnyH_done (by kernel_rfl) ?_ _
  go_wp2_with fail
  go_ret
  exact ⟨rfl, g7'⟩
end

section
open Go.ChangeShapes Go.WideShapes Go.ChangeAt Go.RowKit
open Go.WideMaps Go.WideElems

theorem Tryd.own : ownKnob Tryd.prog.godebug = none := by kernel_rfl
theorem Tryd.laidOut : laidOutB Tryd.prog = true := by kernel_rfl

theorem wf_i64 {b : Int} (h : (Lit.int .i64 b).wf = true) : -9223372036854775808 ≤ b ∧ b ≤ 9223372036854775807 := by
  simpa [Lit.wf, IntKind.min, IntKind.max, IntKind.signed, IntKind.bits] using h
theorem wf_u8 {b : Int} (h : (Lit.int .u8 b).wf = true) : 0 ≤ b ∧ b ≤ 255 := by
  simpa [Lit.wf, IntKind.min, IntKind.max, IntKind.signed, IntKind.bits] using h
theorem wf_u64 {b : Int} (h : (Lit.int .u64 b).wf = true) : 0 ≤ b ∧ b ≤ 18446744073709551615 := by
  simpa [Lit.wf, IntKind.min, IntKind.max, IntKind.signed, IntKind.bits] using h

def u8Cells (x : UInt8) : List Value := [.int .u8 x.toNat]

section
variable {H : Type} {enc : TypeId × Value → H} {w : World} {base : Nat} {spare : Nat → Bool} {held : Bool}

theorem open_u8 (n : Nat) (cs : List Value) (x) (h : DataW.trod enc Tryd.prog w base spare held n 5 cs = some x) : ∃ a : UInt8, True ∧ cs = u8Cells a := by
  obtain ⟨a, h1, _, hw⟩ := DataW.trod_int Tryd.underlying5 h
  have hr := wf_u8 hw
  refine ⟨UInt8.ofNat a.toNat, trivial, ?_⟩
  rw [h1]
  unfold u8Cells
  have : ((UInt8.ofNat a.toNat).toNat : Int) = a := by
    rw [UInt8.toNat_ofNat']
    omega
  rw [this]
end

section
variable {H : Type} {enc : TypeId × Value → H} {P : Program} {w : World} {base : Nat} {spare : Nat → Bool} {held : Bool}

/-- A slice of plain elements, wherever it lies; how many elements its datum has. -/
theorem trod_rows {α : Type} [Inhabited α] (cells : α → List Value) (ok : α → Prop) (wt : DataW H → α → Prop) {t e : TypeId} {k : Nat} {fuel : Nat} {vs : List Value} {x : DataW H × List MemPlace}
    (ht : P.underlying t = some (.slice e)) (hk : P.cellsOf e = k) (hk0 : 0 < k)
    (he : ∀ (n : Nat) (cs : List Value) x, DataW.trod enc P w base spare held n e cs = some x → ∃ a, ok a ∧ wt x.1 a ∧ cs = cells a)
    (hf : DataW.trod enc P w base spare held fuel t vs = some x) :
    ∃ (A : Option Addr) (L : List α) (c : Nat), vs = [.slice A L.length c] ∧ L.length ≤ c ∧ c ≤ maxLen ∧ (∀ a ∈ L, ok a) ∧ RowsAt w k A cells L ∧ (A = none → L.length = 0 ∧ c = 0) ∧
      ((x.1 = .nil ∧ L = []) ∨ ∃ ds rest, x.1 = .slice ds rest ∧ ds.length = L.length ∧ ∀ (i : Nat) d a, ds[i]? = some d → L[i]? = some a → wt d a) := by
  rcases Go.Deep.open_slice ht hf with ⟨rfl, rfl⟩ | ⟨a, len, cap, m, n, D, Pl, rfl, _, hl, hm, hmm, rfl, hx⟩
  · exact ⟨none, [], 0, rfl, by simp, by simp [maxLen], by simp, fun h => absurd rfl h, fun _ => ⟨rfl, rfl⟩, .inl ⟨rfl, rfl⟩⟩
  · have hml : len ≤ m := by rw [hmm]; split <;> omega
    obtain ⟨F, hF⟩ := Go.Deep.choose_lt (α := α) (n := len) (p := fun i x => ok x ∧ wt (D i) x ∧ ∀ j, j < k → w.cell? (a.add (i * k + j)) = (cells x)[j]?) (fun i hi => by
      obtain ⟨cs', h1, h2⟩ := hx i (by omega)
      obtain ⟨y, hy, hwt, hcs⟩ := he n cs' _ h2
      subst hcs
      obtain ⟨_, hcl, hat⟩ := World.cells?_some h1
      rw [hk] at hat
      exact ⟨y, hy, hwt, fun j hj => by rw [← Go.Deep.add_add]; exact hat j hj⟩)
    have hlen : ((List.range len).map F).length = len := by simp
    refine ⟨some a, (List.range len).map F, cap, by rw [hlen], by rw [hlen]; exact hl, hm, ?_, ?_, fun h => (by cases h), .inr ⟨_, _, rfl, by simp, ?_⟩⟩
    · intro x hx
      obtain ⟨i, hi, rfl⟩ := List.mem_map.1 hx
      exact (hF i (by simpa using hi)).1
    · intro hne
      have h0 : 0 < len := by
        rcases Nat.eq_zero_or_pos len with h | h
        · subst h; simp at hne
        · exact h
      obtain ⟨cs', h1, h2⟩ := hx 0 (by omega)
      obtain ⟨_, hcl, hat⟩ := World.cells?_some h1
      rw [hk] at hat hcl
      have hc0 := hat 0 hk0
      rw [List.getElem?_eq_getElem (by omega)] at hc0
      obtain ⟨b, off, spot⟩ := a
      have hspot : spot = none := by
        have := World.cell?_spot hc0
        simpa [Addr.add] using this
      subst hspot
      rw [Go.WideShapes.add_plain, Go.WideShapes.add_plain] at hc0
      refine ⟨b, off, rfl, World.block_lt_of_cell? w _ hc0, fun i x hi j hj => ?_⟩
      have hi' : i < len := by
        have := (List.getElem?_eq_some_iff.1 hi).1
        rwa [hlen] at this
      rw [List.getElem?_map, List.getElem?_range hi'] at hi
      obtain rfl : F i = x := by simpa using hi
      rw [← (hF i hi').2.2 j hj, Go.WideShapes.add_plain]
    · intro i d y hd hy
      have hi' : i < len := by
        have := (List.getElem?_eq_some_iff.1 hy).1
        rwa [hlen] at this
      rw [List.getElem?_map, List.getElem?_range hi'] at hd hy
      simp only [Option.map_some, Option.some.injEq] at hd hy
      subst hd hy
      exact (hF i hi').2.1

end

section
variable {H : Type} {enc : TypeId × Value → H} {w : World} {base : Nat} {spare : Nat → Bool} {held : Bool}

theorem txt_of_rows {A : Option Addr} {L : List UInt8} (h : RowsAt w 1 A u8Cells L) : Txt w A L := fun h0 => by
  obtain ⟨b, off, e, hb, hc⟩ := h (by intro e; subst e; simp at h0)
  exact ⟨b, off, e, hb, fun j c hj => by
    have := hc j c hj 0 (by omega)
    simpa [u8Cells] using this⟩

/-- A row of bytes that came in. -/
theorem open_prt (fuel : Nat) (vs : List Value) (x) (hf : DataW.trod enc Tryd.prog w base spare held fuel 22 vs = some x) : ∃ p : Prt, (p.ok w ∧ p.c ≤ maxLen) ∧ True ∧ vs = [p.val] := by
  obtain ⟨A, L, c, rfl, hc, hcm, _, hrow, _, _⟩ := trod_rows u8Cells (fun _ => True) (fun _ _ => True) Tryd.underlying22 (k := 1) (by kernel_rfl) (by omega)
    (fun n cs x h => by obtain ⟨a, h1, h2⟩ := open_u8 n cs x h; exact ⟨a, h1, trivial, h2⟩) hf
  exact ⟨⟨A, L, c⟩, ⟨⟨txt_of_rows hrow, hc⟩, hcm⟩, trivial, rfl⟩

set_option maxRecDepth 100000 in
/-- Bytes that came in. -/
theorem open_bytes {r : Reach} {b0 : Nat} {v : Value} {d : DataW H} {p : List MemPlace} (hv : Value.okWide Tryd.prog w r b0 22 v) (h : DataW.Trod enc Tryd.prog w base spare held 22 v d p) :
    ∃ p : Prt, p.ok w ∧ v = p.val ∧ p.c ≤ 9223372036854775807 := by
  obtain ⟨a0, len, cap, rfl⟩ := okWide_slice Tryd.underlying22 hv
  obtain ⟨fuel, hf⟩ := h
  obtain ⟨q, ⟨h1, h2⟩, _, h3⟩ := open_prt fuel _ _ hf
  simp only [Value.cells, List.cons.injEq, and_true] at h3
  have h4 : q.c ≤ 9223372036854775807 := Nat.le_trans h2 (by unfold maxLen; decide)
  exact ⟨q, h1, h3, h4⟩

set_option maxRecDepth 100000 in
/-- Rows of bytes that came in. -/
theorem open_parts {r : Reach} {b0 : Nat} {v : Value} {d : DataW H} {p : List MemPlace} (hv : Value.okWide Tryd.prog w r b0 34 v) (h : DataW.Trod enc Tryd.prog w base spare held 34 v d p) :
    ∃ (A : Option Addr) (L : List Prt) (c : Nat), v = .slice A L.length c ∧ PartsAt w A L ∧ L.length ≤ c ∧ c ≤ 9223372036854775807 ∧ ∀ p ∈ L, p.c ≤ 9223372036854775807 := by
  obtain ⟨a0, len, cap, rfl⟩ := okWide_slice Tryd.underlying34 hv
  obtain ⟨fuel, hf⟩ := h
  obtain ⟨A, L, c, hvs, hc, hcm, hok, hrow, _, _⟩ := trod_rows (fun p : Prt => [p.val]) (fun p => p.ok w ∧ p.c ≤ maxLen) (fun _ _ => True) Tryd.underlying34 (k := 1) (by kernel_rfl) (by omega)
    (fun n cs x h => open_prt n cs x h) hf
  simp only [Value.cells, List.cons.injEq, and_true] at hvs
  have hML : maxLen ≤ 9223372036854775807 := by unfold maxLen; decide
  refine ⟨A, L, c, hvs, ⟨fun h0 => ?_, fun p hp => (hok p hp).1⟩, hc, Nat.le_trans hcm hML, fun p hp => Nat.le_trans (hok p hp).2 hML⟩
  obtain ⟨b, off, e, hb, hcell⟩ := hrow (by intro e; subst e; simp at h0)
  exact ⟨b, off, e, hb, fun i p hi => by simpa using hcell i p hi 0 (by omega)⟩
end

theorem gK : Tryd.prog.globalNamed "murmuration/sha.roundWords" = some 1 := by kernel_rfl
theorem gH : Tryd.prog.globalNamed "murmuration/sha.firstWords" = some 0 := by kernel_rfl
theorem tK : (Tryd.prog.globals[1]?).map (·.type) = some 26 := by kernel_rfl
theorem tH : (Tryd.prog.globals[0]?).map (·.type) = some 25 := by kernel_rfl
abbrev laidT : List (String × DataW Unit) := [("murmuration/sha.roundWords", Rows.laid_murmuration_sha_roundWords), ("murmuration/sha.firstWords", Rows.laid_murmuration_sha_firstWords)]

/-- The door's own heap meets the condition. -/
theorem door_met (os : Os) (args : Array Value) : laidMetH Tryd.prog laidT ((World.doorLaid Tryd.prog 19 os).forCall (fun _ _ => 0) ⟨#[], args, []⟩).memory :=
  laidMetH_of_parts3 (fuel := 8) (laidMet_of_run' 8 (by kernel_rfl) (by kernel_rfl)) (by kernel_rfl) (by kernel_rfl)

theorem tabs_of_laid {W : World} (h : laidMetH Tryd.prog laidT W) : Tabs W := by
  rw [MakeChecks.laidMetH_plain _ _ _ (by kernel_rfl)] at h
  have hK : Lib.TabIs Tryd.prog W "murmuration/sha.roundWords" .u32 K0 := Lib.tabIs_of_head gK tK Tryd.underlying26 Tryd.underlying24 (by kernel_rfl) (by kernel_rfl) h
  have hH : Lib.TabIs Tryd.prog W "murmuration/sha.firstWords" .u32 H0 := Lib.tabIs_of_head gH tH Tryd.underlying25 Tryd.underlying24 (by kernel_rfl) (by kernel_rfl) (laidMet.tail h)
  refine ⟨fun i hi => hH.cell gH i hi, fun i hi => hK.cell gK i hi, ?_⟩
  have := World.block_lt_of_cell? W _ (hK.cell gK 0 (by decide))
  exact this
end

section
open Go.RowKit

theorem ofInt_u8 (x : UInt8) : (BitVec.ofInt 8 (x.toNat : Int)).toNat = x.toNat := by
  rw [BitVec.ofInt_natCast, BitVec.toNat_ofNat]; exact Nat.mod_eq_of_lt x.toNat_lt
theorem u8_xor (x y : UInt8) : bits .xor .u8 (x.toNat : Int) (y.toNat : Int) = ((x ^^^ y).toNat : Int) := by
  have hx : x.toNat ^^^ y.toNat < 2 ^ 8 := Nat.xor_lt_two_pow x.toNat_lt y.toNat_lt
  show IntKind.u8.wrap ((BitVec.ofInt 8 (x.toNat : Int) ^^^ BitVec.ofInt 8 (y.toNat : Int)).toNat : Int) = _
  rw [BitVec.toNat_xor, ofInt_u8, ofInt_u8, UInt8.toNat_xor]
  simp [IntKind.wrap, IntKind.bits, IntKind.signed]
  omega
theorem u8_or (x y : UInt8) : bits .or .u8 (x.toNat : Int) (y.toNat : Int) = ((x ||| y).toNat : Int) := by
  have hx : x.toNat ||| y.toNat < 2 ^ 8 := Nat.or_lt_two_pow x.toNat_lt y.toNat_lt
  show IntKind.u8.wrap ((BitVec.ofInt 8 (x.toNat : Int) ||| BitVec.ofInt 8 (y.toNat : Int)).toNat : Int) = _
  rw [BitVec.toNat_or, ofInt_u8, ofInt_u8, UInt8.toNat_or]
  simp [IntKind.wrap, IntKind.bits, IntKind.signed]
  omega

/-- What is unlike of the first k bytes. -/
def unlike (a b : List UInt8) : Nat → UInt8
  | 0 => 0
  | k + 1 => unlike a b k ||| (a.getD k 0 ^^^ b.getD k 0)
theorem or_zero {x y : UInt8} : x ||| y = 0 ↔ x = 0 ∧ y = 0 := by
  constructor
  · intro h
    have := congrArg UInt8.toNat h
    rw [UInt8.toNat_or] at this
    have h0 : (0 : UInt8).toNat = 0 := rfl
    rw [h0] at this
    have h1 := (Nat.or_eq_zero_iff.1 this)
    exact ⟨UInt8.toNat_inj.1 (by rw [h1.1]; rfl), UInt8.toNat_inj.1 (by rw [h1.2]; rfl)⟩
  · rintro ⟨rfl, rfl⟩; rfl
theorem xor_zero {x y : UInt8} : x ^^^ y = 0 ↔ x = y := by
  constructor
  · intro h
    have h1 : (x ^^^ y) ^^^ y = x := by rw [UInt8.xor_assoc, UInt8.xor_self, UInt8.xor_zero]
    rw [h, UInt8.zero_xor] at h1
    exact h1.symm
  · rintro rfl; simp
theorem unlike_zero (a b : List UInt8) : ∀ k, unlike a b k = 0 ↔ ∀ i, i < k → a.getD i 0 = b.getD i 0
  | 0 => by simp [unlike]
  | k + 1 => by
    rw [unlike, or_zero, xor_zero, unlike_zero a b k]
    constructor
    · rintro ⟨h1, h2⟩ i hi
      by_cases h : i = k
      · rw [h]; exact h2
      · exact h1 i (by omega)
    · intro h
      exact ⟨fun i hi => h i (by omega), h k (by omega)⟩
theorem unlike_eq (a b : List UInt8) (ha : a.length = 32) (hb : b.length = 32) : (((unlike a b 32).toNat : Int) == 0) = (a == b) := by
  rw [Bool.eq_iff_iff, beq_iff_eq, beq_iff_eq]
  have h0 : ((unlike a b 32).toNat : Int) = 0 ↔ unlike a b 32 = 0 := by
    constructor
    · intro h; exact UInt8.toNat_inj.1 (by have h1 : (0 : UInt8).toNat = 0 := rfl; rw [h1]; omega)
    · intro h; rw [h]; rfl
  rw [h0, unlike_zero]
  constructor
  · intro h
    apply List.ext_getElem (by omega)
    intro i h1 h2
    have := h i (by omega)
    rw [List.getD_eq_getElem?_getD, List.getD_eq_getElem?_getD, List.getElem?_eq_getElem h1, List.getElem?_eq_getElem h2] at this
    simpa using this
  · rintro rfl i _; rfl

theorem byte_at {a : List UInt8} {i : Nat} (h : i < a.length) : (byteVals a)[i]? = some (.int .u8 (a.getD i 0).toNat) :=
  byteVals_get (by rw [List.getElem?_eq_getElem h, List.getD_eq_getElem?_getD, List.getElem?_eq_getElem h]; rfl)

set_option maxRecDepth 100000 in
set_option maxHeartbeats 4000000 in
theorem same_any (a b : List UInt8) (ha : a.length = 32) (hb : b.length = 32) (w : World) :
    Calls Tryd.prog 29 #[.agg (byteVals a).toArray, .agg (byteVals b).toArray] w fun e w' => e = .returned (.bool (a == b)) ∧ Chg none w w' := by
  obtain ⟨W2, hW2⟩ : ∃ W2, W2 = (w.alloc (.cells (byteVals a).toArray 30)).alloc (.cells (byteVals b).toArray 30) := ⟨_, rfl⟩
  have g2 : Chg none w W2 := by rw [hW2]; exact ((Chg.refl _ _).alloc _).alloc _
  have bA : BlkL W2 w.heap.size (byteVals a) 30 := by rw [hW2]; exact Blk.alloc (Blk.new _ _ _) _
  have bB : BlkL W2 (w.heap.size + 1) (byteVals b) 30 := by
    rw [hW2]
    have h := Blk.new (w.alloc (.cells (byteVals a).toArray 30)) (byteVals b).toArray 30
    rw [show (w.alloc (.cells (byteVals a).toArray 30)).heap.size = w.heap.size + 1 by simp] at h
    exact h
  have HW := Lib.hid hW2
  clear hW2
  obtain ⟨CA, hCA⟩ : ∃ CA, CA = (byteVals a).toArray := ⟨_, rfl⟩
  obtain ⟨CB, hCB⟩ : ∃ CB, CB = (byteVals b).toArray := ⟨_, rfl⟩
  rw [← hCA, ← hCB]
  rw [← hCA, ← hCB] at HW
  clear hCA hCB
  go_enter Tryd.func29, Tryd.ntmps29
  go_wp2_with fail
  rw [← HW.out]
  generalize w.heap.size + 1 = pB at *
  generalize w.heap.size = pA at *
  go_loopw [5, 7] (fun s5 s7 wr => ∃ k : Nat, k ≤ 32 ∧ s7 = .int .i64 k ∧ s5 = .int .u8 (unlike a b k).toNat ∧ BlkL wr pA (byteVals a) 30 ∧ BlkL wr pB (byteVals b) 30 ∧ Chg none w wr) (fun _ s7 _ => 32 - (intOf s7).toNat)
  case atStart => exact ⟨0, by omega, rfl, rfl, bA, bB, g2⟩
  case round =>
    obtain ⟨k, hk, rfl, rfl, bAk, bBk, gk⟩ := hrel
    clear bA bB g2
    by_cases hlt : k < 32
    · have cA := (BlkL.cell bAk k).trans (byte_at (by omega))
      have cB := (BlkL.cell bBk k).trans (byte_at (by omega))
      have hun : bits .or .u8 ((unlike a b k).toNat : Int) (bits .xor .u8 ((a.getD k 0).toNat : Int) ((b.getD k 0).toNat : Int)) = ((unlike a b (k + 1)).toNat : Int) := by
        rw [u8_xor, u8_or]; rfl
      generalize a.getD k 0 = xa at *
      generalize b.getD k 0 = xb at *
      go_wp2_with fail
      go_region
      all_goals
        go_wp2_with fail
        go_roundw
        case rel => exact ⟨k + 1, by omega, by go_num, by first | rfl | (rw [hun]), bAk.drew, bBk.drew, gk.drew⟩
        case measure => first | (simp [intOf]; done) | (simp [intOf]; omega)
    · obtain rfl : k = 32 := by omega
      have hd8 : decide (((32 : Nat) : Int) < 32) = false := by decide
      have hue := unlike_eq a b ha hb
      go_wp2_with fail
      go_ret
      exact ⟨by rw [← hue]; rfl, gk⟩

/-- The key of a secret. -/
def keyB (s : List UInt8) : List UInt8 := if 64 < s.length then dig s ++ List.replicate 32 0 else s ++ List.replicate (64 - s.length) 0
theorem keyB_len (s : List UInt8) : (keyB s).length = 64 := by
  unfold keyB
  split
  · rw [List.length_append, dig_len, List.length_replicate]
  · rw [List.length_append, List.length_replicate]; omega
def turnB (k : List UInt8) (x : UInt8) : List UInt8 := k.map (· ^^^ x)
theorem turnB_len (k : List UInt8) (x : UInt8) : (turnB k x).length = k.length := by simp [turnB]
/-- The tag of the secret s and of the bytes m. -/
def tagB (s m : List UInt8) : List UInt8 := dig (turnB (keyB s) 92 ++ dig (turnB (keyB s) 54 ++ m))
theorem tagB_len (s m : List UInt8) : (tagB s m).length = 32 := dig_len _

/-- A key of which the first j bytes are turned. -/
def turnedTo (k : List UInt8) (x : UInt8) (j : Nat) : List UInt8 := turnB (k.take j) x ++ k.drop j
theorem turnedTo_len (k : List UInt8) (x : UInt8) (j : Nat) : (turnedTo k x j).length = k.length := by
  rw [turnedTo, List.length_append, turnB_len, List.length_take, List.length_drop]; omega
theorem turnedTo_at (k : List UInt8) (x : UInt8) (j : Nat) (h : j < k.length) : (turnedTo k x j)[j]? = some (k.getD j 0) := by
  have hl : (turnB (k.take j) x).length = j := by rw [turnB_len, List.length_take]; omega
  rw [turnedTo, List.getElem?_append_right (by omega), hl, Nat.sub_self, List.getElem?_drop, Nat.add_zero, List.getElem?_eq_getElem h, List.getD_eq_getElem?_getD, List.getElem?_eq_getElem h]
  rfl
theorem turnedTo_set (k : List UInt8) (x : UInt8) (j : Nat) (h : j < k.length) : (turnedTo k x j).set j (k.getD j 0 ^^^ x) = turnedTo k x (j + 1) := by
  have hl : (turnB (k.take j) x).length = j := by rw [turnB_len, List.length_take]; omega
  have hd : k.getD j 0 = k[j] := by rw [List.getD_eq_getElem?_getD, List.getElem?_eq_getElem h]; rfl
  have ht : turnB (k.take (j + 1)) x = turnB (k.take j) x ++ [k[j] ^^^ x] := by
    unfold turnB
    rw [List.take_succ_eq_append_getElem h, List.map_append]
    rfl
  rw [turnedTo, List.set_append_right _ _ (by omega), hl, Nat.sub_self, List.drop_eq_getElem_cons h, List.set_cons_zero, hd, turnedTo, ht, List.append_assoc]
  rfl
theorem byteVals_set (bs : List UInt8) (j : Nat) (y : UInt8) : (byteVals bs).set j (.int .u8 y.toNat) = byteVals (bs.set j y) := by simp [byteVals, List.map_set]

def zero64 : Array Value := #[Value.int IntKind.u8 0, Value.int IntKind.u8 0, Value.int IntKind.u8 0, Value.int IntKind.u8 0, Value.int IntKind.u8 0, Value.int IntKind.u8 0, Value.int IntKind.u8 0, Value.int IntKind.u8 0, Value.int IntKind.u8 0, Value.int IntKind.u8 0, Value.int IntKind.u8 0, Value.int IntKind.u8 0, Value.int IntKind.u8 0, Value.int IntKind.u8 0, Value.int IntKind.u8 0, Value.int IntKind.u8 0, Value.int IntKind.u8 0, Value.int IntKind.u8 0, Value.int IntKind.u8 0, Value.int IntKind.u8 0, Value.int IntKind.u8 0, Value.int IntKind.u8 0, Value.int IntKind.u8 0, Value.int IntKind.u8 0, Value.int IntKind.u8 0, Value.int IntKind.u8 0, Value.int IntKind.u8 0, Value.int IntKind.u8 0, Value.int IntKind.u8 0, Value.int IntKind.u8 0, Value.int IntKind.u8 0, Value.int IntKind.u8 0, Value.int IntKind.u8 0, Value.int IntKind.u8 0, Value.int IntKind.u8 0, Value.int IntKind.u8 0, Value.int IntKind.u8 0, Value.int IntKind.u8 0, Value.int IntKind.u8 0, Value.int IntKind.u8 0, Value.int IntKind.u8 0, Value.int IntKind.u8 0, Value.int IntKind.u8 0, Value.int IntKind.u8 0, Value.int IntKind.u8 0, Value.int IntKind.u8 0, Value.int IntKind.u8 0, Value.int IntKind.u8 0, Value.int IntKind.u8 0, Value.int IntKind.u8 0, Value.int IntKind.u8 0, Value.int IntKind.u8 0, Value.int IntKind.u8 0, Value.int IntKind.u8 0, Value.int IntKind.u8 0, Value.int IntKind.u8 0, Value.int IntKind.u8 0, Value.int IntKind.u8 0, Value.int IntKind.u8 0, Value.int IntKind.u8 0, Value.int IntKind.u8 0, Value.int IntKind.u8 0, Value.int IntKind.u8 0, Value.int IntKind.u8 0]
theorem row_facts (bs : List UInt8) (n : Nat) (h : bs.length = n) : (byteVals bs).toArray.size = n ∧ (byteVals bs).toArray.all (·.oneCell') = true :=
  ⟨by rw [List.size_toArray, byteVals_len, h], Array.all_eq_true_iff_forall_mem.2 (fun v hv => byteVals_one _ v (by simpa using hv))⟩

set_option maxRecDepth 100000 in
set_option maxHeartbeats 4000000 in
theorem turned_any (k : List UInt8) (x : UInt8) (hk : k.length = 64) (w : World) :
    Calls Tryd.prog 68 #[.agg (byteVals k).toArray, .int .u8 x.toNat] w fun e w' => e = .returned (.agg (byteVals (turnB k x)).toArray) ∧ Chg none w w' := by
  obtain ⟨W2, hW2⟩ : ∃ W2, W2 = (w.alloc (.cells (byteVals k).toArray 92)).alloc (.cells zero64 92) := ⟨_, rfl⟩
  have g2 : Chg none w W2 := by rw [hW2]; exact ((Chg.refl _ _).alloc _).alloc _
  have bA : BlkL W2 w.heap.size (byteVals (turnedTo k x 0)) 92 := by rw [hW2]; exact Blk.alloc (Blk.new _ _ _) _
  have bB : Blk W2 (w.heap.size + 1) zero64 92 := by
    rw [hW2]
    have h := Blk.new (w.alloc (.cells (byteVals k).toArray 92)) zero64 92
    rw [show (w.alloc (.cells (byteVals k).toArray 92)).heap.size = w.heap.size + 1 by simp] at h
    exact h
  have hne : w.heap.size + 1 ≠ w.heap.size := by omega
  have hge : w.heap.size ≤ w.heap.size + 1 := by omega
  have hge0 : w.heap.size ≤ w.heap.size := by omega
  obtain ⟨CK, hCK⟩ : ∃ CK, CK = (byteVals k).toArray := ⟨_, rfl⟩
  rw [← hCK]
  rw [← hCK] at hW2
  have HW : Hid ((w.alloc (.cells CK 92)).alloc (.cells #[Value.int IntKind.u8 0, Value.int IntKind.u8 0, Value.int IntKind.u8 0, Value.int IntKind.u8 0, Value.int IntKind.u8 0, Value.int IntKind.u8 0, Value.int IntKind.u8 0, Value.int IntKind.u8 0, Value.int IntKind.u8 0, Value.int IntKind.u8 0, Value.int IntKind.u8 0, Value.int IntKind.u8 0, Value.int IntKind.u8 0, Value.int IntKind.u8 0, Value.int IntKind.u8 0, Value.int IntKind.u8 0, Value.int IntKind.u8 0, Value.int IntKind.u8 0, Value.int IntKind.u8 0, Value.int IntKind.u8 0, Value.int IntKind.u8 0, Value.int IntKind.u8 0, Value.int IntKind.u8 0, Value.int IntKind.u8 0, Value.int IntKind.u8 0, Value.int IntKind.u8 0, Value.int IntKind.u8 0, Value.int IntKind.u8 0, Value.int IntKind.u8 0, Value.int IntKind.u8 0, Value.int IntKind.u8 0, Value.int IntKind.u8 0, Value.int IntKind.u8 0, Value.int IntKind.u8 0, Value.int IntKind.u8 0, Value.int IntKind.u8 0, Value.int IntKind.u8 0, Value.int IntKind.u8 0, Value.int IntKind.u8 0, Value.int IntKind.u8 0, Value.int IntKind.u8 0, Value.int IntKind.u8 0, Value.int IntKind.u8 0, Value.int IntKind.u8 0, Value.int IntKind.u8 0, Value.int IntKind.u8 0, Value.int IntKind.u8 0, Value.int IntKind.u8 0, Value.int IntKind.u8 0, Value.int IntKind.u8 0, Value.int IntKind.u8 0, Value.int IntKind.u8 0, Value.int IntKind.u8 0, Value.int IntKind.u8 0, Value.int IntKind.u8 0, Value.int IntKind.u8 0, Value.int IntKind.u8 0, Value.int IntKind.u8 0, Value.int IntKind.u8 0, Value.int IntKind.u8 0, Value.int IntKind.u8 0, Value.int IntKind.u8 0, Value.int IntKind.u8 0, Value.int IntKind.u8 0] 92) = W2) := hW2.symm
  clear hCK hW2
  go_enter Tryd.func68, Tryd.ntmps68
  go_wp2_with fail
  have e1 := HW.out
  rw [e1]
  clear e1
  obtain ⟨B0, hB0⟩ : ∃ B0, B0 = w.heap.size := ⟨_, rfl⟩
  generalize hpB : w.heap.size + 1 = pB at *
  generalize hpA : w.heap.size = pA at *
  have HPB := Lib.hid hpB
  have HPA := Lib.hid hpA
  clear hpA hpB hB0
  go_loopw [6] (fun s6 wr => ∃ j : Nat, j ≤ 64 ∧ s6 = .int .i64 j ∧ BlkL wr pA (byteVals (turnedTo k x j)) 92 ∧ Blk wr pB zero64 92 ∧ Chg none w wr) (fun s6 _ => 64 - (intOf s6).toNat)
  case atStart => exact ⟨0, by omega, rfl, bA, bB, g2⟩
  case round =>
    obtain ⟨j, hj, rfl, bAj, bBj, gj⟩ := hrel
    clear bA bB g2
    by_cases hlt : j < 64
    · have cA := (BlkL.cell bAj j).trans (byteVals_get (turnedTo_at k x j (by omega)))
      have hfz := Blk.frozen bAj j
      have hset := BlkL.set bAj j (.int .u8 (k.getD j 0 ^^^ x).toNat)
      rw [byteVals_set, turnedTo_set k x j (by omega), ← u8_xor] at hset
      generalize k.getD j 0 = xa at *
      have HSET := Lib.hid hset
      clear hset
      go_wp2_with fail
      go_roundw
      case rel => exact ⟨j + 1, by omega, by go_num, HSET.out, bBj.setOther _ _ hne, gj.setNew _ (by rw [HPA.out]; exact Nat.le_refl _) _⟩
      case measure => first | (simp [intOf]; done) | (simp [intOf]; omega)
    · obtain rfl : j = 64 := by omega
      have hd8 : decide (((64 : Nat) : Int) < 64) = false := by decide
      have hfin : turnedTo k x 64 = turnB k x := by rw [turnedTo, List.take_of_length_le (by omega), List.drop_eq_nil_of_le (by omega), List.append_nil]
      rw [hfin] at bAj
      obtain ⟨hs, ho⟩ := row_facts (turnB k x) 64 (by rw [turnB_len]; exact hk)
      have HI : Hid ((Tryd.prog.info? 92).map (·.size) = some (byteVals (turnB k x)).toArray.size) := by rw [hs]; show _ = _; kernel_rfl
      have HZ : Hid (zero64.size = (byteVals (turnB k x)).toArray.size) := by rw [hs]; rfl
      have HO := Lib.hid ho
      clear hs ho hfin
      go_wp2_with (first | (refine wpList_load_row rfl 92 _ rfl pA rfl 92 _ (0, 0) _ bAj Tryd.underlying92 rfl HI.out ?_) | (refine wpList_store_row rfl 92 _ _ rfl pB (byteVals (turnB k x)).toArray rfl rfl 92 _ bBj HI.out HZ.out HO.out ?_))
      refine bodyPost_ret (results_cell_row (p := 4) (ty := 92) Tryd.results68 _ _ pB 92 (byteVals (turnB k x)).toArray (0, 0) _ rfl (setRow_heap _ _ _ _ _ _ bBj) Tryd.underlying92 rfl HI.out) rfl ⟨rfl, ?_⟩
      exact Chg.own (b := pB) gj (chg_setRow _ _ _) (by rw [HPA.out, ← HPB.out]; omega)
end

section
open Go.RowKit

theorem txt_reads {w : World} {A : Option Addr} {x : List UInt8} (h : Txt w A x) : Reads w w.heap.size 1 A x.length (byteVals x) :=
  ⟨by rw [byteVals_len, Nat.mul_one], fun h0 => by
    obtain ⟨sb, so, e, hlt, hc⟩ := h h0
    refine ⟨_, e, hlt, fun j u hu => ?_⟩
    rw [Go.WideShapes.add_plain]
    unfold byteVals at hu
    rw [List.getElem?_map, Option.map_eq_some_iff] at hu
    obtain ⟨c, h1, rfl⟩ := hu
    exact hc j c h1⟩

theorem Txt.cut {w : World} {A : Option Addr} {bs : List UInt8} (h : Txt w A bs) {k cap : Nat} (hc : bs.length ≤ cap) : Txt w (if cap = k then A else A.map (·.add k)) (bs.drop k) := fun h0 => by
  rw [List.length_drop] at h0
  obtain ⟨sb, so, rfl, hlt, hcell⟩ := h (by omega)
  rw [if_neg (by omega)]
  refine ⟨sb, so + k, by rw [Option.map_some, Go.WideShapes.add_plain], hlt, fun j c hj => ?_⟩
  rw [List.getElem?_drop] at hj
  have := hcell _ _ hj
  rwa [← Nat.add_assoc] at this
theorem Txt.first {w : World} {A : Option Addr} {bs : List UInt8} (h : Txt w A bs) (k : Nat) : Txt w A (bs.take k) := fun h0 => by
  rw [List.length_take] at h0
  obtain ⟨sb, so, e, hlt, hcell⟩ := h (by omega)
  refine ⟨sb, so, e, hlt, fun j c hj => hcell j c ?_⟩
  rw [List.getElem?_take] at hj
  split at hj
  · exact hj
  · cases hj
theorem own_txt {w : World} {base n c : Nat} {A : Option Addr} {bs : List UInt8} (h : w.ownsRow base 5 1 (.slice A n c) n (byteVals bs)) : Txt w A bs ∧ n = bs.length ∧ n ≤ c := by
  have hl := h.1
  rw [byteVals_len, Nat.mul_one] at hl
  rcases h.2 with ⟨h1, h2⟩ | ⟨g, cap, cur, h1, h2, h3, h4, h5, h6, h7⟩
  · exact ⟨fun h0 => by omega, hl.symm, by omega⟩
  · injection h1 with e1 e2 e3
    refine ⟨fun _ => ⟨g, 0, e1, (Array.getElem?_eq_some_iff.1 h3).1, fun j x hj => ?_⟩, hl.symm, by omega⟩
    have := h.cells (g := g) (by rw [e1]; rfl) j _ (byteVals_get hj)
    rwa [Go.WideShapes.add_plain] at this

theorem cut_lo_hi (A : Option Addr) (len cap lo hi : Nat) (h1 : lo ≤ hi) (h2 : hi ≤ cap) (w : World) :
    (Instr.sliceAt 22 (.slice A len cap) (some (.int .i64 lo)) (some (.int .i64 hi)) none).run Tryd.prog w = .ok (.slice (if cap = lo then A else A.map (·.add lo)) (hi - lo) (cap - lo)) w := by
  have u22 := Tryd.underlying22
  have z5 := Tryd.sizeOf5
  have h3 : (lo : Int) ≤ hi := by omega
  have h4 : (hi : Int) ≤ cap := by omega
  have h5 : (lo : Int) ≤ cap := by omega
  go_simp
theorem cut_lo (A : Option Addr) (len cap lo : Nat) (h1 : lo ≤ len) (h2 : len ≤ cap) (w : World) :
    (Instr.sliceAt 22 (.slice A len cap) (some (.int .i64 lo)) none none).run Tryd.prog w = .ok (.slice (if cap = lo then A else A.map (·.add lo)) (len - lo) (cap - lo)) w := by
  have u22 := Tryd.underlying22
  have z5 := Tryd.sizeOf5
  have h3 : (lo : Int) ≤ len := by omega
  have h4 : (len : Int) ≤ cap := by omega
  have h5 : (lo : Int) ≤ cap := by omega
  go_simp

theorem parts_two {w : World} {Q : Nat} {p q : Prt} (hQ : Blk w Q #[p.val, q.val] 22) (hp : p.ok w) (hq : q.ok w) : PartsAt w (some ⟨Q, 0, none⟩) [p, q] :=
  ⟨fun _ => ⟨Q, 0, rfl, hQ.lt, fun i r hi => by
    rw [Nat.zero_add, hQ.cell]
    match i, hi with
    | 0, hi => simp at hi; subst hi; rfl
    | 1, hi => simp at hi; subst hi; rfl⟩,
   fun r hr => by
    rcases List.mem_cons.1 hr with rfl | hr
    · exact hp
    · rcases List.mem_cons.1 hr with rfl | hr
      · exact hq
      · cases hr⟩
theorem parts_one {w : World} {Q : Nat} {p : Prt} (hQ : Blk w Q #[p.val] 22) (hp : p.ok w) : PartsAt w (some ⟨Q, 0, none⟩) [p] :=
  ⟨fun _ => ⟨Q, 0, rfl, hQ.lt, fun i r hi => by
    rw [Nat.zero_add, hQ.cell]
    match i, hi with
    | 0, hi => simp at hi; subst hi; rfl⟩,
   fun r hr => by
    rcases List.mem_cons.1 hr with rfl | hr
    · exact hp
    · cases hr⟩
theorem Prt.ok.chg {w w' : World} {p : Prt} (h : p.ok w) (g : Chg none w w') : p.ok w' := ⟨h.1.chg g, h.2⟩

/-- What a slice of a slice of bytes is. -/
def cutPrt (A : Option Addr) (m : List UInt8) (c lo hi : Nat) : Prt := ⟨if c = lo then A else A.map (·.add lo), (m.drop lo).take (hi - lo), c - lo⟩
theorem cutPrt_ok {w : World} {A : Option Addr} {m : List UInt8} {c : Nat} (h : Txt w A m) (hc : m.length ≤ c) (lo hi : Nat) (hhi : hi ≤ m.length) : (cutPrt A m c lo hi).ok w :=
  ⟨(h.cut hc).first _, by show ((m.drop lo).take (hi - lo)).length ≤ c - lo; rw [List.length_take, List.length_drop]; omega⟩
theorem cutPrt_len (A : Option Addr) (m : List UInt8) (c lo hi : Nat) (h1 : lo ≤ hi) (hhi : hi ≤ m.length) : (cutPrt A m c lo hi).x.length = hi - lo := by
  show ((m.drop lo).take (hi - lo)).length = _
  rw [List.length_take, List.length_drop]; omega
end

section
open Go.RowKit

def zeros (n : Nat) : List UInt8 := List.replicate n 0
theorem zero64_eq : zero64 = (byteVals (zeros 64)).toArray := by kernel_rfl
theorem splice_zeros (bs : List UInt8) : splice (byteVals (zeros 64)) 0 (byteVals bs) = byteVals (bs ++ zeros (64 - bs.length)) := by
  unfold splice
  rw [List.take_zero, List.nil_append, Nat.zero_add, byteVals_len, byteVals_drop, byteVals_append]
  unfold zeros
  rw [List.drop_replicate]

set_option maxRecDepth 100000 in
set_option maxHeartbeats 4000000 in
theorem key_any (A : Option Addr) (s : List UInt8) (c : Nat) (w : World) (hA : Txt w A s) (hc : s.length ≤ c) (hs : s.length < 1000000000) (hT : Tabs w) :
    Calls Tryd.prog 66 #[.slice A s.length c] w fun e w' => e = .returned (.agg (byteVals (keyB s)).toArray) ∧ Chg none w w' := by
  obtain ⟨W2, hW2⟩ : ∃ W2, W2 = (w.alloc (.cells zero64 92)).alloc (.cells zero64 92) := ⟨_, rfl⟩
  have g2 : Chg none w W2 := by rw [hW2]; exact ((Chg.refl _ _).alloc _).alloc _
  have bR : Blk W2 w.heap.size zero64 92 := by rw [hW2]; exact Blk.alloc (Blk.new _ _ _) _
  have bK : BlkL W2 (w.heap.size + 1) (byteVals (zeros 64)) 92 := by
    rw [hW2]
    have h := Blk.new (w.alloc (.cells zero64 92)) zero64 92
    rw [show (w.alloc (.cells zero64 92)).heap.size = w.heap.size + 1 by simp] at h
    unfold BlkL
    rw [← zero64_eq]
    exact h
  have HW : Hid ((w.alloc (.cells #[Value.int IntKind.u8 0, Value.int IntKind.u8 0, Value.int IntKind.u8 0, Value.int IntKind.u8 0, Value.int IntKind.u8 0, Value.int IntKind.u8 0, Value.int IntKind.u8 0, Value.int IntKind.u8 0, Value.int IntKind.u8 0, Value.int IntKind.u8 0, Value.int IntKind.u8 0, Value.int IntKind.u8 0, Value.int IntKind.u8 0, Value.int IntKind.u8 0, Value.int IntKind.u8 0, Value.int IntKind.u8 0, Value.int IntKind.u8 0, Value.int IntKind.u8 0, Value.int IntKind.u8 0, Value.int IntKind.u8 0, Value.int IntKind.u8 0, Value.int IntKind.u8 0, Value.int IntKind.u8 0, Value.int IntKind.u8 0, Value.int IntKind.u8 0, Value.int IntKind.u8 0, Value.int IntKind.u8 0, Value.int IntKind.u8 0, Value.int IntKind.u8 0, Value.int IntKind.u8 0, Value.int IntKind.u8 0, Value.int IntKind.u8 0, Value.int IntKind.u8 0, Value.int IntKind.u8 0, Value.int IntKind.u8 0, Value.int IntKind.u8 0, Value.int IntKind.u8 0, Value.int IntKind.u8 0, Value.int IntKind.u8 0, Value.int IntKind.u8 0, Value.int IntKind.u8 0, Value.int IntKind.u8 0, Value.int IntKind.u8 0, Value.int IntKind.u8 0, Value.int IntKind.u8 0, Value.int IntKind.u8 0, Value.int IntKind.u8 0, Value.int IntKind.u8 0, Value.int IntKind.u8 0, Value.int IntKind.u8 0, Value.int IntKind.u8 0, Value.int IntKind.u8 0, Value.int IntKind.u8 0, Value.int IntKind.u8 0, Value.int IntKind.u8 0, Value.int IntKind.u8 0, Value.int IntKind.u8 0, Value.int IntKind.u8 0, Value.int IntKind.u8 0, Value.int IntKind.u8 0, Value.int IntKind.u8 0, Value.int IntKind.u8 0, Value.int IntKind.u8 0, Value.int IntKind.u8 0] 92)).alloc (.cells #[Value.int IntKind.u8 0, Value.int IntKind.u8 0, Value.int IntKind.u8 0, Value.int IntKind.u8 0, Value.int IntKind.u8 0, Value.int IntKind.u8 0, Value.int IntKind.u8 0, Value.int IntKind.u8 0, Value.int IntKind.u8 0, Value.int IntKind.u8 0, Value.int IntKind.u8 0, Value.int IntKind.u8 0, Value.int IntKind.u8 0, Value.int IntKind.u8 0, Value.int IntKind.u8 0, Value.int IntKind.u8 0, Value.int IntKind.u8 0, Value.int IntKind.u8 0, Value.int IntKind.u8 0, Value.int IntKind.u8 0, Value.int IntKind.u8 0, Value.int IntKind.u8 0, Value.int IntKind.u8 0, Value.int IntKind.u8 0, Value.int IntKind.u8 0, Value.int IntKind.u8 0, Value.int IntKind.u8 0, Value.int IntKind.u8 0, Value.int IntKind.u8 0, Value.int IntKind.u8 0, Value.int IntKind.u8 0, Value.int IntKind.u8 0, Value.int IntKind.u8 0, Value.int IntKind.u8 0, Value.int IntKind.u8 0, Value.int IntKind.u8 0, Value.int IntKind.u8 0, Value.int IntKind.u8 0, Value.int IntKind.u8 0, Value.int IntKind.u8 0, Value.int IntKind.u8 0, Value.int IntKind.u8 0, Value.int IntKind.u8 0, Value.int IntKind.u8 0, Value.int IntKind.u8 0, Value.int IntKind.u8 0, Value.int IntKind.u8 0, Value.int IntKind.u8 0, Value.int IntKind.u8 0, Value.int IntKind.u8 0, Value.int IntKind.u8 0, Value.int IntKind.u8 0, Value.int IntKind.u8 0, Value.int IntKind.u8 0, Value.int IntKind.u8 0, Value.int IntKind.u8 0, Value.int IntKind.u8 0, Value.int IntKind.u8 0, Value.int IntKind.u8 0, Value.int IntKind.u8 0, Value.int IntKind.u8 0, Value.int IntKind.u8 0, Value.int IntKind.u8 0, Value.int IntKind.u8 0] 92) = W2) := hW2.symm
  have hA2 := hA.chg g2
  have hT2 := hT.chg g2 (by simp)
  have hlt2 : w.heap.size + 1 < W2.heap.size := bK.lt
  clear hW2 hA hT
  obtain ⟨hks, hko⟩ := row_facts (keyB s) 64 (keyB_len s)
  have HI : Hid ((Tryd.prog.info? 92).map (·.size) = some (byteVals (keyB s)).toArray.size) := by rw [hks]; show _ = _; kernel_rfl
  have HZ : Hid (zero64.size = (byteVals (keyB s)).toArray.size) := by rw [hks]; rfl
  have HO := Lib.hid hko
  clear hks hko
  by_cases h64 : 64 < s.length
  · have hkb : keyB s = dig s ++ zeros 32 := if_pos h64
    have HSM := Lib.hid (sum_any A s c W2 hA2 hc (by omega) hT2)
    clear hA2 hT2
    go_enter Tryd.func66, Tryd.ntmps66
    go_upto_region 3 with (fail)
    have e1 := HW.out
    rw [e1]
    clear e1
    generalize hpK : w.heap.size + 1 = pK at *
    generalize hpR : w.heap.size = pR at *
    have HPK := Lib.hid hpK
    have HPR := Lib.hid hpR
    clear hpK hpR
    obtain ⟨hds, hdo⟩ := row_facts (dig s) 32 (dig_len s)
    have HDI : Hid ((Tryd.prog.info? 30).map (·.size) = some (byteVals (dig s)).toArray.size) := by rw [hds]; show _ = _; kernel_rfl
    have HDZ : Hid (zero32.size = (byteVals (dig s)).toArray.size) := by rw [hds]; rfl
    have HDO := Lib.hid hdo
    have HNW := Lib.hid (fun (W : World) => heap_alloc_new W (.cells zero32 30))
    have HKB := Lib.hid hkb
    clear hds hdo hkb
    go_wp2_with fail
    refine HSM.out.mono ?_
    rintro e w3 ⟨rfl, g3⟩
    have bR3 := bR.chg g3 (by simp)
    have bK3 := Blk.chg bK g3 (by simp)
    have g03 := g2.trans g3
    have hlt3 : pK < w3.heap.size := Nat.lt_of_lt_of_le hlt2 g3.size
    obtain ⟨ga, ha⟩ := new_row w3 (byteVals (dig s)).toArray
    obtain ⟨W4, hW4⟩ : ∃ W4, W4 = (w3.alloc (.cells zero32 30)).setRow w3.heap.size (byteVals (dig s)).toArray := ⟨_, rfl⟩
    have HW4 : Hid ((w3.alloc (.cells #[Value.int IntKind.u8 0, Value.int IntKind.u8 0, Value.int IntKind.u8 0, Value.int IntKind.u8 0, Value.int IntKind.u8 0, Value.int IntKind.u8 0, Value.int IntKind.u8 0, Value.int IntKind.u8 0, Value.int IntKind.u8 0, Value.int IntKind.u8 0, Value.int IntKind.u8 0, Value.int IntKind.u8 0, Value.int IntKind.u8 0, Value.int IntKind.u8 0, Value.int IntKind.u8 0, Value.int IntKind.u8 0, Value.int IntKind.u8 0, Value.int IntKind.u8 0, Value.int IntKind.u8 0, Value.int IntKind.u8 0, Value.int IntKind.u8 0, Value.int IntKind.u8 0, Value.int IntKind.u8 0, Value.int IntKind.u8 0, Value.int IntKind.u8 0, Value.int IntKind.u8 0, Value.int IntKind.u8 0, Value.int IntKind.u8 0, Value.int IntKind.u8 0, Value.int IntKind.u8 0, Value.int IntKind.u8 0, Value.int IntKind.u8 0] 30)).setRow w3.heap.size (byteVals (dig s)).toArray = W4) := hW4.symm
    rw [← hW4] at ga ha
    clear hW4 g3 bR bK hlt2 g2
    go_upto_region 4 with (refine wpList_store_row rfl 30 _ _ rfl w3.heap.size (byteVals (dig s)).toArray rfl rfl 30 _ (HNW.out w3) HDI.out HDZ.out HDO.out ?_)
    have e1 := HW4.out
    rw [e1]
    clear e1
    have bR4 := bR3.chg ga (by simp)
    have bK4 := Blk.chg bK3 ga (by simp)
    have g04 := g03.trans ga
    generalize w3.heap.size = pD at *
    have hdl : (byteVals (dig s)).length = 32 := by rw [byteVals_len, dig_len]
    obtain ⟨w5, hrun, bK5, g5⟩ := copy_runs (P := Tryd.prog) (w := W4.drew) 22 22 3 5 Tryd.underlying22 (by kernel_rfl) (some ⟨pK, 0, none⟩) (some ⟨pD, 0, none⟩) 64 64 32 32 pK 0 (byteVals (zeros 64)) 92 bK4 (byteVals (dig s))
      (by rw [hdl]; rfl) (fun _ => ⟨rfl, ⟨pD, 0, none⟩, rfl, fun j v hj => by rw [Go.WideShapes.add_plain, Nat.zero_add]; exact (BlkL.cell (show BlkL W4 pD (byteVals (dig s)) 30 from ha) j).trans hj⟩) (by rw [hdl, byteVals_len]; simp [zeros]) (byteVals_one _)
    rw [splice_zeros, dig_len] at bK5
    rw [hdl] at hrun
    have hrun' : (Builtin.copy_ #[22, 22] 3 #[.slice (some ⟨pK, 0, none⟩) 64 64, .slice (some ⟨pD, 0, none⟩) 32 32]).run Tryd.prog W4.drew = .ok (.int .i64 32) w5 := hrun
    change BlkL w5 pK (byteVals (dig s ++ zeros 32)) 92 at bK5
    rw [← HKB.out] at bK5
    have hne : pR ≠ pK := by rw [← HPK.out]; omega
    have bR5 := Blk.chg (show Blk W4.drew pR zero64 92 from bR4) g5 (by simpa using hne)
    have g05 : Chg none w w5 := Chg.own (b := pK) g04.drew g5 (by rw [← HPK.out, HPR.out]; omega)
    clear hrun hdl bK4 ha ga bK3 bR3 bR4 g03 g04 g5 HDO HDI HDZ HNW
    go_region
    all_goals
      go_wp2_with (first | (refine wpList_load_row rfl 92 _ rfl pK rfl 92 _ (0, 0) _ bK5 Tryd.underlying92 rfl HI.out ?_) | (refine wpList_store_row rfl 92 _ _ rfl pR (byteVals (keyB s)).toArray rfl rfl 92 _ bR5 HI.out HZ.out HO.out ?_))
      refine bodyPost_ret (results_cell_row (p := 2) (ty := 92) Tryd.results66 _ _ pR 92 (byteVals (keyB s)).toArray (0, 0) _ rfl (setRow_heap _ _ _ _ _ _ bR5) Tryd.underlying92 rfl HI.out) rfl ⟨rfl, ?_⟩
      exact Chg.own (b := pR) g05 (chg_setRow _ _ _) (by rw [HPR.out]; exact Nat.le_refl _)
  · have hkb : keyB s = s ++ zeros (64 - s.length) := if_neg h64
    have d64 : decide ((64 : Int) < (s.length : Int)) = false := by simp; omega
    have hls : (byteVals s).length = s.length := byteVals_len s
    obtain ⟨w5, hrun, bK5, g5⟩ := copy_runs (P := Tryd.prog) (w := W2) 22 22 3 5 Tryd.underlying22 (by kernel_rfl) (some ⟨w.heap.size + 1, 0, none⟩) A 64 64 s.length c (w.heap.size + 1) 0 (byteVals (zeros 64)) 92 bK (byteVals s)
      (by rw [hls]; exact (Nat.min_eq_left (by omega)).symm) (fun h0 => ⟨rfl, by
        rw [hls] at h0
        obtain ⟨ad, e, _, h⟩ := (txt_reads hA2).2 h0
        exact ⟨ad, e, h⟩⟩) (by rw [hls, byteVals_len]; simp [zeros]; omega) (byteVals_one _)
    rw [splice_zeros, ← hkb] at bK5
    rw [hls] at hrun
    have hrun' : (Builtin.copy_ #[22, 22] 3 #[.slice (some ⟨w.heap.size + 1, 0, none⟩) 64 64, .slice A s.length c]).run Tryd.prog W2 = .ok (.int .i64 s.length) w5 := hrun
    have hne : w.heap.size ≠ w.heap.size + 1 := by omega
    have bR5 := bR.chg g5 (by simp)
    have g05 : Chg none w w5 := Chg.own (b := w.heap.size + 1) g2 g5 (by omega)
    clear hrun hls hkb bK bR g5 hA2 hT2
    go_enter Tryd.func66, Tryd.ntmps66
    go_upto_region 6 with (fail)
    have e1 := HW.out
    rw [e1]
    clear e1
    generalize hpK : w.heap.size + 1 = pK at *
    generalize hpR : w.heap.size = pR at *
    have HPK := Lib.hid hpK
    have HPR := Lib.hid hpR
    clear hpK hpR
    go_wp2_with (first | (refine wpList_load_row rfl 92 _ rfl pK rfl 92 _ (0, 0) _ bK5 Tryd.underlying92 rfl HI.out ?_) | (refine wpList_store_row rfl 92 _ _ rfl pR (byteVals (keyB s)).toArray rfl rfl 92 _ bR5 HI.out HZ.out HO.out ?_))
    refine bodyPost_ret (results_cell_row (p := 2) (ty := 92) Tryd.results66 _ _ pR 92 (byteVals (keyB s)).toArray (0, 0) _ rfl (setRow_heap _ _ _ _ _ _ bR5) Tryd.underlying92 rfl HI.out) rfl ⟨rfl, ?_⟩
    exact Chg.own (b := pR) g05 (chg_setRow _ _ _) (by rw [HPR.out]; exact Nat.le_refl _)
end

section
open Go.RowKit

theorem rangeAt_chg {w w' : World} {b o : Nat} {cs : List Value} {c : Option Nat} (h : w.rangeAt b o cs) (g : Chg c w w') (hc : some b ≠ c) : w'.rangeAt b o cs :=
  fun j v hv => World.grownBy.cell g (h j v hv) hc

/-- Bytes in memory of the call's own. -/
def OwnPost (w : World) (bs : List UInt8) (e : Ending) (w' : World) : Prop :=
  ∃ A c, e = .returned (.slice A bs.length c) ∧ w'.ownsRow w.heap.size 5 1 (.slice A bs.length c) bs.length (byteVals bs) ∧ Chg none w w'

theorem conv_reads (w : World) {A : Option Addr} {n c B : Nat} {bs : List UInt8} (h : Reads w B 1 A n (byteVals bs)) :
    (convert 22 9 (.slice A n c)).run Tryd.prog w = .ok (.string ⟨bs.toArray⟩) w := by
  obtain rfl : n = bs.length := by have := h.1; rw [byteVals_len] at this; omega
  rcases Nat.eq_zero_or_pos bs.length with h0 | h0
  · have : bs = [] := List.eq_nil_of_length_eq_zero h0
    subst this
    rcases A with _ | ad
    · exact run_convert_bytes_nil (P := Tryd.prog) w 22 5 Tryd.underlying22 Tryd.underlying5 _ _ 9 Tryd.underlying9
    · exact run_convert_bytes_back w 22 9 5 ad c [] Tryd.underlying22 Tryd.underlying5 Tryd.underlying9 (fun j hj => by simp at hj)
  · obtain ⟨ad, rfl, hb, hc⟩ := h.2 h0
    refine run_convert_bytes_back w 22 9 5 ad c bs Tryd.underlying22 Tryd.underlying5 Tryd.underlying9 (fun j hj => ?_)
    refine hc j _ ?_
    simp [byteVals, List.getElem?_eq_getElem hj]

theorem make_n (n : Nat) (hn : n ≤ 1000000) (w : World) : (Instr.makeSlice 22 (.int .i64 n) (.int .i64 n)).run Tryd.prog w = .ok (.slice (some ⟨w.heap.size, 0, none⟩) n n) (w.alloc (.cells (byteVals (zeros n)).toArray 5)) := by
  obtain ⟨i0, hi, hz0, hz1, hz2⟩ := info_parts Tryd.info5
  have hr := run_make (P := Tryd.prog) w 22 5 i0 (.int .u8 0) Tryd.underlying22 hi hz0 .i64 .i64 (n : Int) (n : Int) (by omega) (Int.le_refl _) (by rw [hz2]; omega) (by omega)
  have hz : byteVals (zeros n) = List.replicate n (Value.int .u8 0) := by simp [byteVals, zeros]
  rw [hr, Int.toNat_natCast, hz1, Nat.mul_one, made_zero, hz]

theorem prt_of_row {w : World} {b : Nat} {bs : List UInt8} {T : TypeId} {n : Nat} (h : BlkL w b (byteVals bs) T) (hn : bs.length ≤ n) : (⟨some ⟨b, 0, none⟩, bs, n⟩ : Prt).ok w :=
  ⟨fun _ => ⟨b, 0, rfl, h.lt, fun j c hj => by rw [Nat.zero_add, BlkL.cell h]; exact byteVals_get hj⟩, hn⟩
end

section
open Go.ChangeShapes Go.WideShapes Go.ChangeAt Go.RowKit
open Go.WideMaps Go.WideElems

theorem key30 : ArrKey Tryd.prog 30 5 32 := ⟨Tryd.underlying30, by kernel_rfl, by kernel_rfl, by kernel_rfl⟩

section
variable {H : Type} {enc : TypeId × Value → H} {w : World} {base : Nat} {spare : Nat → Bool} {held : Bool}

/-- The cells of a digest. -/
theorem digest_cells (fuel : Nat) (cs : List Value) (x) (h : DataW.trod enc Tryd.prog w base spare held fuel 30 cs = some x) : ∃ a : List UInt8, a.length = 32 ∧ cs = byteVals a := by
  obtain ⟨xs, m, rfl, rfl, hl, hn, hel⟩ := DataW.trod_array Tryd.underlying30 h
  have c30 : Tryd.prog.cellsOf 30 = 32 := by kernel_rfl
  have c5 : Tryd.prog.cellsOf 5 = 1 := by kernel_rfl
  rw [c30] at hl
  rw [c5] at hel
  obtain ⟨F, hF⟩ := Go.Deep.choose_lt (α := UInt8) (n := 32) (p := fun i y => cs[i]? = some (.int .u8 y.toNat)) (fun i hi => by
    have h1 := hel i hi
    rw [List.getElem?_eq_getElem (by omega)] at h1
    obtain ⟨y, _, hy⟩ := open_u8 _ _ _ h1
    refine ⟨y, ?_⟩
    have h2 := congrArg (fun l => l[0]?) hy
    simp only [u8Cells, Nat.mul_one, List.getElem?_take, List.getElem?_drop, List.getElem?_cons_zero] at h2
    simpa using h2)
  refine ⟨(List.range 32).map F, by simp, ?_⟩
  apply List.ext_getElem?
  intro i
  by_cases hi : i < 32
  · rw [hF i hi]
    refine (byteVals_get ?_).symm
    rw [List.getElem?_map, List.getElem?_range hi]; rfl
  · rw [List.getElem?_eq_none (by omega), List.getElem?_eq_none (by rw [byteVals_len]; simp; omega)]

set_option maxRecDepth 100000 in
theorem open_digest {r : Reach} {b0 : Nat} {v : Value} {d : DataW H} {p : List MemPlace} (hv : Value.okWide Tryd.prog w r b0 30 v) (h : DataW.Trod enc Tryd.prog w base spare held 30 v d p) :
    ∃ a : List UInt8, a.length = 32 ∧ v = .agg (byteVals a).toArray := by
  obtain ⟨xs, rfl, hn⟩ := okWide_arr key30 hv
  obtain ⟨fuel, hf⟩ := h
  obtain ⟨a, ha, hc⟩ := digest_cells fuel _ _ hf
  refine ⟨a, ha, ?_⟩
  have hc : xs.toList = byteVals a := hc
  rw [← hc]
end
end

section
open Go.RowKit

/-- Thirty-two bytes. -/
abbrev Dg := { d : List UInt8 // d.length = 32 }
def zeroDg : Dg := ⟨zeros 32, by decide⟩
instance : Inhabited Dg := ⟨zeroDg⟩
/-- A result. -/
structure Att where
  k : Dg
  r : Dg
  n : Int
  t : Dg
def attCells (a : Att) : List Value := byteVals a.k.1 ++ (byteVals a.r.1 ++ (.int .i64 a.n :: byteVals a.t.1))
theorem attCells_len (a : Att) : (attCells a).length = 97 := by
  unfold attCells
  rw [List.length_append, List.length_append, List.length_cons, byteVals_len, byteVals_len, byteVals_len, a.k.2, a.r.2, a.t.2]
theorem attCells_one (a : Att) : (attCells a).toArray.all (·.oneCell') = true := Array.all_eq_true_iff_forall_mem.2 (fun v hv => by
  have hv : v ∈ attCells a := by simpa using hv
  unfold attCells at hv
  rcases List.mem_append.1 hv with h | h
  · exact byteVals_one _ v h
  · rcases List.mem_append.1 h with h | h
    · exact byteVals_one _ v h
    · rcases List.mem_cons.1 h with rfl | h
      · rfl
      · exact byteVals_one _ v h)
theorem att64 (a : Att) : (attCells a)[64]? = some (.int .i64 a.n) := by
  unfold attCells
  rw [List.getElem?_append_right (by rw [byteVals_len, a.k.2]; decide), byteVals_len, a.k.2, List.getElem?_append_right (by rw [byteVals_len, a.r.2]; decide), byteVals_len, a.r.2]
  rfl
theorem att_key {w : World} {b : Nat} {a : Att} (h : w.rangeAt b 0 (attCells a)) : w.rangeAt b 0 (byteVals a.k.1) := fun j v hj => h j v (by
  unfold attCells
  rw [List.getElem?_append_left (List.getElem?_eq_some_iff.1 hj).1]; exact hj)
theorem att_root {w : World} {b : Nat} {a : Att} (h : w.rangeAt b 0 (attCells a)) : w.rangeAt b 32 (byteVals a.r.1) := fun j v hj => by
  have := h (32 + j) v (by
    unfold attCells
    rw [List.getElem?_append_right (by rw [byteVals_len, a.k.2]; omega), byteVals_len, a.k.2, Nat.add_sub_cancel_left, List.getElem?_append_left (List.getElem?_eq_some_iff.1 hj).1]; exact hj)
  rwa [Nat.zero_add] at this
theorem att_tag {w : World} {b : Nat} {a : Att} (h : w.rangeAt b 0 (attCells a)) : w.rangeAt b 65 (byteVals a.t.1) := fun j v hj => by
  have := h (65 + j) v (by
    unfold attCells
    rw [List.getElem?_append_right (by rw [byteVals_len, a.k.2]; omega), byteVals_len, a.k.2, List.getElem?_append_right (by rw [byteVals_len, a.r.2]; omega), byteVals_len, a.r.2, show 65 + j - 32 - 32 = j + 1 by omega, List.getElem?_cons_succ]; exact hj)
  rwa [Nat.zero_add] at this
theorem att_num {w : World} {b : Nat} {a : Att} (h : w.rangeAt b 0 (attCells a)) : w.cell? ⟨b, 64, none⟩ = some (.int .i64 a.n) := by
  have := h 64 _ (att64 a)
  rwa [Nat.zero_add] at this
theorem range_prt {w : World} {b o c : Nat} {x : List UInt8} (h : w.rangeAt b o (byteVals x)) (hb : b < w.heap.size) (hc : x.length ≤ c) : (⟨some ⟨b, o, none⟩, x, c⟩ : Prt).ok w :=
  ⟨fun _ => ⟨b, o, rfl, hb, fun _ _ hj => h _ _ (byteVals_get hj)⟩, hc⟩
theorem own_oneB (w : World) (B : Nat) (hB : B ≤ w.heap.size) (x : UInt8) : (w.alloc (.cells #[.int .u8 x.toNat] 5 (0, 0))).ownsRow B 5 1 (.slice (some ⟨w.heap.size, 0, none⟩) 1 1) 1 (byteVals [x]) :=
  ⟨rfl, .inr ⟨w.heap.size, 1, #[.int .u8 x.toNat], rfl, hB, heap_alloc_new w _, Nat.le_refl _, by unfold maxLen; decide, rfl, rfl⟩⟩
theorem info46 (a : Att) : (Tryd.prog.info? 46).map (·.size) = some (attCells a).length := by
  rw [attCells_len]
  have : (Tryd.prog.info? 46).map (·.size) = some 97 := by kernel_rfl
  exact this
theorem info46a (a : Att) : (Tryd.prog.info? 46).map (·.size) = some (attCells a).toArray.size := by
  rw [List.size_toArray]; exact info46 a

theorem own_base {w : World} {B B' : Nat} {e : TypeId} {size : Nat} {v : Value} {n : Nat} {xs : List Value} (h : w.ownsRow B e size v n xs) (hb : B' ≤ B) : w.ownsRow B' e size v n xs := by
  refine ⟨h.1, ?_⟩
  rcases h.2 with h2 | ⟨g, cap, cur, h1, h2, h3⟩
  · exact .inl h2
  · exact .inr ⟨g, cap, cur, h1, Nat.le_trans hb h2, h3⟩

/-- May it be? -/
def mayB (n : Int) : Bool := decide (1 ≤ n) && decide (n ≤ 5000)
theorem may_any (a : Att) (w : World) : Calls Tryd.prog 70 #[.agg (attCells a).toArray] w fun e w' => e = .returned (.bool (mayB a.n)) ∧ Chg none w w' := by
  have gA : Chg none w (w.alloc (.cells (attCells a).toArray 46)) := (Chg.refl _ _).alloc _
  have cK := att_num (Blk.range (show BlkL (w.alloc (.cells (attCells a).toArray 46)) w.heap.size (attCells a) 46 from Blk.new _ _ _))
  by_cases h1 : 1 ≤ a.n
  · by_cases h2 : a.n ≤ 5000
    · have hm : mayB a.n = true := by unfold mayB; simp [h1, h2]
      rw [hm]
      generalize (attCells a).toArray = CA at *
      generalize a.n = n at *
      have d1 : decide (n ≥ 1) = true := by simpa using h1
      have d2 : decide (n ≤ 5000) = true := by simpa using h2
      clear hm
      go_enter Tryd.func70, Tryd.ntmps70
      go_wp2_with fail
      go_ret
      exact ⟨rfl, gA⟩
    · have hm : mayB a.n = false := by unfold mayB; simp [h1, h2]
      rw [hm]
      generalize (attCells a).toArray = CA at *
      generalize a.n = n at *
      have d1 : decide (n ≥ 1) = true := by simpa using h1
      have d2 : decide (n ≤ 5000) = false := by simpa using h2
      clear hm
      go_enter Tryd.func70, Tryd.ntmps70
      go_wp2_with fail
      go_ret
      exact ⟨rfl, gA⟩
  · have hm : mayB a.n = false := by unfold mayB; simp [h1]
    rw [hm]
    generalize (attCells a).toArray = CA at *
    generalize a.n = n at *
    have d1 : decide (n ≥ 1) = false := by simpa using h1
    clear hm
    go_enter Tryd.func70, Tryd.ntmps70
    go_wp2_with fail
    go_ret
    exact ⟨rfl, gA⟩

theorem cut30o (w : World) (b o : Nat) : (Instr.sliceAt 30 (.pointer (some ⟨b, o, none⟩)) none none none).run Tryd.prog w = .ok (.slice (some ⟨b, o, none⟩) 32 32) w := by
  have u30 := Tryd.underlying30
  go_simp
theorem make_104 (w : World) : ∃ cur : Array Value, cur.size = 104 ∧ (Instr.makeSlice 22 (.int .i64 0) (.int .i64 104)).run Tryd.prog w = .ok (.slice (some ⟨w.heap.size, 0, none⟩) 0 104) (w.alloc (.cells cur 5)) := by
  obtain ⟨i0, hi, hz0, hz1, hz2⟩ := info_parts Tryd.info5
  have hr := run_make (P := Tryd.prog) w 22 5 i0 (.int .u8 0) Tryd.underlying22 hi hz0 .i64 .i64 0 104 (by decide) (by decide) (by rw [hz2]; decide) (by decide)
  refine ⟨_, ?_, hr⟩
  rw [size_madeCells, hz1]; rfl

def attBytes (a : Att) (m : Nat) : List UInt8 := a.k.1 ++ (a.r.1 ++ (be 8 m ++ a.t.1))
theorem attBytes_len (a : Att) (m : Nat) : (attBytes a m).length = 104 := by
  unfold attBytes; rw [List.length_append, List.length_append, List.length_append, be_len, a.k.2, a.r.2, a.t.2]

set_option maxRecDepth 100000 in
set_option maxHeartbeats 8000000 in
theorem form_any (a : Att) (m : Nat) (hn : a.n = m) (hm : m < 9223372036854775808) (w : World) : Calls Tryd.prog 72 #[.agg (attCells a).toArray] w fun e w' =>
    ∃ A c, e = .returned (.slice A 104 c) ∧ w'.ownsRow w.heap.size 5 1 (.slice A 104 c) 104 (byteVals (attBytes a m)) ∧ Chg none w w' := by
  obtain ⟨i0, hi, hz0, hz1, hz2⟩ := info_parts Tryd.info5
  obtain ⟨cur, hcs, hmk⟩ := make_104 (w.alloc (.cells (attCells a).toArray 46))
  obtain ⟨W1, hW1⟩ : ∃ W1, W1 = w.alloc (.cells (attCells a).toArray 46) := ⟨_, rfl⟩
  have g1 : Chg none w W1 := by rw [hW1]; exact (Chg.refl _ _).alloc _
  have r1 : W1.rangeAt w.heap.size 0 (attCells a) := by rw [hW1]; exact Blk.range (show BlkL _ w.heap.size (attCells a) 46 from Blk.new _ _ _)
  have l1 : w.heap.size < W1.heap.size := by rw [hW1]; simp
  rw [← hW1] at hmk
  have HW1 : Hid (w.alloc (.cells (attCells a).toArray 46) = W1) := hW1.symm
  obtain ⟨CA, hCA⟩ : ∃ CA, CA = (attCells a).toArray := ⟨_, rfl⟩
  rw [← hCA] at HW1 ⊢
  have gM : Chg none W1 (W1.alloc (.cells cur 5)) := (Chg.refl _ _).alloc _
  have HRNG : Hid (∀ v, Chg none W1 v → v.rangeAt w.heap.size 0 (attCells a) ∧ w.heap.size < v.heap.size) := fun v g => ⟨rangeAt_chg r1 g (by simp), Nat.lt_of_lt_of_le l1 g.size⟩
  have HK : Hid (∀ v, Chg none W1 v → Reads v v.heap.size 1 (some ⟨w.heap.size, 0, none⟩) 32 (byteVals a.k.1)) := fun v g => by
    have := txt_reads (range_prt (c := 32) (att_key (HRNG.out v g).1) (HRNG.out v g).2 (by rw [a.k.2]; decide)).1
    rwa [a.k.2] at this
  have HR : Hid (∀ v, Chg none W1 v → Reads v v.heap.size 1 (some ⟨w.heap.size, 32, none⟩) 32 (byteVals a.r.1)) := fun v g => by
    have := txt_reads (range_prt (c := 32) (att_root (HRNG.out v g).1) (HRNG.out v g).2 (by rw [a.r.2]; decide)).1
    rwa [a.r.2] at this
  have HTg : Hid (∀ v, Chg none W1 v → Reads v v.heap.size 1 (some ⟨w.heap.size, 65, none⟩) 32 (byteVals a.t.1)) := fun v g => by
    have := txt_reads (range_prt (c := 32) (att_tag (HRNG.out v g).1) (HRNG.out v g).2 (by rw [a.t.2]; decide)).1
    rwa [a.t.2] at this
  have HN : Hid (∀ v, Chg none W1 v → v.cell? ⟨w.heap.size, 64, none⟩ = some (.int .i64 m)) := fun v g => by rw [← hn]; exact att_num (HRNG.out v g).1
  have HOk := Lib.hid (byteVals_one a.k.1)
  have HOr := Lib.hid (byteVals_one a.r.1)
  have HOt := Lib.hid (byteVals_one a.t.1)
  have HB8 := Lib.hid (be_len 8 m)
  have hc30 := cut30o
  obtain ⟨H, hH⟩ : ∃ H, H = W1.heap.size := ⟨_, rfl⟩
  have HH := Lib.hid hH
  have HLE : Hid (w.heap.size ≤ H) := by rw [hH]; exact g1.size
  have HAB : Hid (byteVals a.k.1 ++ (byteVals a.r.1 ++ (byteVals (be 8 m) ++ byteVals a.t.1)) = byteVals (attBytes a m)) := by
    show _ = _
    unfold attBytes
    rw [byteVals_append, byteVals_append, byteVals_append]
  have HOWN0 := Lib.hid (World.ownsRow_made (base := H) (e := 5) (size := 1) W1 cur 104 (by rw [hH]; exact Nat.le_refl _) (by unfold maxLen; decide) (by rw [hcs]))
  clear hW1 hCA r1 l1 hn hcs hH
  go_enter Tryd.func72, Tryd.ntmps72
  go_upto_region 1 with fail
  rw [HW1.out]
  clear HW1
  generalize hpB : w.heap.size = pB at *
  have HPB := Lib.hid hpB
  clear hpB
  have HSM : Hid (H ≤ (W1.alloc (.cells cur 5)).heap.size) := by rw [HH.out]; exact gM.size
  go_wp2_with (at_builtin; refine wpList_append_any _ rfl (.tmp 6) (.tmp 8) 22 rfl H 5 i0 (.int .u8 0) 1 1 Tryd.underlying22 hi hz0 hz1 hz2 rfl (by decide) _ 0 [] rfl HOWN0.out _ (some ⟨pB, 0, none⟩) 32 32 (byteVals a.k.1) rfl (HK.out _ gM) HOk.out (by unfold maxLen; decide) (by decide) HSM.out ?_)
  intro v1 w1 hown1 hgr1 _
  have G1 : Chg none W1 w1 := own_chg gM HOWN0.out (by rw [HH.out]; exact Nat.le_refl _) hgr1
  have e0 : ([] : List Value) ++ byteVals a.k.1 = byteVals a.k.1 := rfl
  try simp only [Nat.zero_add, List.nil_append] at hown1
  obtain ⟨A1, c1, rfl⟩ := own_slice hown1
  have HOWN1 := Lib.hid hown1
  have HS1 : Hid (H ≤ w1.heap.size) := by rw [HH.out]; exact G1.size
  clear hown1 hgr1 HOWN0 gM HSM hmk e0
  go_wp2_with (at_builtin; refine wpList_append_any _ rfl (.tmp 10) (.tmp 12) 22 rfl H 5 i0 (.int .u8 0) 1 1 Tryd.underlying22 hi hz0 hz1 hz2 rfl (by decide) _ 32 (byteVals a.k.1) rfl HOWN1.out _ (some ⟨pB, 32, none⟩) 32 32 (byteVals a.r.1) rfl (HR.out _ G1) HOr.out (by unfold maxLen; decide) (by decide) HS1.out ?_)
  intro v2 w2 hown2 hgr2 _
  have G2 : Chg none W1 w2 := own_chg G1 HOWN1.out (by rw [HH.out]; exact Nat.le_refl _) hgr2
  try simp only [Nat.reduceAdd] at hown2
  obtain ⟨A2, c2, rfl⟩ := own_slice hown2
  have HOWN2 := Lib.hid hown2
  clear hown2 hgr2 HOWN1 HS1 G1
  go_wp2_with fail
  go_loopw [3, 4] (fun s3 s4 wr => ∃ (k j : Nat) (A : Option Addr) (c : Nat), k ≤ 8 ∧ Hid (j = 64 + k) ∧ s4 = .int .i64 (56 - 8 * (k : Int)) ∧ s3 = .slice A j c ∧ wr.ownsRow H 5 1 (.slice A j c) j (byteVals a.k.1 ++ (byteVals a.r.1 ++ byteVals ((be 8 m).take k))) ∧ Chg none W1 wr) (fun _ s4 _ => (intOf s4 + 8).toNat)
  case atStart => exact ⟨0, 64, A2, c2, by omega, rfl, rfl, rfl, by rw [List.take_zero]; show World.ownsRow _ _ _ _ _ _ (byteVals a.k.1 ++ (byteVals a.r.1 ++ [])); rw [List.append_nil]; exact HOWN2.out, G2⟩
  case round =>
    obtain ⟨k, j, A, c, hk, HJ, rfl, rfl, hown, gk⟩ := hrel
    have hbase : Hid (H ≤ wr.heap.size) := by rw [HH.out]; exact gk.size
    have hj72 : j ≤ 72 := by have := HJ.out; omega
    clear G2 HOWN2
    by_cases hlt : k < 8
    · obtain ⟨x, hx⟩ : ∃ x, x = UInt8.ofNat (m / 2 ^ (8 * (8 - 1 - k))) := ⟨_, rfl⟩
      have hv : (x.toNat : Int) = (m : Int) / 2 ^ (8 * (8 - 1 - k)) % 256 := by rw [hx, byte_shr]
      have hts := be_take_succ 8 m k hlt
      rw [← hx] at hts
      have hd : decide ((56 - 8 * (k : Int)) ≥ 0) = true := by simp; omega
      have hr3 := reads_one wr x
      rw [show 8 * (8 - 1 - k) = 56 - 8 * k by omega] at hv
      rw [hv] at hr3
      have HR3 := Lib.hid hr3
      have HO3 := Lib.hid (byteVals_one [x])
      have HOWN := Lib.hid hown
      have HSU : Hid (byteVals a.k.1 ++ (byteVals a.r.1 ++ (byteVals ((be 8 m).take k) ++ byteVals [x])) = byteVals a.k.1 ++ (byteVals a.r.1 ++ byteVals ((be 8 m).take (k + 1)))) := by
        show _ = _; rw [byteVals_append ((be 8 m).take k), hts]
      have hcm := HN.out wr gk
      have HSA : Hid (H ≤ (wr.alloc (.cells #[.int .u8 ((m : Int) / 2 ^ (56 - 8 * k) % 256)] 5)).heap.size) := by rw [HH.out]; exact (gk.alloc _).size
      have hsh : (56 - 8 * (k : Int)).toNat = 56 - 8 * k := by omega
      clear hown hx hts hv hr3
      go_wp2_with (at_builtin; refine wpList_append_any _ rfl (.tmp 18) (.tmp 25) 22 rfl H 5 i0 (.int .u8 0) 1 1 Tryd.underlying22 hi hz0 hz1 hz2 rfl (by decide) _ j _ rfl (HOWN.out.alloc _) _ (some ⟨wr.heap.size, 0, none⟩) 1 1 (byteVals [x]) rfl HR3.out HO3.out (by unfold maxLen; omega) (by omega) HSA.out ?_)
      intro v6 w6 hown6 hgr6 _
      rw [HSU.out] at hown6
      have g6 : Chg none W1 w6 := own_chg (gk.alloc _) (HOWN.out.alloc _) (by rw [HH.out]; exact Nat.le_refl _) hgr6
      obtain ⟨A6, c6, rfl⟩ := own_slice hown6
      have HOWN6 := Lib.hid hown6
      clear hown6 hgr6 HOWN HR3 HSA
      go_wp2_with fail
      go_roundw
      case rel => exact ⟨k + 1, j + 1, A6, c6, by omega, by show _ = _; have := HJ.out; omega, by congr 1; omega, rfl, HOWN6.out, g6⟩
      case measure => simp only [intOf]; omega
    · have hk8 : k = 8 := by omega
      have hd : decide ((56 - 8 * (k : Int)) ≥ 0) = false := by simp; omega
      have hfin : (be 8 m).take k = be 8 m := List.take_of_length_le (by rw [HB8.out]; omega)
      have hj2 : j = 72 := by have := HJ.out; omega
      rw [hfin] at hown
      subst hj2
      have HFN := Lib.hid hown
      have HRT := Lib.hid (HTg.out wr gk)
      clear hown hfin hk8 HJ
      go_wp2_with (at_builtin; refine wpList_append_any _ rfl (.tmp 27) (.tmp 29) 22 rfl H 5 i0 (.int .u8 0) 1 1 Tryd.underlying22 hi hz0 hz1 hz2 rfl (by decide) _ 72 _ rfl HFN.out _ (some ⟨pB, 65, none⟩) 32 32 (byteVals a.t.1) rfl HRT.out HOt.out (by unfold maxLen; decide) (by decide) hbase.out ?_)
      intro v7 w7 hown7 hgr7 _
      rw [HAB.out] at hown7
      have g7 : Chg none W1 w7 := own_chg gk HFN.out (by rw [HH.out]; exact Nat.le_refl _) hgr7
      try simp only [Nat.reduceAdd] at hown7
      obtain ⟨A7, c7, rfl⟩ := own_slice hown7
      have HOWN7 := Lib.hid hown7
      clear hown7 hgr7 HFN HRT
      go_wp2_with fail
      go_ret
      exact ⟨A7, c7, rfl, own_base HOWN7.out (by rw [HPB.out]; exact HLE.out), g1.trans g7⟩
end

section
open Go.RowKit

theorem mayr_any (a : Att) (w : World) : Calls Tryd.prog 34 #[.agg (attCells a).toArray] w fun e w' => e = .returned (.bool (mayB a.n)) ∧ Chg none w w' := by
  have gA : Chg none w (w.alloc (.cells (attCells a).toArray 46)) := (Chg.refl _ _).alloc _
  have cK := att_num (Blk.range (show BlkL (w.alloc (.cells (attCells a).toArray 46)) w.heap.size (attCells a) 46 from Blk.new _ _ _))
  by_cases h1 : 1 ≤ a.n
  · by_cases h2 : a.n ≤ 5000
    · have hm : mayB a.n = true := by unfold mayB; simp [h1, h2]
      rw [hm]
      generalize (attCells a).toArray = CA at *
      generalize a.n = n at *
      have d1 : decide (n ≥ 1) = true := by simpa using h1
      have d2 : decide (n ≤ 5000) = true := by simpa using h2
      clear hm
      go_enter Tryd.func34, Tryd.ntmps34
      go_wp2_with fail
      go_ret
      exact ⟨rfl, gA⟩
    · have hm : mayB a.n = false := by unfold mayB; simp [h1, h2]
      rw [hm]
      generalize (attCells a).toArray = CA at *
      generalize a.n = n at *
      have d1 : decide (n ≥ 1) = true := by simpa using h1
      have d2 : decide (n ≤ 5000) = false := by simpa using h2
      clear hm
      go_enter Tryd.func34, Tryd.ntmps34
      go_wp2_with fail
      go_ret
      exact ⟨rfl, gA⟩
  · have hm : mayB a.n = false := by unfold mayB; simp [h1]
    rw [hm]
    generalize (attCells a).toArray = CA at *
    generalize a.n = n at *
    have d1 : decide (n ≥ 1) = false := by simpa using h1
    clear hm
    go_enter Tryd.func34, Tryd.ntmps34
    go_wp2_with fail
    go_ret
    exact ⟨rfl, gA⟩

/-- Eight bytes of which the last j are there. -/
def eightTo (n j : Nat) : List UInt8 := zeros (8 - j) ++ (be 8 n).drop (8 - j)
theorem eightTo_len (n j : Nat) (h : j ≤ 8) : (eightTo n j).length = 8 := by
  unfold eightTo zeros; rw [List.length_append, List.length_replicate, List.length_drop, be_len]; omega
theorem eightTo_set (n j : Nat) (h : j < 8) : (eightTo n j).set (7 - j) (UInt8.ofNat (n / 256 ^ j)) = eightTo n (j + 1) := by
  unfold eightTo zeros
  have e1 : 8 - j = (7 - j) + 1 := by omega
  have e2 : 8 - (j + 1) = 7 - j := by omega
  have hg := be_get 8 n (7 - j) (by omega)
  have hd : (be 8 n).drop (7 - j) = UInt8.ofNat (n / 256 ^ j) :: (be 8 n).drop (8 - j) := by
    rw [List.drop_eq_getElem_cons (by rw [be_len]; omega), e1]
    congr 1
    rw [List.getElem?_eq_getElem (by rw [be_len]; omega)] at hg
    injection hg with hg
    rw [hg, show 8 * (8 - 1 - (7 - j)) = 8 * j by omega, Nat.pow_mul]
  rw [e2, hd, e1, List.replicate_succ', List.append_assoc, List.set_append_right _ _ (by rw [List.length_replicate]; exact Nat.le_refl _), List.length_replicate, Nat.sub_self]
  rfl

set_option maxRecDepth 100000 in
set_option maxHeartbeats 4000000 in
theorem eightq_any (n : Nat) (hn : n < 9223372036854775808) (w : World) : Calls Tryd.prog 74 #[.int .i64 n] w fun e w' =>
    ∃ b, e = .returned (.slice (some ⟨b, 0, none⟩) 8 8) ∧ BlkL w' b (byteVals (be 8 n)) 5 ∧ w.heap.size ≤ b ∧ Chg none w w' := by
  have hmk : ∀ W : World, (Instr.makeSlice 22 (.int .i64 8) (.int .i64 8)).run Tryd.prog W = .ok (.slice (some ⟨W.heap.size, 0, none⟩) 8 8) (W.alloc (.cells (byteVals (zeros 8)).toArray 5)) := fun W => make_n 8 (by decide) W
  obtain ⟨W1, hW1⟩ : ∃ W1, W1 = w.alloc (.cells (byteVals (zeros 8)).toArray 5) := ⟨_, rfl⟩
  have HW1 : Hid (w.alloc (.cells (byteVals (zeros 8)).toArray 5) = W1) := hW1.symm
  have g1 : Chg none w W1 := by rw [hW1]; exact (Chg.refl _ _).alloc _
  have b1 : BlkL W1 w.heap.size (byteVals (eightTo n 0)) 5 := by
    have : eightTo n 0 = zeros 8 := by unfold eightTo; rw [List.drop_eq_nil_of_le (by rw [be_len]; decide), List.append_nil]
    rw [this, hW1]; exact Blk.new _ _ _
  clear hW1
  go_enter Tryd.func74, Tryd.ntmps74
  go_wp2_with fail
  rw [HW1.out]
  clear HW1 hmk
  generalize hpB : w.heap.size = pB at *
  have HPB := Lib.hid hpB
  clear hpB
  go_loopw [3, 5] (fun s3 s5 wr => ∃ j : Nat, j ≤ 8 ∧ s5 = .int .i64 (7 - (j : Int)) ∧ s3 = .int .u64 ((n / 256 ^ j : Nat) : Int) ∧ BlkL wr pB (byteVals (eightTo n j)) 5 ∧ Chg none w wr) (fun _ s5 _ => (intOf s5 + 1).toNat)
  case atStart => exact ⟨0, by omega, rfl, by rw [Nat.pow_zero, Nat.div_one], b1, g1⟩
  case round =>
    obtain ⟨j, hj, rfl, rfl, bk, gk⟩ := hrel
    clear b1 g1
    by_cases hlt : j < 8
    · have hd : decide ((7 - (j : Int)) ≥ 0) = true := by simp; omega
      obtain ⟨q, hq⟩ : ∃ q, q = n / 256 ^ j := ⟨_, rfl⟩
      have hq9 : q ≤ n := by rw [hq]; exact Nat.div_le_self _ _
      have hq2 : n / 256 ^ (j + 1) = q / 256 := by rw [hq, Nat.pow_succ, Nat.div_div_eq_div_mul]
      have hx : ((UInt8.ofNat q).toNat : Int) = (q : Int) % 256 := by simp [UInt8.toNat_ofNat']
      have hset := BlkL.set bk (7 - j) (.int .u8 (UInt8.ofNat q).toNat)
      rw [byteVals_set, hq, eightTo_set n j hlt, ← hq, hx] at hset
      have HSET := Lib.hid hset
      have HQ2 := Lib.hid hq2
      have hi7 : (7 - (j : Int)).toNat = 7 - j := by omega
      have cK := (BlkL.cell bk (7 - j)).trans (byte_at (a := eightTo n j) (by rw [eightTo_len _ _ hj]; omega))
      have hfz := Blk.frozen bk (7 - j)
      generalize (eightTo n j).getD (7 - j) 0 = y at *
      have i1 : (0 : Int) ≤ 7 - (j : Int) := by omega
      have i2 : 7 - (j : Int) < 8 := by omega
      rw [← hq]
      clear hset hx hq hq2
      go_wp2_with fail
      go_roundw
      case rel => exact ⟨j + 1, by omega, by congr 1; omega, by rw [HQ2.out]; rfl, HSET.out, gk.setNew _ (by rw [HPB.out]; exact Nat.le_refl _) _⟩
      case measure => simp only [intOf]; omega
    · have hj8 : j = 8 := by omega
      have hd : decide ((7 - (j : Int)) ≥ 0) = false := by simp; omega
      have hfin : eightTo n j = be 8 n := by rw [hj8]; unfold eightTo zeros; simp
      rw [hfin] at bk
      clear hfin hj8
      go_wp2_with fail
      go_ret
      exact ⟨pB, rfl, bk, by rw [HPB.out]; exact Nat.le_refl _, gk⟩
end

section
open Go.RowKit

section
open Go.ChangeShapes Go.WideShapes Go.ChangeAt
open Go.WideMaps Go.WideElems
variable {H : Type} {enc : TypeId × Value → H} {w : World} {base : Nat} {spare : Nat → Bool} {held : Bool}
set_option maxRecDepth 100000 in
theorem att_cells (fuel : Nat) (cs : List Value) (x) (h : DataW.trod enc Tryd.prog w base spare held fuel 46 cs = some x) : ∃ a : Att, (-9223372036854775808 ≤ a.n ∧ a.n ≤ 9223372036854775807) ∧ cs = attCells a := by
  obtain ⟨xs, m, _, _, hlen, hxl, hf⟩ := DataW.trod_struct Tryd.underlying46 h
  have h46 : Tryd.prog.cellsOf 46 = 97 := by kernel_rfl
  have h30 : Tryd.prog.cellsOf 30 = 32 := by kernel_rfl
  have h3 : Tryd.prog.cellsOf 3 = 1 := by kernel_rfl
  rw [h46] at hlen
  have hxl : xs.length = 4 := hxl
  have f0 := hf 0 _ rfl
  have f1 := hf 1 _ rfl
  have f2 := hf 2 _ rfl
  have f3 := hf 3 _ rfl
  rw [List.getElem?_eq_getElem (by omega)] at f0 f1 f2 f3
  obtain ⟨k, hk, ek⟩ := digest_cells _ _ _ f0
  obtain ⟨r, hr, er⟩ := digest_cells _ _ _ f1
  obtain ⟨n, en, _, hw⟩ := DataW.trod_int Tryd.underlying3 f2
  obtain ⟨t, ht, et⟩ := digest_cells _ _ _ f3
  have hn := wf_i64 hw
  refine ⟨⟨⟨k, hk⟩, ⟨r, hr⟩, n, ⟨t, ht⟩⟩, hn, ?_⟩
  change (cs.drop 0).take (Tryd.prog.cellsOf 30) = _ at ek
  change (cs.drop 32).take (Tryd.prog.cellsOf 30) = _ at er
  change (cs.drop 64).take (Tryd.prog.cellsOf 3) = _ at en
  change (cs.drop 65).take (Tryd.prog.cellsOf 30) = _ at et
  rw [h30, List.drop_zero] at ek
  rw [h30] at er et
  rw [h3] at en
  have e0 : cs = cs.take 32 ++ ((cs.drop 32).take 32 ++ ((cs.drop 64).take 1 ++ (cs.drop 65).take 32)) := by
    have a3 : (cs.drop 65).take 32 = cs.drop 65 := List.take_of_length_le (by rw [List.length_drop]; omega)
    have a2 : (cs.drop 64).take 1 ++ cs.drop 65 = cs.drop 64 := by
      have := List.take_append_drop 1 (cs.drop 64)
      rwa [List.drop_drop] at this
    have a1 : (cs.drop 32).take 32 ++ cs.drop 64 = cs.drop 32 := by
      have := List.take_append_drop 32 (cs.drop 32)
      rwa [List.drop_drop] at this
    rw [a3, a2, a1, List.take_append_drop]
  rw [e0]
  unfold attCells
  have ek' : cs.take 32 = byteVals k := ek
  have er' : (cs.drop 32).take 32 = byteVals r := er
  have en' : (cs.drop 64).take 1 = [.int .i64 n] := en
  have et' : (cs.drop 65).take 32 = byteVals t := et
  rw [ek', er', en', et']
  rfl
set_option maxRecDepth 100000 in
theorem open_att {r : Reach} {b0 : Nat} {v : Value} {d : DataW H} {p : List MemPlace} (hv : Value.okWide Tryd.prog w r b0 46 v) (h : DataW.Trod enc Tryd.prog w base spare held 46 v d p) :
    ∃ a : Att, (-9223372036854775808 ≤ a.n ∧ a.n ≤ 9223372036854775807) ∧ v = .agg (attCells a).toArray := by
  obtain ⟨cs, rfl, hsz⟩ := okWide_struct Tryd.underlying46 hv
  obtain ⟨fuel, hf⟩ := h
  obtain ⟨a, ha, hc⟩ := att_cells fuel _ _ hf
  refine ⟨a, ha, ?_⟩
  have hc : cs.toList = attCells a := hc
  rw [← hc]
end
end

section
open Go.RowKit

set_option maxRecDepth 100000 in
set_option maxHeartbeats 8000000 in
theorem bytes_no (a : Att) (w : World) (hm : mayB a.n = false) : Calls Tryd.prog 35 #[.agg (attCells a).toArray] w fun e w' => e = .returned (.tuple #[.slice none 0 0, .int .i64 2]) ∧ Chg none w w' := by
  have gA : Chg none w (w.alloc (.cells (attCells a).toArray 46)) := (Chg.refl _ _).alloc _
  have HRA := Lib.hid (Blk.range (show BlkL (w.alloc (.cells (attCells a).toArray 46)) w.heap.size (attCells a) 46 from Blk.new _ _ _))
  have HI46 := Lib.hid (info46 a)
  have HMY := Lib.hid (fun v => may_any a v)
  rw [hm] at HMY
  obtain ⟨CA, hCA⟩ : ∃ CA, CA = (attCells a).toArray := ⟨_, rfl⟩
  have HCA := Lib.hid hCA
  rw [← hCA] at gA HRA HMY ⊢
  clear hCA hm
  go_enter Tryd.func35, Tryd.ntmps35
  go_upto_region 1 with fail
  generalize w.heap.size = pA at *
  go_wp2_with (refine wpList_load_mid rfl 46 _ rfl pA 0 rfl (attCells a) _ HRA.out Tryd.underlying46 rfl HI46.out ?_; rw [← HCA.out])
  refine (HMY.out _).mono ?_
  rintro e w1 ⟨rfl, g1⟩
  go_wp2_with fail
  go_ret2
  exact ⟨rfl, gA.trans g1⟩
set_option maxRecDepth 100000 in
set_option maxHeartbeats 8000000 in
theorem bytes_yes (a : Att) (m : Nat) (w : World) (hn : a.n = m) (hm : mayB a.n = true) : Calls Tryd.prog 35 #[.agg (attCells a).toArray] w fun e w' =>
    ∃ A c, e = .returned (.tuple #[.slice A 104 c, .int .i64 0]) ∧ w'.ownsRow w.heap.size 5 1 (.slice A 104 c) 104 (byteVals (attBytes a m)) ∧ Chg none w w' := by
  have h2 : 1 ≤ a.n ∧ a.n ≤ 5000 := by unfold mayB at hm; simpa using hm
  have gA : Chg none w (w.alloc (.cells (attCells a).toArray 46)) := (Chg.refl _ _).alloc _
  have bA : BlkL (w.alloc (.cells (attCells a).toArray 46)) w.heap.size (attCells a) 46 := Blk.new _ _ _
  have HRA : Hid (∀ v, Chg none (w.alloc (.cells (attCells a).toArray 46)) v → v.rangeAt w.heap.size 0 (attCells a)) := fun v g => Blk.range (Blk.chg bA g (by simp))
  have HI46 := Lib.hid (info46 a)
  have HMY := Lib.hid (fun v => may_any a v)
  have HF := Lib.hid (fun v => form_any a m hn (by omega) v)
  rw [hm] at HMY
  obtain ⟨CA, hCA⟩ : ∃ CA, CA = (attCells a).toArray := ⟨_, rfl⟩
  have HCA := Lib.hid hCA
  have HLE := Lib.hid gA.size
  rw [← hCA] at gA HRA HMY HF HLE ⊢
  have HR0 := Lib.hid (HRA.out _ (Chg.refl _ _))
  clear hCA hm bA hn h2
  generalize byteVals (attBytes a m) = AB at *
  go_enter Tryd.func35, Tryd.ntmps35
  go_upto_region 1 with fail
  generalize hpA : w.heap.size = pA at *
  have HPA := Lib.hid hpA
  clear hpA
  go_wp2_with (refine wpList_load_mid rfl 46 _ rfl pA 0 rfl (attCells a) _ HR0.out Tryd.underlying46 rfl HI46.out ?_; rw [← HCA.out])
  refine (HMY.out _).mono ?_
  rintro e w1 ⟨rfl, g1⟩
  have HR1 := Lib.hid (HRA.out w1 g1)
  have HS1 : Hid (pA ≤ w1.heap.size) := Nat.le_trans HLE.out g1.size
  clear HR0 HRA
  go_wp2_with (refine wpList_load_mid rfl 46 _ rfl pA 0 rfl (attCells a) _ HR1.out Tryd.underlying46 rfl HI46.out ?_; rw [← HCA.out])
  refine (HF.out w1).mono ?_
  rintro e w2 ⟨A, c, rfl, hown, g2⟩
  have HOWN := Lib.hid (own_base hown HS1.out)
  clear hown
  go_wp2_with fail
  go_ret2
  exact ⟨A, c, rfl, by rw [HPA.out]; exact HOWN.out, (gA.trans g1).trans g2⟩
end

section
open Go.RowKit

def sameAtt (a b : Att) : Bool := a.k.1 == b.k.1 && (a.r.1 == b.r.1 && (a.n == b.n && a.t.1 == b.t.1))
theorem sameAtt_iff (a b : Att) : sameAtt a b = true ↔ a = b := by
  obtain ⟨k, r, n, t⟩ := a
  obtain ⟨k', r', n', t'⟩ := b
  unfold sameAtt
  simp only [Bool.and_eq_true, beq_iff_eq, Att.mk.injEq, Subtype.ext_iff]
theorem Tryd.und46 : Tryd.prog.underlying 46 = some (.struct (Tryd.prog.fieldsOf 46)) := by kernel_rfl
theorem Tryd.held46 : Tryd.prog.stoodInHeld 46 = false := by kernel_rfl
theorem guard46 : Tryd.prog.eqGuardType Tryd.prog.depth 46 = false := by kernel_rfl

theorem extract_list {l x : List Value} {o n : Nat} (h : (l.drop o).take n = x) : l.toArray.extract o (o + n) = x.toArray := by
  rw [← h]; simp
theorem att_take_k (a : Att) : ((attCells a).drop 0).take 32 = byteVals a.k.1 := by
  unfold attCells
  rw [List.drop_zero]
  exact List.take_left' (by rw [byteVals_len, a.k.2])
theorem att_take_r (a : Att) : ((attCells a).drop 32).take 32 = byteVals a.r.1 := by
  unfold attCells
  rw [List.drop_left' (by rw [byteVals_len, a.k.2])]
  exact List.take_left' (by rw [byteVals_len, a.r.2])
theorem att_take_t (a : Att) : ((attCells a).drop 65).take 32 = byteVals a.t.1 := by
  unfold attCells
  have h : byteVals a.k.1 ++ (byteVals a.r.1 ++ (Value.int .i64 a.n :: byteVals a.t.1)) = (byteVals a.k.1 ++ (byteVals a.r.1 ++ [Value.int .i64 a.n])) ++ byteVals a.t.1 := by simp
  rw [h, List.drop_left' (by rw [List.length_append, List.length_append, byteVals_len, byteVals_len, a.k.2, a.r.2]; rfl)]
  exact List.take_of_length_le (by rw [byteVals_len, a.t.2]; exact Nat.le_refl _)
theorem part30 (a : Att) (o : Nat) (x : List Value) (h : ((attCells a).drop o).take 32 = x) (w : World) : (part 30 (attCells a).toArray o).run Tryd.prog w = .ok (.agg x.toArray) w := by
  have z30 : ∀ w, (sizeOf 30).run Tryd.prog w = .ok 32 w := fun _ => by kernel_rfl
  have a30 : ∀ w, (isAgg 30).run Tryd.prog w = .ok true w := fun _ => by kernel_rfl
  unfold part
  simp only [Sem.run_bind, a30, Result.andThen_ok, if_true, z30, Sem.run_pure]
  rw [extract_list h]
theorem part64 (a : Att) (w : World) : (part 3 (attCells a).toArray 64).run Tryd.prog w = .ok (.int .i64 a.n) w := by
  have a3 := Tryd.isAgg3
  have hg : (attCells a).toArray[64]? = some (.int .i64 a.n) := by rw [List.getElem?_toArray]; exact att64 a
  unfold part
  simp [Sem.run_bind, a3, hg, Sem.run_pure]

theorem eql46 (a b : Att) (w : World) : (binOp .eql 46 (.agg (attCells a).toArray) (.agg (attCells b).toArray)).run Tryd.prog w = .ok (.bool (sameAtt a b)) w := by
  have h30 := fun (x y : Dg) (w : World) => equalIn30 9997 x.1 y.1 x.2 y.2 w
  have h3 := fun (x y : Int) (w : World) => run_equalIn_int (P := Tryd.prog) w 9998 3 .i64 .i64 x y Tryd.underlying3
  simp only [Nat.reduceAdd] at h30 h3
  rw [run_eql_struct, show (10000 : Nat) = 9999 + 1 from rfl, run_equalIn_agg w 9999 46 _ _ Tryd.und46 Tryd.held46]
  simp only [Program.fieldsOf, Tryd.underlying46]
  have pk := fun (a : Att) (w : World) => part30 a 0 _ (att_take_k a) w
  have pr := fun (a : Att) (w : World) => part30 a 32 _ (att_take_r a) w
  have pt := fun (a : Att) (w : World) => part30 a 65 _ (att_take_t a) w
  simp only [Op.eqFields, Sem.run_bind, Sem.run_ite, pk, pr, pt, part64, h30, h3, Result.andThen_ok, Sem.run_pure]
  unfold sameAtt
  cases (a.k.1 == b.k.1) <;> cases (a.r.1 == b.r.1) <;> by_cases hn : a.n = b.n <;> cases (a.t.1 == b.t.1) <;> simp [hn]
end

section
open Go.RowKit

def cmpB (x y : List UInt8) : Int := Lib.compareBytes x y
theorem cmp_cons (x y : UInt8) (a b : List UInt8) : cmpB (x :: a) (y :: b) = if x < y then -1 else if y < x then 1 else cmpB a b := rfl
theorem cmp_self : ∀ x, cmpB x x = 0
  | [] => rfl
  | x :: l => by rw [cmp_cons, if_neg (UInt8.lt_irrefl x), if_neg (UInt8.lt_irrefl x)]; exact cmp_self l
theorem cmp_tot : ∀ x y, cmpB x y < 0 ∨ x = y ∨ cmpB y x < 0
  | [], [] => .inr (.inl rfl)
  | [], _ :: _ => .inl (by show (-1 : Int) < 0; decide)
  | _ :: _, [] => .inr (.inr (by show (-1 : Int) < 0; decide))
  | x :: a, y :: b => by
    rw [cmp_cons, cmp_cons]
    by_cases h1 : x < y
    · rw [if_pos h1]; exact .inl (by decide)
    · by_cases h2 : y < x
      · simp only [if_neg h1, if_pos h2]; exact .inr (.inr (by decide))
      · have e : x = y := UInt8.le_antisymm (UInt8.not_lt.1 h2) (UInt8.not_lt.1 h1)
        rw [if_neg h1, if_neg h2, if_neg h2, if_neg h1]
        rcases cmp_tot a b with h | h | h
        · exact .inl h
        · exact .inr (.inl (by rw [e, h]))
        · exact .inr (.inr h)
theorem cmp_asym : ∀ x y, cmpB x y < 0 → ¬ cmpB y x < 0
  | [], [] => fun h => absurd h (by decide)
  | [], _ :: _ => fun _ => by show ¬ (1 : Int) < 0; decide
  | _ :: _, [] => fun h => absurd h (by show ¬ (1 : Int) < 0; decide)
  | x :: a, y :: b => by
    rw [cmp_cons, cmp_cons]
    by_cases h1 : x < y
    · rw [if_pos h1, if_neg (UInt8.not_lt.2 (UInt8.le_of_lt h1)), if_pos h1]; intro _; decide
    · by_cases h2 : y < x
      · rw [if_neg h1, if_pos h2]; intro h; exact absurd h (by decide)
      · rw [if_neg h1, if_neg h2, if_neg h2, if_neg h1]; exact cmp_asym a b
theorem cmp_trans : ∀ x y z, cmpB x y < 0 → cmpB y z < 0 → cmpB x z < 0
  | [], [], _ => fun h => absurd h (by decide)
  | [], _ :: _, [] => fun _ h => absurd h (by show ¬ (1 : Int) < 0; decide)
  | [], _ :: _, _ :: _ => fun _ _ => by show (-1 : Int) < 0; decide
  | _ :: _, [], _ => fun h => absurd h (by show ¬ (1 : Int) < 0; decide)
  | _ :: _, _ :: _, [] => fun _ h => absurd h (by show ¬ (1 : Int) < 0; decide)
  | x :: a, y :: b, z :: c => by
    rw [cmp_cons, cmp_cons, cmp_cons]
    have ih := cmp_trans a b c
    by_cases h1 : x < y
    · by_cases h2 : y < z
      · intro _ _; rw [if_pos (UInt8.lt_trans h1 h2)]; decide
      · by_cases h3 : z < y
        · rw [if_neg h2, if_pos h3]; intro _ h; exact absurd h (by decide)
        · have e : y = z := UInt8.le_antisymm (UInt8.not_lt.1 h3) (UInt8.not_lt.1 h2)
          subst e
          intro _ _; rw [if_pos h1]; decide
    · by_cases h2 : y < x
      · rw [if_neg h1, if_pos h2]; intro h; exact absurd h (by decide)
      · have e : x = y := UInt8.le_antisymm (UInt8.not_lt.1 h2) (UInt8.not_lt.1 h1)
        subst e
        rw [if_neg h1, if_neg h1]
        by_cases h4 : x < z
        · intro _ _; rw [if_pos h4]; decide
        · by_cases h5 : z < x
          · rw [if_neg h4, if_pos h5]; intro _ h; exact absurd h (by decide)
          · simp only [if_neg h4, if_neg h5]; exact ih
theorem cmp_append : ∀ (x y s t : List UInt8), x.length = y.length → cmpB (x ++ s) (y ++ t) = if x = y then cmpB s t else cmpB x y
  | [], [], s, t, _ => by simp
  | [], _ :: _, _, _, h => by simp at h
  | _ :: _, [], _, _, h => by simp at h
  | x :: a, y :: b, s, t, h => by
    rw [List.cons_append, List.cons_append, cmp_cons, cmp_cons, cmp_append a b s t (by simpa using h)]
    by_cases h1 : x < y
    · rw [if_pos h1, if_pos h1, if_neg (by intro e; injection e with e _; subst e; exact UInt8.lt_irrefl _ h1)]
    · by_cases h2 : y < x
      · rw [if_neg h1, if_pos h2, if_neg h1, if_pos h2, if_neg (by intro e; injection e with e _; subst e; exact UInt8.lt_irrefl _ h2)]
      · have e : x = y := UInt8.le_antisymm (UInt8.not_lt.1 h2) (UInt8.not_lt.1 h1)
        subst e
        rw [if_neg h1, if_neg h2, if_neg h1, if_neg h2]
        by_cases e : a = b
        · rw [if_pos e, if_pos (by rw [e])]
        · rw [if_neg e, if_neg (by intro e2; injection e2 with _ e2; exact e e2)]

theorem bytes_of {P : Program} (w : World) {A : Option Addr} {n c : Nat} {bs : List UInt8} (h : Txt w A bs) (hn : n = bs.length) : (Extern.Bytes.bytesOf (.slice A n c)).run P w = .ok ⟨bs.toArray⟩ w := by
  subst hn
  rcases Nat.eq_zero_or_pos bs.length with h0 | h0
  · have : bs = [] := List.eq_nil_of_length_eq_zero h0
    subst this
    rcases A with _ | ad
    · rfl
    · simp [Extern.Bytes.bytesOf, Extern.Bytes.loadBytes]; rfl
  · obtain ⟨b, o, rfl, _, hc⟩ := h h0
    have hl := Lib.run_loadBytesX (P := P) w (bs.map fun b => (b.toNat : Int)) ⟨b, o, none⟩ .empty (fun j x hj => by
      rw [List.getElem?_map] at hj
      obtain ⟨y, h1, rfl⟩ := Option.map_eq_some_iff.1 hj
      rw [Addr.add_mid]; exact hc j y h1)
    rw [List.length_map] at hl
    show (Extern.Bytes.loadBytes ⟨b, o, none⟩ bs.length .empty).run P w = _
    rw [hl]
    congr 1
    apply ByteArray.ext
    simp [Lib.bytesOf, Function.comp_def]
theorem ext_compare {P : Program} (w : World) {A B : Option Addr} {n c m d : Nat} {x y : List UInt8} (hx : Txt w A x) (hn : n = x.length) (hy : Txt w B y) (hm : m = y.length) :
    (Extern.BytealgCompare.compare #[.slice A n c, .slice B m d]).run P w = .ok (.int .i64 (cmpB x y)) w := by
  change Sem.run P (do pure (goInt (Extern.BytealgCompare.cmp (← Extern.Bytes.bytesOf (.slice A n c)) (← Extern.Bytes.bytesOf (.slice B m d))))) w = _
  simp only [Sem.run_bind, bytes_of w hx hn, bytes_of w hy hm, Sem.run_pure, Result.andThen]
  rw [Lib.cmp_eq]
  rfl

set_option maxRecDepth 100000 in
theorem compare_any (A B : Option Addr) (n c m d : Nat) (x y : List UInt8) (w : World) (hx : Txt w A x) (hn : n = x.length) (hy : Txt w B y) (hm : m = y.length) :
    Calls Tryd.prog 73 #[.slice A n c, .slice B m d] w fun e w' => e = .returned (.int .i64 (cmpB x y)) ∧ w = w' := by
  have HX := Lib.hid (ext_compare (P := Tryd.prog) (c := c) (d := d) w hx hn hy hm)
  generalize cmpB x y = r at *
  clear hx hn hy hm
  go_enter Tryd.func73, Tryd.ntmps73
  go_wp2_with fail
  rw [run_callFunc_extern Tryd.func89 (by kernel_rfl) (by kernel_rfl) (by kernel_rfl) (e := Extern.BytealgCompare.compare) (by kernel_rfl), HX.out]
  simp only [Result.andThen]
  rw [Oper.upon_value]
  go_wp2_with fail
  go_ret
  exact ⟨rfl, rfl⟩
end

section
open Go.RowKit

theorem be_cmp : ∀ (k m n : Nat), cmpB (be k m) (be k n) < 0 ↔ m % 2 ^ (8 * k) < n % 2 ^ (8 * k)
  | 0, m, n => by
    have : cmpB (be 0 m) (be 0 n) = 0 := rfl
    rw [this, Nat.mul_zero, Nat.pow_zero, Nat.mod_one, Nat.mod_one]; decide
  | k + 1, m, n => by
    have ih := be_cmp k m n
    have e : 2 ^ (8 * (k + 1)) = 2 ^ (8 * k) * 256 := by rw [Nat.mul_succ, Nat.pow_add]
    rw [e, Nat.mod_mul, Nat.mod_mul]
    show cmpB (UInt8.ofNat (m / 2 ^ (8 * k)) :: be k m) (UInt8.ofNat (n / 2 ^ (8 * k)) :: be k n) < 0 ↔ _
    rw [cmp_cons]
    have hB : 0 < 2 ^ (8 * k) := Nat.pow_pos (by decide)
    have l1 := Nat.mod_lt m hB
    have l2 := Nat.mod_lt n hB
    have x1 : (UInt8.ofNat (m / 2 ^ (8 * k)) < UInt8.ofNat (n / 2 ^ (8 * k))) ↔ m / 2 ^ (8 * k) % 256 < n / 2 ^ (8 * k) % 256 := by rw [UInt8.lt_iff_toNat_lt, UInt8.toNat_ofNat', UInt8.toNat_ofNat']
    have x2 : (UInt8.ofNat (n / 2 ^ (8 * k)) < UInt8.ofNat (m / 2 ^ (8 * k))) ↔ n / 2 ^ (8 * k) % 256 < m / 2 ^ (8 * k) % 256 := by rw [UInt8.lt_iff_toNat_lt, UInt8.toNat_ofNat', UInt8.toNat_ofNat']
    generalize hp : m / 2 ^ (8 * k) % 256 = p at *
    generalize hq : n / 2 ^ (8 * k) % 256 = q at *
    generalize m % 2 ^ (8 * k) = r at *
    generalize n % 2 ^ (8 * k) = s at *
    generalize 2 ^ (8 * k) = B at *
    rcases Nat.lt_trichotomy p q with h | h | h
    · rw [if_pos (x1.2 h)]
      have := Nat.mul_le_mul_left B (show p + 1 ≤ q from h)
      rw [Nat.mul_succ] at this
      exact ⟨fun _ => by omega, fun _ => by decide⟩
    · subst h
      rw [if_neg (by rw [x1]; omega), if_neg (by rw [x2]; omega), ih]
      omega
    · rw [if_neg (by rw [x1]; omega), if_pos (x2.2 h)]
      have := Nat.mul_le_mul_left B (show q + 1 ≤ p from h)
      rw [Nat.mul_succ] at this
      exact ⟨fun h => absurd h (by decide), fun _ => by omega⟩

def u64n (n : Int) : Nat := (n % 18446744073709551616).toNat
def lessB (a b : Att) : Bool := decide (cmpB (attBytes a (u64n a.n)) (attBytes b (u64n b.n)) < 0)
theorem less_k (a b : Att) (h : a.k.1 ≠ b.k.1) : lessB a b = decide (cmpB a.k.1 b.k.1 < 0) := by
  unfold lessB attBytes
  rw [cmp_append _ _ _ _ (by rw [a.k.2, b.k.2]), if_neg h]
theorem less_r (a b : Att) (h1 : a.k.1 = b.k.1) (h : a.r.1 ≠ b.r.1) : lessB a b = decide (cmpB a.r.1 b.r.1 < 0) := by
  unfold lessB attBytes
  rw [cmp_append _ _ _ _ (by rw [a.k.2, b.k.2]), if_pos h1, cmp_append _ _ _ _ (by rw [a.r.2, b.r.2]), if_neg h]
theorem less_n (a b : Att) (h1 : a.k.1 = b.k.1) (h2 : a.r.1 = b.r.1) (ha : -9223372036854775808 ≤ a.n ∧ a.n ≤ 9223372036854775807) (hb : -9223372036854775808 ≤ b.n ∧ b.n ≤ 9223372036854775807) (h : a.n ≠ b.n) :
    lessB a b = decide (a.n % 18446744073709551616 < b.n % 18446744073709551616) := by
  have hc := be_cmp 8 (u64n a.n) (u64n b.n)
  have hne : be 8 (u64n a.n) ≠ be 8 (u64n b.n) := fun e => by
    have h3 := be_cmp 8 (u64n b.n) (u64n a.n)
    rw [e, cmp_self] at hc
    rw [e, cmp_self] at h3
    have e1 : (2 : Nat) ^ (8 * 8) = 18446744073709551616 := by decide
    rw [e1] at hc h3
    unfold u64n at hc h3
    omega
  unfold lessB attBytes
  rw [cmp_append _ _ _ _ (by rw [a.k.2, b.k.2]), if_pos h1, cmp_append _ _ _ _ (by rw [a.r.2, b.r.2]), if_pos h2, cmp_append _ _ _ _ (by rw [be_len, be_len]), if_neg hne]
  have e1 : (2 : Nat) ^ (8 * 8) = 18446744073709551616 := by decide
  rw [e1] at hc
  apply decide_eq_decide.2
  rw [hc]
  unfold u64n
  omega
theorem less_t (a b : Att) (h1 : a.k.1 = b.k.1) (h2 : a.r.1 = b.r.1) (h3 : a.n = b.n) : lessB a b = decide (cmpB a.t.1 b.t.1 < 0) := by
  unfold lessB attBytes
  rw [cmp_append _ _ _ _ (by rw [a.k.2, b.k.2]), if_pos h1, cmp_append _ _ _ _ (by rw [a.r.2, b.r.2]), if_pos h2, cmp_append _ _ _ _ (by rw [be_len, be_len]), h3, if_pos rfl]
theorem txt_range {w : World} {b o : Nat} {bs : List UInt8} (h : w.rangeAt b o (byteVals bs)) (hl : b < w.heap.size) : Txt w (some ⟨b, o, none⟩) bs :=
  fun _ => ⟨b, o, rfl, hl, fun _ _ hj => h _ _ (byteVals_get hj)⟩

set_option maxRecDepth 100000 in
set_option maxHeartbeats 16000000 in
theorem less_any (a b : Att) (w : World) (ha : -9223372036854775808 ≤ a.n ∧ a.n ≤ 9223372036854775807) (hb : -9223372036854775808 ≤ b.n ∧ b.n ≤ 9223372036854775807) :
    Calls Tryd.prog 36 #[.agg (attCells a).toArray, .agg (attCells b).toArray] w fun e w' => e = .returned (.bool (lessB a b)) ∧ Chg none w w' := by
  obtain ⟨CA, hCA⟩ : ∃ CA, CA = (attCells a).toArray := ⟨_, rfl⟩
  obtain ⟨CB, hCB⟩ : ∃ CB, CB = (attCells b).toArray := ⟨_, rfl⟩
  obtain ⟨W2, hW2⟩ : ∃ W2, W2 = (w.alloc (.cells CA 46)).alloc (.cells CB 46) := ⟨_, rfl⟩
  have HW2 : Hid ((w.alloc (.cells CA 46)).alloc (.cells CB 46) = W2) := hW2.symm
  have gR : Chg none w W2 := by rw [hW2]; exact ((Chg.refl _ _).alloc _).alloc _
  have bA : BlkL W2 w.heap.size (attCells a) 46 := by rw [hW2, hCA]; exact Blk.alloc (Blk.new _ _ _) _
  have bB : BlkL W2 (w.heap.size + 1) (attCells b) 46 := by rw [hW2, hCB]; exact Blk.newAt _ _ (by simp)
  have E0 := gR.drew
  have E00 := gR
  have HTK : Hid (∀ A B : Option Addr, A = some ⟨w.heap.size, 0, none⟩ → B = some ⟨w.heap.size + 1, 0, none⟩ → Txt W2.drew A a.k.1 ∧ Txt W2.drew B b.k.1) := fun A B e1 e2 => by
    subst e1; subst e2
    exact ⟨Txt.chg (txt_range (att_key (Blk.range bA)) (Blk.lt bA)) (Chg.refl none W2).drew, Txt.chg (txt_range (att_key (Blk.range bB)) (Blk.lt bB)) (Chg.refl none W2).drew⟩
  have HTR : Hid (∀ A B : Option Addr, A = some ⟨w.heap.size, 32, none⟩ → B = some ⟨w.heap.size + 1, 32, none⟩ → Txt W2.drew A a.r.1 ∧ Txt W2.drew B b.r.1) := fun A B e1 e2 => by
    subst e1; subst e2
    exact ⟨Txt.chg (txt_range (att_root (Blk.range bA)) (Blk.lt bA)) (Chg.refl none W2).drew, Txt.chg (txt_range (att_root (Blk.range bB)) (Blk.lt bB)) (Chg.refl none W2).drew⟩
  have HTT : Hid (∀ A B : Option Addr, A = some ⟨w.heap.size, 65, none⟩ → B = some ⟨w.heap.size + 1, 65, none⟩ → Txt W2.drew A a.t.1 ∧ Txt W2.drew B b.t.1) := fun A B e1 e2 => by
    subst e1; subst e2
    exact ⟨Txt.chg (txt_range (att_tag (Blk.range bA)) (Blk.lt bA)) (Chg.refl none W2).drew, Txt.chg (txt_range (att_tag (Blk.range bB)) (Blk.lt bB)) (Chg.refl none W2).drew⟩
  have HAK := Lib.hid (att_key (Blk.range bA))
  have HBK := Lib.hid (att_key (Blk.range bB))
  have HAR := Lib.hid (att_root (Blk.range bA))
  have HBR := Lib.hid (att_root (Blk.range bB))
  have ca := att_num (Blk.range bA)
  have cb := att_num (Blk.range bB)
  have HI : Hid (∀ d : Dg, (Tryd.prog.info? 30).map (·.size) = some (byteVals d.1).length) := fun d => by rw [byteVals_len, d.2]; show _ = _; kernel_rfl
  have HNQ : Hid (∀ (x y : Dg) (v : World), (binOp .neq 30 (.agg (byteVals x.1).toArray) (.agg (byteVals y.1).toArray)).run Tryd.prog v = .ok (.bool (!(x.1 == y.1))) v) := fun x y v => neq30 x.1 y.1 x.2 y.2 v
  have HCM : Hid (∀ (x y : Dg) (A B : Option Addr) (v : World), Txt v A x.1 → Txt v B y.1 → Calls Tryd.prog 73 #[.slice A 32 32, .slice B 32 32] v fun e w' => e = .returned (.int .i64 (cmpB x.1 y.1)) ∧ v = w') := fun x y A B v h1 h2 => compare_any A B 32 32 32 32 x.1 y.1 v h1 x.2.symm h2 y.2.symm
  have hg30 := guard30
  rw [← hCA, ← hCB]
  clear hCA hCB hW2 bA bB gR
  by_cases hk : a.k.1 = b.k.1
  rotate_left
  · have HL := Lib.hid (less_k a b hk)
    have hq : ∀ v : World, (binOp .neq 30 (.agg (byteVals a.k.1).toArray) (.agg (byteVals b.k.1).toArray)).run Tryd.prog v = .ok (.bool true) v := fun v => by rw [HNQ.out]; simp [hk]
    generalize lessB a b = LB at *
    clear hk HTR HTT HAR HBR ca cb HNQ ha hb
    go_enter Tryd.func36, Tryd.ntmps36
    go_upto_region 1 with fail
    rw [HW2.out]
    clear HW2
    have hT := HTK.out _ _ rfl rfl
    generalize w.heap.size + 1 = pB at *
    generalize w.heap.size = pA at *
    clear HTK
    go_upto_region 2 with (first
      | (refine wpList_load_mid rfl 30 _ rfl pA 0 rfl (byteVals a.k.1) _ HAK.out Tryd.underlying30 rfl (HI.out a.k) ?_)
      | (refine wpList_load_mid rfl 30 _ rfl pB 0 rfl (byteVals b.k.1) _ HBK.out Tryd.underlying30 rfl (HI.out b.k) ?_))
    refine wp_region_held_drew (S := fun _ => True) (by kernel_rfl) trivial (fun _ => ?_)
    generalize W2.drew = v0 at *
    refine wpAnyH_take (i := 0) (oi := ⟨some 10, _, _, _, _, _⟩) (v := ?_) rfl (by kernel_rfl) (by kernel_rfl) (by kernel_rfl) (fun _ _ _ h => h) (Or.inl ⟨by rfl, ?_⟩) (by assumption) ?_
    rotate_left
    · intro w hSw; (try dsimp only at hSw); go_simp; (try with_reducible rfl)
    try simp only [Act.put, List.setIfInBounds_toArray, List.set_cons_zero, List.set_cons_succ]
    refine wpAnyH_take (i := 1) (oi := ⟨some 11, _, _, _, _, _⟩) (v := .slice (some ⟨pA, 0, none⟩) 32 32) rfl (by kernel_rfl) (by kernel_rfl) (by kernel_rfl) (fun _ _ _ h => h) (Or.inl ⟨by rfl, ?_⟩) (by assumption) ?_
    · intro w _; have hcw := cut30o w pA 0; go_simp
    try simp only [Act.put, List.setIfInBounds_toArray, List.set_cons_zero, List.set_cons_succ]
    refine wpAnyH_take (i := 2) (oi := ⟨some 12, _, _, _, _, _⟩) (v := ?_) rfl (by kernel_rfl) (by kernel_rfl) (by kernel_rfl) (fun _ _ _ h => h) (Or.inl ⟨by rfl, ?_⟩) (by assumption) ?_
    rotate_left
    · intro w hSw; (try dsimp only at hSw); go_simp; (try with_reducible rfl)
    try simp only [Act.put, List.setIfInBounds_toArray, List.set_cons_zero, List.set_cons_succ]
    refine wpAnyH_take (i := 3) (oi := ⟨some 13, _, _, _, _, _⟩) (v := .slice (some ⟨pB, 0, none⟩) 32 32) rfl (by kernel_rfl) (by kernel_rfl) (by kernel_rfl) (fun _ _ _ h => h) (Or.inl ⟨by rfl, ?_⟩) (by assumption) ?_
    · intro w _; have hcw := cut30o w pB 0; go_simp
    try simp only [Act.put, List.setIfInBounds_toArray, List.set_cons_zero, List.set_cons_succ]
    refine wpAnyH_ready (rs := [4]) (by kernel_rfl) (by simp) ?_
    refine AllReadyH.cons (o := ⟨some 14, _, _, _, _, _⟩) rfl (fun K hK => ?_) (AllReadyH.nil)
    go_simp
    go_at_call 73
    refine (HCM.out a.k b.k _ _ _ hT.1 hT.2).mono ?_
    rintro e v1 ⟨rfl, rfl⟩
    go_wp2_with fail
    refine hK.out _ _ trivial (fun _ => ?_)
    clear hK K
    try simp only [Act.put, List.setIfInBounds_toArray, List.set_cons_zero, List.set_cons_succ]
    refine wpAnyH_take (i := 5) (oi := ⟨some 15, _, _, _, _, _⟩) (v := ?_) rfl (by kernel_rfl) (by kernel_rfl) (by kernel_rfl) (fun _ _ _ h => h) (Or.inl ⟨by rfl, ?_⟩) (by assumption) ?_
    rotate_left
    · intro w hSw; (try dsimp only at hSw); go_simp; (try with_reducible rfl)
    try simp only [Act.put, List.setIfInBounds_toArray, List.set_cons_zero, List.set_cons_succ]
    refine wpAnyH_take (i := 6) (oi := ⟨some 4, _, _, _, _, _⟩) (v := ?_) rfl (by kernel_rfl) (by kernel_rfl) (by kernel_rfl) (fun _ _ _ h => h) (Or.inl ⟨by rfl, ?_⟩) (by assumption) ?_
    rotate_left
    · intro w hSw; (try dsimp only at hSw); go_simp; (try with_reducible rfl)
    try simp only [Act.put, List.setIfInBounds_toArray, List.set_cons_zero, List.set_cons_succ]
    refine wpAnyH_done (by kernel_rfl) ?_ _
    try simp only [Act.put]
    go_wp2_with fail
    go_ret
    exact ⟨by rw [HL.out]; rfl, E0⟩
  have hqk : ∀ v : World, (binOp .neq 30 (.agg (byteVals a.k.1).toArray) (.agg (byteVals b.k.1).toArray)).run Tryd.prog v = .ok (.bool false) v := fun v => by rw [HNQ.out]; simp [hk]
  by_cases hr : a.r.1 = b.r.1
  rotate_left
  · have HL := Lib.hid (less_r a b hk hr)
    have hq : ∀ v : World, (binOp .neq 30 (.agg (byteVals a.r.1).toArray) (.agg (byteVals b.r.1).toArray)).run Tryd.prog v = .ok (.bool true) v := fun v => by rw [HNQ.out]; simp [hr]
    generalize lessB a b = LB at *
    clear hk hr HTK HTT ca cb HNQ ha hb
    go_enter Tryd.func36, Tryd.ntmps36
    go_upto_region 1 with fail
    rw [HW2.out]
    clear HW2
    have hT := HTR.out _ _ rfl rfl
    generalize w.heap.size + 1 = pB at *
    generalize w.heap.size = pA at *
    clear HTR
    go_upto_region 4 with (first
      | (refine wpList_load_mid rfl 30 _ rfl pA 0 rfl (byteVals a.k.1) _ HAK.out Tryd.underlying30 rfl (HI.out a.k) ?_)
      | (refine wpList_load_mid rfl 30 _ rfl pB 0 rfl (byteVals b.k.1) _ HBK.out Tryd.underlying30 rfl (HI.out b.k) ?_)
      | (refine wpList_load_mid rfl 30 _ rfl pA 32 rfl (byteVals a.r.1) _ HAR.out Tryd.underlying30 rfl (HI.out a.r) ?_)
      | (refine wpList_load_mid rfl 30 _ rfl pB 32 rfl (byteVals b.r.1) _ HBR.out Tryd.underlying30 rfl (HI.out b.r) ?_))
    refine wp_region_held_drew (S := fun _ => True) (by kernel_rfl) trivial (fun _ => ?_)
    generalize W2.drew = v0 at *
    refine wpAnyH_take (i := 0) (oi := ⟨some 21, _, _, _, _, _⟩) (v := ?_) rfl (by kernel_rfl) (by kernel_rfl) (by kernel_rfl) (fun _ _ _ h => h) (Or.inl ⟨by rfl, ?_⟩) (by assumption) ?_
    rotate_left
    · intro w hSw; (try dsimp only at hSw); go_simp; (try with_reducible rfl)
    try simp only [Act.put, List.setIfInBounds_toArray, List.set_cons_zero, List.set_cons_succ]
    refine wpAnyH_take (i := 1) (oi := ⟨some 22, _, _, _, _, _⟩) (v := .slice (some ⟨pA, 32, none⟩) 32 32) rfl (by kernel_rfl) (by kernel_rfl) (by kernel_rfl) (fun _ _ _ h => h) (Or.inl ⟨by rfl, ?_⟩) (by assumption) ?_
    · intro w _; have hcw := cut30o w pA 32; go_simp
    try simp only [Act.put, List.setIfInBounds_toArray, List.set_cons_zero, List.set_cons_succ]
    refine wpAnyH_take (i := 2) (oi := ⟨some 23, _, _, _, _, _⟩) (v := ?_) rfl (by kernel_rfl) (by kernel_rfl) (by kernel_rfl) (fun _ _ _ h => h) (Or.inl ⟨by rfl, ?_⟩) (by assumption) ?_
    rotate_left
    · intro w hSw; (try dsimp only at hSw); go_simp; (try with_reducible rfl)
    try simp only [Act.put, List.setIfInBounds_toArray, List.set_cons_zero, List.set_cons_succ]
    refine wpAnyH_take (i := 3) (oi := ⟨some 24, _, _, _, _, _⟩) (v := .slice (some ⟨pB, 32, none⟩) 32 32) rfl (by kernel_rfl) (by kernel_rfl) (by kernel_rfl) (fun _ _ _ h => h) (Or.inl ⟨by rfl, ?_⟩) (by assumption) ?_
    · intro w _; have hcw := cut30o w pB 32; go_simp
    try simp only [Act.put, List.setIfInBounds_toArray, List.set_cons_zero, List.set_cons_succ]
    refine wpAnyH_ready (rs := [4]) (by kernel_rfl) (by simp) ?_
    refine AllReadyH.cons (o := ⟨some 25, _, _, _, _, _⟩) rfl (fun K hK => ?_) (AllReadyH.nil)
    go_simp
    go_at_call 73
    refine (HCM.out a.r b.r _ _ _ hT.1 hT.2).mono ?_
    rintro e v1 ⟨rfl, rfl⟩
    go_wp2_with fail
    refine hK.out _ _ trivial (fun _ => ?_)
    clear hK K
    try simp only [Act.put, List.setIfInBounds_toArray, List.set_cons_zero, List.set_cons_succ]
    refine wpAnyH_take (i := 5) (oi := ⟨some 26, _, _, _, _, _⟩) (v := ?_) rfl (by kernel_rfl) (by kernel_rfl) (by kernel_rfl) (fun _ _ _ h => h) (Or.inl ⟨by rfl, ?_⟩) (by assumption) ?_
    rotate_left
    · intro w hSw; (try dsimp only at hSw); go_simp; (try with_reducible rfl)
    try simp only [Act.put, List.setIfInBounds_toArray, List.set_cons_zero, List.set_cons_succ]
    refine wpAnyH_take (i := 6) (oi := ⟨some 4, _, _, _, _, _⟩) (v := ?_) rfl (by kernel_rfl) (by kernel_rfl) (by kernel_rfl) (fun _ _ _ h => h) (Or.inl ⟨by rfl, ?_⟩) (by assumption) ?_
    rotate_left
    · intro w hSw; (try dsimp only at hSw); go_simp; (try with_reducible rfl)
    try simp only [Act.put, List.setIfInBounds_toArray, List.set_cons_zero, List.set_cons_succ]
    refine wpAnyH_done (by kernel_rfl) ?_ _
    try simp only [Act.put]
    go_wp2_with fail
    go_ret
    exact ⟨by rw [HL.out]; rfl, E0⟩
  have hqr : ∀ v : World, (binOp .neq 30 (.agg (byteVals a.r.1).toArray) (.agg (byteVals b.r.1).toArray)).run Tryd.prog v = .ok (.bool false) v := fun v => by rw [HNQ.out]; simp [hr]
  by_cases hn : a.n = b.n
  rotate_left
  · have HL := Lib.hid (less_n a b hk hr ha hb hn)
    have dn : (a.n != b.n) = true := by simpa using hn
    generalize lessB a b = LB at *
    generalize a.n = x at *
    generalize b.n = y at *
    clear hk hr hn HTK HTR HTT HNQ HCM ha hb
    go_enter Tryd.func36, Tryd.ntmps36
    go_upto_region 1 with fail
    rw [HW2.out]
    clear HW2
    generalize w.heap.size + 1 = pB at *
    generalize w.heap.size = pA at *
    go_wp2_with (first
      | (refine wpList_load_mid rfl 30 _ rfl pA 0 rfl (byteVals a.k.1) _ HAK.out Tryd.underlying30 rfl (HI.out a.k) ?_)
      | (refine wpList_load_mid rfl 30 _ rfl pB 0 rfl (byteVals b.k.1) _ HBK.out Tryd.underlying30 rfl (HI.out b.k) ?_)
      | (refine wpList_load_mid rfl 30 _ rfl pA 32 rfl (byteVals a.r.1) _ HAR.out Tryd.underlying30 rfl (HI.out a.r) ?_)
      | (refine wpList_load_mid rfl 30 _ rfl pB 32 rfl (byteVals b.r.1) _ HBR.out Tryd.underlying30 rfl (HI.out b.r) ?_))
    go_ret
    exact ⟨by rw [HL.out]; rfl, E00⟩
  have HL := Lib.hid (less_t a b hk hr hn)
  have dn : (a.n != b.n) = false := by simpa using hn
  generalize lessB a b = LB at *
  generalize a.n = x at *
  generalize b.n = y at *
  clear hk hr HTK HTR HNQ ha hb
  subst hn
  go_enter Tryd.func36, Tryd.ntmps36
  go_upto_region 1 with fail
  rw [HW2.out]
  clear HW2
  have hT := HTT.out _ _ rfl rfl
  generalize w.heap.size + 1 = pB at *
  generalize w.heap.size = pA at *
  clear HTT
  go_upto_region 7 with (first
    | (refine wpList_load_mid rfl 30 _ rfl pA 0 rfl (byteVals a.k.1) _ HAK.out Tryd.underlying30 rfl (HI.out a.k) ?_)
    | (refine wpList_load_mid rfl 30 _ rfl pB 0 rfl (byteVals b.k.1) _ HBK.out Tryd.underlying30 rfl (HI.out b.k) ?_)
    | (refine wpList_load_mid rfl 30 _ rfl pA 32 rfl (byteVals a.r.1) _ HAR.out Tryd.underlying30 rfl (HI.out a.r) ?_)
    | (refine wpList_load_mid rfl 30 _ rfl pB 32 rfl (byteVals b.r.1) _ HBR.out Tryd.underlying30 rfl (HI.out b.r) ?_))
  refine wp_region_held_drew (S := fun _ => True) (by kernel_rfl) trivial (fun _ => ?_)
  generalize W2.drew = v0 at *
  refine wpAnyH_take (i := 0) (oi := ⟨some 39, _, _, _, _, _⟩) (v := ?_) rfl (by kernel_rfl) (by kernel_rfl) (by kernel_rfl) (fun _ _ _ h => h) (Or.inl ⟨by rfl, ?_⟩) (by assumption) ?_
  rotate_left
  · intro w hSw; (try dsimp only at hSw); go_simp; (try with_reducible rfl)
  try simp only [Act.put, List.setIfInBounds_toArray, List.set_cons_zero, List.set_cons_succ]
  refine wpAnyH_take (i := 1) (oi := ⟨some 40, _, _, _, _, _⟩) (v := .slice (some ⟨pA, 65, none⟩) 32 32) rfl (by kernel_rfl) (by kernel_rfl) (by kernel_rfl) (fun _ _ _ h => h) (Or.inl ⟨by rfl, ?_⟩) (by assumption) ?_
  · intro w _; have hcw := cut30o w pA 65; go_simp
  try simp only [Act.put, List.setIfInBounds_toArray, List.set_cons_zero, List.set_cons_succ]
  refine wpAnyH_take (i := 2) (oi := ⟨some 41, _, _, _, _, _⟩) (v := ?_) rfl (by kernel_rfl) (by kernel_rfl) (by kernel_rfl) (fun _ _ _ h => h) (Or.inl ⟨by rfl, ?_⟩) (by assumption) ?_
  rotate_left
  · intro w hSw; (try dsimp only at hSw); go_simp; (try with_reducible rfl)
  try simp only [Act.put, List.setIfInBounds_toArray, List.set_cons_zero, List.set_cons_succ]
  refine wpAnyH_take (i := 3) (oi := ⟨some 42, _, _, _, _, _⟩) (v := .slice (some ⟨pB, 65, none⟩) 32 32) rfl (by kernel_rfl) (by kernel_rfl) (by kernel_rfl) (fun _ _ _ h => h) (Or.inl ⟨by rfl, ?_⟩) (by assumption) ?_
  · intro w _; have hcw := cut30o w pB 65; go_simp
  try simp only [Act.put, List.setIfInBounds_toArray, List.set_cons_zero, List.set_cons_succ]
  refine wpAnyH_ready (rs := [4]) (by kernel_rfl) (by simp) ?_
  refine AllReadyH.cons (o := ⟨some 43, _, _, _, _, _⟩) rfl (fun K hK => ?_) (AllReadyH.nil)
  go_simp
  go_at_call 73
  refine (HCM.out a.t b.t _ _ _ hT.1 hT.2).mono ?_
  rintro e v1 ⟨rfl, rfl⟩
  go_wp2_with fail
  refine hK.out _ _ trivial (fun _ => ?_)
  clear hK K
  try simp only [Act.put, List.setIfInBounds_toArray, List.set_cons_zero, List.set_cons_succ]
  refine wpAnyH_take (i := 5) (oi := ⟨some 44, _, _, _, _, _⟩) (v := ?_) rfl (by kernel_rfl) (by kernel_rfl) (by kernel_rfl) (fun _ _ _ h => h) (Or.inl ⟨by rfl, ?_⟩) (by assumption) ?_
  rotate_left
  · intro w hSw; (try dsimp only at hSw); go_simp; (try with_reducible rfl)
  try simp only [Act.put, List.setIfInBounds_toArray, List.set_cons_zero, List.set_cons_succ]
  refine wpAnyH_take (i := 6) (oi := ⟨some 4, _, _, _, _, _⟩) (v := ?_) rfl (by kernel_rfl) (by kernel_rfl) (by kernel_rfl) (fun _ _ _ h => h) (Or.inl ⟨by rfl, ?_⟩) (by assumption) ?_
  rotate_left
  · intro w hSw; (try dsimp only at hSw); go_simp; (try with_reducible rfl)
  try simp only [Act.put, List.setIfInBounds_toArray, List.set_cons_zero, List.set_cons_succ]
  refine wpAnyH_done (by kernel_rfl) ?_ _
  try simp only [Act.put]
  go_wp2_with fail
  go_ret
  exact ⟨by rw [HL.out]; rfl, E0⟩
end

section
open Go.RowKit

set_option maxRecDepth 100000 in
set_option maxHeartbeats 4000000 in
theorem eightz_any (z : Int) (w : World) : Calls Tryd.prog 74 #[.int .i64 z] w fun e w' =>
    ∃ b, e = .returned (.slice (some ⟨b, 0, none⟩) 8 8) ∧ BlkL w' b (byteVals (be 8 (u64n z))) 5 ∧ w.heap.size ≤ b ∧ Chg none w w' := by
  obtain ⟨n, hnz⟩ : ∃ n : Nat, n = u64n z := ⟨_, rfl⟩
  have hu : z % 18446744073709551616 = (n : Int) := by rw [hnz]; unfold u64n; omega
  have hn : n < 18446744073709551616 := by omega
  rw [← hnz]
  have HU := Lib.hid hu
  clear hnz
  have hmk : ∀ W : World, (Instr.makeSlice 22 (.int .i64 8) (.int .i64 8)).run Tryd.prog W = .ok (.slice (some ⟨W.heap.size, 0, none⟩) 8 8) (W.alloc (.cells (byteVals (zeros 8)).toArray 5)) := fun W => make_n 8 (by decide) W
  obtain ⟨W1, hW1⟩ : ∃ W1, W1 = w.alloc (.cells (byteVals (zeros 8)).toArray 5) := ⟨_, rfl⟩
  have HW1 : Hid (w.alloc (.cells (byteVals (zeros 8)).toArray 5) = W1) := hW1.symm
  have g1 : Chg none w W1 := by rw [hW1]; exact (Chg.refl _ _).alloc _
  have b1 : BlkL W1 w.heap.size (byteVals (eightTo n 0)) 5 := by
    have : eightTo n 0 = zeros 8 := by unfold eightTo; rw [List.drop_eq_nil_of_le (by rw [be_len]; decide), List.append_nil]
    rw [this, hW1]; exact Blk.new _ _ _
  clear hW1
  go_enter Tryd.func74, Tryd.ntmps74
  go_wp2_with fail
  rw [HW1.out]
  clear HW1 hmk
  generalize hpB : w.heap.size = pB at *
  have HPB := Lib.hid hpB
  clear hpB
  go_loopw [3, 5] (fun s3 s5 wr => ∃ j : Nat, j ≤ 8 ∧ s5 = .int .i64 (7 - (j : Int)) ∧ s3 = .int .u64 ((n / 256 ^ j : Nat) : Int) ∧ BlkL wr pB (byteVals (eightTo n j)) 5 ∧ Chg none w wr) (fun _ s5 _ => (intOf s5 + 1).toNat)
  case atStart => exact ⟨0, by omega, rfl, by rw [Nat.pow_zero, Nat.div_one, ← HU.out]; rfl, b1, g1⟩
  case round =>
    obtain ⟨j, hj, rfl, rfl, bk, gk⟩ := hrel
    clear b1 g1
    by_cases hlt : j < 8
    · have hd : decide ((7 - (j : Int)) ≥ 0) = true := by simp; omega
      obtain ⟨q, hq⟩ : ∃ q, q = n / 256 ^ j := ⟨_, rfl⟩
      have hq9 : q ≤ n := by rw [hq]; exact Nat.div_le_self _ _
      have hq2 : n / 256 ^ (j + 1) = q / 256 := by rw [hq, Nat.pow_succ, Nat.div_div_eq_div_mul]
      have hx : ((UInt8.ofNat q).toNat : Int) = (q : Int) % 256 := by simp [UInt8.toNat_ofNat']
      have hset := BlkL.set bk (7 - j) (.int .u8 (UInt8.ofNat q).toNat)
      rw [byteVals_set, hq, eightTo_set n j hlt, ← hq, hx] at hset
      have HSET := Lib.hid hset
      have HQ2 := Lib.hid hq2
      have hi7 : (7 - (j : Int)).toNat = 7 - j := by omega
      have cK := (BlkL.cell bk (7 - j)).trans (byte_at (a := eightTo n j) (by rw [eightTo_len _ _ hj]; omega))
      have hfz := Blk.frozen bk (7 - j)
      generalize (eightTo n j).getD (7 - j) 0 = y at *
      have i1 : (0 : Int) ≤ 7 - (j : Int) := by omega
      have i2 : 7 - (j : Int) < 8 := by omega
      rw [← hq]
      clear hset hx hq hq2
      go_wp2_with fail
      go_roundw
      case rel => exact ⟨j + 1, by omega, by congr 1; omega, by rw [HQ2.out]; rfl, HSET.out, gk.setNew _ (by rw [HPB.out]; exact Nat.le_refl _) _⟩
      case measure => simp only [intOf]; omega
    · have hj8 : j = 8 := by omega
      have hd : decide ((7 - (j : Int)) ≥ 0) = false := by simp; omega
      have hfin : eightTo n j = be 8 n := by rw [hj8]; unfold eightTo zeros; simp
      rw [hfin] at bk
      clear hfin hj8
      go_wp2_with fail
      go_ret
      exact ⟨pB, rfl, bk, by rw [HPB.out]; exact Nat.le_refl _, gk⟩



set_option maxRecDepth 100000 in
set_option maxHeartbeats 8000000 in
theorem bytesq_any (a : Att) (w : World) : Calls Tryd.prog 37 #[.agg (attCells a).toArray] w fun e w' =>
    ∃ A c, e = .returned (.slice A 104 c) ∧ w'.ownsRow w.heap.size 5 1 (.slice A 104 c) 104 (byteVals (attBytes a (u64n a.n))) ∧ Chg none w w' := by
  obtain ⟨i0, hi, hz0, hz1, hz2⟩ := info_parts Tryd.info5
  obtain ⟨W1, hW1⟩ : ∃ W1, W1 = w.alloc (.cells (attCells a).toArray 46) := ⟨_, rfl⟩
  have g1 : Chg none w W1 := by rw [hW1]; exact (Chg.refl _ _).alloc _
  have r1 : W1.rangeAt w.heap.size 0 (attCells a) := by rw [hW1]; exact Blk.range (show BlkL _ w.heap.size (attCells a) 46 from Blk.new _ _ _)
  have l1 : w.heap.size < W1.heap.size := by rw [hW1]; simp
  have HW1 : Hid (w.alloc (.cells (attCells a).toArray 46) = W1) := hW1.symm
  obtain ⟨CA, hCA⟩ : ∃ CA, CA = (attCells a).toArray := ⟨_, rfl⟩
  rw [← hCA] at HW1 ⊢
  have HRNG : Hid (∀ v, Chg none W1 v → v.rangeAt w.heap.size 0 (attCells a) ∧ w.heap.size < v.heap.size) := fun v g => ⟨rangeAt_chg r1 g (by simp), Nat.lt_of_lt_of_le l1 g.size⟩
  have HK : Hid (∀ v, Chg none W1 v → Reads v v.heap.size 1 (some ⟨w.heap.size, 0, none⟩) 32 (byteVals a.k.1)) := fun v g => by
    have := txt_reads (range_prt (c := 32) (att_key (HRNG.out v g).1) (HRNG.out v g).2 (by rw [a.k.2]; decide)).1
    rwa [a.k.2] at this
  have HR : Hid (∀ v, Chg none W1 v → Reads v v.heap.size 1 (some ⟨w.heap.size, 32, none⟩) 32 (byteVals a.r.1)) := fun v g => by
    have := txt_reads (range_prt (c := 32) (att_root (HRNG.out v g).1) (HRNG.out v g).2 (by rw [a.r.2]; decide)).1
    rwa [a.r.2] at this
  have HTg : Hid (∀ v, Chg none W1 v → Reads v v.heap.size 1 (some ⟨w.heap.size, 65, none⟩) 32 (byteVals a.t.1)) := fun v g => by
    have := txt_reads (range_prt (c := 32) (att_tag (HRNG.out v g).1) (HRNG.out v g).2 (by rw [a.t.2]; decide)).1
    rwa [a.t.2] at this
  have HN : Hid (∀ v, Chg none W1 v → v.cell? ⟨w.heap.size, 64, none⟩ = some (.int .i64 a.n)) := fun v g => att_num (HRNG.out v g).1
  have H8 : Hid (∀ (v : World), Calls Tryd.prog 74 #[.int .i64 a.n] v fun e w' => ∃ b, e = .returned (.slice (some ⟨b, 0, none⟩) 8 8) ∧ Reads w' w'.heap.size 1 (some ⟨b, 0, none⟩) 8 (byteVals (be 8 (u64n a.n))) ∧ Chg none v w') := fun v => (eightz_any a.n v).mono (by
    rintro e w' ⟨b, rfl, hb, _, g⟩
    refine ⟨b, rfl, ?_, g⟩
    have := txt_reads (prt_of_row (n := 8) hb (by rw [be_len]; exact Nat.le_refl _)).1
    rwa [be_len] at this)
  have HOk := Lib.hid (byteVals_one a.k.1)
  have HOr := Lib.hid (byteVals_one a.r.1)
  have HOt := Lib.hid (byteVals_one a.t.1)
  have HO8 := Lib.hid (byteVals_one (be 8 (u64n a.n)))
  have hc30 := cut30o
  obtain ⟨H, hH⟩ : ∃ H, H = W1.heap.size := ⟨_, rfl⟩
  have HH := Lib.hid hH
  have HLE : Hid (w.heap.size ≤ H) := by rw [hH]; exact g1.size
  have HAB : Hid (byteVals a.k.1 ++ (byteVals a.r.1 ++ (byteVals (be 8 (u64n a.n)) ++ byteVals a.t.1)) = byteVals (attBytes a (u64n a.n))) := by
    show _ = _
    unfold attBytes
    rw [byteVals_append, byteVals_append, byteVals_append]
  have HOWN0 : Hid (W1.ownsRow H 5 1 (.slice none 0 0) 0 []) := World.ownsRow_nil _ _ _ _
  have G0 : Chg none W1 W1 := Chg.refl _ _
  have HS0 : Hid (H ≤ W1.heap.size) := by rw [hH]; exact Nat.le_refl _
  generalize a.n = z at *
  generalize be 8 (u64n z) = B8 at *
  generalize byteVals (attBytes a (u64n z)) = AB at *
  clear hW1 hCA r1 l1 hH HRNG
  go_enter Tryd.func37, Tryd.ntmps37
  go_upto_region 1 with fail
  rw [HW1.out]
  clear HW1
  generalize hpB : w.heap.size = pB at *
  have HPB := Lib.hid hpB
  clear hpB
  go_wp2_with (at_builtin; refine wpList_append_any _ rfl (.tmp 4) (.tmp 6) 22 rfl H 5 i0 (.int .u8 0) 1 1 Tryd.underlying22 hi hz0 hz1 hz2 rfl (by decide) _ 0 [] rfl HOWN0.out _ (some ⟨pB, 0, none⟩) 32 32 (byteVals a.k.1) rfl (HK.out _ G0) HOk.out (by unfold maxLen; decide) (by decide) HS0.out ?_)
  intro v1 w1 hown1 hgr1 _
  have G1 : Chg none W1 w1 := own_chg G0 HOWN0.out (by rw [HH.out]; exact Nat.le_refl _) hgr1
  try simp only [Nat.zero_add, List.nil_append] at hown1
  obtain ⟨A1, c1, rfl⟩ := own_slice hown1
  have HOWN1 := Lib.hid hown1
  have HS1 : Hid (H ≤ w1.heap.size) := by rw [HH.out]; exact G1.size
  clear hown1 hgr1 HOWN0 G0 HS0
  go_wp2_with (at_builtin; refine wpList_append_any _ rfl (.tmp 8) (.tmp 10) 22 rfl H 5 i0 (.int .u8 0) 1 1 Tryd.underlying22 hi hz0 hz1 hz2 rfl (by decide) _ 32 (byteVals a.k.1) rfl HOWN1.out _ (some ⟨pB, 32, none⟩) 32 32 (byteVals a.r.1) rfl (HR.out _ G1) HOr.out (by unfold maxLen; decide) (by decide) HS1.out ?_)
  intro v2 w2 hown2 hgr2 _
  have G2 : Chg none W1 w2 := own_chg G1 HOWN1.out (by rw [HH.out]; exact Nat.le_refl _) hgr2
  try simp only [Nat.reduceAdd] at hown2
  obtain ⟨A2, c2, rfl⟩ := own_slice hown2
  have HOWN2 := Lib.hid hown2
  have hcm := HN.out w2 G2
  clear hown2 hgr2 HOWN1 HS1 G1
  go_wp2_with fail
  refine (H8.out w2).mono ?_
  rintro e w3 ⟨b8, rfl, hr8, g3⟩
  have G3 := G2.trans g3
  have HOWN3 : Hid (w3.ownsRow H 5 1 (.slice A2 64 c2) 64 (byteVals a.k.1 ++ byteVals a.r.1)) := HOWN2.out.kept g3 (by cases (Value.slice A2 64 c2).ownBlock <;> simp)
  have HR8 := Lib.hid hr8
  have HS3 : Hid (H ≤ w3.heap.size) := by rw [HH.out]; exact G3.size
  clear hr8 HOWN2 G2 g3 hcm
  go_wp2_with (at_builtin; refine wpList_append_any _ rfl (.tmp 12) (.tmp 15) 22 rfl H 5 i0 (.int .u8 0) 1 1 Tryd.underlying22 hi hz0 hz1 hz2 rfl (by decide) _ 64 _ rfl HOWN3.out _ (some ⟨b8, 0, none⟩) 8 8 (byteVals B8) rfl HR8.out HO8.out (by unfold maxLen; decide) (by decide) HS3.out ?_)
  intro v4 w4 hown4 hgr4 _
  have G4 : Chg none W1 w4 := own_chg G3 HOWN3.out (by rw [HH.out]; exact Nat.le_refl _) hgr4
  try simp only [Nat.reduceAdd] at hown4
  obtain ⟨A4, c4, rfl⟩ := own_slice hown4
  have HOWN4 := Lib.hid hown4
  have HS4 : Hid (H ≤ w4.heap.size) := by rw [HH.out]; exact G4.size
  have HRT := Lib.hid (HTg.out w4 G4)
  clear hown4 hgr4 HOWN3 HR8 HS3 G3
  go_wp2_with (at_builtin; refine wpList_append_any _ rfl (.tmp 17) (.tmp 19) 22 rfl H 5 i0 (.int .u8 0) 1 1 Tryd.underlying22 hi hz0 hz1 hz2 rfl (by decide) _ 72 _ rfl HOWN4.out _ (some ⟨pB, 65, none⟩) 32 32 (byteVals a.t.1) rfl HRT.out HOt.out (by unfold maxLen; decide) (by decide) HS4.out ?_)
  intro v5 w5 hown5 hgr5 _
  rw [HAB.out] at hown5
  have G5 : Chg none W1 w5 := own_chg G4 HOWN4.out (by rw [HH.out]; exact Nat.le_refl _) hgr5
  try simp only [Nat.reduceAdd] at hown5
  obtain ⟨A5, c5, rfl⟩ := own_slice hown5
  have HOWN5 := Lib.hid hown5
  clear hown5 hgr5 HOWN4 HRT
  go_wp2_with fail
  go_ret
  exact ⟨A5, c5, rfl, own_base HOWN5.out (by rw [HPB.out]; exact HLE.out), g1.trans G5⟩
end

section
open Go.ChangeShapes Go.WideShapes Go.ChangeAt Go.RowKit
open Go.WideMaps Go.WideElems
instance : Inhabited Att := ⟨⟨zeroDg, zeroDg, 0, zeroDg⟩⟩
section
variable {H : Type} {enc : TypeId × Value → H} {w : World} {base : Nat} {spare : Nat → Bool} {held : Bool}
set_option maxRecDepth 100000 in
theorem open_atts {r : Reach} {b0 : Nat} {v : Value} {d : DataW H} {p : List MemPlace} (hv : Value.okWide Tryd.prog w r b0 64 v) (h : DataW.Trod enc Tryd.prog w base spare held 64 v d p) :
    ∃ (A : Option Addr) (L : List Att) (c : Nat), v = .slice A L.length c ∧ L.length ≤ 9223372036854775807 ∧ (∀ a ∈ L, -9223372036854775808 ≤ a.n ∧ a.n ≤ 9223372036854775807) ∧ RowsAt w 97 A attCells L := by
  obtain ⟨A, L, c, h1, h2, h3, h4, h5⟩ := open_rows attCells (fun a : Att => -9223372036854775808 ≤ a.n ∧ a.n ≤ 9223372036854775807) Tryd.underlying64 (k := 97) (by kernel_rfl) (by omega) (fun n cs x h => att_cells n cs x h) hv h
  exact ⟨A, L, c, h1, by unfold maxLen at h3; omega, h4, h5⟩
end
end

section
open Go.RowKit

theorem lessB_asym (a b : Att) (h : lessB a b = true) : lessB b a = false := by
  unfold lessB at h ⊢
  exact decide_eq_false (cmp_asym _ _ (of_decide_eq_true h))
theorem lessB_trans (a b c : Att) (h1 : lessB a b = true) (h2 : lessB b c = true) : lessB a c = true := by
  unfold lessB at h1 h2 ⊢
  exact decide_eq_true (cmp_trans _ _ _ (of_decide_eq_true h1) (of_decide_eq_true h2))
theorem lessB_self (a : Att) : lessB a a = false := by
  unfold lessB
  rw [cmp_self]; rfl
theorem be8_inj64 (m n : Nat) (hm : m < 18446744073709551616) (hn : n < 18446744073709551616) (h : be 8 m = be 8 n) : m = n := by
  have h1 := be_cmp 8 m n
  have h2 := be_cmp 8 n m
  rw [h, cmp_self] at h1
  rw [h, cmp_self] at h2
  have e1 : (2 : Nat) ^ (8 * 8) = 18446744073709551616 := by decide
  rw [e1] at h1 h2
  omega
theorem lessB_none (a b : Att) (ha : -9223372036854775808 ≤ a.n ∧ a.n ≤ 9223372036854775807) (hb : -9223372036854775808 ≤ b.n ∧ b.n ≤ 9223372036854775807) (h1 : lessB a b = false) (h2 : lessB b a = false) : a = b := by
  unfold lessB at h1 h2
  have h1 := of_decide_eq_false h1
  have h2 := of_decide_eq_false h2
  rcases cmp_tot (attBytes a (u64n a.n)) (attBytes b (u64n b.n)) with h | h | h
  · exact absurd h h1
  · unfold attBytes at h
    obtain ⟨e1, h⟩ := List.append_inj h (by rw [a.k.2, b.k.2])
    obtain ⟨e2, h⟩ := List.append_inj h (by rw [a.r.2, b.r.2])
    obtain ⟨e3, e4⟩ := List.append_inj h (by rw [be_len, be_len])
    have e5 := be8_inj64 _ _ (by unfold u64n; omega) (by unfold u64n; omega) e3
    obtain ⟨k, r, n, t⟩ := a
    obtain ⟨k', r', n', t'⟩ := b
    dsimp only at *
    have e6 : n = n' := by unfold u64n at e5; omega
    rw [Subtype.ext e1, Subtype.ext e2, Subtype.ext e4, e6]
  · exact absurd h h2
end

end Go.Proofs.YtkcammaccgkflaaDoor
