/-
  The document's hash: its words worked out once; a digest by them.
-/
import Derived.Test.YtkcammaccgkflaaDoorRS
import Derived.Test.YtkcammaccgkflaaDoorZB
import Derived.Deep.MidRow
import Derived.Deep.RegionHeld3
import Derived.Lib.SlBytesConst
import Derived.Laws.BitsAllLaws
import Derived.Laws.BitsLemmas
import Derived.BigRegion
namespace Go.Proofs.YtkcammaccgkflaaDoor
open Go.RowKit

/-- Block x holds the words of layer 1. -/
def HashAt (w : World) (x : Nat) : Prop := w.rangeAt x 0 (H0.map u32v) ∧ w.rangeAt x 8 (K0.map u32v)
theorem HashAt.chg {v w : World} {x : Nat} {c : Option Nat} (h : HashAt v x) (g : Chg c v w) (hx : some x ≠ c) : HashAt w x := ⟨rangeAt_chg h.1 g hx, rangeAt_chg h.2 g hx⟩
def laidA (w : World) : World := (w.alloc (.cells noW8.toArray 25)).alloc (.cells (List.replicate 64 (Value.int .u32 0)).toArray 26)
def laidB (w : World) : World := ((laidA w).setRow w.heap.size (H0.map u32v).toArray).setRow (w.heap.size + 1) (K0.map u32v).toArray
theorem laid_4 (w : World) : (laidA w).heap[w.heap.size]? = some (.cells noW8.toArray 25 (0, 0)) :=
  Blk.alloc (Blk.new w noW8.toArray 25) _
theorem laid_5 (w : World) : ((laidA w).setRow w.heap.size (H0.map u32v).toArray).heap[w.heap.size + 1]? = some (.cells (List.replicate 64 (Value.int .u32 0)).toArray 26 (0, 0)) := by
  have h : Blk (laidA w) (w.heap.size + 1) (List.replicate 64 (Value.int .u32 0)).toArray 26 := Blk.newAt _ _ (by simp)
  exact Blk.chg h (chg_setRow _ w.heap.size _) (by simp)
theorem laid_H (w : World) : BlkL (laidB w) w.heap.size (H0.map u32v) 25 := by
  have h : Blk ((laidA w).setRow w.heap.size (H0.map u32v).toArray) w.heap.size (H0.map u32v).toArray 25 := setRow_heap _ _ _ _ _ _ (laid_4 w)
  exact Blk.chg h (chg_setRow _ (w.heap.size + 1) _) (by simp)
theorem laid_K (w : World) : BlkL (laidB w) (w.heap.size + 1) (K0.map u32v) 26 := setRow_heap _ _ _ _ _ _ (laid_5 w)
theorem laid_chg (w : World) : Chg none w (laidB w) := by
  have h1 : Chg none w (laidA w) := ((Chg.refl _ _).alloc _).alloc _
  have h2 : Chg none w ((laidA w).setRow w.heap.size (H0.map u32v).toArray) := Chg.own h1 (chg_setRow _ _ _) (Nat.le_refl _)
  exact Chg.own h2 (chg_setRow _ _ _) (by omega)
theorem built79 : Tryd.prog.built 108 [(0, .agg (H0.map u32v).toArray), (1, .agg (K0.map u32v).toArray)] = some ((H0 ++ K0).map u32v).toArray := by kernel_rfl
theorem hash_new (w : World) : HashAt (w.alloc (.cells ((H0 ++ K0).map u32v).toArray 108)) w.heap.size := by
  have hb : BlkL (w.alloc (.cells ((H0 ++ K0).map u32v).toArray 108)) w.heap.size ((H0 ++ K0).map u32v) 108 := Blk.new _ _ _
  have hl : (H0.map u32v).length = 8 := rfl
  refine ⟨fun j v hj => ?_, fun j v hj => ?_⟩
  · rw [Nat.zero_add, BlkL.cell hb, List.map_append, List.getElem?_append_left (List.getElem?_eq_some_iff.1 hj).1]; exact hj
  · rw [BlkL.cell hb, List.map_append, List.getElem?_append_right (by rw [hl]; omega), hl, Nat.add_sub_cancel_left]; exact hj
set_option maxRecDepth 100000 in
set_option maxHeartbeats 8000000 in
theorem newr_any (w : World) : Calls Tryd.prog 42 #[] w fun e w' => ∃ x, e = .returned (.pointer (some ⟨x, 0, none⟩)) ∧ HashAt w' x ∧ Chg none w w' := by
  obtain ⟨HH, hHH⟩ : ∃ HH, HH = (H0.map u32v).toArray := ⟨_, rfl⟩
  obtain ⟨KK, hKK⟩ : ∃ KK, KK = (K0.map u32v).toArray := ⟨_, rfl⟩
  obtain ⟨HK, hHK⟩ : ∃ HK, HK = ((H0 ++ K0).map u32v).toArray := ⟨_, rfl⟩
  have HJ25 : Hid ((Tryd.prog.info? 25).map (·.size) = some HH.size) := by rw [hHH]; show _ = _; kernel_rfl
  have HJ26 : Hid ((Tryd.prog.info? 26).map (·.size) = some KK.size) := by rw [hKK]; show _ = _; kernel_rfl
  have HO25 : Hid (HH.all (·.oneCell') = true) := by rw [hHH]; show _ = _; kernel_rfl
  have HO26 : Hid (KK.all (·.oneCell') = true) := by rw [hKK]; show _ = _; kernel_rfl
  have HZ25 : Hid (noW8.toArray.size = HH.size) := by rw [hHH]; show _ = _; kernel_rfl
  have HZ26 : Hid ((List.replicate 64 (Value.int .u32 0)).toArray.size = KK.size) := by rw [hKK]; show _ = _; kernel_rfl
  have HK4 : Hid (∀ v : World, ((v.alloc (.cells #[Value.int IntKind.u32 0, Value.int IntKind.u32 0, Value.int IntKind.u32 0, Value.int IntKind.u32 0, Value.int IntKind.u32 0, Value.int IntKind.u32 0, Value.int IntKind.u32 0, Value.int IntKind.u32 0] 25)).alloc (.cells #[Value.int IntKind.u32 0, Value.int IntKind.u32 0, Value.int IntKind.u32 0, Value.int IntKind.u32 0, Value.int IntKind.u32 0, Value.int IntKind.u32 0, Value.int IntKind.u32 0, Value.int IntKind.u32 0, Value.int IntKind.u32 0, Value.int IntKind.u32 0, Value.int IntKind.u32 0, Value.int IntKind.u32 0, Value.int IntKind.u32 0, Value.int IntKind.u32 0, Value.int IntKind.u32 0, Value.int IntKind.u32 0, Value.int IntKind.u32 0, Value.int IntKind.u32 0, Value.int IntKind.u32 0, Value.int IntKind.u32 0, Value.int IntKind.u32 0, Value.int IntKind.u32 0, Value.int IntKind.u32 0, Value.int IntKind.u32 0, Value.int IntKind.u32 0, Value.int IntKind.u32 0, Value.int IntKind.u32 0, Value.int IntKind.u32 0, Value.int IntKind.u32 0, Value.int IntKind.u32 0, Value.int IntKind.u32 0, Value.int IntKind.u32 0, Value.int IntKind.u32 0, Value.int IntKind.u32 0, Value.int IntKind.u32 0, Value.int IntKind.u32 0, Value.int IntKind.u32 0, Value.int IntKind.u32 0, Value.int IntKind.u32 0, Value.int IntKind.u32 0, Value.int IntKind.u32 0, Value.int IntKind.u32 0, Value.int IntKind.u32 0, Value.int IntKind.u32 0, Value.int IntKind.u32 0, Value.int IntKind.u32 0, Value.int IntKind.u32 0, Value.int IntKind.u32 0, Value.int IntKind.u32 0, Value.int IntKind.u32 0, Value.int IntKind.u32 0, Value.int IntKind.u32 0, Value.int IntKind.u32 0, Value.int IntKind.u32 0, Value.int IntKind.u32 0, Value.int IntKind.u32 0, Value.int IntKind.u32 0, Value.int IntKind.u32 0, Value.int IntKind.u32 0, Value.int IntKind.u32 0, Value.int IntKind.u32 0, Value.int IntKind.u32 0, Value.int IntKind.u32 0, Value.int IntKind.u32 0] 26)).heap[v.heap.size]? = some (.cells noW8.toArray 25 (0, 0))) := fun v => laid_4 v
  have HK5 : Hid (∀ v : World, (((v.alloc (.cells #[Value.int IntKind.u32 0, Value.int IntKind.u32 0, Value.int IntKind.u32 0, Value.int IntKind.u32 0, Value.int IntKind.u32 0, Value.int IntKind.u32 0, Value.int IntKind.u32 0, Value.int IntKind.u32 0] 25)).alloc (.cells #[Value.int IntKind.u32 0, Value.int IntKind.u32 0, Value.int IntKind.u32 0, Value.int IntKind.u32 0, Value.int IntKind.u32 0, Value.int IntKind.u32 0, Value.int IntKind.u32 0, Value.int IntKind.u32 0, Value.int IntKind.u32 0, Value.int IntKind.u32 0, Value.int IntKind.u32 0, Value.int IntKind.u32 0, Value.int IntKind.u32 0, Value.int IntKind.u32 0, Value.int IntKind.u32 0, Value.int IntKind.u32 0, Value.int IntKind.u32 0, Value.int IntKind.u32 0, Value.int IntKind.u32 0, Value.int IntKind.u32 0, Value.int IntKind.u32 0, Value.int IntKind.u32 0, Value.int IntKind.u32 0, Value.int IntKind.u32 0, Value.int IntKind.u32 0, Value.int IntKind.u32 0, Value.int IntKind.u32 0, Value.int IntKind.u32 0, Value.int IntKind.u32 0, Value.int IntKind.u32 0, Value.int IntKind.u32 0, Value.int IntKind.u32 0, Value.int IntKind.u32 0, Value.int IntKind.u32 0, Value.int IntKind.u32 0, Value.int IntKind.u32 0, Value.int IntKind.u32 0, Value.int IntKind.u32 0, Value.int IntKind.u32 0, Value.int IntKind.u32 0, Value.int IntKind.u32 0, Value.int IntKind.u32 0, Value.int IntKind.u32 0, Value.int IntKind.u32 0, Value.int IntKind.u32 0, Value.int IntKind.u32 0, Value.int IntKind.u32 0, Value.int IntKind.u32 0, Value.int IntKind.u32 0, Value.int IntKind.u32 0, Value.int IntKind.u32 0, Value.int IntKind.u32 0, Value.int IntKind.u32 0, Value.int IntKind.u32 0, Value.int IntKind.u32 0, Value.int IntKind.u32 0, Value.int IntKind.u32 0, Value.int IntKind.u32 0, Value.int IntKind.u32 0, Value.int IntKind.u32 0, Value.int IntKind.u32 0, Value.int IntKind.u32 0, Value.int IntKind.u32 0, Value.int IntKind.u32 0] 26)).setRow v.heap.size HH).heap[v.heap.size + 1]? = some (.cells (List.replicate 64 (Value.int .u32 0)).toArray 26 (0, 0))) := by rw [hHH]; exact fun v => laid_5 v
  have HKB : Hid (∀ v : World, ((((v.alloc (.cells #[Value.int IntKind.u32 0, Value.int IntKind.u32 0, Value.int IntKind.u32 0, Value.int IntKind.u32 0, Value.int IntKind.u32 0, Value.int IntKind.u32 0, Value.int IntKind.u32 0, Value.int IntKind.u32 0] 25)).alloc (.cells #[Value.int IntKind.u32 0, Value.int IntKind.u32 0, Value.int IntKind.u32 0, Value.int IntKind.u32 0, Value.int IntKind.u32 0, Value.int IntKind.u32 0, Value.int IntKind.u32 0, Value.int IntKind.u32 0, Value.int IntKind.u32 0, Value.int IntKind.u32 0, Value.int IntKind.u32 0, Value.int IntKind.u32 0, Value.int IntKind.u32 0, Value.int IntKind.u32 0, Value.int IntKind.u32 0, Value.int IntKind.u32 0, Value.int IntKind.u32 0, Value.int IntKind.u32 0, Value.int IntKind.u32 0, Value.int IntKind.u32 0, Value.int IntKind.u32 0, Value.int IntKind.u32 0, Value.int IntKind.u32 0, Value.int IntKind.u32 0, Value.int IntKind.u32 0, Value.int IntKind.u32 0, Value.int IntKind.u32 0, Value.int IntKind.u32 0, Value.int IntKind.u32 0, Value.int IntKind.u32 0, Value.int IntKind.u32 0, Value.int IntKind.u32 0, Value.int IntKind.u32 0, Value.int IntKind.u32 0, Value.int IntKind.u32 0, Value.int IntKind.u32 0, Value.int IntKind.u32 0, Value.int IntKind.u32 0, Value.int IntKind.u32 0, Value.int IntKind.u32 0, Value.int IntKind.u32 0, Value.int IntKind.u32 0, Value.int IntKind.u32 0, Value.int IntKind.u32 0, Value.int IntKind.u32 0, Value.int IntKind.u32 0, Value.int IntKind.u32 0, Value.int IntKind.u32 0, Value.int IntKind.u32 0, Value.int IntKind.u32 0, Value.int IntKind.u32 0, Value.int IntKind.u32 0, Value.int IntKind.u32 0, Value.int IntKind.u32 0, Value.int IntKind.u32 0, Value.int IntKind.u32 0, Value.int IntKind.u32 0, Value.int IntKind.u32 0, Value.int IntKind.u32 0, Value.int IntKind.u32 0, Value.int IntKind.u32 0, Value.int IntKind.u32 0, Value.int IntKind.u32 0, Value.int IntKind.u32 0] 26)).setRow v.heap.size HH).setRow (v.heap.size + 1) KK) = laidB v) := by rw [hHH, hKK]; exact fun v => rfl
  have HWD : Hid (∀ v : World, Calls Tryd.prog 22 #[] v fun e w' => e = .returned (.tuple #[.agg HH, .agg KK]) ∧ Chg none v w') := by rw [hHH, hKK]; exact fun v => words_any v
  have HBU : Hid (Tryd.prog.built 108 [(0, .agg HH), (1, .agg KK)] = some HK) := by rw [hHH, hKK, hHK]; exact built79
  have HNW : Hid (∀ v : World, HashAt (v.alloc (.cells HK 108)) v.heap.size) := by rw [hHK]; exact fun v => hash_new v
  have HHH := Lib.hid hHH
  have HKK := Lib.hid hKK
  clear hHH hKK hHK
  go_enter Tryd.func42, Tryd.ntmps42
  go_wp2_with fail
  refine (HWD.out w).mono ?_
  rintro e w2 ⟨rfl, g2⟩
  clear HWD
  go_upto_region 2 with (first
    | (refine wpList_store_row rfl 25 _ _ rfl w2.heap.size HH rfl rfl 25 _ (HK4.out w2) HJ25.out HZ25.out HO25.out ?_)
    | (refine wpList_store_row rfl 26 _ _ rfl (w2.heap.size + 1) KK rfl rfl 26 _ (HK5.out w2) HJ26.out HZ26.out HO26.out ?_))
  rw [HKB.out w2]
  have b4 : Blk (laidB w2) w2.heap.size HH 25 := by rw [HHH.out]; exact laid_H w2
  have b5 : Blk (laidB w2) (w2.heap.size + 1) KK 26 := by rw [HKK.out]; exact laid_K w2
  have g03 := g2.trans (laid_chg w2)
  clear HK4 HK5 HKB HO25 HO26 HZ25 HZ26 g2
  generalize laidB w2 = w3 at *
  generalize w2.heap.size + 1 = q5 at *
  generalize w2.heap.size = q4 at *
  have HR4 : Hid (w3.heap[q4]? = some (.cells HH 25 (0, 0))) := b4
  have HR5 : Hid (w3.heap[q5]? = some (.cells KK 26 (0, 0))) := b5
  have HN3 := Lib.hid (HNW.out w3)
  have g04 : Chg none w (w3.alloc (.cells HK 108)) := g03.alloc _
  clear b4 b5 HNW
  go_wp2_with (first
    | (refine wpList_load_row rfl 25 _ rfl q4 rfl 25 _ (0, 0) _ HR4.out Tryd.underlying25 rfl HJ25.out ?_)
    | (refine wpList_load_row rfl 26 _ rfl q5 rfl 26 _ (0, 0) _ HR5.out Tryd.underlying26 rfl HJ26.out ?_)
    | (refine wpList_buildTo rfl 108 _ rfl (some 9) rfl HK (by simp only [List.map_toArray, List.map_cons, List.map_nil]; exact HBU.out) ?_))
  go_ret
  exact ⟨_, rfl, HN3.out, g04⟩
set_option maxRecDepth 100000 in
set_option maxHeartbeats 8000000 in
theorem hsum_any (px : Nat) (p : Prt) (w : World) (hh : HashAt w px) (hp : p.ok w) (hn : p.x.length ≤ 1000000) :
    Calls Tryd.prog 58 #[.pointer (some ⟨px, 0, none⟩), .slice p.A p.x.length p.c] w fun e w' => e = .returned (.agg (byteVals (dig p.x)).toArray) ∧ Chg none w w' := by
  obtain ⟨W1, hW1⟩ : ∃ W1, W1 = w.alloc (.cells zero32 30) := ⟨_, rfl⟩
  have HW1 : Hid (w.alloc (.cells #[Value.int IntKind.u8 0, Value.int IntKind.u8 0, Value.int IntKind.u8 0, Value.int IntKind.u8 0, Value.int IntKind.u8 0, Value.int IntKind.u8 0, Value.int IntKind.u8 0, Value.int IntKind.u8 0, Value.int IntKind.u8 0, Value.int IntKind.u8 0, Value.int IntKind.u8 0, Value.int IntKind.u8 0, Value.int IntKind.u8 0, Value.int IntKind.u8 0, Value.int IntKind.u8 0, Value.int IntKind.u8 0, Value.int IntKind.u8 0, Value.int IntKind.u8 0, Value.int IntKind.u8 0, Value.int IntKind.u8 0, Value.int IntKind.u8 0, Value.int IntKind.u8 0, Value.int IntKind.u8 0, Value.int IntKind.u8 0, Value.int IntKind.u8 0, Value.int IntKind.u8 0, Value.int IntKind.u8 0, Value.int IntKind.u8 0, Value.int IntKind.u8 0, Value.int IntKind.u8 0, Value.int IntKind.u8 0, Value.int IntKind.u8 0] 30) = W1) := hW1.symm
  have g0 : Chg none w W1 := by rw [hW1]; exact (Chg.refl _ _).alloc _
  have bR : Blk W1 w.heap.size zero32 30 := by rw [hW1]; exact Blk.new _ _ _
  obtain ⟨T, hT⟩ : ∃ T, T = dig p.x := ⟨_, rfl⟩
  have hTl : T.length = 32 := by rw [hT, dig_len]
  obtain ⟨hts, hto⟩ := row_facts T 32 hTl
  have HIT := Lib.hid (show (Tryd.prog.info? 30).map (·.size) = some (byteVals T).toArray.size by rw [hts]; kernel_rfl)
  have HZT := Lib.hid (show zero32.size = (byteVals T).toArray.size by rw [hts]; rfl)
  have HOT := Lib.hid hto
  obtain ⟨HH, hHH⟩ : ∃ HH, HH = (H0.map u32v).toArray := ⟨_, rfl⟩
  obtain ⟨KK, hKK⟩ : ∃ KK, KK = (K0.map u32v).toArray := ⟨_, rfl⟩
  have HTG : Hid (∀ v, Chg none w v → Calls Tryd.prog 24 #[.agg HH, .agg KK, .slice p.A p.x.length p.c] v fun e w' => e = .returned (.agg (byteVals T).toArray) ∧ Chg none v w') := by
    rw [hHH, hKK, hT]; exact fun v g => sumr_any p v (hp.chg g) hn
  have HL25 : Hid ((Tryd.prog.info? 25).map (·.size) = some (H0.map u32v).length) := by show _ = _; kernel_rfl
  have HL26 : Hid ((Tryd.prog.info? 26).map (·.size) = some (K0.map u32v).length) := by show _ = _; kernel_rfl
  have hS := hh.chg g0 (by simp)
  have HNE : Hid (px ≠ w.heap.size) := by
    have h0 := hh.1 0 (u32v 1779033703) rfl
    have := World.block_lt_of_cell? w _ h0
    show px ≠ w.heap.size
    exact Nat.ne_of_lt this
  have HHH := Lib.hid hHH
  have HKK := Lib.hid hKK
  have HTT := Lib.hid hT
  clear hHH hKK hT hTl hts hto hW1 hp hh
  go_enter Tryd.func58, Tryd.ntmps58
  go_upto_region 1 with fail
  rw [HW1.out]
  clear HW1
  generalize hpR : w.heap.size = pR at *
  have HPR := Lib.hid hpR
  clear hpR
  have hS0 : HashAt W1.drew px := hS
  have E0 : Chg none w W1.drew := g0.drew
  have bR0 : Blk W1.drew pR zero32 30 := bR
  refine wp_region_held_drew (S := fun w' => HashAt w' px) (by kernel_rfl) hS0 (fun _ => ?_)
  clear hS g0 bR
  generalize W1.drew = v0 at *
  refine wpAnyH_take (i := 0) (oi := ⟨some 5, _, _, _, _, _⟩) (v := ?_) rfl (by kernel_rfl) (by kernel_rfl) (by kernel_rfl) (fun _ _ _ h => h) (Or.inl ⟨by rfl, ?_⟩) (by assumption) ?_
  rotate_left
  · intro w hSw; (try dsimp only at hSw); go_simp; (try with_reducible rfl)
  try simp only [Act.put, List.setIfInBounds_toArray, List.set_cons_zero, List.set_cons_succ]
  refine wpAnyH_take (i := 1) (oi := ⟨some 6, _, _, _, _, _⟩) (v := ?_) rfl (by kernel_rfl) (by kernel_rfl) (by kernel_rfl) (fun _ _ _ h => h) (Or.inl ⟨by rfl, ?_⟩) (by assumption) ?_
  rotate_left
  · intro w hSw; (try dsimp only at hSw); go_simp; (try with_reducible rfl)
  try simp only [Act.put, List.setIfInBounds_toArray, List.set_cons_zero, List.set_cons_succ]
  refine wpAnyH_take (i := 2) (oi := ⟨some 7, _, _, _, _, _⟩) (v := ?_) rfl (by kernel_rfl) (by kernel_rfl) (by kernel_rfl) (fun _ _ _ h => h) (Or.inl ⟨by rfl, ?_⟩) (by assumption) ?_
  rotate_left
  · intro w hSw; (try dsimp only at hSw); go_simp; (try with_reducible rfl)
  try simp only [Act.put, List.setIfInBounds_toArray, List.set_cons_zero, List.set_cons_succ]
  refine wpAnyH_take (i := 3) (oi := ⟨some 8, _, _, _, _, _⟩) (v := .agg HH) rfl (by kernel_rfl) (by kernel_rfl) (by kernel_rfl) (fun _ _ _ h => h) (by rw [HHH.out]; exact yieldsIf_load_mid (by rfl) 25 _ rfl px 0 rfl (H0.map u32v) _ (fun _ h => h.1) Tryd.underlying25 rfl HL25.out) (by assumption) ?_
  try simp only [Act.put, List.setIfInBounds_toArray, List.set_cons_zero, List.set_cons_succ]
  refine wpAnyH_take (i := 4) (oi := ⟨some 9, _, _, _, _, _⟩) (v := ?_) rfl (by kernel_rfl) (by kernel_rfl) (by kernel_rfl) (fun _ _ _ h => h) (Or.inl ⟨by rfl, ?_⟩) (by assumption) ?_
  rotate_left
  · intro w hSw; (try dsimp only at hSw); go_simp; (try with_reducible rfl)
  try simp only [Act.put, List.setIfInBounds_toArray, List.set_cons_zero, List.set_cons_succ]
  refine wpAnyH_take (i := 5) (oi := ⟨some 10, _, _, _, _, _⟩) (v := ?_) rfl (by kernel_rfl) (by kernel_rfl) (by kernel_rfl) (fun _ _ _ h => h) (Or.inl ⟨by rfl, ?_⟩) (by assumption) ?_
  rotate_left
  · intro w hSw; (try dsimp only at hSw); go_simp; (try with_reducible rfl)
  try simp only [Act.put, List.setIfInBounds_toArray, List.set_cons_zero, List.set_cons_succ]
  refine wpAnyH_take (i := 6) (oi := ⟨some 11, _, _, _, _, _⟩) (v := ?_) rfl (by kernel_rfl) (by kernel_rfl) (by kernel_rfl) (fun _ _ _ h => h) (Or.inl ⟨by rfl, ?_⟩) (by assumption) ?_
  rotate_left
  · intro w hSw; (try dsimp only at hSw); go_simp; (try with_reducible rfl)
  try simp only [Act.put, List.setIfInBounds_toArray, List.set_cons_zero, List.set_cons_succ]
  refine wpAnyH_take (i := 7) (oi := ⟨some 12, _, _, _, _, _⟩) (v := .agg KK) rfl (by kernel_rfl) (by kernel_rfl) (by kernel_rfl) (fun _ _ _ h => h) (by rw [HKK.out]; exact yieldsIf_load_mid (by rfl) 26 _ rfl px 8 rfl (K0.map u32v) _ (fun _ h => h.2) Tryd.underlying26 rfl HL26.out) (by assumption) ?_
  try simp only [Act.put, List.setIfInBounds_toArray, List.set_cons_zero, List.set_cons_succ]
  refine wpAnyH_take (i := 8) (oi := ⟨some 13, _, _, _, _, _⟩) (v := ?_) rfl (by kernel_rfl) (by kernel_rfl) (by kernel_rfl) (fun _ _ _ h => h) (Or.inl ⟨by rfl, ?_⟩) (by assumption) ?_
  rotate_left
  · intro w hSw; (try dsimp only at hSw); go_simp; (try with_reducible rfl)
  try simp only [Act.put, List.setIfInBounds_toArray, List.set_cons_zero, List.set_cons_succ]
  refine wpAnyH_ready (rs := [9]) (by kernel_rfl) (by simp) ?_
  refine AllReadyH.cons (o := ⟨some 14, _, _, _, _, _⟩) rfl (fun K hK => ?_) (AllReadyH.nil)
  go_simp
  go_at_call 24
  refine (HTG.out _ E0).mono ?_
  rintro e v1 ⟨rfl, g1⟩
  have E1 := E0.trans g1
  have hS1 : HashAt v1 px := HashAt.chg hS0 g1 (by simp)
  have bR1 := Blk.chg bR0 g1 (by simp)
  go_wp2_with fail
  refine hK.out _ _ hS1 (fun _ => ?_)
  clear hK K
  try simp only [Act.put, List.setIfInBounds_toArray, List.set_cons_zero, List.set_cons_succ]
  refine wpAnyH_ready (rs := [10]) (by kernel_rfl) (by simp) ?_
  refine AllReadyH.cons (o := ⟨none, _, _, _, _, _⟩) rfl (fun K hK => ?_) (AllReadyH.nil)
  rw [if_pos (by rfl)]
  have hne : pR ≠ px := fun h => HNE.out h.symm
  have hS2 : HashAt (World.setRow v1 pR (byteVals T).toArray) px := HashAt.chg hS1 (chg_setRow _ _ _) (by simp; exact fun h => hne h.symm)
  refine wp_store_row 30 (.tmp 4) (.tmp 14) (by rfl) pR (byteVals T).toArray (by rfl) (by rfl) 30 zero32 bR1 HIT.out HZT.out HOT.out ?_
  refine hK.out _ _ hS2 (fun _ => ?_)
  clear hK K
  refine wpAnyH_done (by kernel_rfl) ?_ _
  try simp only [Act.put]
  go_wp2_with fail
  refine bodyPost_ret (results_cell_row (p := 4) (ty := 30) Tryd.results58 _ _ pR 30 (byteVals T).toArray (0, 0) _ rfl (setRow_heap _ _ _ _ _ _ bR1) Tryd.underlying30 rfl HIT.out) rfl ⟨by rw [HTT.out], ?_⟩
  exact Chg.own (b := pR) E1 (chg_setRow _ _ _) (by rw [HPR.out]; exact Nat.le_refl _)

end Go.Proofs.YtkcammaccgkflaaDoor
