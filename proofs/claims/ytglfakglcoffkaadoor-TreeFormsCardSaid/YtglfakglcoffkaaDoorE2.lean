/-
  Package sha: Sum.
-/
import Derived.Test.YtglfakglcoffkaaDoorE1
namespace Go.Proofs.YtglfakglcoffkaaDoor
open Go.RowKit

/-- The bytes bs, as a slice of so many. -/
def Txt (w : World) (A : Option Addr) (bs : List UInt8) : Prop :=
  0 < bs.length → ∃ sb so, A = some ⟨sb, so, none⟩ ∧ sb < w.heap.size ∧ ∀ j c, bs[j]? = some c → w.cell? ⟨sb, so + j, none⟩ = some (.int .u8 c.toNat)

theorem Txt.src {w w' : World} {A : Option Addr} {bs : List UInt8} {b : Nat} (h : Txt w A bs) (g : Chg none w w') (hb : w.heap.size ≤ b) : Src w' b A bs := fun h0 => by
  obtain ⟨sb, so, e, hlt, hc⟩ := h h0
  exact ⟨sb, so, e, by omega, Nat.lt_of_lt_of_le hlt g.size, fun j c hj => World.grownBy.cell g (hc j c hj) (by simp)⟩
theorem Txt.chg {w w' : World} {A : Option Addr} {bs : List UInt8} (h : Txt w A bs) (g : Chg none w w') : Txt w' A bs := fun h0 => by
  obtain ⟨sb, so, e, hlt, hc⟩ := h h0
  exact ⟨sb, so, e, Nat.lt_of_lt_of_le hlt g.size, fun j c hj => World.grownBy.cell g (hc j c hj) (by simp)⟩

def h0Cells : List Value := [.int .u32 1779033703, .int .u32 3144134277, .int .u32 1013904242, .int .u32 2773480762, .int .u32 1359893119, .int .u32 2600822924, .int .u32 528734635, .int .u32 1541459225]
def newCells : Array Value := (h0Cells ++ (List.replicate 64 (Value.int .u8 0) ++ [Value.int .i64 0, Value.int .u64 0])).toArray
theorem built68 : Tryd.prog.built 79 [(0, .agg h0Cells.toArray)] = some newCells := by kernel_rfl
theorem new_hs {w : World} {b : Nat} (h : Blk w b newCells 79) : HsAt w b [] :=
  ⟨List.replicate 64 (Value.int .u8 0), rfl, by intro v hv; rw [List.eq_of_mem_replicate hv]; rfl, rfl, h⟩
theorem Tabs.first {w : World} (h : Tabs w) : w.rangeAt 0 0 h0Cells := by
  intro j v hj
  have hj8 : j < 8 := (List.getElem?_eq_some_iff.1 hj).1
  rw [Nat.zero_add, h.h j hj8]
  match j, hj8 with
  | 0, _ => exact hj
  | 1, _ => exact hj
  | 2, _ => exact hj
  | 3, _ => exact hj
  | 4, _ => exact hj
  | 5, _ => exact hj
  | 6, _ => exact hj
  | 7, _ => exact hj

set_option maxRecDepth 100000 in
set_option maxHeartbeats 4000000 in
theorem sum_any (A : Option Addr) (x : List UInt8) (c : Nat) (w : World) (hA : Txt w A x) (hc : x.length ≤ c) (hx : x.length < 1000000000000000) (hT : Tabs w) :
    Calls Tryd.prog 17 #[.slice A x.length c] w fun e w' => e = .returned (.agg (byteVals (dig x)).toArray) ∧ Chg none w w' := by
  have hlt2 := hT.lt
  go_enter Tryd.func17, Tryd.ntmps17
  go_upto_region 1 with (fail)
  obtain ⟨W1, hW1⟩ : ∃ W1, W1 = w.alloc (.cells zero32 30) := ⟨_, rfl⟩
  have hsr : w.alloc (.cells #[Value.int IntKind.u8 0, Value.int IntKind.u8 0, Value.int IntKind.u8 0, Value.int IntKind.u8 0, Value.int IntKind.u8 0, Value.int IntKind.u8 0, Value.int IntKind.u8 0, Value.int IntKind.u8 0, Value.int IntKind.u8 0, Value.int IntKind.u8 0, Value.int IntKind.u8 0, Value.int IntKind.u8 0, Value.int IntKind.u8 0, Value.int IntKind.u8 0, Value.int IntKind.u8 0, Value.int IntKind.u8 0, Value.int IntKind.u8 0, Value.int IntKind.u8 0, Value.int IntKind.u8 0, Value.int IntKind.u8 0, Value.int IntKind.u8 0, Value.int IntKind.u8 0, Value.int IntKind.u8 0, Value.int IntKind.u8 0, Value.int IntKind.u8 0, Value.int IntKind.u8 0, Value.int IntKind.u8 0, Value.int IntKind.u8 0, Value.int IntKind.u8 0, Value.int IntKind.u8 0, Value.int IntKind.u8 0, Value.int IntKind.u8 0] 30) = W1 := hW1.symm
  rw [hsr]
  have g1 : Chg none w W1 := by rw [hW1]; exact (Chg.refl _ _).alloc _
  have hR : Blk W1 w.heap.size zero32 30 := by rw [hW1]; exact Blk.new _ _ _
  have hs1 : W1.heap.size = w.heap.size + 1 := by rw [hW1]; simp
  have hT1 := hT.chg g1 (by simp)
  have HRG := Lib.hid hT1.first
  have HI25 : Hid ((Tryd.prog.info? 25).map (·.size) = some h0Cells.length) := by show _ = _; kernel_rfl
  have HI68 : Hid ((Tryd.prog.info? 79).map (·.size) = some newCells.size) := by show _ = _; kernel_rfl
  have HB := Lib.hid built68
  have HO : Hid (newCells.all (·.oneCell') = true) := by show _ = _; kernel_rfl
  have HZ : Hid (Tryd.zeroCells79.size = newCells.size) := by show _ = _; kernel_rfl
  have HS1 := Lib.hid hs1
  have hZ68 : ∀ W : World, (W.alloc (.cells Tryd.zeroCells79 79)).heap[W.heap.size]? = some (.cells Tryd.zeroCells79 79 (0, 0)) := fun W => heap_alloc_new W _
  have HZ68 := Lib.hid hZ68
  clear hsr hW1 hs1 hZ68
  go_wp2_with (first
    | (refine wpList_load_mid rfl 25 _ rfl 0 0 rfl h0Cells _ HRG.out Tryd.underlying25 rfl HI25.out ?_)
    | (refine wpList_buildTo rfl 79 _ rfl (some 5) rfl newCells (by simp only [List.map_toArray, List.map_cons, List.map_nil]; exact HB.out) ?_)
    | (refine wpList_store_row rfl 79 _ _ rfl W1.heap.size newCells rfl rfl 79 _ (HZ68.out W1) HI68.out HZ.out HO.out ?_))
  obtain ⟨W2, hW2⟩ : ∃ W2, W2 = (W1.alloc (.cells Tryd.zeroCells79 79)).setRow W1.heap.size newCells := ⟨_, rfl⟩
  rw [← hW2]
  have hN2 : Blk W2 W1.heap.size newCells 79 := by rw [hW2]; exact setRow_heap _ _ _ _ _ _ (HZ68.out W1)
  have g12 : Chg none W1 W2 := by
    rw [hW2]
    exact Chg.own (b := W1.heap.size) ((Chg.refl none W1).alloc _) (chg_setRow _ _ _) (Nat.le_refl _)
  have hR2 := hR.chg g12 (by simp)
  have g2 := g1.trans g12
  have hA2 := Txt.src hA g2 (b := W1.heap.size) (by rw [HS1.out]; omega)
  have hT2 := hT1.chg g12 (by simp)
  have htk := take_any W1.heap.size [] x A c W2 (new_hs hN2) (by simp only [List.length_nil]; omega) hA2 hc hT2 (by rw [HS1.out]; omega)
  rw [List.nil_append] at htk
  have HTK := Lib.hid htk
  have hlt1 : w.heap.size < W1.heap.size := by rw [HS1.out]; omega
  have hb1 : 3 ≤ W1.heap.size := by omega
  clear hW2 htk hA2 hN2 g12 hR HRG HB HO HZ HZ68 hT1 hT
  generalize W1.heap.size = b at *
  refine HTK.out.mono ?_
  rintro e w3 ⟨rfl, hH3, g3⟩
  have hT3 := hT2.chg g3 (by simp; omega)
  have hR3 := hR2.chg g3 (by simp; omega)
  have HDG := Lib.hid (digest_any b x w3 hH3 hx hT3 hb1)
  clear hT2 hR2 HTK
  go_wp2_with fail
  refine HDG.out.mono ?_
  rintro e w4 ⟨rfl, g4⟩
  have hR4 := hR3.chg g4 (by simp; omega)
  have hcs : (byteVals (dig x)).toArray.size = 32 := by rw [List.size_toArray, byteVals_len, dig_len]
  have hone : (byteVals (dig x)).toArray.all (·.oneCell') = true := Array.all_eq_true_iff_forall_mem.2 (fun v hv => byteVals_one _ v (by simpa using hv))
  have hinf : (Tryd.prog.info? 30).map (·.size) = some (byteVals (dig x)).toArray.size := by rw [hcs]; kernel_rfl
  have HI := Lib.hid hinf
  have HO := Lib.hid hone
  have HC := Lib.hid hcs
  have g5 : Chg none w w4 := Chg.own (b := b) g2 (g3.trans g4) (by omega)
  clear hinf hone hcs hR3 hT3 hH3 g3 g4 HDG
  go_wp2_with (refine wpList_store_row rfl 30 _ _ rfl w.heap.size (byteVals (dig x)).toArray rfl rfl 30 _ hR4 HI.out (by rw [HC.out]; rfl) HO.out ?_)
  refine bodyPost_ret (results_cell_row (p := 2) (ty := 30) Tryd.results17 _ _ w.heap.size 30 (byteVals (dig x)).toArray (0, 0) _ rfl (setRow_heap _ _ _ _ _ _ hR4) Tryd.underlying30 rfl HI.out) rfl ⟨rfl, ?_⟩
  exact Chg.own (b := w.heap.size) g5 (chg_setRow _ _ _) (Nat.le_refl _)

end Go.Proofs.YtglfakglcoffkaaDoor
