/-
  Walks over package claims: an op's claim (16).
-/
import Derived.Test.YtnpmfigcfikdgaaS
import Derived.Laws.CopyRow
import Derived.Deep.Cut
namespace Go.Proofs.Ytnpmfigcfikdgaa
open Go.RowKit Go.Maps

/-- A call that comes in. -/
structure Opn where
  kind : Int
  by_ : Int
  key : Int
  c : Cl
  hk : 0 ≤ key ∧ key ≤ 255
def Opn.cells (o : Opn) : List Value := [.int .i64 o.kind, .int .i64 o.by_, .int .u8 o.key] ++ o.c.cells
theorem Opn.len (o : Opn) : o.cells.length = 39 := by unfold Opn.cells; rw [List.length_append, o.c.len]; rfl
theorem mod3 {k : Int} (h : 0 ≤ k ∧ k ≤ 255) : 0 ≤ k.tmod 3 ∧ k.tmod 3 ≤ 255 := by
  have := Int.tmod_lt_of_pos k (show (0 : Int) < 3 by omega)
  have := Int.tmod_nonneg (3 : Int) h.1
  omega
def Opn.dig (o : Opn) : Dig := keyDig (o.key.tmod 3) (mod3 o.hk)
def Opn.cl (o : Opn) : Cl := { o.c with d := o.dig }

theorem wpList_store_head {P : Program} {ops : Array Oper} {rest : List Oper} {op : Oper} {a : Act} {w : World} {Q : Exit → Act → World → Prop} (hgd : op.guard = none) (ty : TypeId) (x y : Operand) (ho : op.op = .store ty x y)
    (b : Nat) (cells : Array Value) (hx : a.eval x = .pointer (some ⟨b, 0, none⟩)) (hy : a.eval y = .agg cells) (cur : Array Value) (t : TypeId) (hg : w.heap[b]? = some (.cells cur t (0, 0))) (hle : cells.size ≤ cur.size)
    (hi : (P.info? ty).map (·.size) = some cells.size) (h1 : cells.all (·.oneCell') = true)
    (h : wpList P ops Q rest (a.put op.dst undef) (w.setRow b (cells.toList ++ cur.toList.drop cells.size).toArray)) : wpList P ops Q (op :: rest) a w :=
  wpList_plain hgd fun _ hK => by
    have this := run_storeCells_at (P := P) b 0 t cells.toList 0 cur w hg (by simpa using hle) (fun v hv => (Array.all_eq_true_iff_forall_mem.1 h1) v (by simpa using hv))
    have hsv : (storeVar ty ⟨b, 0, none⟩ (.agg cells)).run P w = .ok () (w.setRow b (cells.toList ++ cur.toList.drop cells.size).toArray) := by
      cases hq : P.info? ty with
      | none => simp [hq] at hi
      | some i =>
        have hs : cells.size = i.size := by simp [hq] at hi; omega
        simp only [Nat.add_zero, List.take_zero, List.nil_append, Nat.zero_add, Array.length_toList] at this
        simp only [storeVar, sizeOf, typeInfo, Value.cells, hs]
        rw [hs] at this
        simp [this, hq]
    unfold Oper.wp execOp
    simp only [ho, hx, hy, Instr.storeAt, Instr.sureAddr, Sem.run_bind, Sem.run_pure, Result.andThen_ok, hsv]
    exact hK _ _ h

theorem cl_drop (c : Cl) (d : Dig) : d.cells.toArray.toList ++ c.cells.toArray.toList.drop d.cells.toArray.size = ({ c with d := d } : Cl).cells := by
  have h1 := c.d.cells_len
  have h2 := d.cells_len
  simp only [List.size_toArray]
  unfold Cl.cells clCells
  rw [h2, List.drop_append_of_le_length (by omega), List.drop_eq_nil_of_le (by omega)]
  rfl

set_option maxRecDepth 100000 in
set_option maxHeartbeats 2000000 in
theorem opclaim_any (o : Opn) (w : World) : Calls Try.prog 16 #[.agg o.cells.toArray] w fun e w' => e = .returned (.agg o.cl.cells.toArray) ∧ Chg none w w' := by
  obtain ⟨w1, hw1⟩ : ∃ v, v = (w.alloc (.cells o.cells.toArray 35)).alloc (.cells #[.int .u8 0, .int .u8 0, .int .u8 0, .int .u8 0, .int .u8 0, .int .u8 0, .int .u8 0, .int .u8 0, .int .u8 0, .int .u8 0, .int .u8 0, .int .u8 0, .int .u8 0, .int .u8 0, .int .u8 0, .int .u8 0, .int .u8 0, .int .u8 0, .int .u8 0, .int .u8 0, .int .u8 0, .int .u8 0, .int .u8 0, .int .u8 0, .int .u8 0, .int .u8 0, .int .u8 0, .int .u8 0, .int .u8 0, .int .u8 0, .int .u8 0, .int .u8 0, .int .i64 0, .int .u64 0, .int .u64 0, .bool false] 33) := ⟨_, rfl⟩
  obtain ⟨w3, hw3⟩ : ∃ v, v = w1.alloc (.cells #[.int .u8 0, .int .u8 0, .int .u8 0, .int .u8 0, .int .u8 0, .int .u8 0, .int .u8 0, .int .u8 0, .int .u8 0, .int .u8 0, .int .u8 0, .int .u8 0, .int .u8 0, .int .u8 0, .int .u8 0, .int .u8 0, .int .u8 0, .int .u8 0, .int .u8 0, .int .u8 0, .int .u8 0, .int .u8 0, .int .u8 0, .int .u8 0, .int .u8 0, .int .u8 0, .int .u8 0, .int .u8 0, .int .u8 0, .int .u8 0, .int .u8 0, .int .u8 0, .int .i64 0, .int .u64 0, .int .u64 0, .bool false] 33) := ⟨_, rfl⟩
  obtain ⟨w4, hw4⟩ : ∃ v, v = w3.setRow (w.heap.size + 2) o.c.cells.toArray := ⟨_, rfl⟩
  obtain ⟨w5, hw5⟩ : ∃ v, v = w4.setRow (w.heap.size + 2) o.cl.cells.toArray := ⟨_, rfl⟩
  obtain ⟨w6, hw6⟩ : ∃ v, v = w5.setRow (w.heap.size + 1) o.cl.cells.toArray := ⟨_, rfl⟩
  have s1 : w1.heap.size = w.heap.size + 2 := by rw [hw1]; simp
  have b0 : Blk w1 w.heap.size o.cells.toArray 35 := by rw [hw1]; exact (Blk.new w _ _).alloc _
  have b1 : Blk w1 (w.heap.size + 1) #[.int .u8 0, .int .u8 0, .int .u8 0, .int .u8 0, .int .u8 0, .int .u8 0, .int .u8 0, .int .u8 0, .int .u8 0, .int .u8 0, .int .u8 0, .int .u8 0, .int .u8 0, .int .u8 0, .int .u8 0, .int .u8 0, .int .u8 0, .int .u8 0, .int .u8 0, .int .u8 0, .int .u8 0, .int .u8 0, .int .u8 0, .int .u8 0, .int .u8 0, .int .u8 0, .int .u8 0, .int .u8 0, .int .u8 0, .int .u8 0, .int .u8 0, .int .u8 0, .int .i64 0, .int .u64 0, .int .u64 0, .bool false] 33 := by rw [hw1]; exact new_after _ _ _ _ (by simp)
  have g1 : Chg none w w1 := by rw [hw1]; exact ((Chg.refl _ _).alloc _).alloc _
  have b0' : Blk w3 w.heap.size o.cells.toArray 35 := by rw [hw3]; exact b0.alloc _
  have b1' : Blk w3 (w.heap.size + 1) #[.int .u8 0, .int .u8 0, .int .u8 0, .int .u8 0, .int .u8 0, .int .u8 0, .int .u8 0, .int .u8 0, .int .u8 0, .int .u8 0, .int .u8 0, .int .u8 0, .int .u8 0, .int .u8 0, .int .u8 0, .int .u8 0, .int .u8 0, .int .u8 0, .int .u8 0, .int .u8 0, .int .u8 0, .int .u8 0, .int .u8 0, .int .u8 0, .int .u8 0, .int .u8 0, .int .u8 0, .int .u8 0, .int .u8 0, .int .u8 0, .int .u8 0, .int .u8 0, .int .i64 0, .int .u64 0, .int .u64 0, .bool false] 33 := by rw [hw3]; exact b1.alloc _
  have b2 : Blk w3 (w.heap.size + 2) #[.int .u8 0, .int .u8 0, .int .u8 0, .int .u8 0, .int .u8 0, .int .u8 0, .int .u8 0, .int .u8 0, .int .u8 0, .int .u8 0, .int .u8 0, .int .u8 0, .int .u8 0, .int .u8 0, .int .u8 0, .int .u8 0, .int .u8 0, .int .u8 0, .int .u8 0, .int .u8 0, .int .u8 0, .int .u8 0, .int .u8 0, .int .u8 0, .int .u8 0, .int .u8 0, .int .u8 0, .int .u8 0, .int .u8 0, .int .u8 0, .int .u8 0, .int .u8 0, .int .i64 0, .int .u64 0, .int .u64 0, .bool false] 33 := by rw [hw3, ← s1]; exact Blk.new w1 _ _
  have g3 : Chg none w w3 := by rw [hw3]; exact g1.alloc _
  have b0'' : Blk w4 w.heap.size o.cells.toArray 35 := by rw [hw4]; exact (setRow_other _ _ _ _ (by omega)).trans b0'
  have b1'' : Blk w4 (w.heap.size + 1) #[.int .u8 0, .int .u8 0, .int .u8 0, .int .u8 0, .int .u8 0, .int .u8 0, .int .u8 0, .int .u8 0, .int .u8 0, .int .u8 0, .int .u8 0, .int .u8 0, .int .u8 0, .int .u8 0, .int .u8 0, .int .u8 0, .int .u8 0, .int .u8 0, .int .u8 0, .int .u8 0, .int .u8 0, .int .u8 0, .int .u8 0, .int .u8 0, .int .u8 0, .int .u8 0, .int .u8 0, .int .u8 0, .int .u8 0, .int .u8 0, .int .u8 0, .int .u8 0, .int .i64 0, .int .u64 0, .int .u64 0, .bool false] 33 := by rw [hw4]; exact (setRow_other _ _ _ _ (by omega)).trans b1'
  have b2' : Blk w4 (w.heap.size + 2) o.c.cells.toArray 33 := by rw [hw4]; exact setRow_heap _ _ _ _ _ _ b2
  have b1t : Blk w5 (w.heap.size + 1) #[.int .u8 0, .int .u8 0, .int .u8 0, .int .u8 0, .int .u8 0, .int .u8 0, .int .u8 0, .int .u8 0, .int .u8 0, .int .u8 0, .int .u8 0, .int .u8 0, .int .u8 0, .int .u8 0, .int .u8 0, .int .u8 0, .int .u8 0, .int .u8 0, .int .u8 0, .int .u8 0, .int .u8 0, .int .u8 0, .int .u8 0, .int .u8 0, .int .u8 0, .int .u8 0, .int .u8 0, .int .u8 0, .int .u8 0, .int .u8 0, .int .u8 0, .int .u8 0, .int .i64 0, .int .u64 0, .int .u64 0, .bool false] 33 := by rw [hw5]; exact (setRow_other _ _ _ _ (by omega)).trans b1''
  have b2t : Blk w5 (w.heap.size + 2) o.cl.cells.toArray 33 := by rw [hw5]; exact setRow_heap _ _ _ _ _ _ b2'
  have b1f : Blk w6 (w.heap.size + 1) o.cl.cells.toArray 33 := by rw [hw6]; exact setRow_heap _ _ _ _ _ _ b1t
  have HG6 : Hid (Chg none w w6) := Lib.hid (by
    rw [hw6, hw5, hw4]
    exact Chg.own (Chg.own (Chg.own g3 (chg_setRow _ _ _) (by omega)) (chg_setRow _ _ _) (by omega)) (chg_setRow _ _ _) (by omega))
  have HR0 : Hid (w1.rangeAt w.heap.size 3 o.c.cells) := Lib.hid fun j v hv => by
    rw [b0.cell (3 + j)]
    unfold Opn.cells
    rw [List.getElem?_toArray, List.getElem?_append_right (by simp)]
    simpa using hv
  have HR2 : Hid (w5.rangeAt (w.heap.size + 2) 0 o.cl.cells) := Lib.hid (rangeAt_blk b2t)
  have k2 : w4.cell? ⟨w.heap.size, 2, none⟩ = some (.int .u8 o.key) := by rw [b0''.cell 2]; rfl
  have hcs : ∀ c : Cl, c.cells.toArray.size = 36 := fun c => by rw [List.size_toArray, c.len]
  have HI33 : Hid ((Try.prog.info? 33).map (·.size) = some o.c.cells.length) := Lib.hid (by rw [o.c.len]; kernel_rfl)
  have HI33a : Hid ((Try.prog.info? 33).map (·.size) = some o.c.cells.toArray.size) := Lib.hid (by rw [hcs]; kernel_rfl)
  have HI33b : Hid ((Try.prog.info? 33).map (·.size) = some o.cl.cells.length) := Lib.hid (by rw [o.cl.len]; kernel_rfl)
  have HI33c : Hid ((Try.prog.info? 33).map (·.size) = some o.cl.cells.toArray.size) := Lib.hid (by rw [hcs]; kernel_rfl)
  have HI31 := Lib.hid (info31' o.dig)
  have HO31 := Lib.hid (dig_all o.dig)
  have HOa := Lib.hid (cl_one o.c.d o.c.node o.c.inc o.c.count o.c.gone)
  have HOb := Lib.hid (cl_one o.cl.d o.cl.node o.cl.inc o.cl.count o.cl.gone)
  have HSa : Hid ((#[.int .u8 0, .int .u8 0, .int .u8 0, .int .u8 0, .int .u8 0, .int .u8 0, .int .u8 0, .int .u8 0, .int .u8 0, .int .u8 0, .int .u8 0, .int .u8 0, .int .u8 0, .int .u8 0, .int .u8 0, .int .u8 0, .int .u8 0, .int .u8 0, .int .u8 0, .int .u8 0, .int .u8 0, .int .u8 0, .int .u8 0, .int .u8 0, .int .u8 0, .int .u8 0, .int .u8 0, .int .u8 0, .int .u8 0, .int .u8 0, .int .u8 0, .int .u8 0, .int .i64 0, .int .u64 0, .int .u64 0, .bool false] : Array Value).size = o.c.cells.toArray.size) := Lib.hid (by rw [hcs]; rfl)
  have HSb : Hid ((#[.int .u8 0, .int .u8 0, .int .u8 0, .int .u8 0, .int .u8 0, .int .u8 0, .int .u8 0, .int .u8 0, .int .u8 0, .int .u8 0, .int .u8 0, .int .u8 0, .int .u8 0, .int .u8 0, .int .u8 0, .int .u8 0, .int .u8 0, .int .u8 0, .int .u8 0, .int .u8 0, .int .u8 0, .int .u8 0, .int .u8 0, .int .u8 0, .int .u8 0, .int .u8 0, .int .u8 0, .int .u8 0, .int .u8 0, .int .u8 0, .int .u8 0, .int .u8 0, .int .i64 0, .int .u64 0, .int .u64 0, .bool false] : Array Value).size = o.cl.cells.toArray.size) := Lib.hid (by rw [hcs]; rfl)
  have HLE : Hid (o.dig.cells.toArray.size ≤ o.c.cells.toArray.size) := Lib.hid (by rw [hcs, List.size_toArray, o.dig.cells_len]; omega)
  have HBD := Lib.hid (built31 (o.key.tmod 3) (mod3 o.hk))
  have HB2 := Lib.hid b2
  have HB2' := Lib.hid b2'
  have HB1t := Lib.hid b1t
  have HB1f := Lib.hid b1f
  have HCD := Lib.hid (cl_drop o.c o.dig)
  have HW1 := Lib.hid hw1
  have HW3 := Lib.hid hw3
  have HW4 := Lib.hid hw4
  have HW5 := Lib.hid hw5
  have HW6 := Lib.hid hw6
  clear hw1 hw3 hw4 hw5 hw6 b0 b1 b0' b1' b2 b0'' b1'' b2' b1t b2t b1f g1 g3 hcs
  go_enter Try.func16, Try.ntmps16
  go_upto_region 1 with fail
  rw [← HW1.out]
  go_wp2_with (first
    | (refine wpList_load_mid rfl 33 _ rfl w.heap.size 3 rfl o.c.cells _ HR0.out Try.underlying33 rfl HI33.out ?_)
    | (rw [← HW3.out]; refine wpList_store_row rfl 33 _ _ rfl (w.heap.size + 2) o.c.cells.toArray rfl rfl 33 _ HB2.out HI33a.out HSa.out HOa.out ?_; rw [← HW4.out])
    | (refine wpList_build_is rfl 31 _ rfl o.dig.cells.toArray (by simp only [List.map_toArray, List.map_cons, List.map_nil]; exact HBD.out) ?_)
    | (refine wpList_store_head rfl 31 _ _ rfl (w.heap.size + 2) o.dig.cells.toArray rfl rfl _ 33 HB2'.out HLE.out HI31.out HO31.out ?_; rw [HCD.out]; refine Eq.mp (congrArg (wpList _ _ _ _ _) HW5.out) ?_)
    | (refine wpList_load_mid rfl 33 _ rfl (w.heap.size + 2) 0 rfl o.cl.cells _ HR2.out Try.underlying33 rfl HI33b.out ?_)
    | (refine wpList_store_row rfl 33 _ _ rfl (w.heap.size + 1) o.cl.cells.toArray rfl rfl 33 _ HB1t.out HI33c.out HSb.out HOb.out ?_; rw [← HW6.out]))
  exact bodyPost_ret (results_cell_row (p := 2) (ty := 33) Try.results16 _ _ (w.heap.size + 1) 33 o.cl.cells.toArray (0, 0) _ rfl HB1f.out Try.underlying33 rfl HI33c.out) rfl ⟨rfl, HG6.out⟩

end Go.Proofs.Ytnpmfigcfikdgaa
