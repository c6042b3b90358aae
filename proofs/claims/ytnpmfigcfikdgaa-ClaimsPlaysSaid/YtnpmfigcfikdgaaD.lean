/-
  Walks over package claims: a claim is made.
-/
import Derived.Test.YtnpmfigcfikdgaaC
namespace Go.Proofs.Ytnpmfigcfikdgaa
open Go.RowKit Go.Maps

def clCells (d : Dig) (node inc count : Int) (gone : Bool) : List Value := d.cells ++ [.int .i64 node, .int .u64 inc, .int .u64 count, .bool gone]
theorem clCells_len (d : Dig) (a b c : Int) (g : Bool) : (clCells d a b c g).length = 36 := by unfold clCells; rw [List.length_append, d.cells_len]; rfl
theorem plCells_len (d : Dig) (a : Int) : (plCells d a).length = 33 := by unfold plCells; rw [List.length_append, d.cells_len]; rfl

theorem built33 (d : Dig) (a b c : Int) (g : Bool) : Try.prog.built 33 [(0, .agg d.cells.toArray), (1, .int .i64 a), (2, .int .u64 b), (3, .int .u64 c), (4, .bool g)] = some (clCells d a b c g).toArray := by
  obtain ⟨L, hL, hb⟩ := d
  match L, hL with
  | [a0, a1, a2, a3, a4, a5, a6, a7, a8, a9, a10, a11, a12, a13, a14, a15, a16, a17, a18, a19, a20, a21, a22, a23, a24, a25, a26, a27, a28, a29, a30, a31], _ => show _ = _; kernel_rfl
theorem built71 (d : Dig) (a : Int) : Try.prog.built 71 [(0, .agg d.cells.toArray), (1, .int .i64 a)] = some (plCells d a).toArray := by
  obtain ⟨L, hL, hb⟩ := d
  match L, hL with
  | [a0, a1, a2, a3, a4, a5, a6, a7, a8, a9, a10, a11, a12, a13, a14, a15, a16, a17, a18, a19, a20, a21, a22, a23, a24, a25, a26, a27, a28, a29, a30, a31], _ => show _ = _; kernel_rfl

theorem dig_one (d : Dig) : ∀ v ∈ d.cells, v.oneCell' = true := by
  intro v hv
  obtain ⟨b, _, rfl⟩ := List.mem_map.1 hv
  rfl
theorem cl_one (d : Dig) (a b c : Int) (g : Bool) : (clCells d a b c g).toArray.all (·.oneCell') = true := by
  rw [Array.all_eq_true_iff_forall_mem]
  intro v hv
  rw [List.mem_toArray] at hv
  unfold clCells at hv
  rcases List.mem_append.1 hv with h | h
  · exact dig_one d v h
  · simp at h; rcases h with rfl | rfl | rfl | rfl <;> rfl
theorem pl_one (d : Dig) (a : Int) : (plCells d a).toArray.all (·.oneCell') = true := by
  rw [Array.all_eq_true_iff_forall_mem]
  intro v hv
  rw [List.mem_toArray] at hv
  unfold plCells at hv
  rcases List.mem_append.1 hv with h | h
  · exact dig_one d v h
  · simp at h; rw [h]; rfl
theorem info31 (d : Dig) : (Try.prog.info? 31).map (·.size) = some d.cells.length := by rw [d.cells_len]; kernel_rfl
theorem info33 (d : Dig) (a b c : Int) (g : Bool) : (Try.prog.info? 33).map (·.size) = some (clCells d a b c g).toArray.size := by rw [List.size_toArray, clCells_len]; kernel_rfl
theorem info71 (d : Dig) (a : Int) : (Try.prog.info? 71).map (·.size) = some (plCells d a).toArray.size := by rw [List.size_toArray, plCells_len]; kernel_rfl

theorem chg_setRow (w : World) (g : Nat) (cs : Array Value) : Chg (some g) w (w.setRow g cs) :=
  ⟨rfl, rfl, rfl, by simp [World.setRow], fun i _ hn => setRow_other w g i _ (by simpa using hn)⟩
theorem rangeAt_chg {w w' : World} {b o : Nat} {cs : List Value} {c : Option Nat} (h : w.rangeAt b o cs) (g : Chg c w w') (hc : some b ≠ c) : w'.rangeAt b o cs :=
  fun j v hv => World.grownBy.cell g (h j v hv) hc
theorem rangeAt_blk {w : World} {b : Nat} {cs : List Value} {T : TypeId} (h : Blk w b cs.toArray T) : w.rangeAt b 0 cs := fun j v hv => by
  have := h.cell (0 + j)
  rw [this, Nat.zero_add]
  simpa using hv

set_option maxRecDepth 100000 in
set_option maxHeartbeats 4000000 in
theorem claim_any (d : Dig) (c : Int) (g : Bool) (w : World) (q : Qk) (n : Nat) (B : Bk) (h : BookAt w q n B) :
    Calls Try.prog 26 #[.pointer (some ⟨q.b, 0, none⟩), .agg d.cells.toArray, .int .u64 c, .bool g] w fun e w' => e = .returned (.agg (clCells d B.id B.inc c g).toArray) ∧ Chg none w w' := by
  obtain ⟨W, hW⟩ : ∃ W, W = (w.alloc (.cells d.cells.toArray 31)).alloc (.cells #[.int .u8 0, .int .u8 0, .int .u8 0, .int .u8 0, .int .u8 0, .int .u8 0, .int .u8 0, .int .u8 0, .int .u8 0, .int .u8 0, .int .u8 0, .int .u8 0, .int .u8 0, .int .u8 0, .int .u8 0, .int .u8 0, .int .u8 0, .int .u8 0, .int .u8 0, .int .u8 0, .int .u8 0, .int .u8 0, .int .u8 0, .int .u8 0, .int .u8 0, .int .u8 0, .int .u8 0, .int .u8 0, .int .u8 0, .int .u8 0, .int .u8 0, .int .u8 0, .int .i64 0, .int .u64 0, .int .u64 0, .bool false] 33) := ⟨_, rfl⟩
  have g0 : Chg none w W := by rw [hW]; exact ((Chg.refl _ _).alloc _).alloc _
  have hb5 : Blk W w.heap.size d.cells.toArray 31 := by rw [hW]; exact (Blk.new w _ _).alloc _
  have hb8 : Blk W (w.heap.size + 1) #[.int .u8 0, .int .u8 0, .int .u8 0, .int .u8 0, .int .u8 0, .int .u8 0, .int .u8 0, .int .u8 0, .int .u8 0, .int .u8 0, .int .u8 0, .int .u8 0, .int .u8 0, .int .u8 0, .int .u8 0, .int .u8 0, .int .u8 0, .int .u8 0, .int .u8 0, .int .u8 0, .int .u8 0, .int .u8 0, .int .u8 0, .int .u8 0, .int .u8 0, .int .u8 0, .int .u8 0, .int .u8 0, .int .u8 0, .int .u8 0, .int .u8 0, .int .u8 0, .int .i64 0, .int .u64 0, .int .u64 0, .bool false] 33 := by
    rw [hW]
    have := Blk.new (w.alloc (.cells d.cells.toArray 31)) #[.int .u8 0, .int .u8 0, .int .u8 0, .int .u8 0, .int .u8 0, .int .u8 0, .int .u8 0, .int .u8 0, .int .u8 0, .int .u8 0, .int .u8 0, .int .u8 0, .int .u8 0, .int .u8 0, .int .u8 0, .int .u8 0, .int .u8 0, .int .u8 0, .int .u8 0, .int .u8 0, .int .u8 0, .int .u8 0, .int .u8 0, .int .u8 0, .int .u8 0, .int .u8 0, .int .u8 0, .int .u8 0, .int .u8 0, .int .u8 0, .int .u8 0, .int .u8 0, .int .i64 0, .int .u64 0, .int .u64 0, .bool false] 33
    simpa using this
  obtain ⟨-, o1, o2, -⟩ := (h.chg g0).open
  have HRG : Hid (∀ v, Chg (some (w.heap.size + 1)) W v → v.rangeAt w.heap.size 0 d.cells) := Lib.hid fun v hv => rangeAt_chg (rangeAt_blk hb5) hv (by simp)
  have hne : some q.b ≠ some (w.heap.size + 1) := by have := h.lt (g := q.b) (.inl rfl); simp; omega
  have HW := Lib.hid hW
  have HB8 := Lib.hid hb8
  have HG0 := Lib.hid g0
  have HI31 := Lib.hid (info31 d)
  have HI33 := Lib.hid (info33 d B.id B.inc c g)
  have HO33 := Lib.hid (cl_one d B.id B.inc c g)
  have HZ33 : Hid ((#[.int .u8 0, .int .u8 0, .int .u8 0, .int .u8 0, .int .u8 0, .int .u8 0, .int .u8 0, .int .u8 0, .int .u8 0, .int .u8 0, .int .u8 0, .int .u8 0, .int .u8 0, .int .u8 0, .int .u8 0, .int .u8 0, .int .u8 0, .int .u8 0, .int .u8 0, .int .u8 0, .int .u8 0, .int .u8 0, .int .u8 0, .int .u8 0, .int .u8 0, .int .u8 0, .int .u8 0, .int .u8 0, .int .u8 0, .int .u8 0, .int .u8 0, .int .u8 0, .int .i64 0, .int .u64 0, .int .u64 0, .bool false] : Array Value).size = (clCells d B.id B.inc c g).toArray.size) := Lib.hid (by rw [show (clCells d B.id B.inc c g).toArray.size = 36 from by rw [List.size_toArray, clCells_len]]; rfl)
  clear hW hb5 hb8 g0 h
  go_enter Try.func26, Try.ntmps26
  go_wp2
  rw [← HW.out]
  have hS0 : Chg (some (w.heap.size + 1)) W W.drew := (Chg.refl _ _).drew
  refine wp_region_held_drew (S := fun v => Chg (some (w.heap.size + 1)) W v) (by kernel_rfl) hS0 (fun _ => ?_)
  refine wpAnyH_take (i := 0) (oi := ⟨some 9, _, _, _, _, _⟩) (v := .agg (d.cells).toArray) rfl (by kernel_rfl) (by kernel_rfl) (by kernel_rfl) (fun _ _ _ h => h) (yieldsIf_load_mid (by rfl) 31 _ rfl w.heap.size 0 rfl (d.cells) _ (fun v h => HRG.out v h) Try.underlying31 rfl HI31.out) (by assumption) ?_
  try simp only [Act.put, List.setIfInBounds_toArray, List.set_cons_zero, List.set_cons_succ]
  refine wpAnyH_take (i := 1) (oi := ⟨some 10, _, _, _, _, _⟩) (v := ?_) rfl (by kernel_rfl) (by kernel_rfl) (by kernel_rfl) (fun _ _ _ h => h) (Or.inl ⟨by rfl, ?_⟩) (by assumption) ?_
  rotate_left
  · intro v hSv; (try dsimp only at hSv); skip; go_simp; (try with_reducible rfl)
  try simp only [Act.put, List.setIfInBounds_toArray, List.set_cons_zero, List.set_cons_succ]
  refine wpAnyH_take (i := 2) (oi := ⟨some 11, _, _, _, _, _⟩) (v := ?_) rfl (by kernel_rfl) (by kernel_rfl) (by kernel_rfl) (fun _ _ _ h => h) (Or.inl ⟨by rfl, ?_⟩) (by assumption) ?_
  rotate_left
  · intro v hSv; (try dsimp only at hSv); skip; go_simp; (try with_reducible rfl)
  try simp only [Act.put, List.setIfInBounds_toArray, List.set_cons_zero, List.set_cons_succ]
  refine wpAnyH_take (i := 3) (oi := ⟨some 12, _, _, _, _, _⟩) (v := ?_) rfl (by kernel_rfl) (by kernel_rfl) (by kernel_rfl) (fun _ _ _ h => h) (Or.inl ⟨by rfl, ?_⟩) (by assumption) ?_
  rotate_left
  · intro v hSv; (try dsimp only at hSv); skip; go_simp; (try with_reducible rfl)
  try simp only [Act.put, List.setIfInBounds_toArray, List.set_cons_zero, List.set_cons_succ]
  refine wpAnyH_take (i := 4) (oi := ⟨some 13, _, _, _, _, _⟩) (v := .int .i64 B.id) rfl (by kernel_rfl) (by kernel_rfl) (by kernel_rfl) (fun _ _ _ h => h) (Or.inl ⟨by rfl, ?_⟩) (by assumption) ?_
  · intro v hSv; have z := World.grownBy.cell hSv o1 hne; go_simp
  try simp only [Act.put, List.setIfInBounds_toArray, List.set_cons_zero, List.set_cons_succ]
  refine wpAnyH_take (i := 5) (oi := ⟨some 14, _, _, _, _, _⟩) (v := ?_) rfl (by kernel_rfl) (by kernel_rfl) (by kernel_rfl) (fun _ _ _ h => h) (Or.inl ⟨by rfl, ?_⟩) (by assumption) ?_
  rotate_left
  · intro v hSv; (try dsimp only at hSv); skip; go_simp; (try with_reducible rfl)
  try simp only [Act.put, List.setIfInBounds_toArray, List.set_cons_zero, List.set_cons_succ]
  refine wpAnyH_take (i := 6) (oi := ⟨some 15, _, _, _, _, _⟩) (v := ?_) rfl (by kernel_rfl) (by kernel_rfl) (by kernel_rfl) (fun _ _ _ h => h) (Or.inl ⟨by rfl, ?_⟩) (by assumption) ?_
  rotate_left
  · intro v hSv; (try dsimp only at hSv); skip; go_simp; (try with_reducible rfl)
  try simp only [Act.put, List.setIfInBounds_toArray, List.set_cons_zero, List.set_cons_succ]
  refine wpAnyH_take (i := 7) (oi := ⟨some 16, _, _, _, _, _⟩) (v := ?_) rfl (by kernel_rfl) (by kernel_rfl) (by kernel_rfl) (fun _ _ _ h => h) (Or.inl ⟨by rfl, ?_⟩) (by assumption) ?_
  rotate_left
  · intro v hSv; (try dsimp only at hSv); skip; go_simp; (try with_reducible rfl)
  try simp only [Act.put, List.setIfInBounds_toArray, List.set_cons_zero, List.set_cons_succ]
  refine wpAnyH_take (i := 8) (oi := ⟨some 17, _, _, _, _, _⟩) (v := .int .u64 B.inc) rfl (by kernel_rfl) (by kernel_rfl) (by kernel_rfl) (fun _ _ _ h => h) (Or.inl ⟨by rfl, ?_⟩) (by assumption) ?_
  · intro v hSv; have z := World.grownBy.cell hSv o2 hne; go_simp
  try simp only [Act.put, List.setIfInBounds_toArray, List.set_cons_zero, List.set_cons_succ]
  refine wpAnyH_take (i := 9) (oi := ⟨some 18, _, _, _, _, _⟩) (v := ?_) rfl (by kernel_rfl) (by kernel_rfl) (by kernel_rfl) (fun _ _ _ h => h) (Or.inl ⟨by rfl, ?_⟩) (by assumption) ?_
  rotate_left
  · intro v hSv; (try dsimp only at hSv); skip; go_simp; (try with_reducible rfl)
  try simp only [Act.put, List.setIfInBounds_toArray, List.set_cons_zero, List.set_cons_succ]
  refine wpAnyH_take (i := 10) (oi := ⟨some 19, _, _, _, _, _⟩) (v := ?_) rfl (by kernel_rfl) (by kernel_rfl) (by kernel_rfl) (fun _ _ _ h => h) (Or.inl ⟨by rfl, ?_⟩) (by assumption) ?_
  rotate_left
  · intro v hSv; (try dsimp only at hSv); skip; go_simp; (try with_reducible rfl)
  try simp only [Act.put, List.setIfInBounds_toArray, List.set_cons_zero, List.set_cons_succ]
  refine wpAnyH_take (i := 11) (oi := ⟨some 20, _, _, _, _, _⟩) (v := .agg (clCells d B.id B.inc c g).toArray) rfl (by kernel_rfl) (by kernel_rfl) (by kernel_rfl) (fun _ _ _ h => h) (yieldsIf_build (by rfl) 33 _ rfl (clCells d B.id B.inc c g).toArray (by simp only [List.map_toArray, List.map_cons, List.map_nil]; exact built33 d B.id B.inc c g)) (by assumption) ?_
  try simp only [Act.put, List.setIfInBounds_toArray, List.set_cons_zero, List.set_cons_succ]
  refine wpAnyH_ready (rs := [12]) (by kernel_rfl) (by simp) ?_
  refine AllReadyH.cons (o := ⟨none, _, _, _, _, _⟩) rfl (fun K hK => ?_) (AllReadyH.nil)
  rw [if_pos (by rfl)]
  refine wp_store_row 33 (.tmp 8) (.tmp 20) (by rfl) (w.heap.size + 1) (clCells d B.id B.inc c g).toArray (by rfl) (by rfl) 33 _ HB8.out HI33.out HZ33.out HO33.out ?_
  refine hK.out _ _ (hS0.trans (chg_setRow _ _ _)) (fun _ => ?_)
  clear hK K
  refine wpAnyH_done (by kernel_rfl) ?_ _
  go_wp2_with fail
  refine bodyPost_ret (results_cell_row (p := 8) (ty := 33) Try.results26 _ _ (w.heap.size + 1) 33 (clCells d B.id B.inc c g).toArray (0, 0) _ rfl (setRow_heap _ _ _ _ _ _ HB8.out) Try.underlying33 rfl HI33.out) rfl ⟨rfl, ?_⟩
  exact Chg.own HG0.out (hS0.trans (chg_setRow _ _ _)) (by omega)

end Go.Proofs.Ytnpmfigcfikdgaa
