/-
  Walks over package assign: New.
-/
import Derived.Test.YtippkdjggipnmaaJ
import Derived.Carry
namespace Go.Proofs.Ytippkdjggipnmaa
open Go.RowKit Go.Maps

theorem Try.info59 : (Try.prog.info? 59).map (fun i => (i.zero, i.size, i.bytes)) = some (some (.agg #[.int .i64 0, .int .i64 0, .int .i64 0]), 3, 24) := by kernel_rfl
theorem Try.info68 : (Try.prog.info? 68).map (fun i => (i.zero, i.size, i.bytes)) = some (some (.agg #[.int .i64 0, .int .i64 0]), 2, 16) := by kernel_rfl

theorem flat_zeros3 : ∀ n : Nat, (List.replicate n (⟨0, 0, 0⟩ : Ck)).flatMap Ck.cells = List.replicate (n * 3) (.int .i64 0)
  | 0 => rfl
  | n + 1 => by rw [List.replicate_succ, List.flatMap_cons, flat_zeros3 n, Nat.succ_mul]; rfl
theorem flat_zeros2 : ∀ n : Nat, (List.replicate n (⟨0, 0⟩ : Pr)).flatMap Pr.cells = List.replicate (n * 2) (.int .i64 0)
  | 0 => rfl
  | n + 1 => by rw [List.replicate_succ, List.flatMap_cons, flat_zeros2 n, Nat.succ_mul]; rfl

theorem made3 (n : Nat) : (madeCells (Value.agg #[.int .i64 0, .int .i64 0, .int .i64 0]).cells (n * 3)).toList = List.replicate (n * 3) (.int .i64 0) := by
  rw [List.eq_replicate_iff]
  refine ⟨by simp [size_madeCells], fun x hx => ?_⟩
  unfold madeCells at hx
  simp only [Array.toList_map, List.mem_map] at hx
  obtain ⟨i, _, rfl⟩ := hx
  have : i % 3 < 3 := Nat.mod_lt _ (by omega)
  show (#[Value.int .i64 0, .int .i64 0, .int .i64 0] : Array Value)[i % 3]! = _
  match i % 3, this with
  | 0, _ => rfl
  | 1, _ => rfl
  | 2, _ => rfl
theorem made2 (n : Nat) : (madeCells (Value.agg #[.int .i64 0, .int .i64 0]).cells (n * 2)).toList = List.replicate (n * 2) (.int .i64 0) := by
  rw [List.eq_replicate_iff]
  refine ⟨by simp [size_madeCells], fun x hx => ?_⟩
  unfold madeCells at hx
  simp only [Array.toList_map, List.mem_map] at hx
  obtain ⟨i, _, rfl⟩ := hx
  have : i % 2 < 2 := Nat.mod_lt _ (by omega)
  show (#[Value.int .i64 0, .int .i64 0] : Array Value)[i % 2]! = _
  match i % 2, this with
  | 0, _ => rfl
  | 1, _ => rfl

theorem make40 (n : Nat) (hn : n < 1000000) (W : World) : ∃ W', (Instr.makeSlice 40 (.int .i64 n) (.int .i64 n)).run Try.prog W = .ok (.slice (some ⟨W.heap.size, 0, none⟩) n n) W' ∧
    BlkL W' W.heap.size ((List.replicate n (⟨0, 0, 0⟩ : Ck)).flatMap Ck.cells ++ []) 59 ∧ Chg none W W' := by
  obtain ⟨i0, hi, hz0, hz1, hz2⟩ := info_parts Try.info59
  have hr := run_make (P := Try.prog) W 40 59 i0 (.agg #[.int .i64 0, .int .i64 0, .int .i64 0]) Try.underlying40 hi hz0 .i64 .i64 (n : Int) (n : Int) (by omega) (by omega) (by rw [hz2]; omega) (by omega)
  rw [hr, Int.toNat_natCast, hz1]
  refine ⟨_, rfl, ?_, (Chg.refl _ _).alloc _⟩
  rw [List.append_nil, flat_zeros3, ← made3]
  unfold BlkL
  rw [Array.toArray_toList]
  exact Blk.new _ _ _
theorem make41 (n : Nat) (hn : n < 1000000) (W : World) : ∃ W', (Instr.makeSlice 41 (.int .i64 n) (.int .i64 n)).run Try.prog W = .ok (.slice (some ⟨W.heap.size, 0, none⟩) n n) W' ∧
    BlkL W' W.heap.size ((List.replicate n (⟨0, 0⟩ : Pr)).flatMap Pr.cells ++ []) 68 ∧ Chg none W W' := by
  obtain ⟨i0, hi, hz0, hz1, hz2⟩ := info_parts Try.info68
  have hr := run_make (P := Try.prog) W 41 68 i0 (.agg #[.int .i64 0, .int .i64 0]) Try.underlying41 hi hz0 .i64 .i64 (n : Int) (n : Int) (by omega) (by omega) (by rw [hz2]; omega) (by omega)
  rw [hr, Int.toNat_natCast, hz1]
  refine ⟨_, rfl, ?_, (Chg.refl _ _).alloc _⟩
  rw [List.append_nil, flat_zeros2, ← made2]
  unfold BlkL
  rw [Array.toArray_toList]
  exact Blk.new _ _ _
theorem make42 (W : World) : ∃ W', (Instr.makeMap 42 none).run Try.prog W = .ok (.map (some W.heap.size)) W' ∧ MapT W' W.heap.size 0 (fun _ _ => 0) ∧ Chg none W W' :=
  ⟨_, run_makeMap _ _, MapT.new W, (Chg.refl _ _).alloc _⟩

def newP (nc np : Nat) (win tim : Int) : Pl := ⟨win, tim, List.replicate nc ⟨0, 0, 0⟩, List.replicate np ⟨0, 0⟩, fun _ _ => 0⟩
def mayP (nc np win tim : Int) : Prop := (0 ≤ nc ∧ nc ≤ 100) ∧ (0 ≤ np ∧ np ≤ 64) ∧ (1 ≤ win ∧ win ≤ 100) ∧ (1 ≤ tim ∧ tim ≤ 1000000)

theorem cnt_zeros (n : Nat) (k : Int) : cnt (List.replicate n ⟨0, 0, 0⟩) k = 0 := by
  unfold cnt
  rw [List.countP_eq_zero]
  intro x hx
  rw [(List.mem_replicate.1 hx).2]
  simp

theorem newP_ok {nc np : Nat} {win tim : Int} (h : mayP nc np win tim) : (newP nc np win tim).ok 0 := by
  obtain ⟨⟨_, h1⟩, ⟨_, h2⟩, h3, h4⟩ := h
  refine ⟨h3, h4, by show (List.replicate nc _).length ≤ 100; rw [List.length_replicate]; omega, by show (List.replicate np _).length ≤ 64; rw [List.length_replicate]; omega, ?_, ?_, ?_, fun _ _ => ⟨Int.le_refl _, Int.le_refl _⟩⟩
  · intro x hx
    rw [(List.mem_replicate.1 hx).2]
    exact .inl ⟨rfl, rfl, rfl⟩
  · intro k x hx
    have := List.mem_of_getElem? hx
    rw [(List.mem_replicate.1 this).2]
    show (0 : Int) = _
    rw [show (newP nc np win tim).ch = List.replicate nc ⟨0, 0, 0⟩ from rfl, cnt_zeros]; rfl
  · intro x hx
    rw [(List.mem_replicate.1 hx).2]
    exact ⟨Int.le_refl _, Int.le_refl _⟩

theorem new_at {W : World} {b c p m nc np : Nat} {win tim : Int} (h0 : Blk W b #[.int .i64 win, .int .i64 tim, .slice (some ⟨c, 0, none⟩) nc nc, .slice (some ⟨p, 0, none⟩) np np, .map (some m)] 44)
    (h1 : BlkL W c ((List.replicate nc (⟨0, 0, 0⟩ : Ck)).flatMap Ck.cells ++ []) 59) (h2 : BlkL W p ((List.replicate np (⟨0, 0⟩ : Pr)).flatMap Pr.cells ++ []) 68) (h3 : MapT W m 0 (fun _ _ => 0)) : PlanAt W ⟨b, c, p, m⟩ 0 (newP nc np win tim) :=
  ⟨⟨nc, np, by unfold newP; simpa using h0⟩, ⟨[], h1⟩, ⟨[], h2⟩, h3⟩
theorem new_has {w v1 v2 v3 : Nat} {a b c d : Nat} (h1 : w ≤ v1) (h2 : w ≤ v2) (h3 : w ≤ v3) (h : (a = w ∨ a = v1 ∨ a = v2 ∨ a = v3) ∧ (b = w ∨ b = v1 ∨ b = v2 ∨ b = v3) ∧ (c = w ∨ c = v1 ∨ c = v2 ∨ c = v3) ∧ (d = w ∨ d = v1 ∨ d = v2 ∨ d = v3)) : ∀ g, (Qb.mk a b c d).has g → w ≤ g := by
  intro g hg
  unfold Qb.has at hg
  dsimp only at hg
  omega

def NewPost (w : World) (nc np : Nat) (win tim : Int) (e : Ending) (w' : World) : Prop :=
  ∃ q : Qb, e = .returned (.tuple #[.pointer (some ⟨q.b, 0, none⟩), .int .i64 0]) ∧ PlanAt w' q 0 (newP nc np win tim) ∧ (∀ g, q.has g → w.heap.size ≤ g) ∧ Chg none w w'

set_option maxHeartbeats 4000000 in
theorem new_yes (nc np : Nat) (win tim : Int) (w : World) (h : mayP nc np win tim) :
    Calls Try.prog 9 #[.int .i64 nc, .int .i64 np, .int .i64 win, .int .i64 tim] w (NewPost w nc np win tim) := by
  obtain ⟨⟨_, h1⟩, ⟨_, h2⟩, ⟨h3, h4⟩, h5, h6⟩ := h
  have HM3 := Lib.hid (make40 nc (by omega))
  have HM5 := Lib.hid (make41 np (by omega))
  have HM6 := Lib.hid make42
  have d1 : decide ((nc : Int) < 0) = false := by simp
  have d2 : decide ((100 : Int) < (nc : Int)) = false := by simp; omega
  have d3 : decide ((np : Int) < 0) = false := by simp
  have d4 : decide ((64 : Int) < (np : Int)) = false := by simp; omega
  have d5 : decide (win < 1) = false := by simp; omega
  have d6 : decide (100 < win) = false := by simp; omega
  have d7 : decide (tim < 1) = false := by simp; omega
  have d8 : decide (1000000 < tim) = false := by simp; omega
  go_enter Try.func9, Try.ntmps9
  go_wp2
  have hS0 : Chg none w w.drew := (Chg.refl _ _).drew
  refine wp_region_held_drew (S := fun v => Chg none w v) (by kernel_rfl) hS0 (fun _ => ?_)
  refine wpAnyH_take (i := 0) (oi := ⟨some 38, _, _, _, _, _⟩) (v := ?_) rfl (by kernel_rfl) (by kernel_rfl) (by kernel_rfl) (fun _ _ _ h => h) (Or.inl ⟨by rfl, ?_⟩) (by assumption) ?_
  rotate_left
  · intro w hSw; (try dsimp only at hSw); go_simp; (try with_reducible rfl)
  try simp only [Act.put, List.setIfInBounds_toArray, List.set_cons_zero, List.set_cons_succ]
  refine wpAnyH_take (i := 1) (oi := ⟨some 39, _, _, _, _, _⟩) (v := ?_) rfl (by kernel_rfl) (by kernel_rfl) (by kernel_rfl) (fun _ _ _ h => h) (Or.inl ⟨by rfl, ?_⟩) (by assumption) ?_
  rotate_left
  · intro w hSw; (try dsimp only at hSw); go_simp; (try with_reducible rfl)
  try simp only [Act.put, List.setIfInBounds_toArray, List.set_cons_zero, List.set_cons_succ]
  refine wpAnyH_take (i := 2) (oi := ⟨some 40, _, _, _, _, _⟩) (v := ?_) rfl (by kernel_rfl) (by kernel_rfl) (by kernel_rfl) (fun _ _ _ h => h) (Or.inl ⟨by rfl, ?_⟩) (by assumption) ?_
  rotate_left
  · intro w hSw; (try dsimp only at hSw); go_simp; (try with_reducible rfl)
  try simp only [Act.put, List.setIfInBounds_toArray, List.set_cons_zero, List.set_cons_succ]
  refine wpAnyH_take (i := 4) (oi := ⟨some 42, _, _, _, _, _⟩) (v := ?_) rfl (by kernel_rfl) (by kernel_rfl) (by kernel_rfl) (fun _ _ _ h => h) (Or.inl ⟨by rfl, ?_⟩) (by assumption) ?_
  rotate_left
  · intro w hSw; (try dsimp only at hSw); go_simp; (try with_reducible rfl)
  try simp only [Act.put, List.setIfInBounds_toArray, List.set_cons_zero, List.set_cons_succ]
  refine wpAnyH_ready (rs := [3, 5, 6]) (by kernel_rfl) (by simp) ?_
  refine AllReadyH.cons (o := ⟨some 41, _, _, _, _, _⟩) rfl (fun K hK => ?_) (AllReadyH.cons (o := ⟨some 43, _, _, _, _, _⟩) rfl (fun K hK => ?_) (AllReadyH.cons (o := ⟨some 44, _, _, _, _, _⟩) rfl (fun K hK => ?_) (AllReadyH.nil)))
  · as_aux_lemma =>
      obtain ⟨v1, hr1, hb3, hg1⟩ := HM3.out w.drew
      (try simp only [World.drew_size] at hr1)
      go_simp
      have hS1 := hS0.trans hg1
      refine hK.out _ _ hS1 (fun _ => ?_)
      clear hK K
      try simp only [Act.put, List.setIfInBounds_toArray, List.set_cons_zero, List.set_cons_succ]
      refine wpAnyH_ready (rs := [5, 6]) (by kernel_rfl) (by simp) ?_
      refine AllReadyH.cons (o := ⟨some 43, _, _, _, _, _⟩) rfl (fun K hK => ?_) (AllReadyH.cons (o := ⟨some 44, _, _, _, _, _⟩) rfl (fun K hK => ?_) (AllReadyH.nil))
      · as_aux_lemma =>
          obtain ⟨v2, hr2, hb5, hg2⟩ := HM5.out v1
          (try simp only [World.drew_size] at hr2)
          go_simp
          have hS2 := hS1.trans hg2
          refine hK.out _ _ hS2 (fun _ => ?_)
          clear hK K
          try simp only [Act.put, List.setIfInBounds_toArray, List.set_cons_zero, List.set_cons_succ]
          refine wpAnyH_ready (rs := [6]) (by kernel_rfl) (by simp) ?_
          refine AllReadyH.cons (o := ⟨some 44, _, _, _, _, _⟩) rfl (fun K hK => ?_) (AllReadyH.nil)
          obtain ⟨v3, hr3, hb6, hg3⟩ := HM6.out v2
          (try simp only [World.drew_size] at hr3)
          go_simp
          have hS3 := hS2.trans hg3
          refine hK.out _ _ hS3 (fun _ => ?_)
          clear hK K
          try simp only [Act.put, List.setIfInBounds_toArray, List.set_cons_zero, List.set_cons_succ]
          refine wpAnyH_take (i := 7) (oi := ⟨some 45, _, _, _, _, _⟩) (v := ?_) rfl (by kernel_rfl) (by kernel_rfl) (by kernel_rfl) (fun _ _ _ h => h) (Or.inl ⟨by rfl, ?_⟩) (by assumption) ?_
          rotate_left
          · intro w hSw; (try dsimp only at hSw); go_simp; (try with_reducible rfl)
          try simp only [Act.put, List.setIfInBounds_toArray, List.set_cons_zero, List.set_cons_succ]
          refine wpAnyH_ready (rs := [8]) (by kernel_rfl) (by simp) ?_
          refine AllReadyH.cons (o := ⟨some 46, _, _, _, _, _⟩) rfl (fun K hK => ?_) (AllReadyH.nil)
          go_simp
          have hS4 := hS3.alloc (.cells #[.int .i64 win, .int .i64 tim, .slice (some ⟨w.heap.size, 0, none⟩) nc nc, .slice (some ⟨v1.heap.size, 0, none⟩) np np, .map (some v2.heap.size)] 44)
          refine hK.out _ _ hS4 (fun _ => ?_)
          clear hK K
          try simp only [Act.put, List.setIfInBounds_toArray, List.set_cons_zero, List.set_cons_succ]
          refine wpAnyH_take (i := 9) (oi := ⟨some 8, _, _, _, _, _⟩) (v := ?_) rfl (by kernel_rfl) (by kernel_rfl) (by kernel_rfl) (fun _ _ _ h => h) (Or.inl ⟨by rfl, ?_⟩) (by assumption) ?_
          rotate_left
          · intro w hSw; (try dsimp only at hSw); go_simp; (try with_reducible rfl)
          try simp only [Act.put, List.setIfInBounds_toArray, List.set_cons_zero, List.set_cons_succ]
          refine wpAnyH_take (i := 10) (oi := ⟨some 9, _, _, _, _, _⟩) (v := ?_) rfl (by kernel_rfl) (by kernel_rfl) (by kernel_rfl) (fun _ _ _ h => h) (Or.inl ⟨by rfl, ?_⟩) (by assumption) ?_
          rotate_left
          · intro w hSw; (try dsimp only at hSw); go_simp; (try with_reducible rfl)
          try simp only [Act.put, List.setIfInBounds_toArray, List.set_cons_zero, List.set_cons_succ]
          refine wpAnyH_done (by kernel_rfl) ?_ _
          go_wp2_with fail
          go_ret2
          exact ⟨⟨v3.heap.size, w.heap.size, v1.heap.size, v2.heap.size⟩, rfl, new_at (Blk.new v3 _ _) (Blk.alloc (Blk.chg hb3 (hg2.trans hg3) (by simp)) _) (Blk.alloc (Blk.chg hb5 hg3 (by simp)) _) (MapT.block (MapT.block hb6 ((Chg.refl none v3).block _ hb6.lt (by simp))) (Below.heap_alloc _ _ _ (MapT.lt (MapT.block hb6 ((Chg.refl none v3).block _ hb6.lt (by simp)))))), new_has hS1.size hS2.size hS3.size (by simp), hS4⟩
      · as_aux_lemma =>
          obtain ⟨v2, hr2, hb6, hg2⟩ := HM6.out v1
          (try simp only [World.drew_size] at hr2)
          go_simp
          have hS2 := hS1.trans hg2
          refine hK.out _ _ hS2 (fun _ => ?_)
          clear hK K
          try simp only [Act.put, List.setIfInBounds_toArray, List.set_cons_zero, List.set_cons_succ]
          refine wpAnyH_ready (rs := [5]) (by kernel_rfl) (by simp) ?_
          refine AllReadyH.cons (o := ⟨some 43, _, _, _, _, _⟩) rfl (fun K hK => ?_) (AllReadyH.nil)
          obtain ⟨v3, hr3, hb5, hg3⟩ := HM5.out v2
          (try simp only [World.drew_size] at hr3)
          go_simp
          have hS3 := hS2.trans hg3
          refine hK.out _ _ hS3 (fun _ => ?_)
          clear hK K
          try simp only [Act.put, List.setIfInBounds_toArray, List.set_cons_zero, List.set_cons_succ]
          refine wpAnyH_take (i := 7) (oi := ⟨some 45, _, _, _, _, _⟩) (v := ?_) rfl (by kernel_rfl) (by kernel_rfl) (by kernel_rfl) (fun _ _ _ h => h) (Or.inl ⟨by rfl, ?_⟩) (by assumption) ?_
          rotate_left
          · intro w hSw; (try dsimp only at hSw); go_simp; (try with_reducible rfl)
          try simp only [Act.put, List.setIfInBounds_toArray, List.set_cons_zero, List.set_cons_succ]
          refine wpAnyH_ready (rs := [8]) (by kernel_rfl) (by simp) ?_
          refine AllReadyH.cons (o := ⟨some 46, _, _, _, _, _⟩) rfl (fun K hK => ?_) (AllReadyH.nil)
          go_simp
          have hS4 := hS3.alloc (.cells #[.int .i64 win, .int .i64 tim, .slice (some ⟨w.heap.size, 0, none⟩) nc nc, .slice (some ⟨v2.heap.size, 0, none⟩) np np, .map (some v1.heap.size)] 44)
          refine hK.out _ _ hS4 (fun _ => ?_)
          clear hK K
          try simp only [Act.put, List.setIfInBounds_toArray, List.set_cons_zero, List.set_cons_succ]
          refine wpAnyH_take (i := 9) (oi := ⟨some 8, _, _, _, _, _⟩) (v := ?_) rfl (by kernel_rfl) (by kernel_rfl) (by kernel_rfl) (fun _ _ _ h => h) (Or.inl ⟨by rfl, ?_⟩) (by assumption) ?_
          rotate_left
          · intro w hSw; (try dsimp only at hSw); go_simp; (try with_reducible rfl)
          try simp only [Act.put, List.setIfInBounds_toArray, List.set_cons_zero, List.set_cons_succ]
          refine wpAnyH_take (i := 10) (oi := ⟨some 9, _, _, _, _, _⟩) (v := ?_) rfl (by kernel_rfl) (by kernel_rfl) (by kernel_rfl) (fun _ _ _ h => h) (Or.inl ⟨by rfl, ?_⟩) (by assumption) ?_
          rotate_left
          · intro w hSw; (try dsimp only at hSw); go_simp; (try with_reducible rfl)
          try simp only [Act.put, List.setIfInBounds_toArray, List.set_cons_zero, List.set_cons_succ]
          refine wpAnyH_done (by kernel_rfl) ?_ _
          go_wp2_with fail
          go_ret2
          exact ⟨⟨v3.heap.size, w.heap.size, v2.heap.size, v1.heap.size⟩, rfl, new_at (Blk.new v3 _ _) (Blk.alloc (Blk.chg hb3 (hg2.trans hg3) (by simp)) _) (Blk.alloc (Blk.chg hb5 (Chg.refl none v3) (by simp)) _) (MapT.block (MapT.block hb6 (hg3.block _ hb6.lt (by simp))) (Below.heap_alloc _ _ _ (MapT.lt (MapT.block hb6 (hg3.block _ hb6.lt (by simp)))))), new_has hS1.size hS2.size hS3.size (by simp), hS4⟩
  · as_aux_lemma =>
      obtain ⟨v1, hr1, hb5, hg1⟩ := HM5.out w.drew
      (try simp only [World.drew_size] at hr1)
      go_simp
      have hS1 := hS0.trans hg1
      refine hK.out _ _ hS1 (fun _ => ?_)
      clear hK K
      try simp only [Act.put, List.setIfInBounds_toArray, List.set_cons_zero, List.set_cons_succ]
      refine wpAnyH_ready (rs := [3, 6]) (by kernel_rfl) (by simp) ?_
      refine AllReadyH.cons (o := ⟨some 41, _, _, _, _, _⟩) rfl (fun K hK => ?_) (AllReadyH.cons (o := ⟨some 44, _, _, _, _, _⟩) rfl (fun K hK => ?_) (AllReadyH.nil))
      · as_aux_lemma =>
          obtain ⟨v2, hr2, hb3, hg2⟩ := HM3.out v1
          (try simp only [World.drew_size] at hr2)
          go_simp
          have hS2 := hS1.trans hg2
          refine hK.out _ _ hS2 (fun _ => ?_)
          clear hK K
          try simp only [Act.put, List.setIfInBounds_toArray, List.set_cons_zero, List.set_cons_succ]
          refine wpAnyH_ready (rs := [6]) (by kernel_rfl) (by simp) ?_
          refine AllReadyH.cons (o := ⟨some 44, _, _, _, _, _⟩) rfl (fun K hK => ?_) (AllReadyH.nil)
          obtain ⟨v3, hr3, hb6, hg3⟩ := HM6.out v2
          (try simp only [World.drew_size] at hr3)
          go_simp
          have hS3 := hS2.trans hg3
          refine hK.out _ _ hS3 (fun _ => ?_)
          clear hK K
          try simp only [Act.put, List.setIfInBounds_toArray, List.set_cons_zero, List.set_cons_succ]
          refine wpAnyH_take (i := 7) (oi := ⟨some 45, _, _, _, _, _⟩) (v := ?_) rfl (by kernel_rfl) (by kernel_rfl) (by kernel_rfl) (fun _ _ _ h => h) (Or.inl ⟨by rfl, ?_⟩) (by assumption) ?_
          rotate_left
          · intro w hSw; (try dsimp only at hSw); go_simp; (try with_reducible rfl)
          try simp only [Act.put, List.setIfInBounds_toArray, List.set_cons_zero, List.set_cons_succ]
          refine wpAnyH_ready (rs := [8]) (by kernel_rfl) (by simp) ?_
          refine AllReadyH.cons (o := ⟨some 46, _, _, _, _, _⟩) rfl (fun K hK => ?_) (AllReadyH.nil)
          go_simp
          have hS4 := hS3.alloc (.cells #[.int .i64 win, .int .i64 tim, .slice (some ⟨v1.heap.size, 0, none⟩) nc nc, .slice (some ⟨w.heap.size, 0, none⟩) np np, .map (some v2.heap.size)] 44)
          refine hK.out _ _ hS4 (fun _ => ?_)
          clear hK K
          try simp only [Act.put, List.setIfInBounds_toArray, List.set_cons_zero, List.set_cons_succ]
          refine wpAnyH_take (i := 9) (oi := ⟨some 8, _, _, _, _, _⟩) (v := ?_) rfl (by kernel_rfl) (by kernel_rfl) (by kernel_rfl) (fun _ _ _ h => h) (Or.inl ⟨by rfl, ?_⟩) (by assumption) ?_
          rotate_left
          · intro w hSw; (try dsimp only at hSw); go_simp; (try with_reducible rfl)
          try simp only [Act.put, List.setIfInBounds_toArray, List.set_cons_zero, List.set_cons_succ]
          refine wpAnyH_take (i := 10) (oi := ⟨some 9, _, _, _, _, _⟩) (v := ?_) rfl (by kernel_rfl) (by kernel_rfl) (by kernel_rfl) (fun _ _ _ h => h) (Or.inl ⟨by rfl, ?_⟩) (by assumption) ?_
          rotate_left
          · intro w hSw; (try dsimp only at hSw); go_simp; (try with_reducible rfl)
          try simp only [Act.put, List.setIfInBounds_toArray, List.set_cons_zero, List.set_cons_succ]
          refine wpAnyH_done (by kernel_rfl) ?_ _
          go_wp2_with fail
          go_ret2
          exact ⟨⟨v3.heap.size, v1.heap.size, w.heap.size, v2.heap.size⟩, rfl, new_at (Blk.new v3 _ _) (Blk.alloc (Blk.chg hb3 hg3 (by simp)) _) (Blk.alloc (Blk.chg hb5 (hg2.trans hg3) (by simp)) _) (MapT.block (MapT.block hb6 ((Chg.refl none v3).block _ hb6.lt (by simp))) (Below.heap_alloc _ _ _ (MapT.lt (MapT.block hb6 ((Chg.refl none v3).block _ hb6.lt (by simp)))))), new_has hS1.size hS2.size hS3.size (by simp), hS4⟩
      · as_aux_lemma =>
          obtain ⟨v2, hr2, hb6, hg2⟩ := HM6.out v1
          (try simp only [World.drew_size] at hr2)
          go_simp
          have hS2 := hS1.trans hg2
          refine hK.out _ _ hS2 (fun _ => ?_)
          clear hK K
          try simp only [Act.put, List.setIfInBounds_toArray, List.set_cons_zero, List.set_cons_succ]
          refine wpAnyH_ready (rs := [3]) (by kernel_rfl) (by simp) ?_
          refine AllReadyH.cons (o := ⟨some 41, _, _, _, _, _⟩) rfl (fun K hK => ?_) (AllReadyH.nil)
          obtain ⟨v3, hr3, hb3, hg3⟩ := HM3.out v2
          (try simp only [World.drew_size] at hr3)
          go_simp
          have hS3 := hS2.trans hg3
          refine hK.out _ _ hS3 (fun _ => ?_)
          clear hK K
          try simp only [Act.put, List.setIfInBounds_toArray, List.set_cons_zero, List.set_cons_succ]
          refine wpAnyH_take (i := 7) (oi := ⟨some 45, _, _, _, _, _⟩) (v := ?_) rfl (by kernel_rfl) (by kernel_rfl) (by kernel_rfl) (fun _ _ _ h => h) (Or.inl ⟨by rfl, ?_⟩) (by assumption) ?_
          rotate_left
          · intro w hSw; (try dsimp only at hSw); go_simp; (try with_reducible rfl)
          try simp only [Act.put, List.setIfInBounds_toArray, List.set_cons_zero, List.set_cons_succ]
          refine wpAnyH_ready (rs := [8]) (by kernel_rfl) (by simp) ?_
          refine AllReadyH.cons (o := ⟨some 46, _, _, _, _, _⟩) rfl (fun K hK => ?_) (AllReadyH.nil)
          go_simp
          have hS4 := hS3.alloc (.cells #[.int .i64 win, .int .i64 tim, .slice (some ⟨v2.heap.size, 0, none⟩) nc nc, .slice (some ⟨w.heap.size, 0, none⟩) np np, .map (some v1.heap.size)] 44)
          refine hK.out _ _ hS4 (fun _ => ?_)
          clear hK K
          try simp only [Act.put, List.setIfInBounds_toArray, List.set_cons_zero, List.set_cons_succ]
          refine wpAnyH_take (i := 9) (oi := ⟨some 8, _, _, _, _, _⟩) (v := ?_) rfl (by kernel_rfl) (by kernel_rfl) (by kernel_rfl) (fun _ _ _ h => h) (Or.inl ⟨by rfl, ?_⟩) (by assumption) ?_
          rotate_left
          · intro w hSw; (try dsimp only at hSw); go_simp; (try with_reducible rfl)
          try simp only [Act.put, List.setIfInBounds_toArray, List.set_cons_zero, List.set_cons_succ]
          refine wpAnyH_take (i := 10) (oi := ⟨some 9, _, _, _, _, _⟩) (v := ?_) rfl (by kernel_rfl) (by kernel_rfl) (by kernel_rfl) (fun _ _ _ h => h) (Or.inl ⟨by rfl, ?_⟩) (by assumption) ?_
          rotate_left
          · intro w hSw; (try dsimp only at hSw); go_simp; (try with_reducible rfl)
          try simp only [Act.put, List.setIfInBounds_toArray, List.set_cons_zero, List.set_cons_succ]
          refine wpAnyH_done (by kernel_rfl) ?_ _
          go_wp2_with fail
          go_ret2
          exact ⟨⟨v3.heap.size, v2.heap.size, w.heap.size, v1.heap.size⟩, rfl, new_at (Blk.new v3 _ _) (Blk.alloc (Blk.chg hb3 (Chg.refl none v3) (by simp)) _) (Blk.alloc (Blk.chg hb5 (hg2.trans hg3) (by simp)) _) (MapT.block (MapT.block hb6 (hg3.block _ hb6.lt (by simp))) (Below.heap_alloc _ _ _ (MapT.lt (MapT.block hb6 (hg3.block _ hb6.lt (by simp)))))), new_has hS1.size hS2.size hS3.size (by simp), hS4⟩
  · as_aux_lemma =>
      obtain ⟨v1, hr1, hb6, hg1⟩ := HM6.out w.drew
      (try simp only [World.drew_size] at hr1)
      go_simp
      have hS1 := hS0.trans hg1
      refine hK.out _ _ hS1 (fun _ => ?_)
      clear hK K
      try simp only [Act.put, List.setIfInBounds_toArray, List.set_cons_zero, List.set_cons_succ]
      refine wpAnyH_ready (rs := [3, 5]) (by kernel_rfl) (by simp) ?_
      refine AllReadyH.cons (o := ⟨some 41, _, _, _, _, _⟩) rfl (fun K hK => ?_) (AllReadyH.cons (o := ⟨some 43, _, _, _, _, _⟩) rfl (fun K hK => ?_) (AllReadyH.nil))
      · as_aux_lemma =>
          obtain ⟨v2, hr2, hb3, hg2⟩ := HM3.out v1
          (try simp only [World.drew_size] at hr2)
          go_simp
          have hS2 := hS1.trans hg2
          refine hK.out _ _ hS2 (fun _ => ?_)
          clear hK K
          try simp only [Act.put, List.setIfInBounds_toArray, List.set_cons_zero, List.set_cons_succ]
          refine wpAnyH_ready (rs := [5]) (by kernel_rfl) (by simp) ?_
          refine AllReadyH.cons (o := ⟨some 43, _, _, _, _, _⟩) rfl (fun K hK => ?_) (AllReadyH.nil)
          obtain ⟨v3, hr3, hb5, hg3⟩ := HM5.out v2
          (try simp only [World.drew_size] at hr3)
          go_simp
          have hS3 := hS2.trans hg3
          refine hK.out _ _ hS3 (fun _ => ?_)
          clear hK K
          try simp only [Act.put, List.setIfInBounds_toArray, List.set_cons_zero, List.set_cons_succ]
          refine wpAnyH_take (i := 7) (oi := ⟨some 45, _, _, _, _, _⟩) (v := ?_) rfl (by kernel_rfl) (by kernel_rfl) (by kernel_rfl) (fun _ _ _ h => h) (Or.inl ⟨by rfl, ?_⟩) (by assumption) ?_
          rotate_left
          · intro w hSw; (try dsimp only at hSw); go_simp; (try with_reducible rfl)
          try simp only [Act.put, List.setIfInBounds_toArray, List.set_cons_zero, List.set_cons_succ]
          refine wpAnyH_ready (rs := [8]) (by kernel_rfl) (by simp) ?_
          refine AllReadyH.cons (o := ⟨some 46, _, _, _, _, _⟩) rfl (fun K hK => ?_) (AllReadyH.nil)
          go_simp
          have hS4 := hS3.alloc (.cells #[.int .i64 win, .int .i64 tim, .slice (some ⟨v1.heap.size, 0, none⟩) nc nc, .slice (some ⟨v2.heap.size, 0, none⟩) np np, .map (some w.heap.size)] 44)
          refine hK.out _ _ hS4 (fun _ => ?_)
          clear hK K
          try simp only [Act.put, List.setIfInBounds_toArray, List.set_cons_zero, List.set_cons_succ]
          refine wpAnyH_take (i := 9) (oi := ⟨some 8, _, _, _, _, _⟩) (v := ?_) rfl (by kernel_rfl) (by kernel_rfl) (by kernel_rfl) (fun _ _ _ h => h) (Or.inl ⟨by rfl, ?_⟩) (by assumption) ?_
          rotate_left
          · intro w hSw; (try dsimp only at hSw); go_simp; (try with_reducible rfl)
          try simp only [Act.put, List.setIfInBounds_toArray, List.set_cons_zero, List.set_cons_succ]
          refine wpAnyH_take (i := 10) (oi := ⟨some 9, _, _, _, _, _⟩) (v := ?_) rfl (by kernel_rfl) (by kernel_rfl) (by kernel_rfl) (fun _ _ _ h => h) (Or.inl ⟨by rfl, ?_⟩) (by assumption) ?_
          rotate_left
          · intro w hSw; (try dsimp only at hSw); go_simp; (try with_reducible rfl)
          try simp only [Act.put, List.setIfInBounds_toArray, List.set_cons_zero, List.set_cons_succ]
          refine wpAnyH_done (by kernel_rfl) ?_ _
          go_wp2_with fail
          go_ret2
          exact ⟨⟨v3.heap.size, v1.heap.size, v2.heap.size, w.heap.size⟩, rfl, new_at (Blk.new v3 _ _) (Blk.alloc (Blk.chg hb3 hg3 (by simp)) _) (Blk.alloc (Blk.chg hb5 (Chg.refl none v3) (by simp)) _) (MapT.block (MapT.block hb6 ((hg2.trans hg3).block _ hb6.lt (by simp))) (Below.heap_alloc _ _ _ (MapT.lt (MapT.block hb6 ((hg2.trans hg3).block _ hb6.lt (by simp)))))), new_has hS1.size hS2.size hS3.size (by simp), hS4⟩
      · as_aux_lemma =>
          obtain ⟨v2, hr2, hb5, hg2⟩ := HM5.out v1
          (try simp only [World.drew_size] at hr2)
          go_simp
          have hS2 := hS1.trans hg2
          refine hK.out _ _ hS2 (fun _ => ?_)
          clear hK K
          try simp only [Act.put, List.setIfInBounds_toArray, List.set_cons_zero, List.set_cons_succ]
          refine wpAnyH_ready (rs := [3]) (by kernel_rfl) (by simp) ?_
          refine AllReadyH.cons (o := ⟨some 41, _, _, _, _, _⟩) rfl (fun K hK => ?_) (AllReadyH.nil)
          obtain ⟨v3, hr3, hb3, hg3⟩ := HM3.out v2
          (try simp only [World.drew_size] at hr3)
          go_simp
          have hS3 := hS2.trans hg3
          refine hK.out _ _ hS3 (fun _ => ?_)
          clear hK K
          try simp only [Act.put, List.setIfInBounds_toArray, List.set_cons_zero, List.set_cons_succ]
          refine wpAnyH_take (i := 7) (oi := ⟨some 45, _, _, _, _, _⟩) (v := ?_) rfl (by kernel_rfl) (by kernel_rfl) (by kernel_rfl) (fun _ _ _ h => h) (Or.inl ⟨by rfl, ?_⟩) (by assumption) ?_
          rotate_left
          · intro w hSw; (try dsimp only at hSw); go_simp; (try with_reducible rfl)
          try simp only [Act.put, List.setIfInBounds_toArray, List.set_cons_zero, List.set_cons_succ]
          refine wpAnyH_ready (rs := [8]) (by kernel_rfl) (by simp) ?_
          refine AllReadyH.cons (o := ⟨some 46, _, _, _, _, _⟩) rfl (fun K hK => ?_) (AllReadyH.nil)
          go_simp
          have hS4 := hS3.alloc (.cells #[.int .i64 win, .int .i64 tim, .slice (some ⟨v2.heap.size, 0, none⟩) nc nc, .slice (some ⟨v1.heap.size, 0, none⟩) np np, .map (some w.heap.size)] 44)
          refine hK.out _ _ hS4 (fun _ => ?_)
          clear hK K
          try simp only [Act.put, List.setIfInBounds_toArray, List.set_cons_zero, List.set_cons_succ]
          refine wpAnyH_take (i := 9) (oi := ⟨some 8, _, _, _, _, _⟩) (v := ?_) rfl (by kernel_rfl) (by kernel_rfl) (by kernel_rfl) (fun _ _ _ h => h) (Or.inl ⟨by rfl, ?_⟩) (by assumption) ?_
          rotate_left
          · intro w hSw; (try dsimp only at hSw); go_simp; (try with_reducible rfl)
          try simp only [Act.put, List.setIfInBounds_toArray, List.set_cons_zero, List.set_cons_succ]
          refine wpAnyH_take (i := 10) (oi := ⟨some 9, _, _, _, _, _⟩) (v := ?_) rfl (by kernel_rfl) (by kernel_rfl) (by kernel_rfl) (fun _ _ _ h => h) (Or.inl ⟨by rfl, ?_⟩) (by assumption) ?_
          rotate_left
          · intro w hSw; (try dsimp only at hSw); go_simp; (try with_reducible rfl)
          try simp only [Act.put, List.setIfInBounds_toArray, List.set_cons_zero, List.set_cons_succ]
          refine wpAnyH_done (by kernel_rfl) ?_ _
          go_wp2_with fail
          go_ret2
          exact ⟨⟨v3.heap.size, v2.heap.size, v1.heap.size, w.heap.size⟩, rfl, new_at (Blk.new v3 _ _) (Blk.alloc (Blk.chg hb3 (Chg.refl none v3) (by simp)) _) (Blk.alloc (Blk.chg hb5 hg3 (by simp)) _) (MapT.block (MapT.block hb6 ((hg2.trans hg3).block _ hb6.lt (by simp))) (Below.heap_alloc _ _ _ (MapT.lt (MapT.block hb6 ((hg2.trans hg3).block _ hb6.lt (by simp)))))), new_has hS1.size hS2.size hS3.size (by simp), hS4⟩

end Go.Proofs.Ytippkdjggipnmaa
