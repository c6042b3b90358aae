/-
  The document's own disk (package ref): its memory, and its calls.
-/
import Derived.Test.YtbgofhbanhanfaaCopy
namespace Go.Proofs.Ytbgofhbanhanfaa
open Go.RowKit

def rcells (fs : List File) : List Value := fs.map (·.v) ++ fs.map (fun f => .int .i64 f.fl.syn)

structure RefAt (w : World) (b : Nat) (fs : List File) : Prop where
  blk : BlkL w b (rcells fs) 30
  two : fs.length = 2
  ok : ∀ f ∈ fs, f.okAt w b

section
variable {w w' : World} {b : Nat} {fs : List File}
theorem RefAt.lt (h : RefAt w b fs) : b < w.heap.size := Blk.lt h.blk
theorem RefAt.footLt (h : RefAt w b fs) : ∀ g, foot b fs g → g < w.heap.size := by
  intro g hg
  rcases hg with rfl | ⟨f, hf, hv⟩
  · exact h.lt
  · exact ((h.ok f hf).own.lt g hv).2
theorem RefAt.kept {S : Nat → Prop} (h : RefAt w b fs) (hk : Kept S w w') (hn : ∀ g, foot b fs g → ¬ S g) : RefAt w' b fs :=
  ⟨(hk.block b h.lt (hn b (.inl rfl))).trans h.blk, h.two, fun f hf => (h.ok f hf).keep hk (fun g hg => hn g (.inr ⟨f, hf, hg⟩))⟩
theorem RefAt.chg (h : RefAt w b fs) (hc : Chg none w w') : RefAt w' b fs := h.kept (Kept.of_chg hc) (fun g _ e => by cases e)
theorem RefAt.get (h : RefAt w b fs) {k : Nat} (hk : k < 2) : ∃ f, fs[k]? = some f := ⟨_, List.getElem?_eq_getElem (by rw [h.two]; exact hk)⟩
theorem RefAt.file (h : RefAt w b fs) {k : Nat} {f : File} (hf : fs[k]? = some f) : f.okAt w b := h.ok f (List.mem_of_getElem? hf)
theorem RefAt.at_ (h : RefAt w b fs) {k : Nat} {f : File} (hf : fs[k]? = some f) :
    w.cell? ⟨b, k, none⟩ = some f.v ∧ w.cell? ⟨b, 2 + k, none⟩ = some (.int .i64 f.fl.syn) := by
  have hk : k < fs.length := (List.getElem?_eq_some_iff.1 hf).1
  have h2 := h.two
  refine ⟨?_, ?_⟩
  · rw [BlkL.cell h.blk, rcells, List.getElem?_append_left (by simpa using hk), List.getElem?_map, hf]; rfl
  · rw [BlkL.cell h.blk, rcells, List.getElem?_append_right (by simp; omega), List.getElem?_map, List.length_map, show 2 + k - fs.length = k by omega, hf]; rfl

theorem rcells_setv {k : Nat} {f : File} (v : Value) (bs : List UInt8) (h : fs.length = 2) (hf : fs[k]? = some f) : (rcells fs).set k v = rcells (fs.set k ⟨v, ⟨bs, f.fl.syn⟩⟩) := by
  obtain ⟨x, y, rfl⟩ : ∃ x y, fs = [x, y] := by
    match fs, h with
    | [x, y], _ => exact ⟨x, y, rfl⟩
  have hk : k < 2 := (List.getElem?_eq_some_iff.1 hf).1
  obtain rfl | rfl : k = 0 ∨ k = 1 := by omega
  · obtain rfl : x = f := by simpa using hf
    rfl
  · obtain rfl : y = f := by simpa using hf
    rfl
theorem rcells_sets {k : Nat} {f : File} (n : Nat) (h : fs.length = 2) (hf : fs[k]? = some f) : (rcells fs).set (2 + k) (.int .i64 n) = rcells (fs.set k ⟨f.v, ⟨f.fl.bs, n⟩⟩) := by
  obtain ⟨x, y, rfl⟩ : ∃ x y, fs = [x, y] := by
    match fs, h with
    | [x, y], _ => exact ⟨x, y, rfl⟩
  have hk : k < 2 := (List.getElem?_eq_some_iff.1 hf).1
  obtain rfl | rfl : k = 0 ∨ k = 1 := by omega
  · obtain rfl : x = f := by simpa using hf
    rfl
  · obtain rfl : y = f := by simpa using hf
    rfl
end

/-- What a call on the document's disk does: it writes to the disk's own block, and to what is new. -/
structure RStep (w : World) (b : Nat) (fs : List File) (w' : World) (fs' : List File) : Prop where
  at_ : RefAt w' b fs'
  chg : Chg (some b) w w'
  foot : ∀ g, foot b fs' g → foot b fs g ∨ w.heap.size ≤ g

theorem RStep.refl {w : World} {b : Nat} {fs : List File} (h : RefAt w b fs) : RStep w b fs w fs := ⟨h, Chg.refl _ _, fun _ hg => .inl hg⟩

theorem ref_put {w w2 : World} {b k : Nat} {fs : List File} {f : File} {v2 : Value} {bs' : List UInt8} (h : RefAt w b fs) (hf : fs[k]? = some f) (hg : Chg none w w2)
    (hown : w2.ownsRow 0 5 1 v2 bs'.length (byteVals bs')) (hnew : ∀ g, v2.ownBlock = some g → w.heap.size ≤ g) (htop : bs'.length ≤ 1048576) (hsyn : f.fl.syn ≤ bs'.length) :
    RStep w b fs (w2.setCell ⟨b, k, none⟩ v2) (fs.set k ⟨v2, ⟨bs', f.fl.syn⟩⟩) := by
  have hlt := h.lt
  have hk1 : Kept (fun g => g = b) w2 (w2.setCell ⟨b, k, none⟩ v2) := (Kept.refl (fun g => g = b) w2).setCell ⟨b, k, none⟩ _ (.inl rfl)
  have hok2 : File.okAt w2 b ⟨v2, ⟨bs', f.fl.syn⟩⟩ := ⟨hown, fun e => by have := hnew b e; omega, hsyn, htop⟩
  have h2 := h.chg hg
  have hnb : ∀ x : File, File.okAt w2 b x → File.okAt (w2.setCell ⟨b, k, none⟩ v2) b x := fun x hx => hx.keep hk1 (fun g hg' e => by subst e; exact hx.far hg')
  refine ⟨⟨?_, by rw [List.length_set]; exact h.two, fun x hx => ?_⟩, ⟨hk1.os.trans hg.os, hk1.tape.trans hg.tape, hk1.output.trans hg.output, Nat.le_trans hg.size hk1.size, fun i hi hn => ?_⟩, fun g hg' => ?_⟩
  · rw [← rcells_setv v2 bs' h.two hf]
    exact BlkL.set h2.blk k v2
  · rcases List.mem_or_eq_of_mem_set hx with h1 | h1
    · exact hnb x (h2.ok x h1)
    · rw [h1]; exact hnb _ hok2
  · exact (hk1.block i (Nat.lt_of_lt_of_le hi hg.size) (fun e => hn (by rw [e]))).trans (hg.block i hi (by simp))
  · rcases hg' with h1 | ⟨x, hx, hv⟩
    · exact .inl (.inl h1)
    · rcases List.mem_or_eq_of_mem_set hx with h1 | h1
      · exact .inl (.inr ⟨x, h1, hv⟩)
      · rw [h1] at hv; exact .inr (hnew g hv)

theorem has_yes (k : Nat) (hk : k < 2) (w : World) : Calls Try.prog 10 #[.int .i64 k] w fun e w' => e = .returned (.bool true) ∧ w = w' := by
  obtain rfl | rfl : k = 0 ∨ k = 1 := by omega
  · go_enter Try.func10, Try.ntmps10
    go_wp2_with fail
    go_ret
    exact ⟨rfl, rfl⟩
  · go_enter Try.func10, Try.ntmps10
    go_wp2_with fail
    go_ret
    exact ⟨rfl, rfl⟩

theorem has_no (k : Int) (hk : ¬ (0 ≤ k ∧ k < 2)) (w : World) : Calls Try.prog 10 #[.int .i64 k] w fun e w' => e = .returned (.bool false) ∧ w = w' := by
  have e0 : (k == 0) = false := by simp; omega
  have e1 : (k == 1) = false := by simp; omega
  go_enter Try.func10, Try.ntmps10
  go_wp2_with fail
  go_ret
  exact ⟨rfl, rfl⟩

set_option maxHeartbeats 1000000 in
/-- What the document's Append answers when it refuses. -/
theorem rappend_no (b : Nat) (k : Int) (A : Option Addr) (bs : List UInt8) (c : Nat) (w : World) (hk : ¬ (0 ≤ k ∧ k < 2)) :
    Calls Try.prog 12 #[.pointer (some ⟨b, 0, none⟩), .int .i64 k, .slice A bs.length c] w fun e w' => e = .returned (.int .i64 2) ∧ w = w' := by
  have HN := Lib.hid (fun W => has_no k hk W)
  go_enter Try.func12, Try.ntmps12
  go_wp2_with fail
  refine (HN.out _).mono ?_
  rintro e w' ⟨rfl, rfl⟩
  go_wp2_with fail
  go_ret
  exact ⟨rfl, rfl⟩

set_option maxHeartbeats 1000000 in
theorem rappend_full (b : Nat) (fs : List File) (k : Nat) (f : File) (A : Option Addr) (bs : List UInt8) (c : Nat) (w : World) (h : RefAt w b fs) (hf : fs[k]? = some f)
    (hful : 1048576 < f.fl.bs.length + bs.length) (hbl : bs.length ≤ 2097152) :
    Calls Try.prog 12 #[.pointer (some ⟨b, 0, none⟩), .int .i64 k, .slice A bs.length c] w fun e w' => e = .returned (.int .i64 8) ∧ w = w' := by
  have hk : k < 2 := by have := (List.getElem?_eq_some_iff.1 hf).1; rw [h.two] at this; exact this
  have HY := Lib.hid (fun W => has_yes k hk W)
  obtain ⟨c0, c1⟩ := h.at_ hf
  obtain ⟨A0, cp, hv⟩ := own_slice (h.file hf).own
  rw [hv] at c0
  have hlt := h.lt
  have htop := (h.file hf).top
  have hw : wrap64 ((f.fl.bs.length : Int) + (bs.length : Int)) = (f.fl.bs.length : Int) + (bs.length : Int) := IntWalk.wrap64_in _ (by omega)
  have d1 : decide (1048576 < wrap64 ((f.fl.bs.length : Int) + (bs.length : Int))) = true := by rw [hw]; simp; omega
  go_enter Try.func12, Try.ntmps12
  go_wp2_with fail
  refine (HY.out _).mono ?_
  rintro e w' ⟨rfl, rfl⟩
  go_wp2_with fail
  go_ret
  exact ⟨rfl, rfl⟩

set_option maxHeartbeats 2000000 in
theorem rappend_ok (b : Nat) (fs : List File) (k : Nat) (f : File) (A : Option Addr) (bs : List UInt8) (c : Nat) (w : World) (h : RefAt w b fs) (hf : fs[k]? = some f)
    (hful : f.fl.bs.length + bs.length ≤ 1048576) (hr : Reads w w.heap.size 1 A bs.length (byteVals bs)) :
    Calls Try.prog 12 #[.pointer (some ⟨b, 0, none⟩), .int .i64 k, .slice A bs.length c] w fun e w' => e = .returned (.int .i64 0) ∧ ∃ v', RStep w b fs w' (fs.set k ⟨v', ⟨f.fl.bs ++ bs, f.fl.syn⟩⟩) := by
  have hk : k < 2 := by have := (List.getElem?_eq_some_iff.1 hf).1; rw [h.two] at this; exact this
  have HY := Lib.hid (fun W => has_yes k hk W)
  obtain ⟨c0, c1⟩ := h.at_ hf
  have hown := (h.file hf).own
  obtain ⟨A0, cp, hv⟩ := own_slice hown
  rw [hv] at c0 hown
  have hlt := h.lt
  have htop := (h.file hf).top
  have hw : wrap64 ((f.fl.bs.length : Int) + (bs.length : Int)) = (f.fl.bs.length : Int) + (bs.length : Int) := IntWalk.wrap64_in _ (by omega)
  have d1 : decide (1048576 < wrap64 ((f.fl.bs.length : Int) + (bs.length : Int))) = false := by rw [hw]; simp; omega
  go_enter Try.func12, Try.ntmps12
  go_wp2_with fail
  refine (HY.out _).mono ?_
  rintro e w' ⟨rfl, rfl⟩
  have hk3 : (k : Int) < 2 := by omega
  have hblk := h.blk
  have hput : ∀ v2 w2, Chg none w w2 → w2.ownsRow 0 5 1 v2 (0 + f.fl.bs.length + bs.length) (byteVals [] ++ byteVals f.fl.bs ++ byteVals bs) → (∀ g, v2.ownBlock = some g → w.heap.size ≤ g) →
      RStep w b fs (w2.setCell ⟨b, k, none⟩ v2) (fs.set k ⟨v2, ⟨f.fl.bs ++ bs, f.fl.syn⟩⟩) := by
    intro v2 w2 g ho hn
    have hsyn := (h.file hf).syn
    refine ref_put h hf g ?_ hn (by rw [List.length_append]; exact hful) (by rw [List.length_append]; omega)
    rw [List.length_append]
    rw [byteVals_append, byteVals_append, Nat.zero_add] at ho
    exact ho
  have HPUT := Lib.hid hput
  clear hput
  obtain ⟨i0, hi, hz0, hz1, hz2⟩ := info_parts Try.info5
  have HR0 := Lib.hid (fun W (g : Chg none w W) => (Reads.of_own hown).grown g (Nat.le_refl _) (by simp))
  have HR := Lib.hid (fun W (g : Chg none w W) => hr.grown g (Nat.le_refl _) (by simp))
  have HO0 := Lib.hid (byteVals_one f.fl.bs)
  have HO := Lib.hid (byteVals_one bs)
  have l1 : 0 + f.fl.bs.length ≤ maxLen := by unfold maxLen; omega
  have l2 : (0 + f.fl.bs.length) * 1 ≤ 140737488355328 := by omega
  have l3 : 0 + f.fl.bs.length + bs.length ≤ maxLen := by unfold maxLen; omega
  have l4 : (0 + f.fl.bs.length + bs.length) * 1 ≤ 140737488355328 := by omega
  have hgA : Chg none w (w.alloc (.cells #[] 5)).drew := ((Chg.refl none w).alloc _).drew
  have hoA : ((w.alloc (.cells #[] 5)).drew).ownsRow 0 5 1 (.slice (some ⟨w.heap.size, 0, none⟩) 0 0) 0 (byteVals []) := own_blkL (xs := []) (Blk.new w #[] 5).drew (Nat.zero_le _) rfl (by decide)
  have hcA : ∀ W, Chg none w W → W.cell? ⟨b, k, none⟩ = some (.slice A0 f.fl.bs.length cp) := fun W g => World.grownBy.cell g c0 (by simp)
  go_wp2_with fail
  refine wp_region_held_drew (S := fun _ => True) (by kernel_rfl) trivial (fun _ => ?_)
  refine wpAnyH_take (i := 0) (oi := ⟨some 21, _, _, _, _, _⟩) (v := ?_) rfl (by kernel_rfl) (by kernel_rfl) (by kernel_rfl) (fun _ _ _ h => h) (Or.inl ⟨by rfl, ?_⟩) (by assumption) ?_
  rotate_left
  · intro w hSw; (try dsimp only at hSw); go_simp; (try rw [if_pos hk3]); (try with_reducible rfl)
  try simp only [Act.put, List.setIfInBounds_toArray, List.set_cons_zero, List.set_cons_succ]
  refine wpAnyH_take (i := 1) (oi := ⟨some 22, _, _, _, _, _⟩) (v := ?_) rfl (by kernel_rfl) (by kernel_rfl) (by kernel_rfl) (fun _ _ _ h => h) (Or.inl ⟨by rfl, ?_⟩) (by assumption) ?_
  rotate_left
  · intro w hSw; (try dsimp only at hSw); go_simp; (try rw [if_pos hk3]); (try with_reducible rfl)
  try simp only [Act.put, List.setIfInBounds_toArray, List.set_cons_zero, List.set_cons_succ]
  refine wpAnyH_take (i := 3) (oi := ⟨some 24, _, _, _, _, _⟩) (v := ?_) rfl (by kernel_rfl) (by kernel_rfl) (by kernel_rfl) (fun _ _ _ h => h) (Or.inl ⟨by rfl, ?_⟩) (by assumption) ?_
  rotate_left
  · intro w hSw; (try dsimp only at hSw); go_simp; (try rw [if_pos hk3]); (try with_reducible rfl)
  try simp only [Act.put, List.setIfInBounds_toArray, List.set_cons_zero, List.set_cons_succ]
  refine wpAnyH_take (i := 4) (oi := ⟨some 25, _, _, _, _, _⟩) (v := ?_) rfl (by kernel_rfl) (by kernel_rfl) (by kernel_rfl) (fun _ _ _ h => h) (Or.inl ⟨by rfl, ?_⟩) (by assumption) ?_
  rotate_left
  · intro w hSw; (try dsimp only at hSw); go_simp; (try rw [if_pos hk3]); (try with_reducible rfl)
  try simp only [Act.put, List.setIfInBounds_toArray, List.set_cons_zero, List.set_cons_succ]
  refine wpAnyH_take (i := 5) (oi := ⟨some 26, _, _, _, _, _⟩) (v := ?_) rfl (by kernel_rfl) (by kernel_rfl) (by kernel_rfl) (fun _ _ _ h => h) (Or.inl ⟨by rfl, ?_⟩) (by assumption) ?_
  rotate_left
  · intro w hSw; (try dsimp only at hSw); go_simp; (try rw [if_pos hk3]); (try with_reducible rfl)
  try simp only [Act.put, List.setIfInBounds_toArray, List.set_cons_zero, List.set_cons_succ]
  refine wpAnyH_take (i := 6) (oi := ⟨some 27, _, _, _, _, _⟩) (v := ?_) rfl (by kernel_rfl) (by kernel_rfl) (by kernel_rfl) (fun _ _ _ h => h) (Or.inl ⟨by rfl, ?_⟩) (by assumption) ?_
  rotate_left
  · intro w hSw; (try dsimp only at hSw); go_simp; (try rw [if_pos hk3]); (try with_reducible rfl)
  try simp only [Act.put, List.setIfInBounds_toArray, List.set_cons_zero, List.set_cons_succ]
  refine wpAnyH_take (i := 7) (oi := ⟨some 28, _, _, _, _, _⟩) (v := ?_) rfl (by kernel_rfl) (by kernel_rfl) (by kernel_rfl) (fun _ _ _ h => h) (Or.inl ⟨by rfl, ?_⟩) (by assumption) ?_
  rotate_left
  · intro w hSw; (try dsimp only at hSw); go_simp; (try rw [if_pos hk3]); (try with_reducible rfl)
  try simp only [Act.put, List.setIfInBounds_toArray, List.set_cons_zero, List.set_cons_succ]
  refine wpAnyH_take (i := 10) (oi := ⟨some 31, _, _, _, _, _⟩) (v := ?_) rfl (by kernel_rfl) (by kernel_rfl) (by kernel_rfl) (fun _ _ _ h => h) (Or.inl ⟨by rfl, ?_⟩) (by assumption) ?_
  rotate_left
  · intro w hSw; (try dsimp only at hSw); go_simp; (try rw [if_pos hk3]); (try with_reducible rfl)
  try simp only [Act.put, List.setIfInBounds_toArray, List.set_cons_zero, List.set_cons_succ]
  refine wpAnyH_take (i := 12) (oi := ⟨some 33, _, _, _, _, _⟩) (v := ?_) rfl (by kernel_rfl) (by kernel_rfl) (by kernel_rfl) (fun _ _ _ h => h) (Or.inl ⟨by rfl, ?_⟩) (by assumption) ?_
  rotate_left
  · intro w hSw; (try dsimp only at hSw); go_simp; (try rw [if_pos hk3]); (try with_reducible rfl)
  try simp only [Act.put, List.setIfInBounds_toArray, List.set_cons_zero, List.set_cons_succ]
  refine wpAnyH_take (i := 13) (oi := ⟨some 34, _, _, _, _, _⟩) (v := ?_) rfl (by kernel_rfl) (by kernel_rfl) (by kernel_rfl) (fun _ _ _ h => h) (Or.inl ⟨by rfl, ?_⟩) (by assumption) ?_
  rotate_left
  · intro w hSw; (try dsimp only at hSw); go_simp; (try rw [if_pos hk3]); (try with_reducible rfl)
  try simp only [Act.put, List.setIfInBounds_toArray, List.set_cons_zero, List.set_cons_succ]
  refine wpAnyH_ready (rs := [2, 8]) (by kernel_rfl) (by simp) ?_
  refine AllReadyH.cons (o := ⟨some 23, _, _, _, _, _⟩) rfl (fun K hK => ?_) ?_
  · go_simp
    refine hK.out _ _ trivial (fun _ => ?_)
    clear hK K
    try simp only [Act.put, List.setIfInBounds_toArray, List.set_cons_zero, List.set_cons_succ]
    have hx := hcA _ hgA
    refine wpAnyH_ready (rs := [8]) (by kernel_rfl) (by simp) ?_
    refine AllReadyH.cons (o := ⟨some 29, _, _, _, _, _⟩) rfl (fun K hK => ?_) ?_
    rotate_left
    · exact AllReadyH.nil
    go_simp
    refine hK.out _ _ trivial (fun _ => ?_)
    clear hK K
    try simp only [Act.put, List.setIfInBounds_toArray, List.set_cons_zero, List.set_cons_succ]
    refine wpAnyH_ready (rs := [9]) (by kernel_rfl) (by simp) ?_
    refine AllReadyH.cons (o := ⟨some 30, _, _, _, _, _⟩) rfl (fun K hK => ?_) ?_
    rotate_left
    · exact AllReadyH.nil
    refine step_append_any _ rfl (.tmp 23) (.tmp 29) 26 rfl 0 5 i0 (.int .u8 0) 1 1 Try.underlying26 hi hz0 hz1 hz2 rfl (by decide) (.slice (some ⟨w.heap.size, 0, none⟩) 0 0) 0 (byteVals []) rfl hoA w.heap.size A0 f.fl.bs.length cp (byteVals f.fl.bs) rfl (HR0.out _ hgA) HO0.out l1 l2 (Nat.zero_le _) ?_
    intro v1 w1 hown1 hgr1 hat1
    have hgB : Chg none w w1 := hgA.kept (Kept.of_chg hgr1) (fun g e => by simp [Value.ownBlock] at e; omega)
    refine hK.out _ _ trivial (fun _ => ?_)
    clear hK K
    try simp only [Act.put, List.setIfInBounds_toArray, List.set_cons_zero, List.set_cons_succ]
    refine wpAnyH_ready (rs := [11]) (by kernel_rfl) (by simp) ?_
    refine AllReadyH.cons (o := ⟨some 32, _, _, _, _, _⟩) rfl (fun K hK => ?_) ?_
    rotate_left
    · exact AllReadyH.nil
    refine step_append_any _ rfl (.tmp 30) (.tmp 31) 26 rfl 0 5 i0 (.int .u8 0) 1 1 Try.underlying26 hi hz0 hz1 hz2 rfl (by decide) v1 (0 + f.fl.bs.length) (byteVals [] ++ byteVals f.fl.bs) rfl hown1 w.heap.size A bs.length c (byteVals bs) rfl (HR.out _ hgB) HO.out l3 l4 (Nat.zero_le _) ?_
    intro v2 w2 hown2 hgr2 hat2
    have hn1 : ∀ g, v1.ownBlock = some g → w.heap.size ≤ g := fun g e => by have hz := hgA.size; rcases hat1 with e1 | e1 <;> rw [e1] at e <;> simp [Value.ownBlock] at e <;> omega
    have hgC : Chg none w w2 := hgB.kept (Kept.of_chg hgr2) hn1
    have hn2 : ∀ g, v2.ownBlock = some g → w.heap.size ≤ g := fun g e => by have hz := hgB.size; rcases hat2 with e1 | e1; exact hn1 g (e1.symm.trans e); rw [e1] at e; simp at e; omega
    refine hK.out _ _ trivial (fun _ => ?_)
    clear hK K
    try simp only [Act.put, List.setIfInBounds_toArray, List.set_cons_zero, List.set_cons_succ]
    refine wpAnyH_take (i := 14) (oi := ⟨some 35, _, _, _, _, _⟩) (v := ?_) rfl (by kernel_rfl) (by kernel_rfl) (by kernel_rfl) (fun _ _ _ h => h) (Or.inl ⟨by rfl, ?_⟩) (by assumption) ?_
    rotate_left
    · intro w hSw; (try dsimp only at hSw); go_simp; (try rw [if_pos hk3]); (try with_reducible rfl)
    try simp only [Act.put, List.setIfInBounds_toArray, List.set_cons_zero, List.set_cons_succ]
    obtain ⟨A2, c2, rfl⟩ := own_slice hown2
    have hend := HPUT.out _ w2 hgC hown2 hn2
    rw [Nat.zero_add] at hend
    have hx := hcA _ hgC
    have hz := Blk.frozen (Blk.chg hblk hgC (by simp)) k
    refine wpAnyH_ready (rs := [15]) (by kernel_rfl) (by simp) ?_
    refine AllReadyH.cons (o := ⟨none, _, _, _, _, _⟩) rfl (fun K hK => ?_) ?_
    rotate_left
    · exact AllReadyH.nil
    go_simp
    refine hK.out _ _ trivial (fun _ => ?_)
    clear hK K
    refine wpAnyH_done (by kernel_rfl) ?_ _
    go_wp2_with fail
    go_ret
    exact ⟨rfl, _, hend⟩
  refine AllReadyH.cons (o := ⟨some 29, _, _, _, _, _⟩) rfl (fun K hK => ?_) ?_
  · go_simp
    refine hK.out _ _ trivial (fun _ => ?_)
    clear hK K
    try simp only [Act.put, List.setIfInBounds_toArray, List.set_cons_zero, List.set_cons_succ]
    refine wpAnyH_ready (rs := [2]) (by kernel_rfl) (by simp) ?_
    refine AllReadyH.cons (o := ⟨some 23, _, _, _, _, _⟩) rfl (fun K hK => ?_) ?_
    rotate_left
    · exact AllReadyH.nil
    go_simp
    refine hK.out _ _ trivial (fun _ => ?_)
    clear hK K
    try simp only [Act.put, List.setIfInBounds_toArray, List.set_cons_zero, List.set_cons_succ]
    refine wpAnyH_ready (rs := [9]) (by kernel_rfl) (by simp) ?_
    refine AllReadyH.cons (o := ⟨some 30, _, _, _, _, _⟩) rfl (fun K hK => ?_) ?_
    rotate_left
    · exact AllReadyH.nil
    refine step_append_any _ rfl (.tmp 23) (.tmp 29) 26 rfl 0 5 i0 (.int .u8 0) 1 1 Try.underlying26 hi hz0 hz1 hz2 rfl (by decide) (.slice (some ⟨w.heap.size, 0, none⟩) 0 0) 0 (byteVals []) rfl hoA w.heap.size A0 f.fl.bs.length cp (byteVals f.fl.bs) rfl (HR0.out _ hgA) HO0.out l1 l2 (Nat.zero_le _) ?_
    intro v1 w1 hown1 hgr1 hat1
    have hgB : Chg none w w1 := hgA.kept (Kept.of_chg hgr1) (fun g e => by simp [Value.ownBlock] at e; omega)
    refine hK.out _ _ trivial (fun _ => ?_)
    clear hK K
    try simp only [Act.put, List.setIfInBounds_toArray, List.set_cons_zero, List.set_cons_succ]
    refine wpAnyH_ready (rs := [11]) (by kernel_rfl) (by simp) ?_
    refine AllReadyH.cons (o := ⟨some 32, _, _, _, _, _⟩) rfl (fun K hK => ?_) ?_
    rotate_left
    · exact AllReadyH.nil
    refine step_append_any _ rfl (.tmp 30) (.tmp 31) 26 rfl 0 5 i0 (.int .u8 0) 1 1 Try.underlying26 hi hz0 hz1 hz2 rfl (by decide) v1 (0 + f.fl.bs.length) (byteVals [] ++ byteVals f.fl.bs) rfl hown1 w.heap.size A bs.length c (byteVals bs) rfl (HR.out _ hgB) HO.out l3 l4 (Nat.zero_le _) ?_
    intro v2 w2 hown2 hgr2 hat2
    have hn1 : ∀ g, v1.ownBlock = some g → w.heap.size ≤ g := fun g e => by have hz := hgA.size; rcases hat1 with e1 | e1 <;> rw [e1] at e <;> simp [Value.ownBlock] at e <;> omega
    have hgC : Chg none w w2 := hgB.kept (Kept.of_chg hgr2) hn1
    have hn2 : ∀ g, v2.ownBlock = some g → w.heap.size ≤ g := fun g e => by have hz := hgB.size; rcases hat2 with e1 | e1; exact hn1 g (e1.symm.trans e); rw [e1] at e; simp at e; omega
    refine hK.out _ _ trivial (fun _ => ?_)
    clear hK K
    try simp only [Act.put, List.setIfInBounds_toArray, List.set_cons_zero, List.set_cons_succ]
    refine wpAnyH_take (i := 14) (oi := ⟨some 35, _, _, _, _, _⟩) (v := ?_) rfl (by kernel_rfl) (by kernel_rfl) (by kernel_rfl) (fun _ _ _ h => h) (Or.inl ⟨by rfl, ?_⟩) (by assumption) ?_
    rotate_left
    · intro w hSw; (try dsimp only at hSw); go_simp; (try rw [if_pos hk3]); (try with_reducible rfl)
    try simp only [Act.put, List.setIfInBounds_toArray, List.set_cons_zero, List.set_cons_succ]
    obtain ⟨A2, c2, rfl⟩ := own_slice hown2
    have hend := HPUT.out _ w2 hgC hown2 hn2
    rw [Nat.zero_add] at hend
    have hx := hcA _ hgC
    have hz := Blk.frozen (Blk.chg hblk hgC (by simp)) k
    refine wpAnyH_ready (rs := [15]) (by kernel_rfl) (by simp) ?_
    refine AllReadyH.cons (o := ⟨none, _, _, _, _, _⟩) rfl (fun K hK => ?_) ?_
    rotate_left
    · exact AllReadyH.nil
    go_simp
    refine hK.out _ _ trivial (fun _ => ?_)
    clear hK K
    refine wpAnyH_done (by kernel_rfl) ?_ _
    go_wp2_with fail
    go_ret
    exact ⟨rfl, _, hend⟩
  exact AllReadyH.nil


end Go.Proofs.Ytbgofhbanhanfaa
