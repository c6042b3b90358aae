/-
  The document's attest: which results may be; what is tagged.
-/
import Derived.Test.YtehpigmcmgfkoaaDoorA4
namespace Go.Proofs.YtehpigmcmgfkoaaDoor
open Go.RowKit

theorem mayr_any (a : Att) (w : World) : Calls Tryd.prog 28 #[.agg (attCells a).toArray] w fun e w' => e = .returned (.bool (mayB a.n)) ∧ Chg none w w' := by
  have gA : Chg none w (w.alloc (.cells (attCells a).toArray 46)) := (Chg.refl _ _).alloc _
  have cK := att_num (Blk.range (show BlkL (w.alloc (.cells (attCells a).toArray 46)) w.heap.size (attCells a) 46 from Blk.new _ _ _))
  by_cases h1 : 1 ≤ a.n
  · by_cases h2 : a.n ≤ 5000
    · have hm : mayB a.n = true := by unfold mayB; simp [h1, h2]
      rw [hm]
      generalize (attCells a).toArray = CA at *
      generalize a.n = n at *
      have d1 : decide (n ≥ 1) = true := by simpa using h1
      have d2 : decide (n ≤ 5000) = true := by simpa using h2
      clear hm
      go_enter Tryd.func28, Tryd.ntmps28
      go_wp2_with fail
      go_ret
      exact ⟨rfl, gA⟩
    · have hm : mayB a.n = false := by unfold mayB; simp [h1, h2]
      rw [hm]
      generalize (attCells a).toArray = CA at *
      generalize a.n = n at *
      have d1 : decide (n ≥ 1) = true := by simpa using h1
      have d2 : decide (n ≤ 5000) = false := by simpa using h2
      clear hm
      go_enter Tryd.func28, Tryd.ntmps28
      go_wp2_with fail
      go_ret
      exact ⟨rfl, gA⟩
  · have hm : mayB a.n = false := by unfold mayB; simp [h1]
    rw [hm]
    generalize (attCells a).toArray = CA at *
    generalize a.n = n at *
    have d1 : decide (n ≥ 1) = false := by simpa using h1
    clear hm
    go_enter Tryd.func28, Tryd.ntmps28
    go_wp2_with fail
    go_ret
    exact ⟨rfl, gA⟩

/-- Eight bytes of which the last j are there. -/
def eightTo (n j : Nat) : List UInt8 := zeros (8 - j) ++ (be 8 n).drop (8 - j)
theorem eightTo_len (n j : Nat) (h : j ≤ 8) : (eightTo n j).length = 8 := by
  unfold eightTo zeros; rw [List.length_append, List.length_replicate, List.length_drop, be_len]; omega
theorem eightTo_set (n j : Nat) (h : j < 8) : (eightTo n j).set (7 - j) (UInt8.ofNat (n / 256 ^ j)) = eightTo n (j + 1) := by
  unfold eightTo zeros
  have e1 : 8 - j = (7 - j) + 1 := by omega
  have e2 : 8 - (j + 1) = 7 - j := by omega
  have hg := be_get 8 n (7 - j) (by omega)
  have hd : (be 8 n).drop (7 - j) = UInt8.ofNat (n / 256 ^ j) :: (be 8 n).drop (8 - j) := by
    rw [List.drop_eq_getElem_cons (by rw [be_len]; omega), e1]
    congr 1
    rw [List.getElem?_eq_getElem (by rw [be_len]; omega)] at hg
    injection hg with hg
    rw [hg, show 8 * (8 - 1 - (7 - j)) = 8 * j by omega, Nat.pow_mul]
  rw [e2, hd, e1, List.replicate_succ', List.append_assoc, List.set_append_right _ _ (by rw [List.length_replicate]; exact Nat.le_refl _), List.length_replicate, Nat.sub_self]
  rfl

set_option maxRecDepth 100000 in
set_option maxHeartbeats 4000000 in
theorem eightq_any (n : Nat) (hn : n < 9223372036854775808) (w : World) : Calls Tryd.prog 49 #[.int .i64 n] w fun e w' =>
    ∃ b, e = .returned (.slice (some ⟨b, 0, none⟩) 8 8) ∧ BlkL w' b (byteVals (be 8 n)) 5 ∧ w.heap.size ≤ b ∧ Chg none w w' := by
  have hmk : ∀ W : World, (Instr.makeSlice 22 (.int .i64 8) (.int .i64 8)).run Tryd.prog W = .ok (.slice (some ⟨W.heap.size, 0, none⟩) 8 8) (W.alloc (.cells (byteVals (zeros 8)).toArray 5)) := fun W => make_n 8 (by decide) W
  obtain ⟨W1, hW1⟩ : ∃ W1, W1 = w.alloc (.cells (byteVals (zeros 8)).toArray 5) := ⟨_, rfl⟩
  have HW1 : Hid (w.alloc (.cells (byteVals (zeros 8)).toArray 5) = W1) := hW1.symm
  have g1 : Chg none w W1 := by rw [hW1]; exact (Chg.refl _ _).alloc _
  have b1 : BlkL W1 w.heap.size (byteVals (eightTo n 0)) 5 := by
    have : eightTo n 0 = zeros 8 := by unfold eightTo; rw [List.drop_eq_nil_of_le (by rw [be_len]; decide), List.append_nil]
    rw [this, hW1]; exact Blk.new _ _ _
  clear hW1
  go_enter Tryd.func49, Tryd.ntmps49
  go_wp2_with fail
  rw [HW1.out]
  clear HW1 hmk
  generalize hpB : w.heap.size = pB at *
  have HPB := Lib.hid hpB
  clear hpB
  go_loopw [3, 5] (fun s3 s5 wr => ∃ j : Nat, j ≤ 8 ∧ s5 = .int .i64 (7 - (j : Int)) ∧ s3 = .int .u64 ((n / 256 ^ j : Nat) : Int) ∧ BlkL wr pB (byteVals (eightTo n j)) 5 ∧ Chg none w wr) (fun _ s5 _ => (intOf s5 + 1).toNat)
  case atStart => exact ⟨0, by omega, rfl, by rw [Nat.pow_zero, Nat.div_one], b1, g1⟩
  case round =>
    obtain ⟨j, hj, rfl, rfl, bk, gk⟩ := hrel
    clear b1 g1
    by_cases hlt : j < 8
    · have hd : decide ((7 - (j : Int)) ≥ 0) = true := by simp; omega
      obtain ⟨q, hq⟩ : ∃ q, q = n / 256 ^ j := ⟨_, rfl⟩
      have hq9 : q ≤ n := by rw [hq]; exact Nat.div_le_self _ _
      have hq2 : n / 256 ^ (j + 1) = q / 256 := by rw [hq, Nat.pow_succ, Nat.div_div_eq_div_mul]
      have hx : ((UInt8.ofNat q).toNat : Int) = (q : Int) % 256 := by simp [UInt8.toNat_ofNat']
      have hset := BlkL.set bk (7 - j) (.int .u8 (UInt8.ofNat q).toNat)
      rw [byteVals_set, hq, eightTo_set n j hlt, ← hq, hx] at hset
      have HSET := Lib.hid hset
      have HQ2 := Lib.hid hq2
      have hi7 : (7 - (j : Int)).toNat = 7 - j := by omega
      have cK := (BlkL.cell bk (7 - j)).trans (byte_at (a := eightTo n j) (by rw [eightTo_len _ _ hj]; omega))
      have hfz := Blk.frozen bk (7 - j)
      generalize (eightTo n j).getD (7 - j) 0 = y at *
      have i1 : (0 : Int) ≤ 7 - (j : Int) := by omega
      have i2 : 7 - (j : Int) < 8 := by omega
      rw [← hq]
      clear hset hx hq hq2
      go_wp2_with fail
      go_roundw
      case rel => exact ⟨j + 1, by omega, by congr 1; omega, by rw [HQ2.out]; rfl, HSET.out, gk.setNew _ (by rw [HPB.out]; exact Nat.le_refl _) _⟩
      case measure => simp only [intOf]; omega
    · have hj8 : j = 8 := by omega
      have hd : decide ((7 - (j : Int)) ≥ 0) = false := by simp; omega
      have hfin : eightTo n j = be 8 n := by rw [hj8]; unfold eightTo zeros; simp
      rw [hfin] at bk
      clear hfin hj8
      go_wp2_with fail
      go_ret
      exact ⟨pB, rfl, bk, by rw [HPB.out]; exact Nat.le_refl _, gk⟩

end Go.Proofs.YtehpigmcmgfkoaaDoor
