/-
  Package merkle: numbers in eight bytes; the digests of leaves, of pairs, of the root.
-/
import Derived.Test.YtdkgecphkppglaaDoorM2
import Derived.Test.YtdkgecphkppglaaDoorH3
namespace Go.Proofs.YtdkgecphkppglaaDoor
open Go.RowKit

def eightAt (n k : Nat) : List UInt8 := (be 8 n).take k ++ zeros (8 - k)
theorem eightAt_len (n k : Nat) (h : k ≤ 8) : (eightAt n k).length = 8 := by
  unfold eightAt zeros
  rw [List.length_append, List.length_take, be_len, List.length_replicate]; omega
theorem eightAt_set (n k : Nat) (h : k < 8) : (eightAt n k).set k (UInt8.ofNat (n / 2 ^ (8 * (8 - 1 - k)))) = eightAt n (k + 1) := by
  have hl : ((be 8 n).take k).length = k := by rw [List.length_take, be_len]; omega
  unfold eightAt zeros
  rw [List.set_append_right _ _ (by omega), hl, Nat.sub_self, show 8 - k = (8 - (k + 1)) + 1 by omega, List.replicate_succ, List.set_cons_zero, be_take_succ 8 n k h, List.append_assoc]
  rfl


theorem make8 (w : World) : (Instr.makeSlice 22 (.int .i64 8) (.int .i64 8)).run Tryd.prog w = .ok (.slice (some ⟨w.heap.size, 0, none⟩) 8 8) (w.alloc (.cells (byteVals (zeros 8)).toArray 5)) := make_n 8 (by decide) w

/-- Eight bytes in a block of the call's own. -/
def EightPost (w : World) (bs : List UInt8) (e : Ending) (w' : World) : Prop :=
  ∃ b, e = .returned (.slice (some ⟨b, 0, none⟩) 8 8) ∧ BlkL w' b (byteVals bs) 5 ∧ w.heap.size ≤ b ∧ Chg none w w'

set_option maxRecDepth 100000 in
set_option maxHeartbeats 1000000 in
theorem eight_any (n : Nat) (hn : n < 9223372036854775808) (w : World) : Calls Tryd.prog 72 #[.int .i64 n] w (EightPost w (be 8 n)) := by
  have hW1 : ∃ W1, W1 = w.alloc (.cells (byteVals (zeros 8)).toArray 5) := ⟨_, rfl⟩
  obtain ⟨W1, hW1⟩ := hW1
  have g1 : Chg none w W1 := by rw [hW1]; exact (Chg.refl _ _).alloc _
  have b1 : BlkL W1 w.heap.size (byteVals (eightAt n 0)) 5 := by rw [hW1]; exact Blk.new _ _ _
  have HW : Hid (w.alloc (.cells (byteVals (zeros 8)).toArray 5) = W1) := hW1.symm
  have hmk := make8 w
  clear hW1
  go_enter Tryd.func72, Tryd.ntmps72
  go_wp2_with fail
  have e1 := HW.out
  rw [e1]
  clear e1
  have hle : w.heap.size ≤ w.heap.size := Nat.le_refl _
  generalize hb : w.heap.size = b at *
  have HB := Lib.hid hb
  clear hb
  go_loopw [6] (fun s6 wr => ∃ k : Nat, k ≤ 8 ∧ s6 = .int .i64 k ∧ BlkL wr b (byteVals (eightAt n k)) 5 ∧ Chg none w wr) (fun s6 _ => 8 - (intOf s6).toNat)
  case atStart => exact ⟨0, by omega, rfl, b1, g1⟩
  case round =>
    obtain ⟨k, hk, rfl, bk, gk⟩ := hrel
    clear b1 g1
    by_cases hlt : k < 8
    · have cK := (BlkL.cell bk k).trans (byte_at (a := eightAt n k) (by rw [eightAt_len _ _ hk]; exact hlt))
      have hfz := Blk.frozen bk k
      obtain ⟨x, hx⟩ : ∃ x, x = UInt8.ofNat (n / 2 ^ (56 - 8 * k)) := ⟨_, rfl⟩
      have hv : (x.toNat : Int) = (n : Int) / 2 ^ (56 - 8 * k) % 256 := by rw [hx, byte_shr]
      have hset := BlkL.set bk k (.int .u8 x.toNat)
      rw [byteVals_set, hx, show 56 - 8 * k = 8 * (8 - 1 - k) by omega, eightAt_set n k hlt, show 8 * (8 - 1 - k) = 56 - 8 * k by omega, ← hx, hv] at hset
      have HSET := Lib.hid hset
      generalize (eightAt n k).getD k 0 = y at *
      clear hset hx hv
      go_wp2_with fail
      go_roundw
      case rel => exact ⟨k + 1, by omega, by go_num, HSET.out, gk.setNew _ (by rw [HB.out]; exact Nat.le_refl _) _⟩
      case measure => first | (simp [intOf]; done) | (simp [intOf]; omega)
    · obtain rfl : k = 8 := by omega
      have hd8 : decide (((8 : Nat) : Int) < 8) = false := by decide
      have hfin : eightAt n 8 = be 8 n := by unfold eightAt zeros; rw [List.take_of_length_le (by rw [be_len]; omega)]; simp
      rw [hfin] at bk
      clear hfin
      go_wp2_with fail
      go_ret
      exact ⟨b, rfl, bk, by rw [HB.out]; exact Nat.le_refl _, gk⟩


/-- The digest of a leaf, of a pair, of the root. -/
def leafB (i : Nat) (chunk : List UInt8) : List UInt8 := dig (0 :: (be 8 i ++ chunk))
def pairB (l r : List UInt8) : List UInt8 := dig (1 :: (l ++ r))
def rootOfB (n : Nat) (top : List UInt8) : List UInt8 := dig (2 :: (be 8 n ++ top))

set_option maxRecDepth 100000 in
set_option maxHeartbeats 4000000 in
theorem leaf_any (i : Nat) (p : Prt) (w : World) (hp : p.ok w) (hi : i < 9223372036854775808) (hn : p.x.length ≤ 1000000) (hT : Tabs w) :
    Calls Tryd.prog 60 #[.int .i64 i, .slice p.A p.x.length p.c] w fun e w' => e = .returned (.agg (byteVals (leafB i p.x)).toArray) ∧ Chg none w w' := by
  obtain ⟨W1, hW1⟩ : ∃ W1, W1 = w.alloc (.cells zero32 30) := ⟨_, rfl⟩
  have HW1 : Hid (w.alloc (.cells #[Value.int IntKind.u8 0, Value.int IntKind.u8 0, Value.int IntKind.u8 0, Value.int IntKind.u8 0, Value.int IntKind.u8 0, Value.int IntKind.u8 0, Value.int IntKind.u8 0, Value.int IntKind.u8 0, Value.int IntKind.u8 0, Value.int IntKind.u8 0, Value.int IntKind.u8 0, Value.int IntKind.u8 0, Value.int IntKind.u8 0, Value.int IntKind.u8 0, Value.int IntKind.u8 0, Value.int IntKind.u8 0, Value.int IntKind.u8 0, Value.int IntKind.u8 0, Value.int IntKind.u8 0, Value.int IntKind.u8 0, Value.int IntKind.u8 0, Value.int IntKind.u8 0, Value.int IntKind.u8 0, Value.int IntKind.u8 0, Value.int IntKind.u8 0, Value.int IntKind.u8 0, Value.int IntKind.u8 0, Value.int IntKind.u8 0, Value.int IntKind.u8 0, Value.int IntKind.u8 0, Value.int IntKind.u8 0, Value.int IntKind.u8 0] 30) = W1) := hW1.symm
  have g1 : Chg none w W1 := by rw [hW1]; exact (Chg.refl _ _).alloc _
  have bR1 : Blk W1 w.heap.size zero32 30 := by rw [hW1]; exact Blk.new _ _ _
  clear hW1
  have HE := Lib.hid (eight_any i hi W1)
  obtain ⟨D, hD⟩ : ∃ D, D = leafB i p.x := ⟨_, rfl⟩
  have hDl : D.length = 32 := by rw [hD]; exact dig_len _
  rw [← hD]
  have HD := Lib.hid hD
  clear hD
  go_enter Tryd.func60, Tryd.ntmps60
  go_upto_region 1 with (fail)
  have e1 := HW1.out
  rw [e1]
  clear e1
  generalize hpR : w.heap.size = pR at *
  have HPR := Lib.hid hpR
  clear hpR
  go_wp2_with fail
  refine HE.out.mono ?_
  rintro e w2 ⟨b, rfl, b2, hb2, g2⟩
  have g02 := g1.trans g2
  have bR2 := bR1.chg g2 (by simp)
  have gA : Chg none w2 (w2.alloc (.cells #[.slice (some ⟨b, 0, none⟩) 8 8, .slice p.A p.x.length p.c] 22)) := (Chg.refl _ _).alloc _
  have hQ : Blk (w2.alloc (.cells #[.slice (some ⟨b, 0, none⟩) 8 8, .slice p.A p.x.length p.c] 22)) w2.heap.size #[(⟨some ⟨b, 0, none⟩, be 8 i, 8⟩ : Prt).val, p.val] 22 := by
    show Blk _ _ #[.slice (some ⟨b, 0, none⟩) (be 8 i).length 8, .slice p.A p.x.length p.c] 22
    rw [be_len]; exact Blk.new _ _ _
  have hPA := parts_two hQ ((prt_of_row b2 (by rw [be_len]; exact Nat.le_refl _)).chg gA) ((hp.chg g02).chg gA)
  have hj : joined [(⟨some ⟨b, 0, none⟩, be 8 i, 8⟩ : Prt), p] = be 8 i ++ p.x := by
    show be 8 i ++ (p.x ++ []) = _
    rw [List.append_nil]
  have HPT := Lib.hid (parts_any 0 (some ⟨w2.heap.size, 0, none⟩) [⟨some ⟨b, 0, none⟩, be 8 i, 8⟩, p] 2 _ hPA (by rw [hj, List.length_append, be_len]; omega) (by simp) ((hT.chg g02 (by simp)).chg gA (by simp)))
  rw [hj] at HPT
  have hD := HD.out
  change Hid (Calls Tryd.prog 19 #[.int .u8 0, .slice (some ⟨w2.heap.size, 0, none⟩) 2 2] _ fun e w' => e = .returned (.agg (byteVals (leafB i p.x)).toArray) ∧ _) at HPT
  rw [← hD] at HPT
  have g03 := g02.trans gA
  have bR3 := bR2.chg gA (by simp)
  clear hQ hPA hj gA g02 g2 HE bR1 bR2 b2 hD
  go_wp2_with fail
  refine HPT.out.mono ?_
  rintro e w4 ⟨rfl, g4⟩
  have bR4 := bR3.chg g4 (by simp)
  have g04 := g03.trans g4
  obtain ⟨hds, hdo⟩ := row_facts D 32 hDl
  have HI : Hid ((Tryd.prog.info? 30).map (·.size) = some (byteVals D).toArray.size) := by rw [hds]; show _ = _; kernel_rfl
  have HZ : Hid (zero32.size = (byteVals D).toArray.size) := by rw [hds]; rfl
  have HO := Lib.hid hdo
  clear hds hdo bR3 g4 HPT
  go_wp2_with (refine wpList_store_row rfl 30 _ _ rfl pR (byteVals D).toArray rfl rfl 30 _ bR4 HI.out HZ.out HO.out ?_)
  refine bodyPost_ret (results_cell_row (p := 4) (ty := 30) Tryd.results60 _ _ pR 30 (byteVals D).toArray (0, 0) _ rfl (setRow_heap _ _ _ _ _ _ bR4) Tryd.underlying30 rfl HI.out) rfl ⟨rfl, ?_⟩
  exact Chg.own (b := pR) g04 (chg_setRow _ _ _) (by rw [HPR.out]; exact Nat.le_refl _)

end Go.Proofs.YtdkgecphkppglaaDoor
