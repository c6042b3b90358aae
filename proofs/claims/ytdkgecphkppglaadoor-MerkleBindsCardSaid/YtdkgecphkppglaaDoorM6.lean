/-
  Package merkle: the leaves of a blob.
-/
import Derived.Test.YtdkgecphkppglaaDoorM5
namespace Go.Proofs.YtdkgecphkppglaaDoor
open Go.RowKit

theorem Tryd.info30 : (Tryd.prog.info? 30).map (fun i => (i.zero, i.size, i.bytes)) = some (some (.agg zero32), 32, 32) := by kernel_rfl
theorem made_zero32 (n : Nat) : madeCells (Value.agg zero32).cells (n * 32) = (flat (List.replicate n zeroDg)).toArray := by
  have hz : (Value.agg zero32).cells = zero32 := rfl
  have h1 : ∀ i, i < 32 → zero32[i]! = Value.int .u8 0 := fun i hi => by
    have e : zero32 = (List.replicate 32 (Value.int .u8 0)).toArray := rfl
    have hg : ∀ m : Nat, i < m → (List.replicate m (Value.int .u8 0)).toArray[i]! = Value.int .u8 0 := fun m hm => by simp [hm]
    rw [e]
    exact hg 32 hi
  have h2 : flat (List.replicate n zeroDg) = List.replicate (n * 32) (Value.int .u8 0) := by
    induction n with
    | zero => rfl
    | succ n ih =>
      rw [List.replicate_succ]
      show dgCells zeroDg ++ flat (List.replicate n zeroDg) = _
      rw [ih, show dgCells zeroDg = List.replicate 32 (Value.int .u8 0) from by simp [dgCells, zeroDg, byteVals, zeros], List.replicate_append_replicate]
      congr 1
      omega
  rw [h2, hz]
  apply Array.ext
  · simp [size_madeCells]
  · intro i h3 h4
    have hs : zero32.size = 32 := rfl
    simp only [madeCells, Array.getElem_map, Array.getElem_range, hs]
    rw [h1 _ (Nat.mod_lt _ (by omega))]
    simp
theorem make51 (n : Nat) (hn : n ≤ 1000000) (w : World) : (Instr.makeSlice 51 (.int .i64 n) (.int .i64 n)).run Tryd.prog w = .ok (.slice (some ⟨w.heap.size, 0, none⟩) n n) (w.alloc (.cells (flat (List.replicate n zeroDg)).toArray 30)) := by
  obtain ⟨i0, hi, hz0, hz1, hz2⟩ := info_parts Tryd.info30
  have hr := run_make (P := Tryd.prog) w 51 30 i0 (.agg zero32) Tryd.underlying51 hi hz0 .i64 .i64 (n : Int) (n : Int) (by omega) (Int.le_refl _) (by rw [hz2]; omega) (by omega)
  rw [hr, Int.toNat_natCast, hz1, made_zero32]

def leafDg (x : List UInt8) (i : Nat) : Dg := ⟨leafB i (chunkB x i), dig_len _⟩
/-- The leaves of the blob x. -/
def leavesB (x : List UInt8) : List Dg := (List.range (cntN x.length)).map (leafDg x)
theorem leavesB_len (x : List UInt8) : (leavesB x).length = cntN x.length := by simp [leavesB]
theorem leaves_take (x : List UInt8) (k : Nat) (h : k < cntN x.length) : (leavesB x).take (k + 1) = (leavesB x).take k ++ [leafDg x k] := by
  rw [List.take_succ_eq_append_getElem (by rw [leavesB_len]; exact h)]
  simp [leavesB]
/-- A row of which the first k are there. -/
def rowAt (L : List Dg) (k : Nat) : List Dg := L.take k ++ List.replicate (L.length - k) zeroDg
theorem rowAt_len (L : List Dg) (k : Nat) (h : k ≤ L.length) : (rowAt L k).length = L.length := by
  unfold rowAt; rw [List.length_append, List.length_take, List.length_replicate]; omega
theorem rowAt_set (L : List Dg) (k : Nat) (h : k < L.length) : (rowAt L k).set k L[k] = rowAt L (k + 1) := by
  have hl : (L.take k).length = k := by rw [List.length_take]; omega
  unfold rowAt
  rw [List.set_append_right _ _ (by omega), hl, Nat.sub_self, show L.length - k = (L.length - (k + 1)) + 1 by omega, List.replicate_succ, List.set_cons_zero, List.take_succ_eq_append_getElem h, List.append_assoc]
  rfl
theorem rowAt_all (L : List Dg) : rowAt L L.length = L := by simp [rowAt]
theorem rowAt_zero (L : List Dg) : rowAt L 0 = List.replicate L.length zeroDg := by simp [rowAt]

/-- A row of digests of the call's own. -/
def RowPost (w : World) (L : List Dg) (e : Ending) (w' : World) : Prop :=
  ∃ b, e = .returned (.slice (some ⟨b, 0, none⟩) L.length L.length) ∧ BlkL w' b (flat L) 30 ∧ w.heap.size ≤ b ∧ Chg none w w'

set_option maxRecDepth 100000 in
set_option maxHeartbeats 4000000 in
theorem leaves_any (p : Prt) (w : World) (hp : p.ok w) (hn : p.x.length ≤ 1000000) (hT : Tabs w) : Calls Tryd.prog 48 #[.slice p.A p.x.length p.c] w (RowPost w (leavesB p.x)) := by
  have hcn : cntN p.x.length ≤ 1000000 := by unfold cntN; omega
  have HC := Lib.hid (count_nat p.x.length (by omega) w)
  obtain ⟨W1, hW1⟩ : ∃ W1, W1 = w.alloc (.cells (flat (List.replicate (cntN p.x.length) zeroDg)).toArray 30) := ⟨_, rfl⟩
  have hmk := make51 (cntN p.x.length) hcn w
  rw [← hW1] at hmk
  have g1 : Chg none w W1 := by rw [hW1]; exact (Chg.refl _ _).alloc _
  have b1 : BlkL W1 w.heap.size (flat (rowAt (leavesB p.x) 0)) 30 := by rw [rowAt_zero, leavesB_len, hW1]; exact Blk.new _ _ _
  have HLL := Lib.hid (leavesB_len p.x)
  clear hW1
  obtain ⟨n, hnn⟩ : ∃ n, n = cntN p.x.length := ⟨_, rfl⟩
  rw [← hnn] at hmk hcn HC HLL
  have HN := Lib.hid hnn
  clear hnn
  have hle : w.heap.size ≤ w.heap.size := Nat.le_refl _
  go_enter Tryd.func48, Tryd.ntmps48
  go_wp2_with fail
  refine HC.out.mono ?_
  rintro e w' ⟨rfl, rfl⟩
  go_wp2_with fail
  generalize hb : w.heap.size = b at *
  have HB := Lib.hid hb
  clear hb hmk
  go_loopw [11] (fun s11 wr => ∃ k : Nat, k ≤ n ∧ s11 = .int .i64 k ∧ BlkL wr b (flat (rowAt (leavesB p.x) k)) 30 ∧ Chg none w wr) (fun s11 _ => n - (intOf s11).toNat)
  case atStart => exact ⟨0, by omega, rfl, b1, g1⟩
  case round =>
    obtain ⟨k, hk, rfl, bk, gk⟩ := hrel
    clear b1 g1
    by_cases hlt : k < n
    · have hkc : k < cntN p.x.length := by rw [← HN.out]; exact hlt
      have HP := Lib.hid (part_any p k wr hp.2 hkc (by omega))
      have hpk := (partPrt_ok hp k hkc).chg gk
      have hx : (partPrt p k).x.length ≤ 1000000 := by rw [partPrt_x, chunkB_len _ _ (cnt_lo hkc)]; unfold chunkN; omega
      have HLF := Lib.hid (leaf_any k (partPrt p k) wr hpk (by omega) hx (hT.chg gk (by simp)))
      rw [partPrt_x] at HLF
      have hpv : (partPrt p k).val = .slice (partPrt p k).A (chunkB p.x k).length (partPrt p k).c := by rw [Prt.val, partPrt_x]
      rw [hpv] at HP
      have hlk : (leavesB p.x)[k]? = some (leafDg p.x k) := by
        unfold leavesB
        rw [List.getElem?_map, List.getElem?_range hkc]; rfl
      obtain ⟨D, hD⟩ : ∃ D : Dg, D = leafDg p.x k := ⟨_, rfl⟩
      have hDv : leafB k (chunkB p.x k) = D.1 := by rw [hD]; rfl
      rw [hDv] at HLF
      have hll : k < (leavesB p.x).length := by rw [HLL.out]; exact hlt
      have hDk : (leavesB p.x)[k] = D := by
        have := List.getElem?_eq_getElem hll
        rw [hlk] at this
        rw [hD]; exact (Option.some.inj this).symm
      have hsp := flat_splice (rowAt (leavesB p.x) k) k D (by rw [rowAt_len _ _ (Nat.le_of_lt hll)]; exact hll)
      rw [← hDk, rowAt_set _ _ hll, hDk] at hsp
      have HSP := Lib.hid hsp
      have hfl : (flat (rowAt (leavesB p.x) k)).length = n * 32 := by rw [flat_length, rowAt_len _ _ (Nat.le_of_lt hll), HLL.out]
      have HFL := Lib.hid hfl
      clear hkc hpk hx hpv hlk hD hDv hll hDk hsp hfl
      generalize (partPrt p k).A = A1 at *
      generalize (partPrt p k).c = c1 at *
      generalize chunkB p.x k = cb at *
      go_wp2_with fail
      refine HP.out.mono ?_
      rintro e w' ⟨rfl, rfl⟩
      go_wp2_with fail
      refine HLF.out.mono ?_
      rintro e w3 ⟨rfl, g3⟩
      have b3 := Blk.chg bk g3 (by simp)
      have HTH := Lib.hid (there_of_blk b3 (k * 32) (byteVals D.1).toArray.size (by rw [HFL.out, List.size_toArray, byteVals_len, D.2]; omega))
      obtain ⟨hds, hdo⟩ := row_facts D.1 32 D.2
      have HI : Hid ((Tryd.prog.info? 30).map (·.size) = some (byteVals D.1).toArray.size) := by rw [hds]; show _ = _; kernel_rfl
      have HO := Lib.hid hdo
      have hset := blk_setCells b (byteVals D.1) (k * 32) _ w3 b3 (by rw [HFL.out, byteVals_len, D.2]; omega)
      have hsp := HSP.out
      unfold dgCells at hsp
      rw [hsp] at hset
      have HSET := Lib.hid hset
      have g4 : Chg none w (w3.setCells b (k * 32) (byteVals D.1)) := Chg.own (b := b) (gk.trans g3) (chg_setCells b _ _ _) (by rw [HB.out]; exact Nat.le_refl _)
      clear hds hdo hset hsp bk g3 HP HLF b3
      go_wp2_with (refine wpList_store_mid rfl 30 _ _ rfl b (k * 32) (byteVals D.1).toArray rfl rfl HTH.out HI.out HO.out ?_)
      go_roundw
      case rel => exact ⟨k + 1, by omega, by go_num, HSET.out, g4⟩
      case measure => first | (simp [intOf]; done) | (simp [intOf]; omega)
    · obtain rfl : k = n := by omega
      have hnl : decide ((k : Int) < (k : Int)) = false := by simp
      have hl := HLL.out
      rw [← hl, rowAt_all] at bk
      go_wp2_with fail
      go_ret
      exact ⟨b, by rw [hl]; rfl, bk, by rw [HB.out]; exact Nat.le_refl _, gk⟩

end Go.Proofs.YtdkgecphkppglaaDoor
