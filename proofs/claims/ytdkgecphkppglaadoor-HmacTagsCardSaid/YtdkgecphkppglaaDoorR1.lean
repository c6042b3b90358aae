/-
  The document's digest: digits of a number; which of two is more.
-/
import Derived.Test.YtdkgecphkppglaaDoorRP
import Derived.Test.YtdkgecphkppglaaDoorKn
namespace Go.Proofs.YtdkgecphkppglaaDoor
open Go.RowKit

def u64s (o : List Nat) : List Value := o.map fun (v : Nat) => Value.int .u64 (v : Int)
theorem u64s_len (o : List Nat) : (u64s o).length = o.length := by simp [u64s]
theorem u64s_get (o : List Nat) (i : Nat) (h : i < o.length) : (u64s o)[i]? = some (.int .u64 ((o.getD i 0 : Nat) : Int)) := by
  unfold u64s
  rw [List.getElem?_map, List.getD_eq_getElem?_getD, List.getElem?_eq_getElem h]; rfl
theorem u64s_set (o : List Nat) (i v : Nat) : (u64s o).set i (.int .u64 (v : Int)) = u64s (o.set i v) := by
  unfold u64s; rw [List.map_set]
theorem u64s_one (o : List Nat) : (u64s o).toArray.all (·.oneCell') = true := by
  simp [u64s]
  intro x _; rfl
theorem u64s_info (o : List Nat) (h : o.length = 10) : (Tryd.prog.info? 93).map (·.size) = some (u64s o).toArray.size := by
  rw [List.size_toArray, u64s_len, h]; kernel_rfl
theorem u64s_infoL (o : List Nat) (h : o.length = 10) : (Tryd.prog.info? 93).map (·.size) = some (u64s o).length := by
  rw [u64s_len, h]; kernel_rfl
theorem u64s_size (o p : List Nat) (h : o.length = 10) (h' : p.length = 10) : (u64s o).toArray.size = (u64s p).toArray.size := by
  rw [List.size_toArray, List.size_toArray, u64s_len, u64s_len, h, h']

set_option maxRecDepth 100000 in
set_option maxHeartbeats 4000000 in
theorem digits_any (n : Nat) (hn : n < 281474976710656) (w : World) : Calls Tryd.prog 65 #[.int .u64 n] w fun e w' => e = .returned (.agg (u64s (dgs n 4)).toArray) ∧ Chg none w w' := by
  obtain ⟨W2, hW2⟩ : ∃ W2, W2 = (w.alloc (.cells (u64s (dgs n 0)).toArray 93)).alloc (.cells (u64s (dgs n 0)).toArray 93) := ⟨_, rfl⟩
  have HW2 : Hid ((w.alloc (.cells #[Value.int IntKind.u64 0, Value.int IntKind.u64 0, Value.int IntKind.u64 0, Value.int IntKind.u64 0, Value.int IntKind.u64 0, Value.int IntKind.u64 0, Value.int IntKind.u64 0, Value.int IntKind.u64 0, Value.int IntKind.u64 0, Value.int IntKind.u64 0] 93)).alloc (.cells #[Value.int IntKind.u64 0, Value.int IntKind.u64 0, Value.int IntKind.u64 0, Value.int IntKind.u64 0, Value.int IntKind.u64 0, Value.int IntKind.u64 0, Value.int IntKind.u64 0, Value.int IntKind.u64 0, Value.int IntKind.u64 0, Value.int IntKind.u64 0] 93) = W2) := by rw [dgs_zero] at hW2; exact hW2.symm
  have g0 : Chg none w W2 := by rw [hW2]; exact ((Chg.refl _ _).alloc _).alloc _
  have bA : BlkL W2 w.heap.size (u64s (dgs n 0)) 93 := by rw [hW2]; exact Blk.alloc (Blk.new _ _ _) _
  have bB : BlkL W2 (w.heap.size + 1) (u64s (dgs n 0)) 93 := by rw [hW2]; exact Blk.newAt _ _ (by simp)
  clear hW2
  go_enter Tryd.func65, Tryd.ntmps65
  go_wp2_with fail
  rw [HW2.out]
  clear HW2
  go_loopw [0, 4] (fun s0 s4 wr => ∃ i : Nat, i ≤ 4 ∧ s4 = .int .i64 i ∧ s0 = .int .u64 ((n / 65536 ^ i : Nat) : Int) ∧ BlkL wr (w.heap.size + 1) (u64s (dgs n i)) 93 ∧ BlkL wr w.heap.size (u64s (dgs n 0)) 93 ∧ Chg none w wr) (fun _ s4 _ => 4 - (intOf s4).toNat)
  case atStart => exact ⟨0, by omega, rfl, by simp, bB, bA, g0⟩
  case round =>
    obtain ⟨i, hi, rfl, rfl, hb, hz, hg⟩ := hrel
    have hlen := (dgs_dig n i).1
    by_cases hlt : i < 4
    · have hset := BlkL.set hb i (.int .u64 ((n / 65536 ^ i % 65536 : Nat) : Int))
      rw [u64s_set, dgs_set n i (by omega)] at hset
      have cw : wr.cell? ⟨w.heap.size + 1, i, none⟩ = some (.int .u64 (((dgs n i).getD i 0 : Nat) : Int)) := by rw [BlkL.cell hb, u64s_get _ _ (by omega)]
      have hfz := Blk.frozen hb i
      have hbz := Blk.lt hb
      have hdv : n / 65536 ^ (i + 1) = n / 65536 ^ i / 65536 := by rw [Nat.pow_succ, Nat.div_div_eq_div_mul]
      have hml : n / 65536 ^ i < 281474976710656 := Nat.lt_of_le_of_lt (Nat.div_le_self _ _) hn
      have HDV := Lib.hid hdv
      generalize n / 65536 ^ i = m at *
      generalize (dgs n i).getD i 0 = z at *
      have e1 : ((m % 65536 : Nat) : Int) = (m : Int) % 65536 := by omega
      have e2 : ((m / 65536 : Nat) : Int) = (m : Int) / 65536 := by omega
      rw [e1] at hset
      have HE2 := Lib.hid e2
      clear hdv hlen e1 e2
      go_wp2_with fail
      go_roundw
      case rel => exact ⟨i + 1, by omega, by go_num, by rw [HDV.out, HE2.out], hset, Blk.setOther hz _ _ (by show w.heap.size ≠ w.heap.size + 1; omega), hg.setNew _ (Nat.le_succ _) _⟩
      case measure => first | (simp [intOf]; done) | (simp [intOf]; omega)
    · have hi4 : i = 4 := by omega
      subst hi4
      have rO := Blk.range hb
      have HR := Lib.hid rO
      have HI := Lib.hid (u64s_info (dgs n 4) (dgs_dig n 4).1)
      have HIL := Lib.hid (u64s_infoL (dgs n 4) (dgs_dig n 4).1)
      have HS := Lib.hid (u64s_size (dgs n 0) (dgs n 4) (dgs_dig n 0).1 (dgs_dig n 4).1)
      have HO := Lib.hid (u64s_one (dgs n 4))
      have hle : w.heap.size ≤ w.heap.size := Nat.le_refl _
      generalize hpR : w.heap.size = pR at *
      have HPR := Lib.hid hpR
      clear rO hlen hb hpR
      go_wp2_with (first
        | (refine wpList_load_mid rfl 93 _ rfl (pR + 1) 0 rfl (u64s (dgs n 4)) _ HR.out Tryd.underlying93 rfl HIL.out ?_)
        | (refine wpList_store_row rfl 93 _ _ rfl pR (u64s (dgs n 4)).toArray rfl rfl 93 _ hz HI.out HS.out HO.out ?_))
      refine bodyPost_ret (results_cell_row (p := 2) (ty := 93) Tryd.results65 _ _ pR 93 (u64s (dgs n 4)).toArray (0, 0) _ rfl (setRow_heap _ _ _ _ _ _ hz) Tryd.underlying93 rfl HI.out) rfl ⟨rfl, ?_⟩
      exact Chg.own (b := pR) hg (chg_setRow _ _ _) (by rw [HPR.out]; exact hle)

set_option maxRecDepth 100000 in
set_option maxHeartbeats 4000000 in
theorem above_any (a b : List Nat) (ha : Dig a) (hb : Dig b) (w : World) : Calls Tryd.prog 67 #[.agg (u64s a).toArray, .agg (u64s b).toArray] w fun e w' => e = .returned (.bool (decide (val b < val a))) ∧ Chg none w w' := by
  obtain ⟨W2, hW2⟩ : ∃ W2, W2 = (w.alloc (.cells (u64s a).toArray 93)).alloc (.cells (u64s b).toArray 93) := ⟨_, rfl⟩
  have HW2 := Lib.hid hW2.symm
  have g0 : Chg none w W2 := by rw [hW2]; exact ((Chg.refl _ _).alloc _).alloc _
  have bA : BlkL W2 w.heap.size (u64s a) 93 := by rw [hW2]; exact Blk.alloc (Blk.new _ _ _) _
  have bB : BlkL W2 (w.heap.size + 1) (u64s b) 93 := by rw [hW2]; exact Blk.newAt _ _ (by simp)
  clear hW2
  go_enter Tryd.func67, Tryd.ntmps67
  go_wp2_with fail
  rw [HW2.out]
  clear HW2
  generalize w.heap.size + 1 = pB at *
  generalize w.heap.size = pA at *
  go_loopw [5] (fun s5 wr => ∃ j : Nat, j ≤ 10 ∧ s5 = .int .i64 ((j : Int) - 1) ∧ Hid (a.drop j = b.drop j) ∧ BlkL wr pA (u64s a) 93 ∧ BlkL wr pB (u64s b) 93 ∧ Chg none w wr) (fun s5 _ => (intOf s5 + 1).toNat)
  case atStart => exact ⟨10, by omega, by go_num, Lib.hid (by rw [List.drop_eq_nil_of_le (by rw [ha.1]; omega), List.drop_eq_nil_of_le (by rw [hb.1]; omega)]), bA, bB, g0⟩
  case round =>
    obtain ⟨j, hj, rfl, HD, bAr, bBr, gr⟩ := hrel
    clear bA bB g0
    by_cases hlt : 0 < j
    · obtain ⟨k, rfl⟩ : ∃ k, j = k + 1 := ⟨j - 1, by omega⟩
      have e0 : ((k + 1 : Nat) : Int) - 1 = (k : Int) := by omega
      rw [e0]
      have cA : wr.cell? ⟨pA, k, none⟩ = some (.int .u64 ((a.getD k 0 : Nat) : Int)) := by rw [BlkL.cell bAr, u64s_get _ _ (by rw [ha.1]; omega)]
      have cB : wr.cell? ⟨pB, k, none⟩ = some (.int .u64 ((b.getD k 0 : Nat) : Int)) := by rw [BlkL.cell bBr, u64s_get _ _ (by rw [hb.1]; omega)]
      have hk10 : k < 10 := by omega
      by_cases he : a.getD k 0 = b.getD k 0
      · have HE := Lib.hid (drop_eq hk10 ha hb HD.out he)
        rw [← he] at cB
        clear he e0
        have ha' := Lib.hid ha
        have hb' := Lib.hid hb
        clear ha hb
        generalize a.getD k 0 = x at *
        go_wp2_with fail
        go_region
        all_goals
          go_wp2_with fail
          go_roundw
          case rel => exact ⟨k, by omega, by go_num, HE, bAr, bBr, by repeat (first | (with_reducible exact gr) | (with_reducible refine Chg.drew ?_))⟩
          case measure => first | (simp [intOf]; done) | (simp [intOf]; omega)
      · have hr := above_at hk10 ha hb HD.out he
        have HRR := Lib.hid hr
        clear hr e0 HD
        have ha' := Lib.hid ha
        have hb' := Lib.hid hb
        clear ha hb
        generalize a.getD k 0 = x at *
        generalize b.getD k 0 = y at *
        have t1 : ((x : Int) != (y : Int)) = true := by simp; omega
        clear he
        go_wp2_with fail
        go_region
        all_goals go_wp2_with fail
        all_goals go_region
        all_goals
          go_wp2_with fail
          go_ret
          exact ⟨ret_bool (by rw [HRR.out]; try simp), by repeat (first | (with_reducible exact gr) | (with_reducible refine Chg.drew ?_))⟩
    · obtain rfl : j = 0 := by omega
      have hr := above_eq HD.out
      have HRR := Lib.hid hr
      clear hr HD
      go_wp2_with fail
      go_ret
      exact ⟨ret_bool HRR.out.symm, gr⟩

end Go.Proofs.YtdkgecphkppglaaDoor
