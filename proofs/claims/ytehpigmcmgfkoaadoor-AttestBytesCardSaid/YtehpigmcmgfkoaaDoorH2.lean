/-
  Package hmac: the key of a secret.
-/
import Derived.Test.YtehpigmcmgfkoaaDoorH
import Derived.Test.YtehpigmcmgfkoaaDoorP0
namespace Go.Proofs.YtehpigmcmgfkoaaDoor
open Go.RowKit

def zeros (n : Nat) : List UInt8 := List.replicate n 0
theorem zero64_eq : zero64 = (byteVals (zeros 64)).toArray := by kernel_rfl
theorem splice_zeros (bs : List UInt8) : splice (byteVals (zeros 64)) 0 (byteVals bs) = byteVals (bs ++ zeros (64 - bs.length)) := by
  unfold splice
  rw [List.take_zero, List.nil_append, Nat.zero_add, byteVals_len, byteVals_drop, byteVals_append]
  unfold zeros
  rw [List.drop_replicate]

set_option maxRecDepth 100000 in
set_option maxHeartbeats 4000000 in
theorem key_any (A : Option Addr) (s : List UInt8) (c : Nat) (w : World) (hA : Txt w A s) (hc : s.length ≤ c) (hs : s.length < 1000000000) (hT : Tabs w) :
    Calls Tryd.prog 41 #[.slice A s.length c] w fun e w' => e = .returned (.agg (byteVals (keyB s)).toArray) ∧ Chg none w w' := by
  obtain ⟨W2, hW2⟩ : ∃ W2, W2 = (w.alloc (.cells zero64 67)).alloc (.cells zero64 67) := ⟨_, rfl⟩
  have g2 : Chg none w W2 := by rw [hW2]; exact ((Chg.refl _ _).alloc _).alloc _
  have bR : Blk W2 w.heap.size zero64 67 := by rw [hW2]; exact Blk.alloc (Blk.new _ _ _) _
  have bK : BlkL W2 (w.heap.size + 1) (byteVals (zeros 64)) 67 := by
    rw [hW2]
    have h := Blk.new (w.alloc (.cells zero64 67)) zero64 67
    rw [show (w.alloc (.cells zero64 67)).heap.size = w.heap.size + 1 by simp] at h
    unfold BlkL
    rw [← zero64_eq]
    exact h
  have HW : Hid ((w.alloc (.cells #[Value.int IntKind.u8 0, Value.int IntKind.u8 0, Value.int IntKind.u8 0, Value.int IntKind.u8 0, Value.int IntKind.u8 0, Value.int IntKind.u8 0, Value.int IntKind.u8 0, Value.int IntKind.u8 0, Value.int IntKind.u8 0, Value.int IntKind.u8 0, Value.int IntKind.u8 0, Value.int IntKind.u8 0, Value.int IntKind.u8 0, Value.int IntKind.u8 0, Value.int IntKind.u8 0, Value.int IntKind.u8 0, Value.int IntKind.u8 0, Value.int IntKind.u8 0, Value.int IntKind.u8 0, Value.int IntKind.u8 0, Value.int IntKind.u8 0, Value.int IntKind.u8 0, Value.int IntKind.u8 0, Value.int IntKind.u8 0, Value.int IntKind.u8 0, Value.int IntKind.u8 0, Value.int IntKind.u8 0, Value.int IntKind.u8 0, Value.int IntKind.u8 0, Value.int IntKind.u8 0, Value.int IntKind.u8 0, Value.int IntKind.u8 0, Value.int IntKind.u8 0, Value.int IntKind.u8 0, Value.int IntKind.u8 0, Value.int IntKind.u8 0, Value.int IntKind.u8 0, Value.int IntKind.u8 0, Value.int IntKind.u8 0, Value.int IntKind.u8 0, Value.int IntKind.u8 0, Value.int IntKind.u8 0, Value.int IntKind.u8 0, Value.int IntKind.u8 0, Value.int IntKind.u8 0, Value.int IntKind.u8 0, Value.int IntKind.u8 0, Value.int IntKind.u8 0, Value.int IntKind.u8 0, Value.int IntKind.u8 0, Value.int IntKind.u8 0, Value.int IntKind.u8 0, Value.int IntKind.u8 0, Value.int IntKind.u8 0, Value.int IntKind.u8 0, Value.int IntKind.u8 0, Value.int IntKind.u8 0, Value.int IntKind.u8 0, Value.int IntKind.u8 0, Value.int IntKind.u8 0, Value.int IntKind.u8 0, Value.int IntKind.u8 0, Value.int IntKind.u8 0, Value.int IntKind.u8 0] 67)).alloc (.cells #[Value.int IntKind.u8 0, Value.int IntKind.u8 0, Value.int IntKind.u8 0, Value.int IntKind.u8 0, Value.int IntKind.u8 0, Value.int IntKind.u8 0, Value.int IntKind.u8 0, Value.int IntKind.u8 0, Value.int IntKind.u8 0, Value.int IntKind.u8 0, Value.int IntKind.u8 0, Value.int IntKind.u8 0, Value.int IntKind.u8 0, Value.int IntKind.u8 0, Value.int IntKind.u8 0, Value.int IntKind.u8 0, Value.int IntKind.u8 0, Value.int IntKind.u8 0, Value.int IntKind.u8 0, Value.int IntKind.u8 0, Value.int IntKind.u8 0, Value.int IntKind.u8 0, Value.int IntKind.u8 0, Value.int IntKind.u8 0, Value.int IntKind.u8 0, Value.int IntKind.u8 0, Value.int IntKind.u8 0, Value.int IntKind.u8 0, Value.int IntKind.u8 0, Value.int IntKind.u8 0, Value.int IntKind.u8 0, Value.int IntKind.u8 0, Value.int IntKind.u8 0, Value.int IntKind.u8 0, Value.int IntKind.u8 0, Value.int IntKind.u8 0, Value.int IntKind.u8 0, Value.int IntKind.u8 0, Value.int IntKind.u8 0, Value.int IntKind.u8 0, Value.int IntKind.u8 0, Value.int IntKind.u8 0, Value.int IntKind.u8 0, Value.int IntKind.u8 0, Value.int IntKind.u8 0, Value.int IntKind.u8 0, Value.int IntKind.u8 0, Value.int IntKind.u8 0, Value.int IntKind.u8 0, Value.int IntKind.u8 0, Value.int IntKind.u8 0, Value.int IntKind.u8 0, Value.int IntKind.u8 0, Value.int IntKind.u8 0, Value.int IntKind.u8 0, Value.int IntKind.u8 0, Value.int IntKind.u8 0, Value.int IntKind.u8 0, Value.int IntKind.u8 0, Value.int IntKind.u8 0, Value.int IntKind.u8 0, Value.int IntKind.u8 0, Value.int IntKind.u8 0, Value.int IntKind.u8 0] 67) = W2) := hW2.symm
  have hA2 := hA.chg g2
  have hT2 := hT.chg g2 (by simp)
  have hlt2 : w.heap.size + 1 < W2.heap.size := bK.lt
  clear hW2 hA hT
  obtain ⟨hks, hko⟩ := row_facts (keyB s) 64 (keyB_len s)
  have HI : Hid ((Tryd.prog.info? 67).map (·.size) = some (byteVals (keyB s)).toArray.size) := by rw [hks]; show _ = _; kernel_rfl
  have HZ : Hid (zero64.size = (byteVals (keyB s)).toArray.size) := by rw [hks]; rfl
  have HO := Lib.hid hko
  clear hks hko
  by_cases h64 : 64 < s.length
  · have hkb : keyB s = dig s ++ zeros 32 := if_pos h64
    have HSM := Lib.hid (sum_any A s c W2 hA2 hc (by omega) hT2)
    clear hA2 hT2
    go_enter Tryd.func41, Tryd.ntmps41
    go_upto_region 3 with (fail)
    have e1 := HW.out
    rw [e1]
    clear e1
    generalize hpK : w.heap.size + 1 = pK at *
    generalize hpR : w.heap.size = pR at *
    have HPK := Lib.hid hpK
    have HPR := Lib.hid hpR
    clear hpK hpR
    obtain ⟨hds, hdo⟩ := row_facts (dig s) 32 (dig_len s)
    have HDI : Hid ((Tryd.prog.info? 30).map (·.size) = some (byteVals (dig s)).toArray.size) := by rw [hds]; show _ = _; kernel_rfl
    have HDZ : Hid (zero32.size = (byteVals (dig s)).toArray.size) := by rw [hds]; rfl
    have HDO := Lib.hid hdo
    have HNW := Lib.hid (fun (W : World) => heap_alloc_new W (.cells zero32 30))
    have HKB := Lib.hid hkb
    clear hds hdo hkb
    go_wp2_with fail
    refine HSM.out.mono ?_
    rintro e w3 ⟨rfl, g3⟩
    have bR3 := bR.chg g3 (by simp)
    have bK3 := Blk.chg bK g3 (by simp)
    have g03 := g2.trans g3
    have hlt3 : pK < w3.heap.size := Nat.lt_of_lt_of_le hlt2 g3.size
    obtain ⟨ga, ha⟩ := new_row w3 (byteVals (dig s)).toArray
    obtain ⟨W4, hW4⟩ : ∃ W4, W4 = (w3.alloc (.cells zero32 30)).setRow w3.heap.size (byteVals (dig s)).toArray := ⟨_, rfl⟩
    have HW4 : Hid ((w3.alloc (.cells #[Value.int IntKind.u8 0, Value.int IntKind.u8 0, Value.int IntKind.u8 0, Value.int IntKind.u8 0, Value.int IntKind.u8 0, Value.int IntKind.u8 0, Value.int IntKind.u8 0, Value.int IntKind.u8 0, Value.int IntKind.u8 0, Value.int IntKind.u8 0, Value.int IntKind.u8 0, Value.int IntKind.u8 0, Value.int IntKind.u8 0, Value.int IntKind.u8 0, Value.int IntKind.u8 0, Value.int IntKind.u8 0, Value.int IntKind.u8 0, Value.int IntKind.u8 0, Value.int IntKind.u8 0, Value.int IntKind.u8 0, Value.int IntKind.u8 0, Value.int IntKind.u8 0, Value.int IntKind.u8 0, Value.int IntKind.u8 0, Value.int IntKind.u8 0, Value.int IntKind.u8 0, Value.int IntKind.u8 0, Value.int IntKind.u8 0, Value.int IntKind.u8 0, Value.int IntKind.u8 0, Value.int IntKind.u8 0, Value.int IntKind.u8 0] 30)).setRow w3.heap.size (byteVals (dig s)).toArray = W4) := hW4.symm
    rw [← hW4] at ga ha
    clear hW4 g3 bR bK hlt2 g2
    go_upto_region 4 with (refine wpList_store_row rfl 30 _ _ rfl w3.heap.size (byteVals (dig s)).toArray rfl rfl 30 _ (HNW.out w3) HDI.out HDZ.out HDO.out ?_)
    have e1 := HW4.out
    rw [e1]
    clear e1
    have bR4 := bR3.chg ga (by simp)
    have bK4 := Blk.chg bK3 ga (by simp)
    have g04 := g03.trans ga
    generalize w3.heap.size = pD at *
    have hdl : (byteVals (dig s)).length = 32 := by rw [byteVals_len, dig_len]
    obtain ⟨w5, hrun, bK5, g5⟩ := copy_runs (P := Tryd.prog) (w := W4.drew) 22 22 3 5 Tryd.underlying22 (by kernel_rfl) (some ⟨pK, 0, none⟩) (some ⟨pD, 0, none⟩) 64 64 32 32 pK 0 (byteVals (zeros 64)) 67 bK4 (byteVals (dig s))
      (by rw [hdl]; rfl) (fun _ => ⟨rfl, ⟨pD, 0, none⟩, rfl, fun j v hj => by rw [Go.WideShapes.add_plain, Nat.zero_add]; exact (BlkL.cell (show BlkL W4 pD (byteVals (dig s)) 30 from ha) j).trans hj⟩) (by rw [hdl, byteVals_len]; simp [zeros]) (byteVals_one _)
    rw [splice_zeros, dig_len] at bK5
    rw [hdl] at hrun
    have hrun' : (Builtin.copy_ #[22, 22] 3 #[.slice (some ⟨pK, 0, none⟩) 64 64, .slice (some ⟨pD, 0, none⟩) 32 32]).run Tryd.prog W4.drew = .ok (.int .i64 32) w5 := hrun
    change BlkL w5 pK (byteVals (dig s ++ zeros 32)) 67 at bK5
    rw [← HKB.out] at bK5
    have hne : pR ≠ pK := by rw [← HPK.out]; omega
    have bR5 := Blk.chg (show Blk W4.drew pR zero64 67 from bR4) g5 (by simpa using hne)
    have g05 : Chg none w w5 := Chg.own (b := pK) g04.drew g5 (by rw [← HPK.out, HPR.out]; omega)
    clear hrun hdl bK4 ha ga bK3 bR3 bR4 g03 g04 g5 HDO HDI HDZ HNW
    go_region
    all_goals
      go_wp2_with (first | (refine wpList_load_row rfl 67 _ rfl pK rfl 67 _ (0, 0) _ bK5 Tryd.underlying67 rfl HI.out ?_) | (refine wpList_store_row rfl 67 _ _ rfl pR (byteVals (keyB s)).toArray rfl rfl 67 _ bR5 HI.out HZ.out HO.out ?_))
      refine bodyPost_ret (results_cell_row (p := 2) (ty := 67) Tryd.results41 _ _ pR 67 (byteVals (keyB s)).toArray (0, 0) _ rfl (setRow_heap _ _ _ _ _ _ bR5) Tryd.underlying67 rfl HI.out) rfl ⟨rfl, ?_⟩
      exact Chg.own (b := pR) g05 (chg_setRow _ _ _) (by rw [HPR.out]; exact Nat.le_refl _)
  · have hkb : keyB s = s ++ zeros (64 - s.length) := if_neg h64
    have d64 : decide ((64 : Int) < (s.length : Int)) = false := by simp; omega
    have hls : (byteVals s).length = s.length := byteVals_len s
    obtain ⟨w5, hrun, bK5, g5⟩ := copy_runs (P := Tryd.prog) (w := W2) 22 22 3 5 Tryd.underlying22 (by kernel_rfl) (some ⟨w.heap.size + 1, 0, none⟩) A 64 64 s.length c (w.heap.size + 1) 0 (byteVals (zeros 64)) 67 bK (byteVals s)
      (by rw [hls]; exact (Nat.min_eq_left (by omega)).symm) (fun h0 => ⟨rfl, by
        rw [hls] at h0
        obtain ⟨ad, e, _, h⟩ := (txt_reads hA2).2 h0
        exact ⟨ad, e, h⟩⟩) (by rw [hls, byteVals_len]; simp [zeros]; omega) (byteVals_one _)
    rw [splice_zeros, ← hkb] at bK5
    rw [hls] at hrun
    have hrun' : (Builtin.copy_ #[22, 22] 3 #[.slice (some ⟨w.heap.size + 1, 0, none⟩) 64 64, .slice A s.length c]).run Tryd.prog W2 = .ok (.int .i64 s.length) w5 := hrun
    have hne : w.heap.size ≠ w.heap.size + 1 := by omega
    have bR5 := bR.chg g5 (by simp)
    have g05 : Chg none w w5 := Chg.own (b := w.heap.size + 1) g2 g5 (by omega)
    clear hrun hls hkb bK bR g5 hA2 hT2
    go_enter Tryd.func41, Tryd.ntmps41
    go_upto_region 6 with (fail)
    have e1 := HW.out
    rw [e1]
    clear e1
    generalize hpK : w.heap.size + 1 = pK at *
    generalize hpR : w.heap.size = pR at *
    have HPK := Lib.hid hpK
    have HPR := Lib.hid hpR
    clear hpK hpR
    go_wp2_with (first | (refine wpList_load_row rfl 67 _ rfl pK rfl 67 _ (0, 0) _ bK5 Tryd.underlying67 rfl HI.out ?_) | (refine wpList_store_row rfl 67 _ _ rfl pR (byteVals (keyB s)).toArray rfl rfl 67 _ bR5 HI.out HZ.out HO.out ?_))
    refine bodyPost_ret (results_cell_row (p := 2) (ty := 67) Tryd.results41 _ _ pR 67 (byteVals (keyB s)).toArray (0, 0) _ rfl (setRow_heap _ _ _ _ _ _ bR5) Tryd.underlying67 rfl HI.out) rfl ⟨rfl, ?_⟩
    exact Chg.own (b := pR) g05 (chg_setRow _ _ _) (by rw [HPR.out]; exact Nat.le_refl _)

end Go.Proofs.YtehpigmcmgfkoaaDoor
