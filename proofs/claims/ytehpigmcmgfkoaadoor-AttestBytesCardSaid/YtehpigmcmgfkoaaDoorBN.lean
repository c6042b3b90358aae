/-
  The document's attest: the bytes of a result. Package attest: Bytes; Read of what is too short or too long. Eight bytes as a number (plain). Package attest: what 104 bytes are read as. Package attest: what 104 bytes are read as. The law's lengthy: no for a length that may not be. What AttestBytes holds: the order of texts, two results that are unlike, the parts of 104 bytes. Package attest: what any bytes are read as, and what a result's own bytes are read as.
-/
import Derived.Test.YtehpigmcmgfkoaaDoorBM
import Derived.Test.YtehpigmcmgfkoaaDoorA6
import Derived.Test.YtehpigmcmgfkoaaDoorA7
import Derived.Test.YtehpigmcmgfkoaaDoorR11
import Derived.Test.YtehpigmcmgfkoaaDoorE
import Derived.Test.YtehpigmcmgfkoaaDoorRS
import Derived.Lib.EndianBits
import Derived.Test.YtehpigmcmgfkoaaDoorA9
import Derived.Laws.Cover3
import Derived.Test.YtehpigmcmgfkoaaDoorBO
namespace Go.Proofs.YtehpigmcmgfkoaaDoor
open Go.RowKit

set_option maxRecDepth 100000 in
set_option maxHeartbeats 4000000 in
theorem eightz_any (z : Int) (w : World) : Calls Tryd.prog 49 #[.int .i64 z] w fun e w' =>
    ∃ b, e = .returned (.slice (some ⟨b, 0, none⟩) 8 8) ∧ BlkL w' b (byteVals (be 8 (u64n z))) 5 ∧ w.heap.size ≤ b ∧ Chg none w w' := by
  obtain ⟨n, hnz⟩ : ∃ n : Nat, n = u64n z := ⟨_, rfl⟩
  have hu : z % 18446744073709551616 = (n : Int) := by rw [hnz]; unfold u64n; omega
  have hn : n < 18446744073709551616 := by omega
  rw [← hnz]
  have HU := Lib.hid hu
  clear hnz
  have hmk : ∀ W : World, (Instr.makeSlice 22 (.int .i64 8) (.int .i64 8)).run Tryd.prog W = .ok (.slice (some ⟨W.heap.size, 0, none⟩) 8 8) (W.alloc (.cells (byteVals (zeros 8)).toArray 5)) := fun W => make_n 8 (by decide) W
  obtain ⟨W1, hW1⟩ : ∃ W1, W1 = w.alloc (.cells (byteVals (zeros 8)).toArray 5) := ⟨_, rfl⟩
  have HW1 : Hid (w.alloc (.cells (byteVals (zeros 8)).toArray 5) = W1) := hW1.symm
  have g1 : Chg none w W1 := by rw [hW1]; exact (Chg.refl _ _).alloc _
  have b1 : BlkL W1 w.heap.size (byteVals (eightTo n 0)) 5 := by
    have : eightTo n 0 = zeros 8 := by unfold eightTo; rw [List.drop_eq_nil_of_le (by rw [be_len]; decide), List.append_nil]
    rw [this, hW1]; exact Blk.new _ _ _
  clear hW1
  go_enter Tryd.func49, Tryd.ntmps49
  go_wp2_with fail
  rw [HW1.out]
  clear HW1 hmk
  generalize hpB : w.heap.size = pB at *
  have HPB := Lib.hid hpB
  clear hpB
  go_loopw [3, 5] (fun s3 s5 wr => ∃ j : Nat, j ≤ 8 ∧ s5 = .int .i64 (7 - (j : Int)) ∧ s3 = .int .u64 ((n / 256 ^ j : Nat) : Int) ∧ BlkL wr pB (byteVals (eightTo n j)) 5 ∧ Chg none w wr) (fun _ s5 _ => (intOf s5 + 1).toNat)
  case atStart => exact ⟨0, by omega, rfl, by rw [Nat.pow_zero, Nat.div_one, ← HU.out]; rfl, b1, g1⟩
  case round =>
    obtain ⟨j, hj, rfl, rfl, bk, gk⟩ := hrel
    clear b1 g1
    by_cases hlt : j < 8
    · have hd : decide ((7 - (j : Int)) ≥ 0) = true := by simp; omega
      obtain ⟨q, hq⟩ : ∃ q, q = n / 256 ^ j := ⟨_, rfl⟩
      have hq9 : q ≤ n := by rw [hq]; exact Nat.div_le_self _ _
      have hq2 : n / 256 ^ (j + 1) = q / 256 := by rw [hq, Nat.pow_succ, Nat.div_div_eq_div_mul]
      have hx : ((UInt8.ofNat q).toNat : Int) = (q : Int) % 256 := by simp [UInt8.toNat_ofNat']
      have hset := BlkL.set bk (7 - j) (.int .u8 (UInt8.ofNat q).toNat)
      rw [byteVals_set, hq, eightTo_set n j hlt, ← hq, hx] at hset
      have HSET := Lib.hid hset
      have HQ2 := Lib.hid hq2
      have hi7 : (7 - (j : Int)).toNat = 7 - j := by omega
      have cK := (BlkL.cell bk (7 - j)).trans (byte_at (a := eightTo n j) (by rw [eightTo_len _ _ hj]; omega))
      have hfz := Blk.frozen bk (7 - j)
      generalize (eightTo n j).getD (7 - j) 0 = y at *
      have i1 : (0 : Int) ≤ 7 - (j : Int) := by omega
      have i2 : 7 - (j : Int) < 8 := by omega
      rw [← hq]
      clear hset hx hq hq2
      go_wp2_with fail
      go_roundw
      case rel => exact ⟨j + 1, by omega, by congr 1; omega, by rw [HQ2.out]; rfl, HSET.out, gk.setNew _ (by rw [HPB.out]; exact Nat.le_refl _) _⟩
      case measure => simp only [intOf]; omega
    · have hj8 : j = 8 := by omega
      have hd : decide ((7 - (j : Int)) ≥ 0) = false := by simp; omega
      have hfin : eightTo n j = be 8 n := by rw [hj8]; unfold eightTo zeros; simp
      rw [hfin] at bk
      clear hfin hj8
      go_wp2_with fail
      go_ret
      exact ⟨pB, rfl, bk, by rw [HPB.out]; exact Nat.le_refl _, gk⟩



set_option maxRecDepth 100000 in
set_option maxHeartbeats 8000000 in
theorem bytesq_any (a : Att) (w : World) : Calls Tryd.prog 31 #[.agg (attCells a).toArray] w fun e w' =>
    ∃ A c, e = .returned (.slice A 104 c) ∧ w'.ownsRow w.heap.size 5 1 (.slice A 104 c) 104 (byteVals (attBytes a (u64n a.n))) ∧ Chg none w w' := by
  obtain ⟨i0, hi, hz0, hz1, hz2⟩ := info_parts Tryd.info5
  obtain ⟨W1, hW1⟩ : ∃ W1, W1 = w.alloc (.cells (attCells a).toArray 46) := ⟨_, rfl⟩
  have g1 : Chg none w W1 := by rw [hW1]; exact (Chg.refl _ _).alloc _
  have r1 : W1.rangeAt w.heap.size 0 (attCells a) := by rw [hW1]; exact Blk.range (show BlkL _ w.heap.size (attCells a) 46 from Blk.new _ _ _)
  have l1 : w.heap.size < W1.heap.size := by rw [hW1]; simp
  have HW1 : Hid (w.alloc (.cells (attCells a).toArray 46) = W1) := hW1.symm
  obtain ⟨CA, hCA⟩ : ∃ CA, CA = (attCells a).toArray := ⟨_, rfl⟩
  rw [← hCA] at HW1 ⊢
  have HRNG : Hid (∀ v, Chg none W1 v → v.rangeAt w.heap.size 0 (attCells a) ∧ w.heap.size < v.heap.size) := fun v g => ⟨rangeAt_chg r1 g (by simp), Nat.lt_of_lt_of_le l1 g.size⟩
  have HK : Hid (∀ v, Chg none W1 v → Reads v v.heap.size 1 (some ⟨w.heap.size, 0, none⟩) 32 (byteVals a.k.1)) := fun v g => by
    have := txt_reads (range_prt (c := 32) (att_key (HRNG.out v g).1) (HRNG.out v g).2 (by rw [a.k.2]; decide)).1
    rwa [a.k.2] at this
  have HR : Hid (∀ v, Chg none W1 v → Reads v v.heap.size 1 (some ⟨w.heap.size, 32, none⟩) 32 (byteVals a.r.1)) := fun v g => by
    have := txt_reads (range_prt (c := 32) (att_root (HRNG.out v g).1) (HRNG.out v g).2 (by rw [a.r.2]; decide)).1
    rwa [a.r.2] at this
  have HTg : Hid (∀ v, Chg none W1 v → Reads v v.heap.size 1 (some ⟨w.heap.size, 65, none⟩) 32 (byteVals a.t.1)) := fun v g => by
    have := txt_reads (range_prt (c := 32) (att_tag (HRNG.out v g).1) (HRNG.out v g).2 (by rw [a.t.2]; decide)).1
    rwa [a.t.2] at this
  have HN : Hid (∀ v, Chg none W1 v → v.cell? ⟨w.heap.size, 64, none⟩ = some (.int .i64 a.n)) := fun v g => att_num (HRNG.out v g).1
  have H8 : Hid (∀ (v : World), Calls Tryd.prog 49 #[.int .i64 a.n] v fun e w' => ∃ b, e = .returned (.slice (some ⟨b, 0, none⟩) 8 8) ∧ Reads w' w'.heap.size 1 (some ⟨b, 0, none⟩) 8 (byteVals (be 8 (u64n a.n))) ∧ Chg none v w') := fun v => (eightz_any a.n v).mono (by
    rintro e w' ⟨b, rfl, hb, _, g⟩
    refine ⟨b, rfl, ?_, g⟩
    have := txt_reads (prt_of_row (n := 8) hb (by rw [be_len]; exact Nat.le_refl _)).1
    rwa [be_len] at this)
  have HOk := Lib.hid (byteVals_one a.k.1)
  have HOr := Lib.hid (byteVals_one a.r.1)
  have HOt := Lib.hid (byteVals_one a.t.1)
  have HO8 := Lib.hid (byteVals_one (be 8 (u64n a.n)))
  have hc30 := cut30o
  obtain ⟨H, hH⟩ : ∃ H, H = W1.heap.size := ⟨_, rfl⟩
  have HH := Lib.hid hH
  have HLE : Hid (w.heap.size ≤ H) := by rw [hH]; exact g1.size
  have HAB : Hid (byteVals a.k.1 ++ (byteVals a.r.1 ++ (byteVals (be 8 (u64n a.n)) ++ byteVals a.t.1)) = byteVals (attBytes a (u64n a.n))) := by
    show _ = _
    unfold attBytes
    rw [byteVals_append, byteVals_append, byteVals_append]
  have HOWN0 : Hid (W1.ownsRow H 5 1 (.slice none 0 0) 0 []) := World.ownsRow_nil _ _ _ _
  have G0 : Chg none W1 W1 := Chg.refl _ _
  have HS0 : Hid (H ≤ W1.heap.size) := by rw [hH]; exact Nat.le_refl _
  generalize a.n = z at *
  generalize be 8 (u64n z) = B8 at *
  generalize byteVals (attBytes a (u64n z)) = AB at *
  clear hW1 hCA r1 l1 hH HRNG
  go_enter Tryd.func31, Tryd.ntmps31
  go_upto_region 1 with fail
  rw [HW1.out]
  clear HW1
  generalize hpB : w.heap.size = pB at *
  have HPB := Lib.hid hpB
  clear hpB
  go_wp2_with (at_builtin; refine wpList_append_any _ rfl (.tmp 4) (.tmp 6) 22 rfl H 5 i0 (.int .u8 0) 1 1 Tryd.underlying22 hi hz0 hz1 hz2 rfl (by decide) _ 0 [] rfl HOWN0.out _ (some ⟨pB, 0, none⟩) 32 32 (byteVals a.k.1) rfl (HK.out _ G0) HOk.out (by unfold maxLen; decide) (by decide) HS0.out ?_)
  intro v1 w1 hown1 hgr1 _
  have G1 : Chg none W1 w1 := own_chg G0 HOWN0.out (by rw [HH.out]; exact Nat.le_refl _) hgr1
  try simp only [Nat.zero_add, List.nil_append] at hown1
  obtain ⟨A1, c1, rfl⟩ := own_slice hown1
  have HOWN1 := Lib.hid hown1
  have HS1 : Hid (H ≤ w1.heap.size) := by rw [HH.out]; exact G1.size
  clear hown1 hgr1 HOWN0 G0 HS0
  go_wp2_with (at_builtin; refine wpList_append_any _ rfl (.tmp 8) (.tmp 10) 22 rfl H 5 i0 (.int .u8 0) 1 1 Tryd.underlying22 hi hz0 hz1 hz2 rfl (by decide) _ 32 (byteVals a.k.1) rfl HOWN1.out _ (some ⟨pB, 32, none⟩) 32 32 (byteVals a.r.1) rfl (HR.out _ G1) HOr.out (by unfold maxLen; decide) (by decide) HS1.out ?_)
  intro v2 w2 hown2 hgr2 _
  have G2 : Chg none W1 w2 := own_chg G1 HOWN1.out (by rw [HH.out]; exact Nat.le_refl _) hgr2
  try simp only [Nat.reduceAdd] at hown2
  obtain ⟨A2, c2, rfl⟩ := own_slice hown2
  have HOWN2 := Lib.hid hown2
  have hcm := HN.out w2 G2
  clear hown2 hgr2 HOWN1 HS1 G1
  go_wp2_with fail
  refine (H8.out w2).mono ?_
  rintro e w3 ⟨b8, rfl, hr8, g3⟩
  have G3 := G2.trans g3
  have HOWN3 : Hid (w3.ownsRow H 5 1 (.slice A2 64 c2) 64 (byteVals a.k.1 ++ byteVals a.r.1)) := HOWN2.out.kept g3 (by cases (Value.slice A2 64 c2).ownBlock <;> simp)
  have HR8 := Lib.hid hr8
  have HS3 : Hid (H ≤ w3.heap.size) := by rw [HH.out]; exact G3.size
  clear hr8 HOWN2 G2 g3 hcm
  go_wp2_with (at_builtin; refine wpList_append_any _ rfl (.tmp 12) (.tmp 15) 22 rfl H 5 i0 (.int .u8 0) 1 1 Tryd.underlying22 hi hz0 hz1 hz2 rfl (by decide) _ 64 _ rfl HOWN3.out _ (some ⟨b8, 0, none⟩) 8 8 (byteVals B8) rfl HR8.out HO8.out (by unfold maxLen; decide) (by decide) HS3.out ?_)
  intro v4 w4 hown4 hgr4 _
  have G4 : Chg none W1 w4 := own_chg G3 HOWN3.out (by rw [HH.out]; exact Nat.le_refl _) hgr4
  try simp only [Nat.reduceAdd] at hown4
  obtain ⟨A4, c4, rfl⟩ := own_slice hown4
  have HOWN4 := Lib.hid hown4
  have HS4 : Hid (H ≤ w4.heap.size) := by rw [HH.out]; exact G4.size
  have HRT := Lib.hid (HTg.out w4 G4)
  clear hown4 hgr4 HOWN3 HR8 HS3 G3
  go_wp2_with (at_builtin; refine wpList_append_any _ rfl (.tmp 17) (.tmp 19) 22 rfl H 5 i0 (.int .u8 0) 1 1 Tryd.underlying22 hi hz0 hz1 hz2 rfl (by decide) _ 72 _ rfl HOWN4.out _ (some ⟨pB, 65, none⟩) 32 32 (byteVals a.t.1) rfl HRT.out HOt.out (by unfold maxLen; decide) (by decide) HS4.out ?_)
  intro v5 w5 hown5 hgr5 _
  rw [HAB.out] at hown5
  have G5 : Chg none W1 w5 := own_chg G4 HOWN4.out (by rw [HH.out]; exact Nat.le_refl _) hgr5
  try simp only [Nat.reduceAdd] at hown5
  obtain ⟨A5, c5, rfl⟩ := own_slice hown5
  have HOWN5 := Lib.hid hown5
  clear hown5 hgr5 HOWN4 HRT
  go_wp2_with fail
  go_ret
  exact ⟨A5, c5, rfl, own_base HOWN5.out (by rw [HPB.out]; exact HLE.out), g1.trans G5⟩

end Go.Proofs.YtehpigmcmgfkoaaDoor

namespace Go.Proofs.YtehpigmcmgfkoaaDoor
open Go.RowKit

set_option maxRecDepth 100000 in
set_option maxHeartbeats 8000000 in
theorem bytes_no (a : Att) (w : World) (hm : mayB a.n = false) : Calls Tryd.prog 29 #[.agg (attCells a).toArray] w fun e w' => e = .returned (.tuple #[.slice none 0 0, .int .i64 2]) ∧ Chg none w w' := by
  have gA : Chg none w (w.alloc (.cells (attCells a).toArray 46)) := (Chg.refl _ _).alloc _
  have HRA := Lib.hid (Blk.range (show BlkL (w.alloc (.cells (attCells a).toArray 46)) w.heap.size (attCells a) 46 from Blk.new _ _ _))
  have HI46 := Lib.hid (info46 a)
  have HMY := Lib.hid (fun v => may_any a v)
  rw [hm] at HMY
  obtain ⟨CA, hCA⟩ : ∃ CA, CA = (attCells a).toArray := ⟨_, rfl⟩
  have HCA := Lib.hid hCA
  rw [← hCA] at gA HRA HMY ⊢
  clear hCA hm
  go_enter Tryd.func29, Tryd.ntmps29
  go_upto_region 1 with fail
  generalize w.heap.size = pA at *
  go_wp2_with (refine wpList_load_mid rfl 46 _ rfl pA 0 rfl (attCells a) _ HRA.out Tryd.underlying46 rfl HI46.out ?_; rw [← HCA.out])
  refine (HMY.out _).mono ?_
  rintro e w1 ⟨rfl, g1⟩
  go_wp2_with fail
  go_ret2
  exact ⟨rfl, gA.trans g1⟩

set_option maxRecDepth 100000 in
set_option maxHeartbeats 8000000 in
theorem bytes_yes (a : Att) (m : Nat) (w : World) (hn : a.n = m) (hm : mayB a.n = true) : Calls Tryd.prog 29 #[.agg (attCells a).toArray] w fun e w' =>
    ∃ A c, e = .returned (.tuple #[.slice A 104 c, .int .i64 0]) ∧ w'.ownsRow w.heap.size 5 1 (.slice A 104 c) 104 (byteVals (attBytes a m)) ∧ Chg none w w' := by
  have h2 : 1 ≤ a.n ∧ a.n ≤ 5000 := by unfold mayB at hm; simpa using hm
  have gA : Chg none w (w.alloc (.cells (attCells a).toArray 46)) := (Chg.refl _ _).alloc _
  have bA : BlkL (w.alloc (.cells (attCells a).toArray 46)) w.heap.size (attCells a) 46 := Blk.new _ _ _
  have HRA : Hid (∀ v, Chg none (w.alloc (.cells (attCells a).toArray 46)) v → v.rangeAt w.heap.size 0 (attCells a)) := fun v g => Blk.range (Blk.chg bA g (by simp))
  have HI46 := Lib.hid (info46 a)
  have HMY := Lib.hid (fun v => may_any a v)
  have HF := Lib.hid (fun v => form_any a m hn (by omega) v)
  rw [hm] at HMY
  obtain ⟨CA, hCA⟩ : ∃ CA, CA = (attCells a).toArray := ⟨_, rfl⟩
  have HCA := Lib.hid hCA
  have HLE := Lib.hid gA.size
  rw [← hCA] at gA HRA HMY HF HLE ⊢
  have HR0 := Lib.hid (HRA.out _ (Chg.refl _ _))
  clear hCA hm bA hn h2
  generalize byteVals (attBytes a m) = AB at *
  go_enter Tryd.func29, Tryd.ntmps29
  go_upto_region 1 with fail
  generalize hpA : w.heap.size = pA at *
  have HPA := Lib.hid hpA
  clear hpA
  go_wp2_with (refine wpList_load_mid rfl 46 _ rfl pA 0 rfl (attCells a) _ HR0.out Tryd.underlying46 rfl HI46.out ?_; rw [← HCA.out])
  refine (HMY.out _).mono ?_
  rintro e w1 ⟨rfl, g1⟩
  have HR1 := Lib.hid (HRA.out w1 g1)
  have HS1 : Hid (pA ≤ w1.heap.size) := Nat.le_trans HLE.out g1.size
  clear HR0 HRA
  go_wp2_with (refine wpList_load_mid rfl 46 _ rfl pA 0 rfl (attCells a) _ HR1.out Tryd.underlying46 rfl HI46.out ?_; rw [← HCA.out])
  refine (HF.out w1).mono ?_
  rintro e w2 ⟨A, c, rfl, hown, g2⟩
  have HOWN := Lib.hid (own_base hown HS1.out)
  clear hown
  go_wp2_with fail
  go_ret2
  exact ⟨A, c, rfl, by rw [HPA.out]; exact HOWN.out, (gA.trans g1).trans g2⟩

set_option maxRecDepth 100000 in
set_option maxHeartbeats 4000000 in
theorem read_len (A : Option Addr) (l c : Nat) (w : World) (hl : l ≠ 104) :
    Calls Tryd.prog 32 #[.slice A l c] w fun e w' => e = .returned (.tuple #[.agg (attCells zeroAtt).toArray, .int .i64 5]) ∧ Chg none w w' := by
  obtain ⟨W1, hW1⟩ : ∃ W1, W1 = w.alloc (.cells Tryd.zeroCells46 46) := ⟨_, rfl⟩
  have HW1 : Hid (w.alloc (.cells Tryd.zeroCells46 46) = W1) := hW1.symm
  have g0 : Chg none w W1 := by rw [hW1]; exact (Chg.refl _ _).alloc _
  obtain ⟨CZ, hCZ⟩ : ∃ CZ, CZ = (attCells zeroAtt).toArray := ⟨_, rfl⟩
  have bS : Blk W1 w.heap.size CZ 46 := by rw [hW1, zero46, hCZ]; exact Blk.new _ _ _
  have HBZ : Hid (Tryd.prog.built 46 [] = some CZ) := by rw [hCZ]; exact built46_0
  have HOZ : Hid (CZ.all (·.oneCell') = true) := by rw [hCZ]; exact attCells_one zeroAtt
  have HIZ : Hid ((Tryd.prog.info? 46).map (·.size) = some CZ.size) := by rw [hCZ]; exact info46a zeroAtt
  rw [← hCZ]
  have dl : ((l : Int) != 104) = true := by simp; omega
  have HRS := Lib.hid (show W1.heap[w.heap.size]? = some (.cells CZ 46 (0, 0)) from bS)
  clear hW1 hCZ bS hl
  go_enter Tryd.func32, Tryd.ntmps32
  go_upto_region 1 with fail
  rw [HW1.out]
  clear HW1
  generalize hpS : w.heap.size = pS at *
  have HPS := Lib.hid hpS
  clear hpS
  go_wp2_with (first
    | (refine wpList_buildTo rfl 46 _ rfl (some 10) rfl CZ (by simp only [List.map_toArray, List.map_nil]; exact HBZ.out) ?_)
    | (refine wpList_store_row rfl 46 _ _ rfl pS CZ rfl rfl 46 _ HRS.out HIZ.out rfl HOZ.out ?_))
  refine bodyPost_ret (results_cell_tmp (p := 2) (q := 3) (ty := 46) Tryd.results32 _ _ pS 46 CZ (0, 0) _ rfl (setRow_heap _ _ _ _ _ _ HRS.out) Tryd.underlying46 rfl HIZ.out) rfl ⟨rfl, ?_⟩
  exact Chg.own (b := pS) g0 (chg_setRow _ _ _) (by rw [HPS.out]; exact Nat.le_refl _)

end Go.Proofs.YtehpigmcmgfkoaaDoor

namespace Go.Proofs.YtehpigmcmgfkoaaDoor
open Go.RowKit

def valL : List UInt8 → Nat
  | [] => 0
  | x :: l => x.toNat * 2 ^ (8 * l.length) + valL l
theorem valL_snoc : ∀ (l : List UInt8) (x : UInt8), valL (l ++ [x]) = valL l * 256 + x.toNat
  | [], x => by simp [valL]
  | y :: l, x => by
    rw [List.cons_append]
    show y.toNat * 2 ^ (8 * (l ++ [x]).length) + valL (l ++ [x]) = (y.toNat * 2 ^ (8 * l.length) + valL l) * 256 + x.toNat
    rw [valL_snoc l x, List.length_append, List.length_singleton, Nat.mul_add, Nat.pow_add, show (2 : Nat) ^ (8 * 1) = 256 from rfl, ← Nat.mul_assoc, Nat.add_mul]
    omega
theorem valL_lt : ∀ (l : List UInt8), valL l < 2 ^ (8 * l.length)
  | [] => by decide
  | x :: l => by
    have ih := valL_lt l
    have hx := x.toNat_lt
    show x.toNat * 2 ^ (8 * l.length) + valL l < 2 ^ (8 * (l.length + 1))
    rw [Nat.mul_succ, Nat.pow_add]
    have := Nat.mul_le_mul_right (2 ^ (8 * l.length)) (show x.toNat + 1 ≤ 256 by omega)
    rw [Nat.add_mul, Nat.one_mul] at this
    rw [Nat.mul_comm (2 ^ (8 * l.length)) (2 ^ 8)]
    omega
theorem be_add : ∀ (k n c : Nat), be k (n + c * 2 ^ (8 * k)) = be k n
  | 0, _, _ => rfl
  | k + 1, n, c => by
    have e : c * 2 ^ (8 * (k + 1)) = (c * 256) * 2 ^ (8 * k) := by rw [Nat.mul_succ, Nat.pow_add, Nat.mul_assoc, Nat.mul_comm (2 ^ (8 * k))]
    rw [e]
    show UInt8.ofNat ((n + c * 256 * 2 ^ (8 * k)) / 2 ^ (8 * k)) :: be k (n + c * 256 * 2 ^ (8 * k)) = UInt8.ofNat (n / 2 ^ (8 * k)) :: be k n
    rw [be_add k n (c * 256), Nat.add_mul_div_right _ _ (Nat.pow_pos (by decide))]
    congr 1
    apply UInt8.toNat_inj.1
    rw [UInt8.toNat_ofNat', UInt8.toNat_ofNat']
    omega
theorem be_val : ∀ (l : List UInt8), be l.length (valL l) = l
  | [] => rfl
  | x :: l => by
    have ih := be_val l
    have h1 := valL_lt l
    show UInt8.ofNat ((x.toNat * 2 ^ (8 * l.length) + valL l) / 2 ^ (8 * l.length)) :: be l.length (x.toNat * 2 ^ (8 * l.length) + valL l) = x :: l
    rw [Nat.add_comm (x.toNat * 2 ^ (8 * l.length)), be_add, ih, Nat.add_mul_div_right _ _ (Nat.pow_pos (by decide)), Nat.div_eq_of_lt h1, Nat.zero_add]
    congr 1
    apply UInt8.toNat_inj.1
    rw [UInt8.toNat_ofNat']
    have := x.toNat_lt
    omega
theorem or_byte (N x : Nat) (hx : x < 256) (hN : N < 72057594037927936) : bits .or .u64 ((N : Int) * 256) (x : Int) = ((N * 256 + x : Nat) : Int) := by
  rw [bits_or_comm, Go.u64_or8 _ _ (by omega) (by omega) (by omega) (by omega) (by omega)]
  omega

end Go.Proofs.YtehpigmcmgfkoaaDoor

namespace Go.Proofs.YtehpigmcmgfkoaaDoor
open Go.RowKit

set_option maxRecDepth 100000 in
set_option maxHeartbeats 16000000 in
theorem read_no (b o c : Nat) (x d : List UInt8) (w : World) (hx : (x.drop 64).take 8 = d) (hd : d.length = 8) (hr : w.rangeAt b o (byteVals x)) (hc : 104 ≤ c) (hm : mayB (valL d : Nat) = false) :
    Calls Tryd.prog 32 #[.slice (some ⟨b, o, none⟩) 104 c] w fun e w' => e = .returned (.tuple #[.agg (attCells zeroAtt).toArray, .int .i64 5]) ∧ Chg none w w' := by
  obtain ⟨W1, hW1⟩ : ∃ W1, W1 = w.alloc (.cells Tryd.zeroCells46 46) := ⟨_, rfl⟩
  have HW1 : Hid (w.alloc (.cells Tryd.zeroCells46 46) = W1) := hW1.symm
  have g0 : Chg none w W1 := by rw [hW1]; exact (Chg.refl _ _).alloc _
  obtain ⟨CZ, hCZ⟩ : ∃ CZ, CZ = (attCells zeroAtt).toArray := ⟨_, rfl⟩
  have bS : Blk W1 w.heap.size CZ 46 := by rw [hW1, zero46, hCZ]; exact Blk.new _ _ _
  have HBZ : Hid (Tryd.prog.built 46 [] = some CZ) := by rw [hCZ]; exact built46_0
  have HOZ : Hid (CZ.all (·.oneCell') = true) := by rw [hCZ]; exact attCells_one zeroAtt
  have HIZ : Hid ((Tryd.prog.info? 46).map (·.size) = some CZ.size) := by rw [hCZ]; exact info46a zeroAtt
  rw [← hCZ]
  have HBS : Hid (∀ v, Chg none W1 v → v.heap[w.heap.size]? = some (.cells CZ 46 (0, 0))) := fun v g => Blk.chg bS g (by simp)
  have HC : Hid (∀ v, Chg none W1 v → ∀ (j : Nat) (y : UInt8), d[j]? = some y → v.cell? ⟨b, o + 64 + j, none⟩ = some (.int .u8 y.toNat)) := fun v g j y hj => by
    have hjd : j < 8 := by rw [← hd]; exact (List.getElem?_eq_some_iff.1 hj).1
    have hxj : x[64 + j]? = some y := by
      rw [← hx, List.getElem?_take_of_lt hjd, List.getElem?_drop] at hj
      exact hj
    rw [Nat.add_assoc]
    exact (rangeAt_chg hr (g0.trans g) (by simp)) _ _ (byteVals_get hxj)
  have hcut : ∀ v : World, (Instr.sliceAt 22 (.slice (some ⟨b, o, none⟩) 104 c) (some (.int .i64 64)) (some (.int .i64 72)) (some (.int .i64 72))).run Tryd.prog v = .ok (.slice (some ⟨b, o + 64, none⟩) 8 8) v := fun v => by
    have u22 := Tryd.underlying22
    have z5 := Tryd.sizeOf5
    have h5 : (72 : Int) ≤ c := by omega
    go_simp
  have HD := Lib.hid hd
  obtain ⟨V, hV⟩ : ∃ V, V = valL d := ⟨_, rfl⟩
  have HV : Hid (valL (d.take 8) = V) := by show _ = _; rw [hV, List.take_of_length_le (by omega)]
  rw [← hV] at hm
  have hVV : V = 0 ∨ 5000 < V := by
    unfold mayB at hm
    simp at hm
    omega
  have HVV := Lib.hid hVV
  clear hW1 hCZ bS hr hx hd hm hV hVV
  go_enter Tryd.func32, Tryd.ntmps32
  go_upto_region 1 with fail
  rw [HW1.out]
  clear HW1
  generalize hpS : w.heap.size = pS at *
  have HPS := Lib.hid hpS
  clear hpS
  go_wp2_with fail
  go_loopw [4, 14] (fun s4 s14 wr => ∃ j : Nat, j ≤ 8 ∧ s14 = .int .i64 j ∧ s4 = .int .u64 (valL (d.take j) : Nat) ∧ Chg none W1 wr) (fun _ s14 _ => 8 - (intOf s14).toNat)
  case atStart => exact ⟨0, by omega, rfl, rfl, Chg.refl _ _⟩
  case round =>
    obtain ⟨j, hj, rfl, rfl, gk⟩ := hrel
    by_cases hlt : j < 8
    · obtain ⟨y, hy⟩ : ∃ y, d[j]? = some y := ⟨d[j]'(by rw [HD.out]; exact hlt), List.getElem?_eq_getElem (by rw [HD.out]; exact hlt)⟩
      have hcl := HC.out wr gk j y hy
      have hst : valL (d.take (j + 1)) = valL (d.take j) * 256 + y.toNat := by
        rw [List.take_add_one, hy]
        exact valL_snoc _ _
      have hN : valL (d.take j) < 72057594037927936 := by
        have h := valL_lt (d.take j)
        have h7 : (d.take j).length ≤ 7 := by rw [List.length_take]; omega
        have := Nat.pow_le_pow_right (n := 2) (by decide) (show 8 * (d.take j).length ≤ 56 by omega)
        have e : (2 : Nat) ^ 56 = 72057594037927936 := by decide
        omega
      have HST := Lib.hid hst
      generalize valL (d.take j) = M at *
      have hor := or_byte M y.toNat y.toNat_lt hN
      have hsh : (M : Int) * 256 % 18446744073709551616 = (M : Int) * 256 := by omega
      have hcv : ((y.toNat : Nat) : Int) % 18446744073709551616 = (y.toNat : Int) := by have := y.toNat_lt; omega
      clear hst hy
      generalize y.toNat = z at *
      go_wp2_with fail
      go_roundw
      case rel => exact ⟨j + 1, by omega, by go_num, by rw [HST.out]; congr 1; try omega, gk⟩
      case measure => first | (simp [intOf]; done) | (simp [intOf]; omega)
    · have hj8 : j = 8 := by omega
      have dd : decide ((j : Int) < 8) = false := by simp; omega
      have HRS := Lib.hid (HBS.out wr gk)
      have g02 := g0.trans gk
      subst hj8
      rw [HV.out]
      have hVV := HVV.out
      clear HBS HC HV
      by_cases hz : V = 0
      · subst hz
        clear hVV
        go_wp2_with (first
          | (refine wpList_buildTo rfl 46 _ rfl (some 30) rfl CZ (by simp only [List.map_toArray, List.map_nil]; exact HBZ.out) ?_)
          | (refine wpList_store_row rfl 46 _ _ rfl pS CZ rfl rfl 46 _ HRS.out HIZ.out rfl HOZ.out ?_))
        refine bodyPost_ret (results_cell_tmp (p := 2) (q := 3) (ty := 46) Tryd.results32 _ _ pS 46 CZ (0, 0) _ rfl (setRow_heap _ _ _ _ _ _ HRS.out) Tryd.underlying46 rfl HIZ.out) rfl ⟨rfl, ?_⟩
        exact Chg.own (b := pS) g02 (chg_setRow _ _ _) (by rw [HPS.out]; exact Nat.le_refl _)
      · have q1 : ((V : Int) == 0) = false := by simp; omega
        have q2 : decide ((5000 : Int) < (V : Int)) = true := by simp; omega
        clear hVV hz
        go_wp2_with (first
          | (refine wpList_buildTo rfl 46 _ rfl (some 30) rfl CZ (by simp only [List.map_toArray, List.map_nil]; exact HBZ.out) ?_)
          | (refine wpList_store_row rfl 46 _ _ rfl pS CZ rfl rfl 46 _ HRS.out HIZ.out rfl HOZ.out ?_))
        refine bodyPost_ret (results_cell_tmp (p := 2) (q := 3) (ty := 46) Tryd.results32 _ _ pS 46 CZ (0, 0) _ rfl (setRow_heap _ _ _ _ _ _ HRS.out) Tryd.underlying46 rfl HIZ.out) rfl ⟨rfl, ?_⟩
        exact Chg.own (b := pS) g02 (chg_setRow _ _ _) (by rw [HPS.out]; exact Nat.le_refl _)

end Go.Proofs.YtehpigmcmgfkoaaDoor

namespace Go.Proofs.YtehpigmcmgfkoaaDoor
open Go.RowKit

set_option maxRecDepth 100000 in
set_option maxHeartbeats 16000000 in
theorem read_yes (k r t : Dg) (b o c : Nat) (x d : List UInt8) (w : World) (hx : (x.drop 64).take 8 = d) (hd : d.length = 8) (hr : w.rangeAt b o (byteVals x)) (hbl : b < w.heap.size) (hc : 104 ≤ c) (hm : mayB (valL d : Nat) = true) (hk : w.rangeAt b o (byteVals k.1)) (hrr : w.rangeAt b (o + 32) (byteVals r.1)) (ht : w.rangeAt b (o + 72) (byteVals t.1)) :
    Calls Tryd.prog 32 #[.slice (some ⟨b, o, none⟩) 104 c] w fun e w' => e = .returned (.tuple #[.agg (attCells ⟨k, r, valL d, t⟩).toArray, .int .i64 0]) ∧ Chg none w w' := by
  obtain ⟨W1, hW1⟩ : ∃ W1, W1 = w.alloc (.cells Tryd.zeroCells46 46) := ⟨_, rfl⟩
  have HW1 : Hid (w.alloc (.cells Tryd.zeroCells46 46) = W1) := hW1.symm
  have g0 : Chg none w W1 := by rw [hW1]; exact (Chg.refl _ _).alloc _
  obtain ⟨CZ, hCZ⟩ : ∃ CZ, CZ = (attCells zeroAtt).toArray := ⟨_, rfl⟩
  have bS : Blk W1 w.heap.size CZ 46 := by rw [hW1, zero46, hCZ]; exact Blk.new _ _ _
  have HBS : Hid (∀ v, Chg none W1 v → v.heap[w.heap.size]? = some (.cells CZ 46 (0, 0))) := fun v g => Blk.chg bS g (by simp)
  have HC : Hid (∀ v, Chg none W1 v → ∀ (j : Nat) (y : UInt8), d[j]? = some y → v.cell? ⟨b, o + 64 + j, none⟩ = some (.int .u8 y.toNat)) := fun v g j y hj => by
    have hjd : j < 8 := by rw [← hd]; exact (List.getElem?_eq_some_iff.1 hj).1
    have hxj : x[64 + j]? = some y := by
      rw [← hx, List.getElem?_take_of_lt hjd, List.getElem?_drop] at hj
      exact hj
    rw [Nat.add_assoc]
    exact (rangeAt_chg hr (g0.trans g) (by simp)) _ _ (byteVals_get hxj)
  have hcut : ∀ v : World, (Instr.sliceAt 22 (.slice (some ⟨b, o, none⟩) 104 c) (some (.int .i64 64)) (some (.int .i64 72)) (some (.int .i64 72))).run Tryd.prog v = .ok (.slice (some ⟨b, o + 64, none⟩) 8 8) v := fun v => by
    have u22 := Tryd.underlying22
    have z5 := Tryd.sizeOf5
    have h5 : (72 : Int) ≤ c := by omega
    go_simp
  have HD := Lib.hid hd
  have hbn : b ≠ w.heap.size := by omega
  obtain ⟨V, hV⟩ : ∃ V, V = valL d := ⟨_, rfl⟩
  have HV : Hid (valL (d.take 8) = V) := by show _ = _; rw [hV, List.take_of_length_le (by omega)]
  rw [← hV] at hm ⊢
  have hVV : 1 ≤ V ∧ V ≤ 5000 := by
    unfold mayB at hm
    simp at hm
    omega
  have HVV := Lib.hid hVV
  obtain ⟨CF, hCF⟩ : ∃ CF, CF = (attCells ⟨k, r, V, t⟩).toArray := ⟨_, rfl⟩
  have HBU : Hid (Tryd.prog.built 46 [(0, .agg (byteVals k.1).toArray), (1, .agg (byteVals r.1).toArray), (2, .int .i64 V), (3, .agg (byteVals t.1).toArray)] = some CF) := by rw [hCF]; exact built46_4 k r t V
  have HI1 : Hid ((Tryd.prog.info? 46).map (·.size) = some CF.size) := by rw [hCF]; exact info46a _
  have HO1 : Hid (CF.all (·.oneCell') = true) := by rw [hCF]; exact attCells_one _
  have HZ1 : Hid (CZ.size = CF.size) := by show _ = _; rw [hCF, hCZ, List.size_toArray, List.size_toArray, attCells_len, attCells_len]
  have HI30 : Hid (∀ q : Dg, (Tryd.prog.info? 30).map (·.size) = some (byteVals q.1).length) := fun q => by rw [byteVals_len, q.2]; show _ = _; kernel_rfl
  have HPT : Hid (∀ v, Chg none W1 v → v.rangeAt b o (byteVals k.1) ∧ v.rangeAt b (o + 32) (byteVals r.1) ∧ v.rangeAt b (o + 72) (byteVals t.1)) := fun v g => ⟨rangeAt_chg hk (g0.trans g) (by simp), rangeAt_chg hrr (g0.trans g) (by simp), rangeAt_chg ht (g0.trans g) (by simp)⟩
  have hcu : ∀ (v : World), (Instr.sliceAt 22 (.slice (some ⟨b, o, none⟩) 104 c) (some (.int .i64 0)) (some (.int .i64 32)) (some (.int .i64 32))).run Tryd.prog v = .ok (.slice (some ⟨b, o, none⟩) 32 32) v := fun v => by
    have u22 := Tryd.underlying22
    have z5 := Tryd.sizeOf5
    have h5 : (32 : Int) ≤ c := by omega
    go_simp
  have hcv : ∀ (v : World), (Instr.sliceAt 22 (.slice (some ⟨b, o, none⟩) 104 c) (some (.int .i64 32)) (some (.int .i64 64)) (some (.int .i64 64))).run Tryd.prog v = .ok (.slice (some ⟨b, o + 32, none⟩) 32 32) v := fun v => by
    have u22 := Tryd.underlying22
    have z5 := Tryd.sizeOf5
    have h5 : (64 : Int) ≤ c := by omega
    go_simp
  have hcw : ∀ (v : World), (Instr.sliceAt 22 (.slice (some ⟨b, o, none⟩) 104 c) (some (.int .i64 72)) (some (.int .i64 104)) (some (.int .i64 104))).run Tryd.prog v = .ok (.slice (some ⟨b, o + 72, none⟩) 32 32) v := fun v => by
    have u22 := Tryd.underlying22
    have z5 := Tryd.sizeOf5
    have h5 : (104 : Int) ≤ c := by omega
    go_simp
  have HCU := Lib.hid hcu
  have HCV := Lib.hid hcv
  have HCW := Lib.hid hcw
  rw [← hCF]
  clear hW1 hCZ hCF bS hr hx hd hm hV hVV hk hrr ht hbl hcu hcv hcw
  go_enter Tryd.func32, Tryd.ntmps32
  go_upto_region 1 with fail
  rw [HW1.out]
  clear HW1
  generalize hpS : w.heap.size = pS at *
  have HPS := Lib.hid hpS
  clear hpS
  go_wp2_with fail
  go_loopw [4, 14] (fun s4 s14 wr => ∃ j : Nat, j ≤ 8 ∧ s14 = .int .i64 j ∧ s4 = .int .u64 (valL (d.take j) : Nat) ∧ Chg none W1 wr) (fun _ s14 _ => 8 - (intOf s14).toNat)
  case atStart => exact ⟨0, by omega, rfl, rfl, Chg.refl _ _⟩
  case round =>
    obtain ⟨j, hj, rfl, rfl, gk⟩ := hrel
    by_cases hlt : j < 8
    · obtain ⟨y, hy⟩ : ∃ y, d[j]? = some y := ⟨d[j]'(by rw [HD.out]; exact hlt), List.getElem?_eq_getElem (by rw [HD.out]; exact hlt)⟩
      have hcl := HC.out wr gk j y hy
      have hst : valL (d.take (j + 1)) = valL (d.take j) * 256 + y.toNat := by
        rw [List.take_add_one, hy]
        exact valL_snoc _ _
      have hN : valL (d.take j) < 72057594037927936 := by
        have h := valL_lt (d.take j)
        have h7 : (d.take j).length ≤ 7 := by rw [List.length_take]; omega
        have := Nat.pow_le_pow_right (n := 2) (by decide) (show 8 * (d.take j).length ≤ 56 by omega)
        have e : (2 : Nat) ^ 56 = 72057594037927936 := by decide
        omega
      have HST := Lib.hid hst
      generalize valL (d.take j) = M at *
      have hor := or_byte M y.toNat y.toNat_lt hN
      have hsh : (M : Int) * 256 % 18446744073709551616 = (M : Int) * 256 := by omega
      have hcv : ((y.toNat : Nat) : Int) % 18446744073709551616 = (y.toNat : Int) := by have := y.toNat_lt; omega
      clear hst hy
      generalize y.toNat = z at *
      go_wp2_with fail
      go_roundw
      case rel => exact ⟨j + 1, by omega, by go_num, by rw [HST.out]; congr 1; try omega, gk⟩
      case measure => first | (simp [intOf]; done) | (simp [intOf]; omega)
    · have hj8 : j = 8 := by omega
      have dd : decide ((j : Int) < 8) = false := by simp; omega
      have HRS := Lib.hid (HBS.out wr gk)
      have g02 := g0.trans gk
      subst hj8
      rw [HV.out]
      have hVV := HVV.out
      clear HBS HC HV
      have q1 : ((V : Int) == 0) = false := by simp; omega
      have q2 : decide ((5000 : Int) < (V : Int)) = false := by simp; omega
      have i4 : IntKind.i64.wrap (V : Int) = (V : Int) := by rw [IntKind.wrap_i64]; omega
      clear hVV hcut
      go_upto_region 11 with fail
      have hS0 := HPT.out wr.drew gk.drew
      have bS0 : Blk wr.drew pS CZ 46 := HRS.out
      have E0 := g02.drew
      clear HPT HRS g02 gk
      refine wp_region_held_drew (S := fun w' => w'.rangeAt b o (byteVals k.1) ∧ w'.rangeAt b (o + 32) (byteVals r.1) ∧ w'.rangeAt b (o + 72) (byteVals t.1)) (by kernel_rfl) hS0 (fun _ => ?_)
      generalize wr.drew = v0 at *
      refine wpAnyH_take (i := 0) (oi := ⟨some 31, _, _, _, _, _⟩) (v := ?_) rfl (by kernel_rfl) (by kernel_rfl) (by kernel_rfl) (fun _ _ _ h => h) (Or.inl ⟨by rfl, ?_⟩) (by assumption) ?_
      rotate_left
      · intro w hSw; (try dsimp only at hSw); go_simp; (try with_reducible rfl)
      try simp only [Act.put, List.setIfInBounds_toArray, List.set_cons_zero, List.set_cons_succ]
      refine wpAnyH_take (i := 1) (oi := ⟨some 32, _, _, _, _, _⟩) (v := .slice (some ⟨b, o, none⟩) 32 32) rfl (by kernel_rfl) (by kernel_rfl) (by kernel_rfl) (fun _ _ _ h => h) (Or.inl ⟨by rfl, ?_⟩) (by assumption) ?_
      · intro w _; have hcx := HCU.out w; go_simp
      try simp only [Act.put, List.setIfInBounds_toArray, List.set_cons_zero, List.set_cons_succ]
      refine wpAnyH_take (i := 2) (oi := ⟨some 33, _, _, _, _, _⟩) (v := .pointer (some ⟨b, o, none⟩)) rfl (by kernel_rfl) (by kernel_rfl) (by kernel_rfl) (fun _ _ _ h => h) (Or.inl ⟨by rfl, ?_⟩) (by assumption) ?_
      · intro w _; have har := run_arrayAt (P := Tryd.prog) w 30 5 32 (some ⟨b, o, none⟩) 32 32 Tryd.underlying30 (by decide); go_simp
      try simp only [Act.put, List.setIfInBounds_toArray, List.set_cons_zero, List.set_cons_succ]
      refine wpAnyH_take (i := 3) (oi := ⟨some 34, _, _, _, _, _⟩) (v := .agg (byteVals k.1).toArray) rfl (by kernel_rfl) (by kernel_rfl) (by kernel_rfl) (fun _ _ _ h => h) (yieldsIf_load_mid (by rfl) 30 _ rfl b (o) rfl (byteVals k.1) _ (fun _ h => h.1) Tryd.underlying30 rfl (HI30.out k)) (by assumption) ?_
      try simp only [Act.put, List.setIfInBounds_toArray, List.set_cons_zero, List.set_cons_succ]
      refine wpAnyH_take (i := 4) (oi := ⟨some 35, _, _, _, _, _⟩) (v := ?_) rfl (by kernel_rfl) (by kernel_rfl) (by kernel_rfl) (fun _ _ _ h => h) (Or.inl ⟨by rfl, ?_⟩) (by assumption) ?_
      rotate_left
      · intro w hSw; (try dsimp only at hSw); go_simp; (try with_reducible rfl)
      try simp only [Act.put, List.setIfInBounds_toArray, List.set_cons_zero, List.set_cons_succ]
      refine wpAnyH_take (i := 5) (oi := ⟨some 36, _, _, _, _, _⟩) (v := .slice (some ⟨b, o + 32, none⟩) 32 32) rfl (by kernel_rfl) (by kernel_rfl) (by kernel_rfl) (fun _ _ _ h => h) (Or.inl ⟨by rfl, ?_⟩) (by assumption) ?_
      · intro w _; have hcx := HCV.out w; go_simp
      try simp only [Act.put, List.setIfInBounds_toArray, List.set_cons_zero, List.set_cons_succ]
      refine wpAnyH_take (i := 6) (oi := ⟨some 37, _, _, _, _, _⟩) (v := .pointer (some ⟨b, o + 32, none⟩)) rfl (by kernel_rfl) (by kernel_rfl) (by kernel_rfl) (fun _ _ _ h => h) (Or.inl ⟨by rfl, ?_⟩) (by assumption) ?_
      · intro w _; have har := run_arrayAt (P := Tryd.prog) w 30 5 32 (some ⟨b, o + 32, none⟩) 32 32 Tryd.underlying30 (by decide); go_simp
      try simp only [Act.put, List.setIfInBounds_toArray, List.set_cons_zero, List.set_cons_succ]
      refine wpAnyH_take (i := 7) (oi := ⟨some 38, _, _, _, _, _⟩) (v := .agg (byteVals r.1).toArray) rfl (by kernel_rfl) (by kernel_rfl) (by kernel_rfl) (fun _ _ _ h => h) (yieldsIf_load_mid (by rfl) 30 _ rfl b (o + 32) rfl (byteVals r.1) _ (fun _ h => h.2.1) Tryd.underlying30 rfl (HI30.out r)) (by assumption) ?_
      try simp only [Act.put, List.setIfInBounds_toArray, List.set_cons_zero, List.set_cons_succ]
      refine wpAnyH_take (i := 8) (oi := ⟨some 39, _, _, _, _, _⟩) (v := ?_) rfl (by kernel_rfl) (by kernel_rfl) (by kernel_rfl) (fun _ _ _ h => h) (Or.inl ⟨by rfl, ?_⟩) (by assumption) ?_
      rotate_left
      · intro w hSw; (try dsimp only at hSw); go_simp; (try with_reducible rfl)
      try simp only [Act.put, List.setIfInBounds_toArray, List.set_cons_zero, List.set_cons_succ]
      refine wpAnyH_take (i := 9) (oi := ⟨some 40, _, _, _, _, _⟩) (v := .int .i64 V) rfl (by kernel_rfl) (by kernel_rfl) (by kernel_rfl) (fun _ _ _ h => h) (Or.inl ⟨by rfl, ?_⟩) (by assumption) ?_
      · intro w _; go_simp
      try simp only [Act.put, List.setIfInBounds_toArray, List.set_cons_zero, List.set_cons_succ]
      refine wpAnyH_take (i := 10) (oi := ⟨some 41, _, _, _, _, _⟩) (v := ?_) rfl (by kernel_rfl) (by kernel_rfl) (by kernel_rfl) (fun _ _ _ h => h) (Or.inl ⟨by rfl, ?_⟩) (by assumption) ?_
      rotate_left
      · intro w hSw; (try dsimp only at hSw); go_simp; (try with_reducible rfl)
      try simp only [Act.put, List.setIfInBounds_toArray, List.set_cons_zero, List.set_cons_succ]
      refine wpAnyH_take (i := 11) (oi := ⟨some 42, _, _, _, _, _⟩) (v := .slice (some ⟨b, o + 72, none⟩) 32 32) rfl (by kernel_rfl) (by kernel_rfl) (by kernel_rfl) (fun _ _ _ h => h) (Or.inl ⟨by rfl, ?_⟩) (by assumption) ?_
      · intro w _; have hcx := HCW.out w; go_simp
      try simp only [Act.put, List.setIfInBounds_toArray, List.set_cons_zero, List.set_cons_succ]
      refine wpAnyH_take (i := 12) (oi := ⟨some 43, _, _, _, _, _⟩) (v := .pointer (some ⟨b, o + 72, none⟩)) rfl (by kernel_rfl) (by kernel_rfl) (by kernel_rfl) (fun _ _ _ h => h) (Or.inl ⟨by rfl, ?_⟩) (by assumption) ?_
      · intro w _; have har := run_arrayAt (P := Tryd.prog) w 30 5 32 (some ⟨b, o + 72, none⟩) 32 32 Tryd.underlying30 (by decide); go_simp
      try simp only [Act.put, List.setIfInBounds_toArray, List.set_cons_zero, List.set_cons_succ]
      refine wpAnyH_take (i := 13) (oi := ⟨some 44, _, _, _, _, _⟩) (v := .agg (byteVals t.1).toArray) rfl (by kernel_rfl) (by kernel_rfl) (by kernel_rfl) (fun _ _ _ h => h) (yieldsIf_load_mid (by rfl) 30 _ rfl b (o + 72) rfl (byteVals t.1) _ (fun _ h => h.2.2) Tryd.underlying30 rfl (HI30.out t)) (by assumption) ?_
      try simp only [Act.put, List.setIfInBounds_toArray, List.set_cons_zero, List.set_cons_succ]
      refine wpAnyH_take (i := 14) (oi := ⟨some 45, _, _, _, _, _⟩) (v := .agg CF) rfl (by kernel_rfl) (by kernel_rfl) (by kernel_rfl) (fun _ _ _ h => h) (yieldsIf_build (by rfl) 46 _ rfl CF (by simp only [List.map_toArray, List.map_cons, List.map_nil]; exact HBU.out)) (by assumption) ?_
      try simp only [Act.put, List.setIfInBounds_toArray, List.set_cons_zero, List.set_cons_succ]
      refine wpAnyH_ready (rs := [15]) (by kernel_rfl) (by simp) ?_
      refine AllReadyH.cons (o := ⟨none, _, _, _, _, _⟩) rfl (fun K hK => ?_) (AllReadyH.nil)
      have gS : Chg (some pS) v0 (World.setRow v0 pS CF) := chg_setRow _ _ _
      have HSH := Lib.hid (setRow_heap _ _ _ _ _ _ bS0 : (World.setRow v0 pS CF).heap[pS]? = _)
      have hSZ : (World.setRow v0 pS CF).rangeAt b o (byteVals k.1) ∧ (World.setRow v0 pS CF).rangeAt b (o + 32) (byteVals r.1) ∧ (World.setRow v0 pS CF).rangeAt b (o + 72) (byteVals t.1) := ⟨rangeAt_chg hS0.1 gS (by simp; exact hbn), rangeAt_chg hS0.2.1 gS (by simp; exact hbn), rangeAt_chg hS0.2.2 gS (by simp; exact hbn)⟩
      refine wp_store_row 46 (.tmp 2) (.tmp 45) (by rfl) pS CF (by rfl) (by rfl) 46 _ bS0 HI1.out HZ1.out HO1.out ?_
      refine hK.out _ _ hSZ (fun _ => ?_)
      clear hK K
      refine wpAnyH_take (i := 16) (oi := ⟨some 3, _, _, _, _, _⟩) (v := ?_) rfl (by kernel_rfl) (by kernel_rfl) (by kernel_rfl) (fun _ _ _ h => h) (Or.inl ⟨by rfl, ?_⟩) (by assumption) ?_
      rotate_left
      · intro w hSw; (try dsimp only at hSw); go_simp; (try with_reducible rfl)
      try simp only [Act.put, List.setIfInBounds_toArray, List.set_cons_zero, List.set_cons_succ]
      refine wpAnyH_done (by kernel_rfl) ?_ _
      try simp only [Act.put]
      go_wp2_with fail
      refine bodyPost_ret (results_cell_tmp (p := 2) (q := 3) (ty := 46) Tryd.results32 _ _ pS 46 CF (0, 0) _ rfl HSH.out Tryd.underlying46 rfl HI1.out) rfl ⟨rfl, ?_⟩
      exact Chg.own (b := pS) E0 gS (by rw [HPS.out]; exact Nat.le_refl _)

end Go.Proofs.YtehpigmcmgfkoaaDoor

namespace Go.Proofs.YtehpigmcmgfkoaaDoor
open Go.RowKit

set_option maxRecDepth 100000 in
set_option maxHeartbeats 4000000 in
theorem lengthy_no (b o c : Nat) (x d : List UInt8) (w : World) (hx : (x.drop 64).take 8 = d) (hd : d.length = 8) (hr : w.rangeAt b o (byteVals x)) (hm : mayB (valL d : Nat) = false) :
    Calls Tryd.prog 33 #[.slice (some ⟨b, o, none⟩) 104 c] w fun e w' => e = .returned (.bool false) ∧ Chg none w w' := by
  have HC : Hid (∀ v, Chg none w v → ∀ (j : Nat) (y : UInt8), d[j]? = some y → v.cell? ⟨b, o + (64 + j), none⟩ = some (.int .u8 y.toNat)) := fun v g j y hj => by
    have hjd : j < 8 := by rw [← hd]; exact (List.getElem?_eq_some_iff.1 hj).1
    have hxj : x[64 + j]? = some y := by
      rw [← hx, List.getElem?_take_of_lt hjd, List.getElem?_drop] at hj
      exact hj
    exact (rangeAt_chg hr g (by simp)) _ _ (byteVals_get hxj)
  have HD := Lib.hid hd
  obtain ⟨V, hV⟩ : ∃ V, V = valL d := ⟨_, rfl⟩
  have HV : Hid (valL (d.take 8) = V) := by show _ = _; rw [hV, List.take_of_length_le (by omega)]
  rw [← hV] at hm
  have hVV : V = 0 ∨ 5000 < V := by
    unfold mayB at hm
    simp at hm
    omega
  have HVV := Lib.hid hVV
  clear hr hx hd hm hV hVV
  go_enter Tryd.func33, Tryd.ntmps33
  go_wp2_with fail
  go_loopw [3, 4] (fun s3 s4 wr => ∃ j : Nat, j ≤ 8 ∧ s4 = .int .i64 (64 + (j : Int)) ∧ s3 = .int .i64 (valL (d.take j) : Nat) ∧ valL (d.take j) < 72057594037927936 ∧ Chg none w wr) (fun _ s4 _ => 72 - (intOf s4).toNat)
  case atStart => exact ⟨0, by omega, rfl, rfl, (by show (0 : Nat) < _; decide), Chg.refl _ _⟩
  case round =>
    obtain ⟨j, hj, rfl, rfl, hN, gk⟩ := hrel
    by_cases hlt : j < 8
    · have hd1 : decide (64 + (j : Int) < 72) = true := by simp; omega
      obtain ⟨y, hy⟩ : ∃ y, d[j]? = some y := ⟨d[j]'(by rw [HD.out]; exact hlt), List.getElem?_eq_getElem (by rw [HD.out]; exact hlt)⟩
      have hcl := HC.out wr gk j y hy
      have hst : valL (d.take (j + 1)) = valL (d.take j) * 256 + y.toNat := by
        rw [List.take_add_one, hy]
        exact valL_snoc _ _
      have HST := Lib.hid hst
      have hy2 := y.toNat_lt
      generalize valL (d.take j) = M at *
      clear hst hy
      generalize y.toNat = z at *
      by_cases hbig : 1099511627776 < M
      · have hd2 : decide ((1099511627776 : Int) < (M : Int)) = true := by simp; omega
        go_wp2_with fail
        go_ret
        exact ⟨rfl, gk⟩
      · have hd2 : decide ((1099511627776 : Int) < (M : Int)) = false := by simp; omega
        have i1 : (0 : Int) ≤ 64 + (j : Int) := by omega
        have i2 : 64 + (j : Int) < 104 := by omega
        have i3 : (64 + (j : Int)).toNat = 64 + j := by omega
        have i5 : IntKind.i64.wrap ((M : Int) * 256 + (z : Int)) = (M : Int) * 256 + (z : Int) := by rw [IntKind.wrap_i64]; omega
        have i6 : IntKind.i64.wrap ((M : Int) * 256) = (M : Int) * 256 := by rw [IntKind.wrap_i64]; omega
        have i7 : IntKind.i64.wrap (64 + (j : Int) + 1) = 64 + (j : Int) + 1 := by rw [IntKind.wrap_i64]; omega
        go_wp2_with fail
        go_roundw
        case rel => exact ⟨j + 1, by omega, by congr 1, by rw [HST.out]; congr 1, by rw [HST.out]; omega, gk⟩
        case measure => simp only [intOf]; omega
    · have hj8 : j = 8 := by omega
      subst hj8
      have hd1 : decide ((64 : Int) + ((8 : Nat) : Int) < 72) = false := by decide
      rw [HV.out]
      have hVV := HVV.out
      clear HC HV
      by_cases hz : V = 0
      · subst hz
        clear hVV
        go_wp2_with fail
        go_ret
        exact ⟨rfl, gk⟩
      · have q1 : decide ((V : Int) ≥ 1) = true := by simp; omega
        have q2 : decide ((V : Int) ≤ 5000) = false := by simp; omega
        clear hVV hz
        go_wp2_with fail
        go_ret
        exact ⟨rfl, gk⟩

end Go.Proofs.YtehpigmcmgfkoaaDoor

namespace Go.Proofs.YtehpigmcmgfkoaaDoor
open Go.RowKit

theorem less_cmp : ∀ (x y : List UInt8), Op.bytesLess x y = decide (cmpB x y < 0)
  | [], [] => rfl
  | _ :: _, [] => by symm; exact decide_eq_false (by show ¬ (1 : Int) < 0; decide)
  | [], _ :: _ => by symm; exact decide_eq_true (by show (-1 : Int) < 0; decide)
  | a :: x, b :: y => by
    rw [cmp_cons]
    show (decide (a < b) || (a == b && Op.bytesLess x y)) = _
    rw [less_cmp x y]
    by_cases h1 : a < b
    · simp [h1]
    · by_cases h2 : b < a
      · have h3 : (a == b) = false := by rw [beq_eq_false_iff_ne]; intro e; subst e; exact UInt8.lt_irrefl _ h2
        simp [h1, h2, h3]
      · have e : a = b := UInt8.le_antisymm (UInt8.not_lt.1 h2) (UInt8.not_lt.1 h1)
        subst e
        simp [h1]
theorem lss_bytes (x y : List UInt8) (w : World) : (binOp .lss 9 (.string ⟨x.toArray⟩) (.string ⟨y.toArray⟩)).run Tryd.prog w = .ok (.bool (decide (cmpB x y < 0))) w := by
  rw [binOp_string_lss, ByteArray.toList_mk, ByteArray.toList_mk, less_cmp]
  rfl
theorem neq46 (a b : Att) (w : World) : (binOp .neq 46 (.agg (attCells a).toArray) (.agg (attCells b).toArray)).run Tryd.prog w = .ok (.bool (!sameAtt a b)) w := by
  have h := eql46 a b w
  rw [run_eql_struct] at h
  rw [run_neq_struct]
  revert h
  generalize (Op.equalIn 10000 46 (.agg (attCells a).toArray) (.agg (attCells b).toArray)).run Tryd.prog w = R
  intro h
  cases R with
  | ok v w' =>
    simp only [Result.andThen] at h ⊢
    injection h with h1 h2
    injection h1 with h1
    rw [h1, h2]
  | _ => cases h
theorem val_be : ∀ (k n : Nat), valL (be k n) = n % 2 ^ (8 * k)
  | 0, n => by show (0 : Nat) = _; rw [Nat.mul_zero, Nat.pow_zero, Nat.mod_one]
  | k + 1, n => by
    show (UInt8.ofNat (n / 2 ^ (8 * k))).toNat * 2 ^ (8 * (be k n).length) + valL (be k n) = _
    rw [val_be k n, be_len, UInt8.toNat_ofNat', show 2 ^ (8 * (k + 1)) = 2 ^ (8 * k) * 256 by rw [Nat.mul_succ, Nat.pow_add], Nat.mod_mul, Nat.mul_comm (2 ^ (8 * k)), Nat.add_comm]
/-- The parts of 104 bytes. -/
theorem parts104 (x : List UInt8) (hx : x.length = 104) : ∃ (k r t : Dg) (d : List UInt8), d.length = 8 ∧ x = k.1 ++ (r.1 ++ (d ++ t.1)) ∧ (x.drop 64).take 8 = d := by
  refine ⟨⟨x.take 32, by rw [List.length_take]; omega⟩, ⟨(x.drop 32).take 32, by rw [List.length_take, List.length_drop]; omega⟩, ⟨x.drop 72, by rw [List.length_drop]; omega⟩, (x.drop 64).take 8, by rw [List.length_take, List.length_drop]; omega, ?_, rfl⟩
  dsimp only
  have e1 : (x.drop 64).take 8 ++ x.drop 72 = x.drop 64 := by
    rw [show x.drop 72 = (x.drop 64).drop 8 by rw [List.drop_drop], List.take_append_drop]
  have e2 : (x.drop 32).take 32 ++ x.drop 64 = x.drop 32 := by
    rw [show x.drop 64 = (x.drop 32).drop 32 by rw [List.drop_drop], List.take_append_drop]
  rw [e1, e2, List.take_append_drop]
theorem part_range {w : World} {b o : Nat} {p q s : List UInt8} (h : w.rangeAt b o (byteVals (p ++ (q ++ s)))) : w.rangeAt b (o + p.length) (byteVals q) := by
  intro j v hj
  rw [Nat.add_assoc]
  refine h _ _ ?_
  rw [← byteVals_append, List.getElem?_append_right (by rw [byteVals_len]; omega), byteVals_len, Nat.add_sub_cancel_left, ← byteVals_append, List.getElem?_append_left (by exact (List.getElem?_eq_some_iff.1 hj).1)]
  exact hj

end Go.Proofs.YtehpigmcmgfkoaaDoor

namespace Go.Proofs.YtehpigmcmgfkoaaDoor
open Go.RowKit

theorem txt_ranged {w : World} {A : Option Addr} {x : List UInt8} (h : Txt w A x) (h0 : 0 < x.length) : ∃ b o, A = some ⟨b, o, none⟩ ∧ b < w.heap.size ∧ w.rangeAt b o (byteVals x) := by
  obtain ⟨b, o, e, hlt, hc⟩ := h h0
  refine ⟨b, o, e, hlt, fun j v hj => ?_⟩
  unfold byteVals at hj
  rw [List.getElem?_map, Option.map_eq_some_iff] at hj
  obtain ⟨c, h1, rfl⟩ := hj
  exact hc j c h1

def ReadB (p : Prt) (z : Att) (n : Int) : Prop :=
  (n = 5 ∧ z = zeroAtt ∧ (p.x.length = 104 → mayB (valL ((p.x.drop 64).take 8) : Nat) = false)) ∨ (n = 0 ∧ mayB z.n = true ∧ attBytes z (u64n z.n) = p.x)

theorem readb_any (p : Prt) (w : World) (hp : p.ok w) : Calls Tryd.prog 32 #[.slice p.A p.x.length p.c] w fun e w' => ∃ z n, e = .returned (.tuple #[.agg (attCells z).toArray, .int .i64 n]) ∧ Chg none w w' ∧ ReadB p z n := by
  by_cases hl : p.x.length = 104
  · obtain ⟨b, o, hA, hlt, hr⟩ := txt_ranged hp.1 (by omega)
    obtain ⟨k, r, t, d, hd, he, hx⟩ := parts104 p.x hl
    have hc : 104 ≤ p.c := by have := hp.2; omega
    rw [hA, hl]
    by_cases hm : mayB (valL d : Nat) = true
    · have hk : w.rangeAt b o (byteVals k.1) := by
        have h := part_range (p := []) (q := k.1) (s := r.1 ++ (d ++ t.1)) (show w.rangeAt b o (byteVals ([] ++ (k.1 ++ (r.1 ++ (d ++ t.1))))) by rw [List.nil_append, ← he]; exact hr)
        simpa using h
      have hrr : w.rangeAt b (o + 32) (byteVals r.1) := by
        have h := part_range (p := k.1) (q := r.1) (s := d ++ t.1) (show w.rangeAt b o (byteVals (k.1 ++ (r.1 ++ (d ++ t.1)))) by rw [← he]; exact hr)
        rwa [k.2] at h
      have ht : w.rangeAt b (o + 72) (byteVals t.1) := by
        have h := part_range (p := k.1 ++ (r.1 ++ d)) (q := t.1) (s := []) (show w.rangeAt b o (byteVals ((k.1 ++ (r.1 ++ d)) ++ (t.1 ++ []))) by rw [List.append_nil, List.append_assoc, List.append_assoc, ← he]; exact hr)
        rwa [List.length_append, List.length_append, k.2, r.2, hd] at h
      refine (read_yes k r t b o p.c p.x d w hx hd hr hlt hc hm hk hrr ht).mono fun e w' h => ⟨⟨k, r, valL d, t⟩, 0, h.1, h.2, .inr ⟨rfl, hm, ?_⟩⟩
      have hb := be_val d
      have hv := valL_lt d
      rw [hd] at hb hv
      have e64 : (2 : Nat) ^ (8 * 8) = 18446744073709551616 := by decide
      rw [e64] at hv
      have hu : u64n ((valL d : Nat) : Int) = valL d := by unfold u64n; omega
      show k.1 ++ (r.1 ++ (be 8 (u64n ((valL d : Nat) : Int)) ++ t.1)) = p.x
      rw [hu, hb, he]
    · have hm' : mayB (valL d : Nat) = false := by simpa using hm
      refine (read_no b o p.c p.x d w hx hd hr hc hm').mono fun e w' h => ⟨zeroAtt, 5, h.1, h.2, .inl ⟨rfl, rfl, fun _ => ?_⟩⟩
      rw [hx]; exact hm'
  · exact (read_len p.A p.x.length p.c w hl).mono fun e w' h => ⟨zeroAtt, 5, h.1, h.2, .inl ⟨rfl, rfl, fun h => absurd h hl⟩⟩

theorem lengthyb_no (p : Prt) (w : World) (hp : p.ok w) (hl : p.x.length = 104) (hm : mayB (valL ((p.x.drop 64).take 8) : Nat) = false) : Calls Tryd.prog 33 #[.slice p.A p.x.length p.c] w fun e w' => e = .returned (.bool false) ∧ Chg none w w' := by
  obtain ⟨b, o, hA, _, hr⟩ := txt_ranged hp.1 (by omega)
  obtain ⟨k, r, t, d, hd, he, hx⟩ := parts104 p.x hl
  rw [hx] at hm
  rw [hA, hl]
  exact lengthy_no b o p.c p.x d w hx hd hr hm

theorem read_own (a : Att) (p : Prt) (w : World) (ha : -9223372036854775808 ≤ a.n ∧ a.n ≤ 9223372036854775807) (hm : mayB a.n = true) (hp : p.ok w) (hx : p.x = attBytes a (u64n a.n)) : Calls Tryd.prog 32 #[.slice p.A p.x.length p.c] w fun e w' => e = .returned (.tuple #[.agg (attCells a).toArray, .int .i64 0]) ∧ Chg none w w' := by
  have hlen : ∀ c : Int, mayB c = true → 1 ≤ c ∧ c ≤ 5000 := fun c h => by unfold mayB at h; simpa using h
  have h1 := hlen _ hm
  refine (readb_any p w hp).mono ?_
  rintro e w' ⟨z, n, rfl, g, h | h⟩
  · exfalso
    obtain ⟨_, _, h⟩ := h
    have h := h (by rw [hx, attBytes_len])
    have e : attBytes a (u64n a.n) = (a.k.1 ++ a.r.1) ++ (be 8 (u64n a.n) ++ a.t.1) := by unfold attBytes; rw [List.append_assoc]
    have e64 : (2 : Nat) ^ (8 * 8) = 18446744073709551616 := by decide
    rw [hx, e, List.drop_left' (by rw [List.length_append, a.k.2, a.r.2]), List.take_left' (be_len _ _), val_be, e64] at h
    have hu : ((u64n a.n % 18446744073709551616 : Nat) : Int) = a.n := by unfold u64n; omega
    rw [hu, hm] at h
    cases h
  · obtain ⟨rfl, h2, h3⟩ := h
    have h4 := hlen _ h2
    have : z = a := lessB_none z a (by omega) ha (by unfold lessB; rw [h3, hx, cmp_self]; rfl) (by unfold lessB; rw [h3, hx, cmp_self]; rfl)
    rw [this]
    exact ⟨rfl, g⟩

theorem eq9_same (x : ByteArray) (w : World) : (binOp .eql 9 (.string x) (.string x)).run Tryd.prog w = .ok (.bool true) w := by
  have u9 := Tryd.underlying9
  go_simp
theorem ne9_same (x : ByteArray) (w : World) : (binOp .neq 9 (.string x) (.string x)).run Tryd.prog w = .ok (.bool false) w := by
  have u9 := Tryd.underlying9
  go_simp
theorem exec_neq46 (ρ : Operand → Value) (o : Oper) (x y : Operand) (C : Array Value) (ho : o.op = .binOp .neq 46 x y 46) (hx : ρ x = .agg C) (hy : ρ y = .agg C) (h : ∀ w, (binOp .neq 46 (.agg C) (.agg C)).run Tryd.prog w = .ok (.bool false) w) (w : World) : (execOp ρ o).run Tryd.prog w = .ok (.value (.bool false)) w := by
  have g := fun w => run_eqGuard_agg (P := Tryd.prog) w .neq 46 x y C C guard46
  unfold execOp
  simp only [ho, hx, hy]
  simp only [Sem.run_bind, g, Result.andThen_ok, h, Sem.run_pure]
theorem sameAtt_self (a : Att) : sameAtt a a = true := (sameAtt_iff a a).2 rfl

end Go.Proofs.YtehpigmcmgfkoaaDoor
