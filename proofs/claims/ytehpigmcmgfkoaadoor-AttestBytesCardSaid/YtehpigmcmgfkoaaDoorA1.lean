/-
  Package attest: which results may be; their bytes.
-/
import Derived.Test.YtehpigmcmgfkoaaDoorRC
import Derived.Test.YtehpigmcmgfkoaaDoorVD
import Derived.Test.YtehpigmcmgfkoaaDoorH4
namespace Go.Proofs.YtehpigmcmgfkoaaDoor
open Go.RowKit

/-- Thirty-two bytes. -/
abbrev Dg := { d : List UInt8 // d.length = 32 }
def zeroDg : Dg := ⟨zeros 32, by decide⟩
instance : Inhabited Dg := ⟨zeroDg⟩
/-- A result. -/
structure Att where
  k : Dg
  r : Dg
  n : Int
  t : Dg
def attCells (a : Att) : List Value := byteVals a.k.1 ++ (byteVals a.r.1 ++ (.int .i64 a.n :: byteVals a.t.1))
theorem attCells_len (a : Att) : (attCells a).length = 97 := by
  unfold attCells
  rw [List.length_append, List.length_append, List.length_cons, byteVals_len, byteVals_len, byteVals_len, a.k.2, a.r.2, a.t.2]
theorem attCells_one (a : Att) : (attCells a).toArray.all (·.oneCell') = true := Array.all_eq_true_iff_forall_mem.2 (fun v hv => by
  have hv : v ∈ attCells a := by simpa using hv
  unfold attCells at hv
  rcases List.mem_append.1 hv with h | h
  · exact byteVals_one _ v h
  · rcases List.mem_append.1 h with h | h
    · exact byteVals_one _ v h
    · rcases List.mem_cons.1 h with rfl | h
      · rfl
      · exact byteVals_one _ v h)
theorem att64 (a : Att) : (attCells a)[64]? = some (.int .i64 a.n) := by
  unfold attCells
  rw [List.getElem?_append_right (by rw [byteVals_len, a.k.2]; decide), byteVals_len, a.k.2, List.getElem?_append_right (by rw [byteVals_len, a.r.2]; decide), byteVals_len, a.r.2]
  rfl
theorem att_key {w : World} {b : Nat} {a : Att} (h : w.rangeAt b 0 (attCells a)) : w.rangeAt b 0 (byteVals a.k.1) := fun j v hj => h j v (by
  unfold attCells
  rw [List.getElem?_append_left (List.getElem?_eq_some_iff.1 hj).1]; exact hj)
theorem att_root {w : World} {b : Nat} {a : Att} (h : w.rangeAt b 0 (attCells a)) : w.rangeAt b 32 (byteVals a.r.1) := fun j v hj => by
  have := h (32 + j) v (by
    unfold attCells
    rw [List.getElem?_append_right (by rw [byteVals_len, a.k.2]; omega), byteVals_len, a.k.2, Nat.add_sub_cancel_left, List.getElem?_append_left (List.getElem?_eq_some_iff.1 hj).1]; exact hj)
  rwa [Nat.zero_add] at this
theorem att_tag {w : World} {b : Nat} {a : Att} (h : w.rangeAt b 0 (attCells a)) : w.rangeAt b 65 (byteVals a.t.1) := fun j v hj => by
  have := h (65 + j) v (by
    unfold attCells
    rw [List.getElem?_append_right (by rw [byteVals_len, a.k.2]; omega), byteVals_len, a.k.2, List.getElem?_append_right (by rw [byteVals_len, a.r.2]; omega), byteVals_len, a.r.2, show 65 + j - 32 - 32 = j + 1 by omega, List.getElem?_cons_succ]; exact hj)
  rwa [Nat.zero_add] at this
theorem att_num {w : World} {b : Nat} {a : Att} (h : w.rangeAt b 0 (attCells a)) : w.cell? ⟨b, 64, none⟩ = some (.int .i64 a.n) := by
  have := h 64 _ (att64 a)
  rwa [Nat.zero_add] at this
theorem range_prt {w : World} {b o c : Nat} {x : List UInt8} (h : w.rangeAt b o (byteVals x)) (hb : b < w.heap.size) (hc : x.length ≤ c) : (⟨some ⟨b, o, none⟩, x, c⟩ : Prt).ok w :=
  ⟨fun _ => ⟨b, o, rfl, hb, fun _ _ hj => h _ _ (byteVals_get hj)⟩, hc⟩
theorem own_oneB (w : World) (B : Nat) (hB : B ≤ w.heap.size) (x : UInt8) : (w.alloc (.cells #[.int .u8 x.toNat] 5 (0, 0))).ownsRow B 5 1 (.slice (some ⟨w.heap.size, 0, none⟩) 1 1) 1 (byteVals [x]) :=
  ⟨rfl, .inr ⟨w.heap.size, 1, #[.int .u8 x.toNat], rfl, hB, heap_alloc_new w _, Nat.le_refl _, by unfold maxLen; decide, rfl, rfl⟩⟩
theorem info46 (a : Att) : (Tryd.prog.info? 46).map (·.size) = some (attCells a).length := by
  rw [attCells_len]
  have : (Tryd.prog.info? 46).map (·.size) = some 97 := by kernel_rfl
  exact this
theorem info46a (a : Att) : (Tryd.prog.info? 46).map (·.size) = some (attCells a).toArray.size := by
  rw [List.size_toArray]; exact info46 a

theorem own_base {w : World} {B B' : Nat} {e : TypeId} {size : Nat} {v : Value} {n : Nat} {xs : List Value} (h : w.ownsRow B e size v n xs) (hb : B' ≤ B) : w.ownsRow B' e size v n xs := by
  refine ⟨h.1, ?_⟩
  rcases h.2 with h2 | ⟨g, cap, cur, h1, h2, h3⟩
  · exact .inl h2
  · exact .inr ⟨g, cap, cur, h1, Nat.le_trans hb h2, h3⟩

/-- May it be? -/
def mayB (n : Int) : Bool := decide (1 ≤ n) && decide (n ≤ 5000)
theorem may_any (a : Att) (w : World) : Calls Tryd.prog 45 #[.agg (attCells a).toArray] w fun e w' => e = .returned (.bool (mayB a.n)) ∧ Chg none w w' := by
  have gA : Chg none w (w.alloc (.cells (attCells a).toArray 46)) := (Chg.refl _ _).alloc _
  have cK := att_num (Blk.range (show BlkL (w.alloc (.cells (attCells a).toArray 46)) w.heap.size (attCells a) 46 from Blk.new _ _ _))
  by_cases h1 : 1 ≤ a.n
  · by_cases h2 : a.n ≤ 5000
    · have hm : mayB a.n = true := by unfold mayB; simp [h1, h2]
      rw [hm]
      generalize (attCells a).toArray = CA at *
      generalize a.n = n at *
      have d1 : decide (n ≥ 1) = true := by simpa using h1
      have d2 : decide (n ≤ 5000) = true := by simpa using h2
      clear hm
      go_enter Tryd.func45, Tryd.ntmps45
      go_wp2_with fail
      go_ret
      exact ⟨rfl, gA⟩
    · have hm : mayB a.n = false := by unfold mayB; simp [h1, h2]
      rw [hm]
      generalize (attCells a).toArray = CA at *
      generalize a.n = n at *
      have d1 : decide (n ≥ 1) = true := by simpa using h1
      have d2 : decide (n ≤ 5000) = false := by simpa using h2
      clear hm
      go_enter Tryd.func45, Tryd.ntmps45
      go_wp2_with fail
      go_ret
      exact ⟨rfl, gA⟩
  · have hm : mayB a.n = false := by unfold mayB; simp [h1]
    rw [hm]
    generalize (attCells a).toArray = CA at *
    generalize a.n = n at *
    have d1 : decide (n ≥ 1) = false := by simpa using h1
    clear hm
    go_enter Tryd.func45, Tryd.ntmps45
    go_wp2_with fail
    go_ret
    exact ⟨rfl, gA⟩

theorem cut30o (w : World) (b o : Nat) : (Instr.sliceAt 30 (.pointer (some ⟨b, o, none⟩)) none none none).run Tryd.prog w = .ok (.slice (some ⟨b, o, none⟩) 32 32) w := by
  have u30 := Tryd.underlying30
  go_simp
theorem make_104 (w : World) : ∃ cur : Array Value, cur.size = 104 ∧ (Instr.makeSlice 22 (.int .i64 0) (.int .i64 104)).run Tryd.prog w = .ok (.slice (some ⟨w.heap.size, 0, none⟩) 0 104) (w.alloc (.cells cur 5)) := by
  obtain ⟨i0, hi, hz0, hz1, hz2⟩ := info_parts Tryd.info5
  have hr := run_make (P := Tryd.prog) w 22 5 i0 (.int .u8 0) Tryd.underlying22 hi hz0 .i64 .i64 0 104 (by decide) (by decide) (by rw [hz2]; decide) (by decide)
  refine ⟨_, ?_, hr⟩
  rw [size_madeCells, hz1]; rfl

def attBytes (a : Att) (m : Nat) : List UInt8 := a.k.1 ++ (a.r.1 ++ (be 8 m ++ a.t.1))
theorem attBytes_len (a : Att) (m : Nat) : (attBytes a m).length = 104 := by
  unfold attBytes; rw [List.length_append, List.length_append, List.length_append, be_len, a.k.2, a.r.2, a.t.2]

set_option maxRecDepth 100000 in
set_option maxHeartbeats 8000000 in
theorem form_any (a : Att) (m : Nat) (hn : a.n = m) (hm : m < 9223372036854775808) (w : World) : Calls Tryd.prog 47 #[.agg (attCells a).toArray] w fun e w' =>
    ∃ A c, e = .returned (.slice A 104 c) ∧ w'.ownsRow w.heap.size 5 1 (.slice A 104 c) 104 (byteVals (attBytes a m)) ∧ Chg none w w' := by
  obtain ⟨i0, hi, hz0, hz1, hz2⟩ := info_parts Tryd.info5
  obtain ⟨cur, hcs, hmk⟩ := make_104 (w.alloc (.cells (attCells a).toArray 46))
  obtain ⟨W1, hW1⟩ : ∃ W1, W1 = w.alloc (.cells (attCells a).toArray 46) := ⟨_, rfl⟩
  have g1 : Chg none w W1 := by rw [hW1]; exact (Chg.refl _ _).alloc _
  have r1 : W1.rangeAt w.heap.size 0 (attCells a) := by rw [hW1]; exact Blk.range (show BlkL _ w.heap.size (attCells a) 46 from Blk.new _ _ _)
  have l1 : w.heap.size < W1.heap.size := by rw [hW1]; simp
  rw [← hW1] at hmk
  have HW1 : Hid (w.alloc (.cells (attCells a).toArray 46) = W1) := hW1.symm
  obtain ⟨CA, hCA⟩ : ∃ CA, CA = (attCells a).toArray := ⟨_, rfl⟩
  rw [← hCA] at HW1 ⊢
  have gM : Chg none W1 (W1.alloc (.cells cur 5)) := (Chg.refl _ _).alloc _
  have HRNG : Hid (∀ v, Chg none W1 v → v.rangeAt w.heap.size 0 (attCells a) ∧ w.heap.size < v.heap.size) := fun v g => ⟨rangeAt_chg r1 g (by simp), Nat.lt_of_lt_of_le l1 g.size⟩
  have HK : Hid (∀ v, Chg none W1 v → Reads v v.heap.size 1 (some ⟨w.heap.size, 0, none⟩) 32 (byteVals a.k.1)) := fun v g => by
    have := txt_reads (range_prt (c := 32) (att_key (HRNG.out v g).1) (HRNG.out v g).2 (by rw [a.k.2]; decide)).1
    rwa [a.k.2] at this
  have HR : Hid (∀ v, Chg none W1 v → Reads v v.heap.size 1 (some ⟨w.heap.size, 32, none⟩) 32 (byteVals a.r.1)) := fun v g => by
    have := txt_reads (range_prt (c := 32) (att_root (HRNG.out v g).1) (HRNG.out v g).2 (by rw [a.r.2]; decide)).1
    rwa [a.r.2] at this
  have HTg : Hid (∀ v, Chg none W1 v → Reads v v.heap.size 1 (some ⟨w.heap.size, 65, none⟩) 32 (byteVals a.t.1)) := fun v g => by
    have := txt_reads (range_prt (c := 32) (att_tag (HRNG.out v g).1) (HRNG.out v g).2 (by rw [a.t.2]; decide)).1
    rwa [a.t.2] at this
  have HN : Hid (∀ v, Chg none W1 v → v.cell? ⟨w.heap.size, 64, none⟩ = some (.int .i64 m)) := fun v g => by rw [← hn]; exact att_num (HRNG.out v g).1
  have HOk := Lib.hid (byteVals_one a.k.1)
  have HOr := Lib.hid (byteVals_one a.r.1)
  have HOt := Lib.hid (byteVals_one a.t.1)
  have HB8 := Lib.hid (be_len 8 m)
  have hc30 := cut30o
  obtain ⟨H, hH⟩ : ∃ H, H = W1.heap.size := ⟨_, rfl⟩
  have HH := Lib.hid hH
  have HLE : Hid (w.heap.size ≤ H) := by rw [hH]; exact g1.size
  have HAB : Hid (byteVals a.k.1 ++ (byteVals a.r.1 ++ (byteVals (be 8 m) ++ byteVals a.t.1)) = byteVals (attBytes a m)) := by
    show _ = _
    unfold attBytes
    rw [byteVals_append, byteVals_append, byteVals_append]
  have HOWN0 := Lib.hid (World.ownsRow_made (base := H) (e := 5) (size := 1) W1 cur 104 (by rw [hH]; exact Nat.le_refl _) (by unfold maxLen; decide) (by rw [hcs]))
  clear hW1 hCA r1 l1 hn hcs hH
  go_enter Tryd.func47, Tryd.ntmps47
  go_upto_region 1 with fail
  rw [HW1.out]
  clear HW1
  generalize hpB : w.heap.size = pB at *
  have HPB := Lib.hid hpB
  clear hpB
  have HSM : Hid (H ≤ (W1.alloc (.cells cur 5)).heap.size) := by rw [HH.out]; exact gM.size
  go_wp2_with (at_builtin; refine wpList_append_any _ rfl (.tmp 6) (.tmp 8) 22 rfl H 5 i0 (.int .u8 0) 1 1 Tryd.underlying22 hi hz0 hz1 hz2 rfl (by decide) _ 0 [] rfl HOWN0.out _ (some ⟨pB, 0, none⟩) 32 32 (byteVals a.k.1) rfl (HK.out _ gM) HOk.out (by unfold maxLen; decide) (by decide) HSM.out ?_)
  intro v1 w1 hown1 hgr1 _
  have G1 : Chg none W1 w1 := own_chg gM HOWN0.out (by rw [HH.out]; exact Nat.le_refl _) hgr1
  have e0 : ([] : List Value) ++ byteVals a.k.1 = byteVals a.k.1 := rfl
  try simp only [Nat.zero_add, List.nil_append] at hown1
  obtain ⟨A1, c1, rfl⟩ := own_slice hown1
  have HOWN1 := Lib.hid hown1
  have HS1 : Hid (H ≤ w1.heap.size) := by rw [HH.out]; exact G1.size
  clear hown1 hgr1 HOWN0 gM HSM hmk e0
  go_wp2_with (at_builtin; refine wpList_append_any _ rfl (.tmp 10) (.tmp 12) 22 rfl H 5 i0 (.int .u8 0) 1 1 Tryd.underlying22 hi hz0 hz1 hz2 rfl (by decide) _ 32 (byteVals a.k.1) rfl HOWN1.out _ (some ⟨pB, 32, none⟩) 32 32 (byteVals a.r.1) rfl (HR.out _ G1) HOr.out (by unfold maxLen; decide) (by decide) HS1.out ?_)
  intro v2 w2 hown2 hgr2 _
  have G2 : Chg none W1 w2 := own_chg G1 HOWN1.out (by rw [HH.out]; exact Nat.le_refl _) hgr2
  try simp only [Nat.reduceAdd] at hown2
  obtain ⟨A2, c2, rfl⟩ := own_slice hown2
  have HOWN2 := Lib.hid hown2
  clear hown2 hgr2 HOWN1 HS1 G1
  go_wp2_with fail
  go_loopw [3, 4] (fun s3 s4 wr => ∃ (k j : Nat) (A : Option Addr) (c : Nat), k ≤ 8 ∧ Hid (j = 64 + k) ∧ s4 = .int .i64 (56 - 8 * (k : Int)) ∧ s3 = .slice A j c ∧ wr.ownsRow H 5 1 (.slice A j c) j (byteVals a.k.1 ++ (byteVals a.r.1 ++ byteVals ((be 8 m).take k))) ∧ Chg none W1 wr) (fun _ s4 _ => (intOf s4 + 8).toNat)
  case atStart => exact ⟨0, 64, A2, c2, by omega, rfl, rfl, rfl, by rw [List.take_zero]; show World.ownsRow _ _ _ _ _ _ (byteVals a.k.1 ++ (byteVals a.r.1 ++ [])); rw [List.append_nil]; exact HOWN2.out, G2⟩
  case round =>
    obtain ⟨k, j, A, c, hk, HJ, rfl, rfl, hown, gk⟩ := hrel
    have hbase : Hid (H ≤ wr.heap.size) := by rw [HH.out]; exact gk.size
    have hj72 : j ≤ 72 := by have := HJ.out; omega
    clear G2 HOWN2
    by_cases hlt : k < 8
    · obtain ⟨x, hx⟩ : ∃ x, x = UInt8.ofNat (m / 2 ^ (8 * (8 - 1 - k))) := ⟨_, rfl⟩
      have hv : (x.toNat : Int) = (m : Int) / 2 ^ (8 * (8 - 1 - k)) % 256 := by rw [hx, byte_shr]
      have hts := be_take_succ 8 m k hlt
      rw [← hx] at hts
      have hd : decide ((56 - 8 * (k : Int)) ≥ 0) = true := by simp; omega
      have hr3 := reads_one wr x
      rw [show 8 * (8 - 1 - k) = 56 - 8 * k by omega] at hv
      rw [hv] at hr3
      have HR3 := Lib.hid hr3
      have HO3 := Lib.hid (byteVals_one [x])
      have HOWN := Lib.hid hown
      have HSU : Hid (byteVals a.k.1 ++ (byteVals a.r.1 ++ (byteVals ((be 8 m).take k) ++ byteVals [x])) = byteVals a.k.1 ++ (byteVals a.r.1 ++ byteVals ((be 8 m).take (k + 1)))) := by
        show _ = _; rw [byteVals_append ((be 8 m).take k), hts]
      have hcm := HN.out wr gk
      have HSA : Hid (H ≤ (wr.alloc (.cells #[.int .u8 ((m : Int) / 2 ^ (56 - 8 * k) % 256)] 5)).heap.size) := by rw [HH.out]; exact (gk.alloc _).size
      have hsh : (56 - 8 * (k : Int)).toNat = 56 - 8 * k := by omega
      clear hown hx hts hv hr3
      go_wp2_with (at_builtin; refine wpList_append_any _ rfl (.tmp 18) (.tmp 25) 22 rfl H 5 i0 (.int .u8 0) 1 1 Tryd.underlying22 hi hz0 hz1 hz2 rfl (by decide) _ j _ rfl (HOWN.out.alloc _) _ (some ⟨wr.heap.size, 0, none⟩) 1 1 (byteVals [x]) rfl HR3.out HO3.out (by unfold maxLen; omega) (by omega) HSA.out ?_)
      intro v6 w6 hown6 hgr6 _
      rw [HSU.out] at hown6
      have g6 : Chg none W1 w6 := own_chg (gk.alloc _) (HOWN.out.alloc _) (by rw [HH.out]; exact Nat.le_refl _) hgr6
      obtain ⟨A6, c6, rfl⟩ := own_slice hown6
      have HOWN6 := Lib.hid hown6
      clear hown6 hgr6 HOWN HR3 HSA
      go_wp2_with fail
      go_roundw
      case rel => exact ⟨k + 1, j + 1, A6, c6, by omega, by show _ = _; have := HJ.out; omega, by congr 1; omega, rfl, HOWN6.out, g6⟩
      case measure => simp only [intOf]; omega
    · have hk8 : k = 8 := by omega
      have hd : decide ((56 - 8 * (k : Int)) ≥ 0) = false := by simp; omega
      have hfin : (be 8 m).take k = be 8 m := List.take_of_length_le (by rw [HB8.out]; omega)
      have hj2 : j = 72 := by have := HJ.out; omega
      rw [hfin] at hown
      subst hj2
      have HFN := Lib.hid hown
      have HRT := Lib.hid (HTg.out wr gk)
      clear hown hfin hk8 HJ
      go_wp2_with (at_builtin; refine wpList_append_any _ rfl (.tmp 27) (.tmp 29) 22 rfl H 5 i0 (.int .u8 0) 1 1 Tryd.underlying22 hi hz0 hz1 hz2 rfl (by decide) _ 72 _ rfl HFN.out _ (some ⟨pB, 65, none⟩) 32 32 (byteVals a.t.1) rfl HRT.out HOt.out (by unfold maxLen; decide) (by decide) hbase.out ?_)
      intro v7 w7 hown7 hgr7 _
      rw [HAB.out] at hown7
      have g7 : Chg none W1 w7 := own_chg gk HFN.out (by rw [HH.out]; exact Nat.le_refl _) hgr7
      try simp only [Nat.reduceAdd] at hown7
      obtain ⟨A7, c7, rfl⟩ := own_slice hown7
      have HOWN7 := Lib.hid hown7
      clear hown7 hgr7 HFN HRT
      go_wp2_with fail
      go_ret
      exact ⟨A7, c7, rfl, own_base HOWN7.out (by rw [HPB.out]; exact HLE.out), g1.trans g7⟩


end Go.Proofs.YtehpigmcmgfkoaaDoor
