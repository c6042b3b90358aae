/-
  The document's journal: May, Form, Read.
-/
import Derived.Test.YthkghjkgmfjmoaaDoorJC
import Derived.Test.YthkghjkgmfjmoaaDoorHK
namespace Go.Proofs.YthkghjkgmfjmoaaDoor
open Go.RowKit

set_option maxHeartbeats 2000000 in
theorem may_any (A : Option Addr) (x : List UInt8) (c : Nat) (w : World) :
    Calls Tryd.prog 18 #[.slice A x.length c] w fun e w' => e = .returned (.bool (mayJ x)) ∧ w' = w := by
  unfold mayJ
  by_cases h1 : 1 ≤ x.length
  · have d1 : decide ((x.length : Int) ≥ 1) = true := by rw [decide_eq_true_eq]; omega
    have d1' : decide ((1 : Int) ≤ (x.length : Int)) = true := by rw [decide_eq_true_eq]; omega
    by_cases h2 : x.length ≤ 8000
    · have d2 : decide ((x.length : Int) ≤ 8000) = true := by rw [decide_eq_true_eq]; omega
      rw [decide_eq_true h1, decide_eq_true h2]
      clear h1 h2
      go_enter Tryd.func18, Tryd.ntmps18
      go_wp2_with fail
      go_ret
      exact ⟨rfl, rfl⟩
    · have d2 : decide ((x.length : Int) ≤ 8000) = false := by rw [decide_eq_false_iff_not]; omega
      rw [decide_eq_true h1, decide_eq_false h2]
      clear h1 h2
      go_enter Tryd.func18, Tryd.ntmps18
      go_wp2_with fail
      go_ret
      exact ⟨rfl, rfl⟩
  · have d1 : decide ((1 : Int) ≤ (x.length : Int)) = false := by rw [decide_eq_false_iff_not]; omega
    rw [decide_eq_false h1, Bool.false_and]
    clear h1
    go_enter Tryd.func18, Tryd.ntmps18
    go_wp2_with fail
    go_ret
    exact ⟨rfl, rfl⟩

set_option maxRecDepth 100000 in
set_option maxHeartbeats 4000000 in
theorem refform_any (px : Nat) (p : Prt) (w : World) (hh : HashAt w px) (hp : p.ok w) (hn : p.x.length ≤ 400000) :
    Calls Tryd.prog 19 #[.pointer (some ⟨px, 0, none⟩), .slice p.A p.x.length p.c] w (OwnPost w (formJ p.x)) := by
  obtain ⟨i0, hi, hz0, hz1, hz2⟩ := info_parts Tryd.info5
  have HF := Lib.hid (refForm_any p.x.length w (by omega))
  have HSM : Hid (∀ v, Chg none w v → Calls Tryd.prog 24 #[.pointer (some ⟨px, 0, none⟩), .slice p.A p.x.length p.c] v fun e w' => e = .returned (.agg (byteVals (dig p.x)).toArray) ∧ Chg none v w') := fun v g => hsum_any px p v (hh.chg g (by simp)) (hp.chg g) (by omega)
  have hcv : IntKind.u64.wrap (p.x.length : Int) = (p.x.length : Int) := by rw [IntKind.wrap_u64]; omega
  have hcv' : (p.x.length : Int) % 18446744073709551616 = (p.x.length : Int) := by omega
  obtain ⟨D, hD⟩ : ∃ D, D = byteVals (dig p.x) := ⟨_, rfl⟩
  have hDl : D.length = 32 := by rw [hD, byteVals_len, dig_len]
  have hsz : D.toArray.size = 32 := by rw [List.size_toArray]; exact hDl
  have HI : Hid ((Tryd.prog.info? 30).map (·.size) = some D.toArray.size) := by rw [hsz]; show _ = _; kernel_rfl
  have HZ : Hid (zero32.size = D.toArray.size) := by rw [hsz]; rfl
  have HO : Hid (D.toArray.all (·.oneCell') = true) := by rw [hD]; exact (row_facts (dig p.x) 32 (dig_len _)).2
  have HNW : Hid (∀ v : World, (v.alloc (.cells zero32 30)).heap[v.heap.size]? = some (.cells zero32 30 (0, 0))) := fun v => heap_alloc_new v _
  have HNR : Hid (∀ v : World, Chg none v ((v.alloc (.cells zero32 30)).setRow v.heap.size D.toArray) ∧ BlkL ((v.alloc (.cells zero32 30)).setRow v.heap.size D.toArray) v.heap.size (byteVals (dig p.x)) 30) := fun v => by rw [← hD]; exact new_row v D.toArray
  have HCU := Lib.hid cut30_8
  obtain ⟨FM, hFM⟩ : ∃ FM, FM = form p.x.length := ⟨_, rfl⟩
  have hfl := form_len p.x.length
  have hnb := nb_le p.x.length (by omega)
  have HFL : Hid (FM.length ≤ 9) := by show FM.length ≤ 9; rw [hFM, hfl]; omega
  obtain ⟨D8, hD8⟩ : ∃ D8, D8 = (dig p.x).take 8 := ⟨_, rfl⟩
  have HD8 : Hid (∀ (v : World) (b : Nat), BlkL v b (byteVals (dig p.x)) 30 → Reads v v.heap.size 1 (some ⟨b, 0, none⟩) 8 (byteVals D8)) := fun v b hb => by
    rw [hD8]; exact blk_reads hb (by rw [dig_len]; decide)
  have HO8 := Lib.hid (byteVals_one D8)
  have HOX := Lib.hid (byteVals_one p.x)
  have HRX : Hid (∀ v, Chg none w v → Reads v v.heap.size 1 p.A p.x.length (byteVals p.x)) := fun v g => txt_reads (hp.1.chg g)
  have HFJ : Hid (formJ p.x = FM ++ p.x ++ D8) := by show _ = _; rw [hFM, hD8]; rfl
  have HD8L : Hid (D8.length = 8) := by show _ = _; rw [hD8]; exact chk_len _
  rw [← hFM] at HF
  rw [← hD] at HSM
  unfold OwnPost
  have HLE := Lib.hid (Nat.le_refl w.heap.size)
  clear hD hDl hsz hFM hfl hnb hD8 hp hh
  generalize formJ p.x = FJ at *
  go_enter Tryd.func19, Tryd.ntmps19
  go_wp2_with fail
  refine HF.out.mono ?_
  rintro e w1 ⟨A1, n1, c1, rfl, hn1, hown1, hb1⟩
  subst hn1
  have g1 := below_chg hb1
  have HOWN1 := Lib.hid hown1
  have HSZ := Lib.hid g1.size
  have HR1 := Lib.hid (HRX.out w1 g1)
  clear HF HRX hown1 hb1
  go_wp2_with (at_builtin; refine wpList_append_any _ rfl (.tmp 10) (.tmp 11) 22 rfl w.heap.size 5 i0 (.int .u8 0) 1 1 Tryd.underlying22 hi hz0 hz1 hz2 rfl (by decide) _ FM.length (byteVals FM) rfl HOWN1.out _ p.A p.x.length p.c (byteVals p.x) rfl HR1.out HOX.out (by have := HFL.out; unfold maxLen; omega) (by have := HFL.out; omega) HSZ.out ?_)
  intro v2 w2 hown2 hgr2 _
  have G2 : Chg none w w2 := own_chg g1 HOWN1.out HLE.out hgr2
  rw [byteVals_append] at hown2
  obtain ⟨A2, c2, rfl⟩ := own_slice hown2
  have HOWN2 := Lib.hid hown2
  have HS2 := Lib.hid (HSM.out w2 G2)
  clear hown2 hgr2 HOWN1 HR1 HSM g1 HSZ HOX
  go_wp2_with fail
  refine HS2.out.mono ?_
  rintro e w3 ⟨rfl, g3⟩
  obtain ⟨gn, bn⟩ := HNR.out w3
  obtain ⟨W4, hW4⟩ : ∃ W4, W4 = (w3.alloc (.cells zero32 30)).setRow w3.heap.size D.toArray := ⟨_, rfl⟩
  have HW4 : Hid ((w3.alloc (.cells #[Value.int IntKind.u8 0, Value.int IntKind.u8 0, Value.int IntKind.u8 0, Value.int IntKind.u8 0, Value.int IntKind.u8 0, Value.int IntKind.u8 0, Value.int IntKind.u8 0, Value.int IntKind.u8 0, Value.int IntKind.u8 0, Value.int IntKind.u8 0, Value.int IntKind.u8 0, Value.int IntKind.u8 0, Value.int IntKind.u8 0, Value.int IntKind.u8 0, Value.int IntKind.u8 0, Value.int IntKind.u8 0, Value.int IntKind.u8 0, Value.int IntKind.u8 0, Value.int IntKind.u8 0, Value.int IntKind.u8 0, Value.int IntKind.u8 0, Value.int IntKind.u8 0, Value.int IntKind.u8 0, Value.int IntKind.u8 0, Value.int IntKind.u8 0, Value.int IntKind.u8 0, Value.int IntKind.u8 0, Value.int IntKind.u8 0, Value.int IntKind.u8 0, Value.int IntKind.u8 0, Value.int IntKind.u8 0, Value.int IntKind.u8 0] 30)).setRow w3.heap.size D.toArray = W4) := hW4.symm
  rw [← hW4] at gn bn
  have HN3 := Lib.hid (HNW.out w3)
  have g24 := g3.trans gn
  have G4 := G2.trans g24
  have HOWN4 : Hid (W4.ownsRow w.heap.size 5 1 (.slice A2 (FM.length + p.x.length) c2) (FM.length + p.x.length) (byteVals (FM ++ p.x))) := own_chgW HOWN2.out g24
  have HR4 := Lib.hid (HD8.out W4 _ bn)
  clear hW4 gn HS2 HNR HNW HOWN2 g3 g24 HD8 bn
  go_upto_region 3 with (refine wpList_store_row rfl 30 _ _ rfl w3.heap.size D.toArray rfl rfl 30 _ HN3.out HI.out HZ.out HO.out ?_)
  rw [HW4.out]
  clear HW4 HN3
  generalize w3.heap.size = pD at *
  have hcu := HCU.out W4 pD
  have HSZ4 := Lib.hid G4.size
  go_wp2_with (at_builtin; refine wpList_append_any _ rfl (.tmp 16) (.tmp 17) 22 rfl w.heap.size 5 i0 (.int .u8 0) 1 1 Tryd.underlying22 hi hz0 hz1 hz2 rfl (by decide) _ (FM.length + p.x.length) (byteVals (FM ++ p.x)) rfl HOWN4.out _ (some ⟨pD, 0, none⟩) 8 32 (byteVals D8) rfl HR4.out HO8.out (by have := HFL.out; unfold maxLen; omega) (by have := HFL.out; omega) HSZ4.out ?_)
  intro v5 w5 hown5 hgr5 _
  have G5 : Chg none w w5 := own_chg G4 HOWN4.out HLE.out hgr5
  rw [byteVals_append] at hown5
  obtain ⟨A5, c5, rfl⟩ := own_slice hown5
  have HOWN5 := Lib.hid hown5
  clear hown5 hgr5 HOWN4 HR4 hcu
  go_wp2_with fail
  go_ret
  have hl5 : FJ.length = FM.length + p.x.length + 8 := by rw [HFJ.out, List.length_append, List.length_append, HD8L.out]
  refine ⟨A5, c5, ?_, ?_, G5⟩
  · rw [hl5]; rfl
  · rw [hl5, HFJ.out]; exact HOWN5.out

theorem recJ_fst {bs : List UInt8} {k : Nat} {x : List UInt8} {q : Nat} (h : recJ bs k = some (x, q)) : (readB bs k 8000).1 = x ∧ (readB bs k 8000).2.2 = 0 := by
  unfold recJ at h
  split at h
  · rename_i hc
    injection h with h
    injection h with h1 _
    exact ⟨h1, hc.1⟩
  · cases h
theorem recJ_err {bs : List UInt8} {k : Nat} (h : (readB bs k 8000).2.2 ≠ 0) : recJ bs k = none := by
  match h' : recJ bs k with
  | none => rfl
  | some (x, q) => exact absurd (recJ_fst h').2 h
theorem recJ_small {bs : List UInt8} {k : Nat} {y : List UInt8} (h : (readB bs k 8000).1 = y) (hm : mayJ y = false) : recJ bs k = none := by
  match h' : recJ bs k with
  | none => rfl
  | some (x, q) =>
    exfalso
    have r := recJ_some h'
    have e := (recJ_fst h').1
    rw [h] at e
    subst e
    unfold mayJ at hm
    rw [decide_eq_true r.low, decide_eq_true r.high] at hm
    cases hm
theorem recJ_ref {bs : List UInt8} {k : Nat} {y : List UInt8} (h : (readB bs k 8000).1 = y) (hm : mayJ y = true) :
    recJ bs k = if k + (formJ y).length ≤ bs.length ∧ (bs.drop k).take (formJ y).length = formJ y then some (y, k + (formJ y).length) else none := by
  unfold mayJ at hm
  simp only [Bool.and_eq_true, decide_eq_true_eq] at hm
  by_cases hc : k + (formJ y).length ≤ bs.length ∧ (bs.drop k).take (formJ y).length = formJ y
  · rw [if_pos hc]
    refine recJ_at ⟨?_, rfl, hc.1, hm.1, hm.2⟩
    rw [← List.drop_drop]
    conv => rhs; lhs; rw [← hc.2]
    rw [List.take_append_drop]
  · rw [if_neg hc]
    match h' : recJ bs k with
    | none => rfl
    | some (x, q) =>
      exfalso
      have r := recJ_some h'
      have e := (recJ_fst h').1
      rw [h] at e
      subst e
      refine hc ⟨?_, ?_⟩
      · have := r.behind; have := r.within; omega
      · rw [r.here, List.take_left]

end Go.Proofs.YthkghjkgmfjmoaaDoor
