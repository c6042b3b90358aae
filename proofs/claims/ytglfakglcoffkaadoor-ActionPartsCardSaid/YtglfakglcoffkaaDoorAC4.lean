/-
  ActionParts, walked.
-/
import Derived.Test.YtglfakglcoffkaaDoorAC
namespace Go.Proofs.YtglfakglcoffkaaDoor
open Go.RowKit

theorem bytes_fuel (P R : List UInt8) {f g : Nat} (hf : f ≤ 20000) (hg : g ≤ 20000) : actB P R f = actB P R g ↔ f = g := by
  constructor
  · intro h
    unfold actB at h
    have h1 := List.append_cancel_left (List.append_cancel_left h)
    have h2 := form_split (r := []) (s := []) (n := f) (m := g) (by omega) (by omega) (by rw [List.append_nil, List.append_nil]; exact h1)
    exact h2.1
  · rintro rfl; rfl
theorem bytes_prog {P Q : List UInt8} (R : List UInt8) (f : Nat) (hP : P.length ≤ 100000) (hQ : Q.length ≤ 100000) : actB P R f = actB Q R f ↔ P = Q := by
  constructor
  · intro h
    unfold actB at h
    exact (row_split (by omega) (by omega) h).1
  · rintro rfl; rfl
/-- Bytes, in whatever case. -/
def ToldX8 (w : World) (a : Actn) (e : Ending) (w' : World) : Prop :=
  ∃ (A : Option Addr) (n c : Nat) (k : Int), e = .returned (.tuple #[.slice A n c, .int .i64 k]) ∧ Chg none w w' ∧
    ((mayA a = true ∧ k = 0 ∧ w'.ownsRow w.heap.size 5 1 (.slice A n c) n (byteVals (bytesA a))) ∨ (mayA a = false ∧ k = 2))
theorem actbytes_all (a : Actn) (w : World) (ha : ActAt w a) (hF : Flds w) (hTb : Tabs w) : Calls Tryd.prog 44 #[.agg (actCells a).toArray] w (ToldX8 w a) := by
  by_cases hm : mayA a = true
  · refine (actbytes_yes a w ha hF hTb hm).mono fun e w' h => ?_
    obtain ⟨A, n, c, he, hb⟩ := h
    exact ⟨A, n, c, 0, he, hb.2.2, .inl ⟨hm, rfl, hb.2.1⟩⟩
  · have hm' : mayA a = false := by simpa using hm
    exact (actbytes_no a w ha hF hm').mono fun e w' h => ⟨none, 0, 0, 2, h.1, h.2, .inr ⟨hm', rfl⟩⟩
/-- Two copies of an action. -/
def TwoAt (w : World) (pA : Nat) (C : Array Value) (s9 s10 : Value) (wx : World) : Prop :=
  ∃ pB pC, s9 = .pointer (some ⟨pB, 0, none⟩) ∧ s10 = .pointer (some ⟨pC, 0, none⟩) ∧ Blk wx pB C 64 ∧ Blk wx pC C 64 ∧ Blk wx pA C 64 ∧ pB ≠ pC ∧ w.heap.size ≤ pB ∧ w.heap.size ≤ pC ∧ pA < pB ∧ pA < pC ∧ Chg none w wx

set_option maxRecDepth 100000 in
set_option maxHeartbeats 32000000 in
theorem aparts_law (a : Actn) (u : Int) (P : List Ins) (A3 : Option Addr) (c3 : Nat) (w : World) (ha : ActAt w a) (hu : -9223372036854775808 ≤ u ∧ u ≤ 9223372036854775807)
    (hr : RowsAt w 6 A3 insCells P) (hx : ∀ x ∈ P, x.fits) (hl : P.length ≤ 9223372036854775807) (hF : Flds w) (hTb : Tabs w) :
    Calls Tryd.prog 14 #[.agg (actCells a).toArray, .int .i64 u, .slice A3 P.length c3] w fun e w' => e = .returned (.bool true) ∧ Chg none w w' := by
  have HK : Hid (∀ v, Chg none w v → Calls Tryd.prog 43 #[] v fun e w' => e = .returned (.bool true) ∧ Chg none v w') := fun v g => known8_any v (hF.chg g) (hTb.chg g (by simp))
  have HGR := Lib.hid (fun v (g : Chg none w v) => great8_any a v (ha.chg g))
  have HBA := Lib.hid (fun v (g : Chg none w v) => actbytes_all a v (ha.chg g) (hF.chg g) (hTb.chg g (by simp)))
  have HBB := Lib.hid (fun v (g : Chg none w v) => actbytes_all { a with F := u } v ⟨(ha.chg g).prog, ha.fits, ha.pl, (ha.chg g).tree, ha.tl, hu⟩ (hF.chg g) (hTb.chg g (by simp)))
  have HBC := Lib.hid (fun v (g : Chg none w v) => actbytes_all { a with A := A3, L := P, c := c3 } v ⟨hr.chg g, hx, hl, (ha.chg g).tree, ha.tl, ha.fl⟩ (hF.chg g) (hTb.chg g (by simp)))
  have HSP := Lib.hid (fun v (g : Chg none w v) => same_any a.L P a.A A3 a.c c3 v (ha.chg g).prog (hr.chg g) ha.pl hl)
  obtain ⟨A, L, c, B, N, d, F⟩ := a
  unfold actCells at *
  dsimp only at HGR HBA HBB HBC HSP ⊢
  have HG0 : Hid (Chg none w (w.alloc (.cells #[.slice A L.length c, .slice B N.length d, .int .i64 F] 64))) := (Chg.refl _ _).alloc _
  have HB0 : Hid (Blk (w.alloc (.cells #[.slice A L.length c, .slice B N.length d, .int .i64 F] 64)) w.heap.size #[.slice A L.length c, .slice B N.length d, .int .i64 F] 64) := Blk.new _ _ _
  have HLP := Lib.hid hl
  clear ha hu hr hx hl hF hTb
  go_enter Tryd.func14, Tryd.ntmps14
  go_wp2_with fail
  refine (HGR.out _ HG0.out).mono ?_
  rintro e w1 ⟨b, rfl, g1⟩
  have G1 := Lib.hid (HG0.out.trans g1)
  have HB1 := Lib.hid (HB0.out.chg g1 (by simp))
  clear g1 HGR HG0 HB0
  cases b
  rotate_left
  · clear HBA HBB HBC HSP
    as_aux_lemma =>
      go_wp2_with fail
      refine (HK.out _ G1.out).mono ?_
      rintro e wk ⟨rfl, gk⟩
      go_wp2_with fail
      go_ret
      exact ⟨rfl, G1.out.trans gk⟩
  by_cases h1 : 100 < P.length
  · have d1 : decide ((100 : Int) < (P.length : Int)) = true := by rw [decide_eq_true_eq]; omega
    clear h1 HBA HBB HBC HSP
    as_aux_lemma =>
      go_wp2_with fail
      refine (HK.out _ G1.out).mono ?_
      rintro e wk ⟨rfl, gk⟩
      go_wp2_with fail
      go_ret
      exact ⟨rfl, G1.out.trans gk⟩
  have d1 : decide ((100 : Int) < (P.length : Int)) = false := by rw [decide_eq_false_iff_not]; omega
  have HP100 : Hid (P.length ≤ 100) := by show _ ≤ _; omega
  clear h1
  have x0 : w1.cell? ⟨w.heap.size, 0, none⟩ = some (.slice A L.length c) := HB1.out.cell 0
  have x1 : w1.cell? ⟨w.heap.size, 1, none⟩ = some (.slice B N.length d) := HB1.out.cell 1
  have x2 : w1.cell? ⟨w.heap.size, 2, none⟩ = some (.int .i64 F) := HB1.out.cell 2
  have HA1 := Lib.hid (HBA.out w1 G1.out)
  clear HBA
  go_wp2_with fail
  refine HA1.out.mono ?_
  rintro e w2 ⟨XA, xn, xc, k1, rfl, g2, hca⟩
  have G2 := Lib.hid (G1.out.trans g2)
  have HB2 := Lib.hid (HB1.out.chg g2 (by simp))
  have HCA := Lib.hid hca
  have HW2 : Hid (w.heap.size < w2.heap.size) := HB2.out.lt
  clear g2 hca HA1 x0 x1 x2 d1 HB1
  generalize hpA : w.heap.size = pA at *
  have HPA := Lib.hid hpA
  clear hpA
  go_upto_region 4 with fail
  go_cut [9, 10] (fun s9 s10 wx => TwoAt w2 pA #[.slice A L.length c, .slice B N.length d, .int .i64 F] s9 s10 wx)
  case first =>
    clear HBB HBC HSP HK HCA
    have hS : Blk w2.drew pA #[.slice A L.length c, .slice B N.length d, .int .i64 F] 64 := HB2.out.drew
    have HZ : Hid (Chg none w2 w2.drew) := (Chg.refl _ _).drew
    have HWD : Hid (pA < w2.drew.heap.size) := HW2.out
    refine wp_region_held_drew (S := fun v => Blk v pA #[.slice A L.length c, .slice B N.length d, .int .i64 F] 64) (by kernel_rfl) hS (fun _ => ?_)
    generalize w2.drew = v0 at *
    refine wpAnyH_take (i := 0) (oi := ⟨some 28, _, _, _, _, _⟩) (v := .agg #[.slice A L.length c, .slice B N.length d, .int .i64 F]) rfl (by kernel_rfl) (by kernel_rfl) (by kernel_rfl) (fun _ _ _ h => h) (Or.inl ⟨by rfl, ?_⟩) (by assumption) ?_
    · intro v hSv; have z0 : v.cell? ⟨pA, 0, none⟩ = some (.slice A L.length c) := hSv.cell 0; have z1 : v.cell? ⟨pA, 1, none⟩ = some (.slice B N.length d) := hSv.cell 1; have z2 : v.cell? ⟨pA, 2, none⟩ = some (.int .i64 F) := hSv.cell 2; go_simp
    try simp only [Act.put, List.setIfInBounds_toArray, List.set_cons_zero, List.set_cons_succ]
    refine wpAnyH_take (i := 1) (oi := ⟨some 29, _, _, _, _, _⟩) (v := .agg #[.slice A L.length c, .slice B N.length d, .int .i64 F]) rfl (by kernel_rfl) (by kernel_rfl) (by kernel_rfl) (fun _ _ _ h => h) (Or.inl ⟨by rfl, ?_⟩) (by assumption) ?_
    · intro v hSv; have z0 : v.cell? ⟨pA, 0, none⟩ = some (.slice A L.length c) := hSv.cell 0; have z1 : v.cell? ⟨pA, 1, none⟩ = some (.slice B N.length d) := hSv.cell 1; have z2 : v.cell? ⟨pA, 2, none⟩ = some (.int .i64 F) := hSv.cell 2; go_simp
    try simp only [Act.put, List.setIfInBounds_toArray, List.set_cons_zero, List.set_cons_succ]
    refine wpAnyH_ready (rs := [2, 3]) (by kernel_rfl) (by simp) ?_
    refine AllReadyH.cons (o := ⟨some 9, _, _, _, _, _⟩) rfl (fun K hK => ?_) (AllReadyH.cons (o := ⟨some 10, _, _, _, _, _⟩) rfl (fun K hK => ?_) AllReadyH.nil)
    · go_simp
      have q1 : Blk (v0.alloc (.cells #[.slice none 0 0, .slice none 0 0, .int .i64 0] 64)) v0.heap.size #[.slice none 0 0, .slice none 0 0, .int .i64 0] 64 := Blk.new _ _ _
      have k1 : Chg none v0 (v0.alloc (.cells #[.slice none 0 0, .slice none 0 0, .int .i64 0] 64)) := (Chg.refl _ _).alloc _
      have hS1 := hS.chg k1 (by simp)
      have HZ1 : Hid (v0.heap.size < (v0.alloc (.cells #[.slice none 0 0, .slice none 0 0, .int .i64 0] 64)).heap.size) := by show _ < _; simp
      refine hK.out _ _ hS1 (fun _ => ?_)
      clear hK K
      generalize v0.alloc (.cells #[.slice none 0 0, .slice none 0 0, .int .i64 0] 64) = v1 at *
      try simp only [Act.put, List.setIfInBounds_toArray, List.set_cons_zero, List.set_cons_succ]
      refine wpAnyH_ready (rs := [3]) (by kernel_rfl) (by simp) ?_
      refine AllReadyH.cons (o := ⟨some 10, _, _, _, _, _⟩) rfl (fun K hK => ?_) AllReadyH.nil
      go_simp
      have q2 : Blk (v1.alloc (.cells #[.slice none 0 0, .slice none 0 0, .int .i64 0] 64)) v1.heap.size #[.slice none 0 0, .slice none 0 0, .int .i64 0] 64 := Blk.new _ _ _
      have k2 : Chg none v1 (v1.alloc (.cells #[.slice none 0 0, .slice none 0 0, .int .i64 0] 64)) := (Chg.refl _ _).alloc _
      have hS2 := hS1.chg k2 (by simp)
      have q1' := q1.chg k2 (by simp)
      refine hK.out _ _ hS2 (fun _ => ?_)
      clear hK K
      generalize v1.alloc (.cells #[.slice none 0 0, .slice none 0 0, .int .i64 0] 64) = v2 at *
      have hlt1 : pA < v0.heap.size := HWD.out
      have hlt2 : v0.heap.size < v1.heap.size := HZ1.out
      generalize hp1 : v0.heap.size = p1 at *
      generalize hp2 : v1.heap.size = p2 at *
      try simp only [Act.put, List.setIfInBounds_toArray, List.set_cons_zero, List.set_cons_succ]
      have HNE : Hid (p1 ≠ p2 ∧ pA ≠ p1 ∧ pA ≠ p2 ∧ p1 < p2 ∧ pA < p1) := ⟨by omega, by omega, by omega, hlt2, hlt1⟩
      have HGG : Hid (Chg none w2 v2) := HZ.out.trans (k1.trans k2)
      have HSZ : Hid (w2.heap.size ≤ p1) := by show _ ≤ _; rw [← hp1]; exact HZ.out.size
      clear hlt1 hlt2 hp1 hp2 HZ1 k1 k2 q1 hS1 hS
      refine wpAnyH_ready (rs := [4]) (by kernel_rfl) (by simp) ?_
      refine AllReadyH.cons (o := ⟨none, _, _, _, _, _⟩) rfl (fun K hK => ?_) AllReadyH.nil
      have y0 : v2.cell? ⟨p1, 0, none⟩ = some (.slice none 0 0) := q1'.cell 0
      have y1 : v2.cell? ⟨p1, 1, none⟩ = some (.slice none 0 0) := q1'.cell 1
      have y2 : v2.cell? ⟨p1, 2, none⟩ = some (.int .i64 0) := q1'.cell 2
      have t0 : v2.frozen? ⟨p1, 0, none⟩ = false := q1'.frozen _
      have t1 : v2.frozen? ⟨p1, 1, none⟩ = false := q1'.frozen _
      have t2 : v2.frozen? ⟨p1, 2, none⟩ = false := q1'.frozen _
      go_simp
      have r3 : Blk (((v2.setCell ⟨p1, 0, none⟩ (.slice A L.length c)).setCell ⟨p1, 1, none⟩ (.slice B N.length d)).setCell ⟨p1, 2, none⟩ (.int .i64 F)) p1 #[.slice A L.length c, .slice B N.length d, .int .i64 F] 64 := ((q1'.set 0 _).set 1 _).set 2 _
      have s3 : Blk (((v2.setCell ⟨p1, 0, none⟩ (.slice A L.length c)).setCell ⟨p1, 1, none⟩ (.slice B N.length d)).setCell ⟨p1, 2, none⟩ (.int .i64 F)) pA #[.slice A L.length c, .slice B N.length d, .int .i64 F] 64 := ((hS2.setOther _ _ HNE.out.2.1).setOther _ _ HNE.out.2.1).setOther _ _ HNE.out.2.1
      have o3 : Blk (((v2.setCell ⟨p1, 0, none⟩ (.slice A L.length c)).setCell ⟨p1, 1, none⟩ (.slice B N.length d)).setCell ⟨p1, 2, none⟩ (.int .i64 F)) p2 #[.slice none 0 0, .slice none 0 0, .int .i64 0] 64 := ((q2.setOther _ _ HNE.out.1.symm).setOther _ _ HNE.out.1.symm).setOther _ _ HNE.out.1.symm
      have h3 : Chg none w2 (((v2.setCell ⟨p1, 0, none⟩ (.slice A L.length c)).setCell ⟨p1, 1, none⟩ (.slice B N.length d)).setCell ⟨p1, 2, none⟩ (.int .i64 F)) := Chg.own (b := p1) HGG.out (((Chg.refl _ _).setCell _ _).setCell _ _ |>.setCell _ _) HSZ.out
      refine hK.out _ _ s3 (fun _ => ?_)
      clear hK K y0 y1 y2 t0 t1 t2
      generalize ((v2.setCell ⟨p1, 0, none⟩ (.slice A L.length c)).setCell ⟨p1, 1, none⟩ (.slice B N.length d)).setCell ⟨p1, 2, none⟩ (.int .i64 F) = v3 at *
      refine wpAnyH_ready (rs := [5]) (by kernel_rfl) (by simp) ?_
      refine AllReadyH.cons (o := ⟨none, _, _, _, _, _⟩) rfl (fun K hK => ?_) AllReadyH.nil
      have y0 : v3.cell? ⟨p2, 0, none⟩ = some (.slice none 0 0) := o3.cell 0
      have y1 : v3.cell? ⟨p2, 1, none⟩ = some (.slice none 0 0) := o3.cell 1
      have y2 : v3.cell? ⟨p2, 2, none⟩ = some (.int .i64 0) := o3.cell 2
      have t0 : v3.frozen? ⟨p2, 0, none⟩ = false := o3.frozen _
      have t1 : v3.frozen? ⟨p2, 1, none⟩ = false := o3.frozen _
      have t2 : v3.frozen? ⟨p2, 2, none⟩ = false := o3.frozen _
      go_simp
      have r4 : Blk (((v3.setCell ⟨p2, 0, none⟩ (.slice A L.length c)).setCell ⟨p2, 1, none⟩ (.slice B N.length d)).setCell ⟨p2, 2, none⟩ (.int .i64 F)) p2 #[.slice A L.length c, .slice B N.length d, .int .i64 F] 64 := ((o3.set 0 _).set 1 _).set 2 _
      have s4 : Blk (((v3.setCell ⟨p2, 0, none⟩ (.slice A L.length c)).setCell ⟨p2, 1, none⟩ (.slice B N.length d)).setCell ⟨p2, 2, none⟩ (.int .i64 F)) pA #[.slice A L.length c, .slice B N.length d, .int .i64 F] 64 := ((s3.setOther _ _ HNE.out.2.2.1).setOther _ _ HNE.out.2.2.1).setOther _ _ HNE.out.2.2.1
      have o4 : Blk (((v3.setCell ⟨p2, 0, none⟩ (.slice A L.length c)).setCell ⟨p2, 1, none⟩ (.slice B N.length d)).setCell ⟨p2, 2, none⟩ (.int .i64 F)) p1 #[.slice A L.length c, .slice B N.length d, .int .i64 F] 64 := ((r3.setOther _ _ HNE.out.1).setOther _ _ HNE.out.1).setOther _ _ HNE.out.1
      have h4 : Chg none w2 (((v3.setCell ⟨p2, 0, none⟩ (.slice A L.length c)).setCell ⟨p2, 1, none⟩ (.slice B N.length d)).setCell ⟨p2, 2, none⟩ (.int .i64 F)) := Chg.own (b := p2) h3 (((Chg.refl _ _).setCell _ _).setCell _ _ |>.setCell _ _) (Nat.le_trans HSZ.out (Nat.le_of_lt HNE.out.2.2.2.1))
      refine hK.out _ _ s4 (fun _ => ?_)
      clear hK K y0 y1 y2 t0 t1 t2
      generalize ((v3.setCell ⟨p2, 0, none⟩ (.slice A L.length c)).setCell ⟨p2, 1, none⟩ (.slice B N.length d)).setCell ⟨p2, 2, none⟩ (.int .i64 F) = v4 at *
      refine wpAnyH_done (by kernel_rfl) ?_ _
      try simp only [Act.put]
      go_wp2_with fail
      go_meet
      case rel => exact ⟨p1, p2, rfl, rfl, o4, r4, s4, HNE.out.1, HSZ.out, (Nat.le_trans HSZ.out (Nat.le_of_lt HNE.out.2.2.2.1)), HNE.out.2.2.2.2, (Nat.lt_trans HNE.out.2.2.2.2 HNE.out.2.2.2.1), h4⟩
    · go_simp
      have q1 : Blk (v0.alloc (.cells #[.slice none 0 0, .slice none 0 0, .int .i64 0] 64)) v0.heap.size #[.slice none 0 0, .slice none 0 0, .int .i64 0] 64 := Blk.new _ _ _
      have k1 : Chg none v0 (v0.alloc (.cells #[.slice none 0 0, .slice none 0 0, .int .i64 0] 64)) := (Chg.refl _ _).alloc _
      have hS1 := hS.chg k1 (by simp)
      have HZ1 : Hid (v0.heap.size < (v0.alloc (.cells #[.slice none 0 0, .slice none 0 0, .int .i64 0] 64)).heap.size) := by show _ < _; simp
      refine hK.out _ _ hS1 (fun _ => ?_)
      clear hK K
      generalize v0.alloc (.cells #[.slice none 0 0, .slice none 0 0, .int .i64 0] 64) = v1 at *
      try simp only [Act.put, List.setIfInBounds_toArray, List.set_cons_zero, List.set_cons_succ]
      refine wpAnyH_ready (rs := [2]) (by kernel_rfl) (by simp) ?_
      refine AllReadyH.cons (o := ⟨some 9, _, _, _, _, _⟩) rfl (fun K hK => ?_) AllReadyH.nil
      go_simp
      have q2 : Blk (v1.alloc (.cells #[.slice none 0 0, .slice none 0 0, .int .i64 0] 64)) v1.heap.size #[.slice none 0 0, .slice none 0 0, .int .i64 0] 64 := Blk.new _ _ _
      have k2 : Chg none v1 (v1.alloc (.cells #[.slice none 0 0, .slice none 0 0, .int .i64 0] 64)) := (Chg.refl _ _).alloc _
      have hS2 := hS1.chg k2 (by simp)
      have q1' := q1.chg k2 (by simp)
      refine hK.out _ _ hS2 (fun _ => ?_)
      clear hK K
      generalize v1.alloc (.cells #[.slice none 0 0, .slice none 0 0, .int .i64 0] 64) = v2 at *
      have hlt1 : pA < v0.heap.size := HWD.out
      have hlt2 : v0.heap.size < v1.heap.size := HZ1.out
      generalize hp1 : v0.heap.size = p1 at *
      generalize hp2 : v1.heap.size = p2 at *
      try simp only [Act.put, List.setIfInBounds_toArray, List.set_cons_zero, List.set_cons_succ]
      have HNE : Hid (p1 ≠ p2 ∧ pA ≠ p1 ∧ pA ≠ p2 ∧ p1 < p2 ∧ pA < p1) := ⟨by omega, by omega, by omega, hlt2, hlt1⟩
      have HGG : Hid (Chg none w2 v2) := HZ.out.trans (k1.trans k2)
      have HSZ : Hid (w2.heap.size ≤ p1) := by show _ ≤ _; rw [← hp1]; exact HZ.out.size
      clear hlt1 hlt2 hp1 hp2 HZ1 k1 k2 q1 hS1 hS
      refine wpAnyH_ready (rs := [4]) (by kernel_rfl) (by simp) ?_
      refine AllReadyH.cons (o := ⟨none, _, _, _, _, _⟩) rfl (fun K hK => ?_) AllReadyH.nil
      have y0 : v2.cell? ⟨p2, 0, none⟩ = some (.slice none 0 0) := q2.cell 0
      have y1 : v2.cell? ⟨p2, 1, none⟩ = some (.slice none 0 0) := q2.cell 1
      have y2 : v2.cell? ⟨p2, 2, none⟩ = some (.int .i64 0) := q2.cell 2
      have t0 : v2.frozen? ⟨p2, 0, none⟩ = false := q2.frozen _
      have t1 : v2.frozen? ⟨p2, 1, none⟩ = false := q2.frozen _
      have t2 : v2.frozen? ⟨p2, 2, none⟩ = false := q2.frozen _
      go_simp
      have r3 : Blk (((v2.setCell ⟨p2, 0, none⟩ (.slice A L.length c)).setCell ⟨p2, 1, none⟩ (.slice B N.length d)).setCell ⟨p2, 2, none⟩ (.int .i64 F)) p2 #[.slice A L.length c, .slice B N.length d, .int .i64 F] 64 := ((q2.set 0 _).set 1 _).set 2 _
      have s3 : Blk (((v2.setCell ⟨p2, 0, none⟩ (.slice A L.length c)).setCell ⟨p2, 1, none⟩ (.slice B N.length d)).setCell ⟨p2, 2, none⟩ (.int .i64 F)) pA #[.slice A L.length c, .slice B N.length d, .int .i64 F] 64 := ((hS2.setOther _ _ HNE.out.2.2.1).setOther _ _ HNE.out.2.2.1).setOther _ _ HNE.out.2.2.1
      have o3 : Blk (((v2.setCell ⟨p2, 0, none⟩ (.slice A L.length c)).setCell ⟨p2, 1, none⟩ (.slice B N.length d)).setCell ⟨p2, 2, none⟩ (.int .i64 F)) p1 #[.slice none 0 0, .slice none 0 0, .int .i64 0] 64 := ((q1'.setOther _ _ HNE.out.1).setOther _ _ HNE.out.1).setOther _ _ HNE.out.1
      have h3 : Chg none w2 (((v2.setCell ⟨p2, 0, none⟩ (.slice A L.length c)).setCell ⟨p2, 1, none⟩ (.slice B N.length d)).setCell ⟨p2, 2, none⟩ (.int .i64 F)) := Chg.own (b := p2) HGG.out (((Chg.refl _ _).setCell _ _).setCell _ _ |>.setCell _ _) (Nat.le_trans HSZ.out (Nat.le_of_lt HNE.out.2.2.2.1))
      refine hK.out _ _ s3 (fun _ => ?_)
      clear hK K y0 y1 y2 t0 t1 t2
      generalize ((v2.setCell ⟨p2, 0, none⟩ (.slice A L.length c)).setCell ⟨p2, 1, none⟩ (.slice B N.length d)).setCell ⟨p2, 2, none⟩ (.int .i64 F) = v3 at *
      refine wpAnyH_ready (rs := [5]) (by kernel_rfl) (by simp) ?_
      refine AllReadyH.cons (o := ⟨none, _, _, _, _, _⟩) rfl (fun K hK => ?_) AllReadyH.nil
      have y0 : v3.cell? ⟨p1, 0, none⟩ = some (.slice none 0 0) := o3.cell 0
      have y1 : v3.cell? ⟨p1, 1, none⟩ = some (.slice none 0 0) := o3.cell 1
      have y2 : v3.cell? ⟨p1, 2, none⟩ = some (.int .i64 0) := o3.cell 2
      have t0 : v3.frozen? ⟨p1, 0, none⟩ = false := o3.frozen _
      have t1 : v3.frozen? ⟨p1, 1, none⟩ = false := o3.frozen _
      have t2 : v3.frozen? ⟨p1, 2, none⟩ = false := o3.frozen _
      go_simp
      have r4 : Blk (((v3.setCell ⟨p1, 0, none⟩ (.slice A L.length c)).setCell ⟨p1, 1, none⟩ (.slice B N.length d)).setCell ⟨p1, 2, none⟩ (.int .i64 F)) p1 #[.slice A L.length c, .slice B N.length d, .int .i64 F] 64 := ((o3.set 0 _).set 1 _).set 2 _
      have s4 : Blk (((v3.setCell ⟨p1, 0, none⟩ (.slice A L.length c)).setCell ⟨p1, 1, none⟩ (.slice B N.length d)).setCell ⟨p1, 2, none⟩ (.int .i64 F)) pA #[.slice A L.length c, .slice B N.length d, .int .i64 F] 64 := ((s3.setOther _ _ HNE.out.2.1).setOther _ _ HNE.out.2.1).setOther _ _ HNE.out.2.1
      have o4 : Blk (((v3.setCell ⟨p1, 0, none⟩ (.slice A L.length c)).setCell ⟨p1, 1, none⟩ (.slice B N.length d)).setCell ⟨p1, 2, none⟩ (.int .i64 F)) p2 #[.slice A L.length c, .slice B N.length d, .int .i64 F] 64 := ((r3.setOther _ _ HNE.out.1.symm).setOther _ _ HNE.out.1.symm).setOther _ _ HNE.out.1.symm
      have h4 : Chg none w2 (((v3.setCell ⟨p1, 0, none⟩ (.slice A L.length c)).setCell ⟨p1, 1, none⟩ (.slice B N.length d)).setCell ⟨p1, 2, none⟩ (.int .i64 F)) := Chg.own (b := p1) h3 (((Chg.refl _ _).setCell _ _).setCell _ _ |>.setCell _ _) HSZ.out
      refine hK.out _ _ s4 (fun _ => ?_)
      clear hK K y0 y1 y2 t0 t1 t2
      generalize ((v3.setCell ⟨p1, 0, none⟩ (.slice A L.length c)).setCell ⟨p1, 1, none⟩ (.slice B N.length d)).setCell ⟨p1, 2, none⟩ (.int .i64 F) = v4 at *
      refine wpAnyH_done (by kernel_rfl) ?_ _
      try simp only [Act.put]
      go_wp2_with fail
      go_meet
      case rel => exact ⟨p2, p1, rfl, rfl, o4, r4, s4, HNE.out.1.symm, (Nat.le_trans HSZ.out (Nat.le_of_lt HNE.out.2.2.2.1)), HSZ.out, (Nat.lt_trans HNE.out.2.2.2.2 HNE.out.2.2.2.1), HNE.out.2.2.2.2, h4⟩
  case rest =>
    obtain ⟨pB, pC, rfl, rfl, hbB, hbC, hbA, hne, hgB, hgC, hAB, hAC, hg3⟩ := hcut
    have HXA : Hid (mayA ⟨A, L, c, B, N, d, F⟩ = true → ∀ v, Chg none wc v → (convert 22 9 (.slice XA xn xc)).run Tryd.prog v = .ok (.string ⟨(bytesA ⟨A, L, c, B, N, d, F⟩).toArray⟩) v) := fun hm v g => by
      rcases HCA.out with ⟨-, -, ho⟩ | ⟨h, -⟩
      · exact conv_reads v (Reads.of_own (own_chgW ho (hg3.trans g)))
      · rw [hm] at h; cases h
    have HKA : Hid ((mayA ⟨A, L, c, B, N, d, F⟩ = true ∧ k1 = 0) ∨ (mayA ⟨A, L, c, B, N, d, F⟩ = false ∧ k1 = 2)) := by
      rcases HCA.out with ⟨h1, h2, -⟩ | ⟨h1, h2⟩
      · exact .inl ⟨h1, h2⟩
      · exact .inr ⟨h1, h2⟩
    obtain ⟨w3, hw3⟩ : ∃ w3, w3 = wc := ⟨_, rfl⟩
    rw [← hw3] at hbB hbC hbA hg3 HXA ⊢
    have G3 := Lib.hid (G2.out.trans hg3)
    have HGE : Hid (w.heap.size ≤ pB ∧ w.heap.size ≤ pC) := ⟨Nat.le_trans G2.out.size hgB, Nat.le_trans G2.out.size hgC⟩
    have nBC : pB ≠ pC := hne
    have nAB : pA ≠ pB := by omega
    have nAC : pA ≠ pC := by omega
    have r1 : Chg (some pB) w3 (w3.setCell ⟨pB, 2, none⟩ (.int .i64 u)) := (Chg.refl _ _).setCell _ _
    have r2 : Chg (some pC) (w3.setCell ⟨pB, 2, none⟩ (.int .i64 u)) ((w3.setCell ⟨pB, 2, none⟩ (.int .i64 u)).setCell ⟨pC, 0, none⟩ (.slice A3 P.length c3)) := (Chg.refl _ _).setCell _ _
    have G5 : Hid (Chg none w ((w3.setCell ⟨pB, 2, none⟩ (.int .i64 u)).setCell ⟨pC, 0, none⟩ (.slice A3 P.length c3))) := Chg.own (b := pC) (Chg.own (b := pB) G3.out r1 HGE.out.1) r2 HGE.out.2
    have HB5 : Hid (Blk ((w3.setCell ⟨pB, 2, none⟩ (.int .i64 u)).setCell ⟨pC, 0, none⟩ (.slice A3 P.length c3)) pB #[.slice A L.length c, .slice B N.length d, .int .i64 u] 64) := (hbB.set 2 _).setOther _ _ nBC
    have HC5 : Hid (Blk ((w3.setCell ⟨pB, 2, none⟩ (.int .i64 u)).setCell ⟨pC, 0, none⟩ (.slice A3 P.length c3)) pC #[.slice A3 P.length c3, .slice B N.length d, .int .i64 F] 64) := (hbC.setOther _ _ nBC.symm).set 0 _
    have HA5 : Hid (Blk ((w3.setCell ⟨pB, 2, none⟩ (.int .i64 u)).setCell ⟨pC, 0, none⟩ (.slice A3 P.length c3)) pA #[.slice A L.length c, .slice B N.length d, .int .i64 F] 64) := (hbA.setOther _ _ nAB).setOther _ _ nAC
    have HXA5 : Hid (mayA ⟨A, L, c, B, N, d, F⟩ = true → ∀ v, Chg none ((w3.setCell ⟨pB, 2, none⟩ (.int .i64 u)).setCell ⟨pC, 0, none⟩ (.slice A3 P.length c3)) v → (convert 22 9 (.slice XA xn xc)).run Tryd.prog v = .ok (.string ⟨(bytesA ⟨A, L, c, B, N, d, F⟩).toArray⟩) v) := fun hm v g => by
      rcases HCA.out with ⟨-, -, ho⟩ | ⟨h, -⟩
      · have ho3 := own_chgW ho hg3
        have hb1 : (Value.slice XA xn xc).ownBlock ≠ some pB := own_other ho3 hbB (by decide)
        have ho4 := ho3.kept r1 (.inr hb1)
        have hb2 : (Value.slice XA xn xc).ownBlock ≠ some pC := own_other ho4 (hbC.setOther _ _ nBC.symm) (by decide)
        exact conv_reads v (Reads.of_own (own_chgW (ho4.kept r2 (.inr hb2)) g))
      · rw [hm] at h; cases h
    have z0 : w3.cell? ⟨pB, 2, none⟩ = some (.int .i64 F) := hbB.cell 2
    have z1 : w3.frozen? ⟨pB, 2, none⟩ = false := hbB.frozen _
    have z2 : w3.cell? ⟨pC, 0, none⟩ = some (.slice A L.length c) := hbC.cell 0
    have z3 : w3.frozen? ⟨pC, 0, none⟩ = false := hbC.frozen _
    clear hw3 hbB hbC hbA hne hgB hgC hAB hAC hg3 HB2 HW2 HXA HCA G3 r1 r2
    go_upto_region 6 with fail
    clear z0 z1 z2 z3 nBC nAB nAC HGE
    generalize (w3.setCell ⟨pB, 2, none⟩ (.int .i64 u)).setCell ⟨pC, 0, none⟩ (.slice A3 P.length c3) = w5 at *
    have b0 : w5.cell? ⟨pB, 0, none⟩ = some (.slice A L.length c) := HB5.out.cell 0
    have b1 : w5.cell? ⟨pB, 1, none⟩ = some (.slice B N.length d) := HB5.out.cell 1
    have b2 : w5.cell? ⟨pB, 2, none⟩ = some (.int .i64 u) := HB5.out.cell 2
    have HB6 := Lib.hid (HBB.out w5 G5.out)
    clear HBB HB5
    go_wp2_with fail
    refine HB6.out.mono ?_
    rintro e w6 ⟨YA, yn, yc, k2, rfl, g6, hcb⟩
    have G6 := Lib.hid (G5.out.trans g6)
    have HC6 := Lib.hid (HC5.out.chg g6 (by simp))
    have HA6 := Lib.hid (HA5.out.chg g6 (by simp))
    have HXA6 : Hid (mayA ⟨A, L, c, B, N, d, F⟩ = true → ∀ v, Chg none w6 v → (convert 22 9 (.slice XA xn xc)).run Tryd.prog v = .ok (.string ⟨(bytesA ⟨A, L, c, B, N, d, F⟩).toArray⟩) v) := fun hm v g => HXA5.out hm v (g6.trans g)
    have HCB := Lib.hid hcb
    have c0 : w6.cell? ⟨pC, 0, none⟩ = some (.slice A3 P.length c3) := HC6.out.cell 0
    have c1 : w6.cell? ⟨pC, 1, none⟩ = some (.slice B N.length d) := HC6.out.cell 1
    have c2 : w6.cell? ⟨pC, 2, none⟩ = some (.int .i64 F) := HC6.out.cell 2
    have HB7 := Lib.hid (HBC.out w6 G6.out)
    clear HBC b0 b1 b2 g6 hcb HB6 HXA5 HC5 HA5 G5
    go_wp2_with fail
    refine HB7.out.mono ?_
    rintro e w7 ⟨ZA, zn, zc, k3, rfl, g7, hcc⟩
    have G7 := Lib.hid (G6.out.trans g7)
    have HA7 := Lib.hid (HA6.out.chg g7 (by simp))
    have HXA7 : Hid (mayA ⟨A, L, c, B, N, d, F⟩ = true → ∀ v, Chg none w7 v → (convert 22 9 (.slice XA xn xc)).run Tryd.prog v = .ok (.string ⟨(bytesA ⟨A, L, c, B, N, d, F⟩).toArray⟩) v) := fun hm v g => HXA6.out hm v (g7.trans g)
    have HYB7 : Hid ((mayA ⟨A, L, c, B, N, d, u⟩ = true ∧ k2 = 0 ∧ ∀ v, Chg none w7 v → (convert 22 9 (.slice YA yn yc)).run Tryd.prog v = .ok (.string ⟨(bytesA ⟨A, L, c, B, N, d, u⟩).toArray⟩) v) ∨ (mayA ⟨A, L, c, B, N, d, u⟩ = false ∧ k2 = 2)) := by
      rcases HCB.out with ⟨h1, h2, ho⟩ | ⟨h1, h2⟩
      · exact .inl ⟨h1, h2, fun v g => conv_reads v (Reads.of_own (own_chgW ho (g7.trans g)))⟩
      · exact .inr ⟨h1, h2⟩
    have HYC7 : Hid ((mayA ⟨A3, P, c3, B, N, d, F⟩ = true ∧ k3 = 0 ∧ ∀ v, Chg none w7 v → (convert 22 9 (.slice ZA zn zc)).run Tryd.prog v = .ok (.string ⟨(bytesA ⟨A3, P, c3, B, N, d, F⟩).toArray⟩) v) ∨ (mayA ⟨A3, P, c3, B, N, d, F⟩ = false ∧ k3 = 2)) := by
      rcases hcc with ⟨h1, h2, ho⟩ | ⟨h1, h2⟩
      · exact .inl ⟨h1, h2, fun v g => conv_reads v (Reads.of_own (own_chgW ho g))⟩
      · exact .inr ⟨h1, h2⟩
    clear c0 c1 c2 g7 hcc HCB HB7 HXA6 HC6 HA6 G6
    rcases HKA.out with ⟨hma, hk⟩ | ⟨hma, hk⟩
    rotate_left
    · subst hk
      clear hma HKA HXA7 HYB7 HYC7 HSP
      as_aux_lemma =>
      go_wp2_with fail
      refine (HK.out _ G7.out).mono ?_
      rintro e wk ⟨rfl, gk⟩
      go_wp2_with fail
      go_ret
      exact ⟨rfl, G7.out.trans gk⟩
    subst hk
    have HMA := Lib.hid hma
    have HX7 := Lib.hid (HXA7.out hma)
    clear hma HKA HXA7
    have y2 : w7.cell? ⟨pA, 2, none⟩ = some (.int .i64 F) := HA7.out.cell 2
    go_upto_region 10 with fail
    go_cut [60] (fun s60 wx => s60 = .bool false ∧ wx = w7)
    case first =>
      clear HYC7 HSP HK
      rcases HYB7.out with ⟨hmb, hk, hcv⟩ | ⟨hmb, hk⟩
      rotate_left
      · subst hk
        clear hmb HYB7 HX7
        go_wp2_with fail
        go_meet
        case rel => exact ⟨rfl, rfl⟩
      · subst hk
        have hc1 := HX7.out w7 (Chg.refl _ _)
        have hc2 := hcv w7 (Chg.refl _ _)
        obtain ⟨ha1, ha2, ha3, ha4⟩ := mayA_parts HMA.out
        obtain ⟨hb1, hb2, hb3, hb4⟩ := mayA_parts hmb
        dsimp only at ha1 ha2 ha3 ha4 hb1 hb2 hb3 hb4
        by_cases huf : u = F
        · subst huf
          clear hmb HYB7 HX7 hcv ha1 ha2 ha3 ha4 hb1 hb2 hb3 hb4 HMA
          generalize bytesA ⟨A, L, c, B, N, d, u⟩ = X at *
          go_wp2_with fail
          go_meet
          case rel => exact ⟨by first | rfl | simp, rfl⟩
        · have hne : bytesA ⟨A, L, c, B, N, d, F⟩ ≠ bytesA ⟨A, L, c, B, N, d, u⟩ := by
            intro h
            unfold bytesA at h
            dsimp only at h
            have := (bytes_fuel _ _ (by omega) (by omega)).1 h
            omega
          have e3 : (u == F) = false := by rw [beq_eq_false_iff_ne]; exact huf
          clear hmb HYB7 HX7 hcv ha1 ha2 ha3 ha4 hb1 hb2 hb3 hb4 HMA huf
          generalize bytesA ⟨A, L, c, B, N, d, F⟩ = X at *
          generalize bytesA ⟨A, L, c, B, N, d, u⟩ = Y at *
          have e1 : (X == Y) = false := by rw [beq_eq_false_iff_ne]; exact hne
          have e2 : ¬ X = Y := hne
          clear hne
          go_wp2_with fail
          go_meet
          case rel => exact ⟨by first | rfl | simp, rfl⟩
    case rest =>
      obtain ⟨rfl, hwc⟩ := hcut
      have hwc2 := hwc.symm
      clear hwc
      subst hwc2
      clear y2 HYB7
      have hS : Chg none w7.drew w7.drew := Chg.refl _ _
      have HS0 : Hid (∀ v, Chg none w7.drew v → Chg none w7 v) := fun v g => (Chg.refl none w7).drew.trans g
      have HKV : Hid (∀ v, Chg none w7.drew v → Calls Tryd.prog 43 #[] v fun e w' => e = .returned (.bool true) ∧ Chg none v w') := fun v g => HK.out v (G7.out.trans (HS0.out v g))
      rcases HYC7.out with ⟨hmc, hk, hcv⟩ | ⟨hmc, hk⟩
      rotate_left
      · subst hk
        clear hmc HYC7 HX7 HSP HK
        go_upto_region 12 with fail
        refine wp_region_held_drew (S := fun v => Chg none w7.drew v) (by kernel_rfl) hS (fun _ => ?_)
        have HGW : Hid (Chg none w w7.drew) := G7.out.drew
        generalize w7.drew = v0 at *
        refine wpAnyH_take (i := 0) (oi := ⟨some 61, _, _, _, _, _⟩) (v := ?_) rfl (by kernel_rfl) (by kernel_rfl) (by kernel_rfl) (fun _ _ _ h => h) (Or.inl ⟨by rfl, ?_⟩) (by assumption) ?_
        rotate_left
        · intro w hSw; (try dsimp only at hSw); go_simp; (try with_reducible rfl)
        try simp only [Act.put, List.setIfInBounds_toArray, List.set_cons_zero, List.set_cons_succ]
        refine wpAnyH_take (i := 1) (oi := ⟨some 62, _, _, _, _, _⟩) (v := ?_) rfl (by kernel_rfl) (by kernel_rfl) (by kernel_rfl) (fun _ _ _ h => h) (Or.inl ⟨by rfl, ?_⟩) (by assumption) ?_
        rotate_left
        · intro w hSw; (try dsimp only at hSw); go_simp; (try with_reducible rfl)
        try simp only [Act.put, List.setIfInBounds_toArray, List.set_cons_zero, List.set_cons_succ]
        refine wpAnyH_take (i := 2) (oi := ⟨some 63, _, _, _, _, _⟩) (v := ?_) rfl (by kernel_rfl) (by kernel_rfl) (by kernel_rfl) (fun _ _ _ h => h) (Or.inl ⟨by rfl, ?_⟩) (by assumption) ?_
        rotate_left
        · intro w hSw; (try dsimp only at hSw); go_simp; (try with_reducible rfl)
        try simp only [Act.put, List.setIfInBounds_toArray, List.set_cons_zero, List.set_cons_succ]
        refine wpAnyH_take (i := 3) (oi := ⟨some 64, _, _, _, _, _⟩) (v := undef) rfl (by kernel_rfl) (by kernel_rfl) (by kernel_rfl) (fun _ _ _ h => h) (Or.inr ⟨by rfl, rfl⟩) (by assumption) ?_
        try simp only [Act.put, List.setIfInBounds_toArray, List.set_cons_zero, List.set_cons_succ]
        refine wpAnyH_take (i := 4) (oi := ⟨some 65, _, _, _, _, _⟩) (v := undef) rfl (by kernel_rfl) (by kernel_rfl) (by kernel_rfl) (fun _ _ _ h => h) (Or.inr ⟨by rfl, rfl⟩) (by assumption) ?_
        try simp only [Act.put, List.setIfInBounds_toArray, List.set_cons_zero, List.set_cons_succ]
        refine wpAnyH_take (i := 5) (oi := ⟨some 66, _, _, _, _, _⟩) (v := undef) rfl (by kernel_rfl) (by kernel_rfl) (by kernel_rfl) (fun _ _ _ h => h) (Or.inr ⟨by rfl, rfl⟩) (by assumption) ?_
        try simp only [Act.put, List.setIfInBounds_toArray, List.set_cons_zero, List.set_cons_succ]
        refine wpAnyH_take (i := 6) (oi := ⟨some 67, _, _, _, _, _⟩) (v := undef) rfl (by kernel_rfl) (by kernel_rfl) (by kernel_rfl) (fun _ _ _ h => h) (Or.inr ⟨by rfl, rfl⟩) (by assumption) ?_
        try simp only [Act.put, List.setIfInBounds_toArray, List.set_cons_zero, List.set_cons_succ]
        refine wpAnyH_take (i := 7) (oi := ⟨some 68, _, _, _, _, _⟩) (v := undef) rfl (by kernel_rfl) (by kernel_rfl) (by kernel_rfl) (fun _ _ _ h => h) (Or.inr ⟨by rfl, rfl⟩) (by assumption) ?_
        try simp only [Act.put, List.setIfInBounds_toArray, List.set_cons_zero, List.set_cons_succ]
        refine wpAnyH_take (i := 8) (oi := ⟨some 69, _, _, _, _, _⟩) (v := undef) rfl (by kernel_rfl) (by kernel_rfl) (by kernel_rfl) (fun _ _ _ h => h) (Or.inr ⟨by rfl, rfl⟩) (by assumption) ?_
        try simp only [Act.put, List.setIfInBounds_toArray, List.set_cons_zero, List.set_cons_succ]
        refine wpAnyH_take (i := 9) (oi := ⟨some 70, _, _, _, _, _⟩) (v := undef) rfl (by kernel_rfl) (by kernel_rfl) (by kernel_rfl) (fun _ _ _ h => h) (Or.inr ⟨by rfl, rfl⟩) (by assumption) ?_
        try simp only [Act.put, List.setIfInBounds_toArray, List.set_cons_zero, List.set_cons_succ]
        refine wpAnyH_take (i := 10) (oi := ⟨some 71, _, _, _, _, _⟩) (v := undef) rfl (by kernel_rfl) (by kernel_rfl) (by kernel_rfl) (fun _ _ _ h => h) (Or.inr ⟨by rfl, rfl⟩) (by assumption) ?_
        try simp only [Act.put, List.setIfInBounds_toArray, List.set_cons_zero, List.set_cons_succ]
        refine wpAnyH_take (i := 11) (oi := ⟨some 72, _, _, _, _, _⟩) (v := undef) rfl (by kernel_rfl) (by kernel_rfl) (by kernel_rfl) (fun _ _ _ h => h) (Or.inr ⟨by rfl, rfl⟩) (by assumption) ?_
        try simp only [Act.put, List.setIfInBounds_toArray, List.set_cons_zero, List.set_cons_succ]
        refine wpAnyH_take (i := 12) (oi := ⟨some 73, _, _, _, _, _⟩) (v := undef) rfl (by kernel_rfl) (by kernel_rfl) (by kernel_rfl) (fun _ _ _ h => h) (Or.inr ⟨by rfl, rfl⟩) (by assumption) ?_
        try simp only [Act.put, List.setIfInBounds_toArray, List.set_cons_zero, List.set_cons_succ]
        refine wpAnyH_take (i := 13) (oi := ⟨some 74, _, _, _, _, _⟩) (v := ?_) rfl (by kernel_rfl) (by kernel_rfl) (by kernel_rfl) (fun _ _ _ h => h) (Or.inl ⟨by rfl, ?_⟩) (by assumption) ?_
        rotate_left
        · intro w hSw; (try dsimp only at hSw); go_simp; (try with_reducible rfl)
        try simp only [Act.put, List.setIfInBounds_toArray, List.set_cons_zero, List.set_cons_succ]
        refine wpAnyH_take (i := 14) (oi := ⟨some 75, _, _, _, _, _⟩) (v := ?_) rfl (by kernel_rfl) (by kernel_rfl) (by kernel_rfl) (fun _ _ _ h => h) (Or.inl ⟨by rfl, ?_⟩) (by assumption) ?_
        rotate_left
        · intro w hSw; (try dsimp only at hSw); go_simp; (try with_reducible rfl)
        try simp only [Act.put, List.setIfInBounds_toArray, List.set_cons_zero, List.set_cons_succ]
        refine wpAnyH_ready (rs := [15]) (by kernel_rfl) (by simp) ?_
        refine AllReadyH.cons (o := ⟨some 76, _, _, _, _, _⟩) rfl (fun K hK => ?_) (AllReadyH.nil)
        go_simp
        go_at_call 43
        refine (HKV.out _ hS).mono ?_
        rintro e v1 ⟨rfl, kv1⟩
        have hS1 := Chg.trans hS kv1
        clear kv1
        go_wp2_with fail
        refine hK.out _ _ hS1 (fun _ => ?_)
        clear hK K
        try simp only [Act.put, List.setIfInBounds_toArray, List.set_cons_zero, List.set_cons_succ]
        refine wpAnyH_take (i := 16) (oi := ⟨some 77, _, _, _, _, _⟩) (v := ?_) rfl (by kernel_rfl) (by kernel_rfl) (by kernel_rfl) (fun _ _ _ h => h) (Or.inl ⟨by rfl, ?_⟩) (by assumption) ?_
        rotate_left
        · intro w hSw; (try dsimp only at hSw); go_simp; (try with_reducible rfl)
        try simp only [Act.put, List.setIfInBounds_toArray, List.set_cons_zero, List.set_cons_succ]
        refine wpAnyH_take (i := 17) (oi := ⟨some 6, _, _, _, _, _⟩) (v := ?_) rfl (by kernel_rfl) (by kernel_rfl) (by kernel_rfl) (fun _ _ _ h => h) (Or.inl ⟨by rfl, ?_⟩) (by assumption) ?_
        rotate_left
        · intro w hSw; (try dsimp only at hSw); go_simp; (try with_reducible rfl)
        try simp only [Act.put, List.setIfInBounds_toArray, List.set_cons_zero, List.set_cons_succ]
        refine wpAnyH_done (by kernel_rfl) ?_ _
        try simp only [Act.put]
        go_wp2_with fail
        go_ret
        exact ⟨rfl, HGW.out.trans hS1⟩
      subst hk
      obtain ⟨ha1, ha2, ha3, ha4⟩ := mayA_parts HMA.out
      obtain ⟨hb1, hb2, hb3, hb4⟩ := mayA_parts hmc
      dsimp only at ha1 ha2 ha3 ha4 hb1 hb2 hb3 hb4
      have hiff : bytesA ⟨A, L, c, B, N, d, F⟩ = bytesA ⟨A3, P, c3, B, N, d, F⟩ ↔ L = P := by
        have hp1 := partB_len ha1 L.length
        rw [partB_all (Nat.le_refl _)] at hp1
        have hp2 := partB_len hb1 P.length
        rw [partB_all (Nat.le_refl _)] at hp2
        rw [← prog_inj ha1 hb1]
        exact bytes_prog (P := progB L) (Q := progB P) (rootB (treeB N)) F.toNat (by omega) (by omega)
      have HIF := Lib.hid hiff
      have HCX : Hid (∀ v, Chg none w7.drew v → (convert 22 9 (.slice XA xn xc)).run Tryd.prog v = .ok (.string ⟨(bytesA ⟨A, L, c, B, N, d, F⟩).toArray⟩) v) := fun v g => HX7.out v (HS0.out v g)
      have HCZ : Hid (∀ v, Chg none w7.drew v → (convert 22 9 (.slice ZA zn zc)).run Tryd.prog v = .ok (.string ⟨(bytesA ⟨A3, P, c3, B, N, d, F⟩).toArray⟩) v) := fun v g => hcv v (HS0.out v g)
      have HSP7 : Hid (∀ v, Chg none w7.drew v → Calls Tryd.prog 37 #[.slice A L.length c, .slice A3 P.length c3] v fun e w' => e = .returned (.bool (decide (L = P))) ∧ Chg none v w') := fun v g => HSP.out v (G7.out.trans (HS0.out v g))
      have HAV : Hid (∀ v, Chg none w7.drew v → v.cell? ⟨pA, 0, none⟩ = some (.slice A L.length c)) := fun v g => (HA7.out.chg (HS0.out v g) (by simp)).cell 0
      have HGW : Hid (Chg none w w7.drew) := G7.out.drew
      clear ha1 ha2 ha3 ha4 hb1 hb2 hb3 hb4 hiff hmc hcv HYC7 HX7 HSP HK HMA HA7 HS0 G7
      generalize bytesA ⟨A, L, c, B, N, d, F⟩ = X at *
      generalize bytesA ⟨A3, P, c3, B, N, d, F⟩ = Z at *
      by_cases hlp : L = P
      · have hxz : X = Z := HIF.out.2 hlp
        subst hxz
        rw [decide_eq_true hlp] at HSP7
        clear hlp HIF
        go_upto_region 12 with fail
        refine wp_region_held_drew (S := fun v => Chg none w7.drew v) (by kernel_rfl) hS (fun _ => ?_)
        generalize w7.drew = v0 at *
        refine wpAnyH_take (i := 0) (oi := ⟨some 61, _, _, _, _, _⟩) (v := ?_) rfl (by kernel_rfl) (by kernel_rfl) (by kernel_rfl) (fun _ _ _ h => h) (Or.inl ⟨by rfl, ?_⟩) (by assumption) ?_
        rotate_left
        · intro w hSw; (try dsimp only at hSw); go_simp; (try with_reducible rfl)
        try simp only [Act.put, List.setIfInBounds_toArray, List.set_cons_zero, List.set_cons_succ]
        refine wpAnyH_take (i := 1) (oi := ⟨some 62, _, _, _, _, _⟩) (v := ?_) rfl (by kernel_rfl) (by kernel_rfl) (by kernel_rfl) (fun _ _ _ h => h) (Or.inl ⟨by rfl, ?_⟩) (by assumption) ?_
        rotate_left
        · intro w hSw; (try dsimp only at hSw); go_simp; (try with_reducible rfl)
        try simp only [Act.put, List.setIfInBounds_toArray, List.set_cons_zero, List.set_cons_succ]
        refine wpAnyH_take (i := 2) (oi := ⟨some 63, _, _, _, _, _⟩) (v := ?_) rfl (by kernel_rfl) (by kernel_rfl) (by kernel_rfl) (fun _ _ _ h => h) (Or.inl ⟨by rfl, ?_⟩) (by assumption) ?_
        rotate_left
        · intro w hSw; (try dsimp only at hSw); go_simp; (try with_reducible rfl)
        try simp only [Act.put, List.setIfInBounds_toArray, List.set_cons_zero, List.set_cons_succ]
        refine wpAnyH_take (i := 3) (oi := ⟨some 64, _, _, _, _, _⟩) (v := ?_) rfl (by kernel_rfl) (by kernel_rfl) (by kernel_rfl) (fun _ _ _ h => h) (Or.inl ⟨by rfl, ?_⟩) (by assumption) ?_
        rotate_left
        · intro w hSw; (try dsimp only at hSw); go_simp; (try with_reducible rfl)
        try simp only [Act.put, List.setIfInBounds_toArray, List.set_cons_zero, List.set_cons_succ]
        refine wpAnyH_take (i := 4) (oi := ⟨some 65, _, _, _, _, _⟩) (v := .string ⟨X.toArray⟩) rfl (by kernel_rfl) (by kernel_rfl) (by kernel_rfl) (fun _ _ _ h => h) (Or.inl ⟨by rfl, ?_⟩) (by assumption) ?_
        · intro v hSv; have hc := HCX.out v hSv; go_simp
        try simp only [Act.put, List.setIfInBounds_toArray, List.set_cons_zero, List.set_cons_succ]
        refine wpAnyH_take (i := 5) (oi := ⟨some 66, _, _, _, _, _⟩) (v := ?_) rfl (by kernel_rfl) (by kernel_rfl) (by kernel_rfl) (fun _ _ _ h => h) (Or.inl ⟨by rfl, ?_⟩) (by assumption) ?_
        rotate_left
        · intro w hSw; (try dsimp only at hSw); go_simp; (try with_reducible rfl)
        try simp only [Act.put, List.setIfInBounds_toArray, List.set_cons_zero, List.set_cons_succ]
        refine wpAnyH_take (i := 6) (oi := ⟨some 67, _, _, _, _, _⟩) (v := .string ⟨X.toArray⟩) rfl (by kernel_rfl) (by kernel_rfl) (by kernel_rfl) (fun _ _ _ h => h) (Or.inl ⟨by rfl, ?_⟩) (by assumption) ?_
        · intro v hSv; have hc := HCZ.out v hSv; go_simp
        try simp only [Act.put, List.setIfInBounds_toArray, List.set_cons_zero, List.set_cons_succ]
        refine wpAnyH_take (i := 7) (oi := ⟨some 68, _, _, _, _, _⟩) (v := .bool true) rfl (by kernel_rfl) (by kernel_rfl) (by kernel_rfl) (fun _ _ _ h => h) (Or.inl ⟨by rfl, ?_⟩) (by assumption) ?_
        · intro v hSv; skip; go_simp
        try simp only [Act.put, List.setIfInBounds_toArray, List.set_cons_zero, List.set_cons_succ]
        refine wpAnyH_take (i := 8) (oi := ⟨some 69, _, _, _, _, _⟩) (v := ?_) rfl (by kernel_rfl) (by kernel_rfl) (by kernel_rfl) (fun _ _ _ h => h) (Or.inl ⟨by rfl, ?_⟩) (by assumption) ?_
        rotate_left
        · intro w hSw; (try dsimp only at hSw); go_simp; (try with_reducible rfl)
        try simp only [Act.put, List.setIfInBounds_toArray, List.set_cons_zero, List.set_cons_succ]
        refine wpAnyH_take (i := 9) (oi := ⟨some 70, _, _, _, _, _⟩) (v := .slice A L.length c) rfl (by kernel_rfl) (by kernel_rfl) (by kernel_rfl) (fun _ _ _ h => h) (Or.inl ⟨by rfl, ?_⟩) (by assumption) ?_
        · intro v hSv; have hc := HAV.out v hSv; go_simp
        try simp only [Act.put, List.setIfInBounds_toArray, List.set_cons_zero, List.set_cons_succ]
        refine wpAnyH_take (i := 10) (oi := ⟨some 71, _, _, _, _, _⟩) (v := ?_) rfl (by kernel_rfl) (by kernel_rfl) (by kernel_rfl) (fun _ _ _ h => h) (Or.inl ⟨by rfl, ?_⟩) (by assumption) ?_
        rotate_left
        · intro w hSw; (try dsimp only at hSw); go_simp; (try with_reducible rfl)
        try simp only [Act.put, List.setIfInBounds_toArray, List.set_cons_zero, List.set_cons_succ]
        refine wpAnyH_ready (rs := [11]) (by kernel_rfl) (by simp) ?_
        refine AllReadyH.cons (o := ⟨some 72, _, _, _, _, _⟩) rfl (fun K hK => ?_) (AllReadyH.nil)
        go_simp
        go_at_call 37
        refine (HSP7.out _ hS).mono ?_
        rintro e v1 ⟨rfl, kv1⟩
        have hS1 := Chg.trans hS kv1
        clear kv1
        go_wp2_with fail
        refine hK.out _ _ hS1 (fun _ => ?_)
        clear hK K
        try simp only [Act.put, List.setIfInBounds_toArray, List.set_cons_zero, List.set_cons_succ]
        refine wpAnyH_take (i := 12) (oi := ⟨some 73, _, _, _, _, _⟩) (v := ?_) rfl (by kernel_rfl) (by kernel_rfl) (by kernel_rfl) (fun _ _ _ h => h) (Or.inl ⟨by rfl, ?_⟩) (by assumption) ?_
        rotate_left
        · intro w hSw; (try dsimp only at hSw); go_simp; (try with_reducible rfl)
        try simp only [Act.put, List.setIfInBounds_toArray, List.set_cons_zero, List.set_cons_succ]
        refine wpAnyH_take (i := 13) (oi := ⟨some 74, _, _, _, _, _⟩) (v := ?_) rfl (by kernel_rfl) (by kernel_rfl) (by kernel_rfl) (fun _ _ _ h => h) (Or.inl ⟨by rfl, ?_⟩) (by assumption) ?_
        rotate_left
        · intro w hSw; (try dsimp only at hSw); go_simp; (try with_reducible rfl)
        try simp only [Act.put, List.setIfInBounds_toArray, List.set_cons_zero, List.set_cons_succ]
        refine wpAnyH_take (i := 14) (oi := ⟨some 75, _, _, _, _, _⟩) (v := ?_) rfl (by kernel_rfl) (by kernel_rfl) (by kernel_rfl) (fun _ _ _ h => h) (Or.inl ⟨by rfl, ?_⟩) (by assumption) ?_
        rotate_left
        · intro w hSw; (try dsimp only at hSw); go_simp; (try with_reducible rfl)
        try simp only [Act.put, List.setIfInBounds_toArray, List.set_cons_zero, List.set_cons_succ]
        refine wpAnyH_ready (rs := [15]) (by kernel_rfl) (by simp) ?_
        refine AllReadyH.cons (o := ⟨some 76, _, _, _, _, _⟩) rfl (fun K hK => ?_) (AllReadyH.nil)
        go_simp
        go_at_call 43
        refine (HKV.out _ hS1).mono ?_
        rintro e v2 ⟨rfl, kv2⟩
        have hS2 := Chg.trans hS1 kv2
        clear kv2
        go_wp2_with fail
        refine hK.out _ _ hS2 (fun _ => ?_)
        clear hK K
        try simp only [Act.put, List.setIfInBounds_toArray, List.set_cons_zero, List.set_cons_succ]
        refine wpAnyH_take (i := 16) (oi := ⟨some 77, _, _, _, _, _⟩) (v := ?_) rfl (by kernel_rfl) (by kernel_rfl) (by kernel_rfl) (fun _ _ _ h => h) (Or.inl ⟨by rfl, ?_⟩) (by assumption) ?_
        rotate_left
        · intro w hSw; (try dsimp only at hSw); go_simp; (try with_reducible rfl)
        try simp only [Act.put, List.setIfInBounds_toArray, List.set_cons_zero, List.set_cons_succ]
        refine wpAnyH_take (i := 17) (oi := ⟨some 6, _, _, _, _, _⟩) (v := ?_) rfl (by kernel_rfl) (by kernel_rfl) (by kernel_rfl) (fun _ _ _ h => h) (Or.inl ⟨by rfl, ?_⟩) (by assumption) ?_
        rotate_left
        · intro w hSw; (try dsimp only at hSw); go_simp; (try with_reducible rfl)
        try simp only [Act.put, List.setIfInBounds_toArray, List.set_cons_zero, List.set_cons_succ]
        refine wpAnyH_done (by kernel_rfl) ?_ _
        try simp only [Act.put]
        go_wp2_with fail
        go_ret
        exact ⟨rfl, HGW.out.trans hS2⟩
      · have hxz : ¬ X = Z := fun h => hlp (HIF.out.1 h)
        have hxb : (X == Z) = false := by rw [beq_eq_false_iff_ne]; exact hxz
        rw [decide_eq_false hlp] at HSP7
        clear hlp HIF
        go_upto_region 12 with fail
        refine wp_region_held_drew (S := fun v => Chg none w7.drew v) (by kernel_rfl) hS (fun _ => ?_)
        generalize w7.drew = v0 at *
        refine wpAnyH_take (i := 0) (oi := ⟨some 61, _, _, _, _, _⟩) (v := ?_) rfl (by kernel_rfl) (by kernel_rfl) (by kernel_rfl) (fun _ _ _ h => h) (Or.inl ⟨by rfl, ?_⟩) (by assumption) ?_
        rotate_left
        · intro w hSw; (try dsimp only at hSw); go_simp; (try with_reducible rfl)
        try simp only [Act.put, List.setIfInBounds_toArray, List.set_cons_zero, List.set_cons_succ]
        refine wpAnyH_take (i := 1) (oi := ⟨some 62, _, _, _, _, _⟩) (v := ?_) rfl (by kernel_rfl) (by kernel_rfl) (by kernel_rfl) (fun _ _ _ h => h) (Or.inl ⟨by rfl, ?_⟩) (by assumption) ?_
        rotate_left
        · intro w hSw; (try dsimp only at hSw); go_simp; (try with_reducible rfl)
        try simp only [Act.put, List.setIfInBounds_toArray, List.set_cons_zero, List.set_cons_succ]
        refine wpAnyH_take (i := 2) (oi := ⟨some 63, _, _, _, _, _⟩) (v := ?_) rfl (by kernel_rfl) (by kernel_rfl) (by kernel_rfl) (fun _ _ _ h => h) (Or.inl ⟨by rfl, ?_⟩) (by assumption) ?_
        rotate_left
        · intro w hSw; (try dsimp only at hSw); go_simp; (try with_reducible rfl)
        try simp only [Act.put, List.setIfInBounds_toArray, List.set_cons_zero, List.set_cons_succ]
        refine wpAnyH_take (i := 3) (oi := ⟨some 64, _, _, _, _, _⟩) (v := ?_) rfl (by kernel_rfl) (by kernel_rfl) (by kernel_rfl) (fun _ _ _ h => h) (Or.inl ⟨by rfl, ?_⟩) (by assumption) ?_
        rotate_left
        · intro w hSw; (try dsimp only at hSw); go_simp; (try with_reducible rfl)
        try simp only [Act.put, List.setIfInBounds_toArray, List.set_cons_zero, List.set_cons_succ]
        refine wpAnyH_take (i := 4) (oi := ⟨some 65, _, _, _, _, _⟩) (v := .string ⟨X.toArray⟩) rfl (by kernel_rfl) (by kernel_rfl) (by kernel_rfl) (fun _ _ _ h => h) (Or.inl ⟨by rfl, ?_⟩) (by assumption) ?_
        · intro v hSv; have hc := HCX.out v hSv; go_simp
        try simp only [Act.put, List.setIfInBounds_toArray, List.set_cons_zero, List.set_cons_succ]
        refine wpAnyH_take (i := 5) (oi := ⟨some 66, _, _, _, _, _⟩) (v := ?_) rfl (by kernel_rfl) (by kernel_rfl) (by kernel_rfl) (fun _ _ _ h => h) (Or.inl ⟨by rfl, ?_⟩) (by assumption) ?_
        rotate_left
        · intro w hSw; (try dsimp only at hSw); go_simp; (try with_reducible rfl)
        try simp only [Act.put, List.setIfInBounds_toArray, List.set_cons_zero, List.set_cons_succ]
        refine wpAnyH_take (i := 6) (oi := ⟨some 67, _, _, _, _, _⟩) (v := .string ⟨Z.toArray⟩) rfl (by kernel_rfl) (by kernel_rfl) (by kernel_rfl) (fun _ _ _ h => h) (Or.inl ⟨by rfl, ?_⟩) (by assumption) ?_
        · intro v hSv; have hc := HCZ.out v hSv; go_simp
        try simp only [Act.put, List.setIfInBounds_toArray, List.set_cons_zero, List.set_cons_succ]
        refine wpAnyH_take (i := 7) (oi := ⟨some 68, _, _, _, _, _⟩) (v := .bool false) rfl (by kernel_rfl) (by kernel_rfl) (by kernel_rfl) (fun _ _ _ h => h) (Or.inl ⟨by rfl, ?_⟩) (by assumption) ?_
        · intro v hSv; skip; go_simp
        try simp only [Act.put, List.setIfInBounds_toArray, List.set_cons_zero, List.set_cons_succ]
        refine wpAnyH_take (i := 8) (oi := ⟨some 69, _, _, _, _, _⟩) (v := ?_) rfl (by kernel_rfl) (by kernel_rfl) (by kernel_rfl) (fun _ _ _ h => h) (Or.inl ⟨by rfl, ?_⟩) (by assumption) ?_
        rotate_left
        · intro w hSw; (try dsimp only at hSw); go_simp; (try with_reducible rfl)
        try simp only [Act.put, List.setIfInBounds_toArray, List.set_cons_zero, List.set_cons_succ]
        refine wpAnyH_take (i := 9) (oi := ⟨some 70, _, _, _, _, _⟩) (v := .slice A L.length c) rfl (by kernel_rfl) (by kernel_rfl) (by kernel_rfl) (fun _ _ _ h => h) (Or.inl ⟨by rfl, ?_⟩) (by assumption) ?_
        · intro v hSv; have hc := HAV.out v hSv; go_simp
        try simp only [Act.put, List.setIfInBounds_toArray, List.set_cons_zero, List.set_cons_succ]
        refine wpAnyH_take (i := 10) (oi := ⟨some 71, _, _, _, _, _⟩) (v := ?_) rfl (by kernel_rfl) (by kernel_rfl) (by kernel_rfl) (fun _ _ _ h => h) (Or.inl ⟨by rfl, ?_⟩) (by assumption) ?_
        rotate_left
        · intro w hSw; (try dsimp only at hSw); go_simp; (try with_reducible rfl)
        try simp only [Act.put, List.setIfInBounds_toArray, List.set_cons_zero, List.set_cons_succ]
        refine wpAnyH_ready (rs := [11]) (by kernel_rfl) (by simp) ?_
        refine AllReadyH.cons (o := ⟨some 72, _, _, _, _, _⟩) rfl (fun K hK => ?_) (AllReadyH.nil)
        go_simp
        go_at_call 37
        refine (HSP7.out _ hS).mono ?_
        rintro e v1 ⟨rfl, kv1⟩
        have hS1 := Chg.trans hS kv1
        clear kv1
        go_wp2_with fail
        refine hK.out _ _ hS1 (fun _ => ?_)
        clear hK K
        try simp only [Act.put, List.setIfInBounds_toArray, List.set_cons_zero, List.set_cons_succ]
        refine wpAnyH_take (i := 12) (oi := ⟨some 73, _, _, _, _, _⟩) (v := ?_) rfl (by kernel_rfl) (by kernel_rfl) (by kernel_rfl) (fun _ _ _ h => h) (Or.inl ⟨by rfl, ?_⟩) (by assumption) ?_
        rotate_left
        · intro w hSw; (try dsimp only at hSw); go_simp; (try with_reducible rfl)
        try simp only [Act.put, List.setIfInBounds_toArray, List.set_cons_zero, List.set_cons_succ]
        refine wpAnyH_take (i := 13) (oi := ⟨some 74, _, _, _, _, _⟩) (v := ?_) rfl (by kernel_rfl) (by kernel_rfl) (by kernel_rfl) (fun _ _ _ h => h) (Or.inl ⟨by rfl, ?_⟩) (by assumption) ?_
        rotate_left
        · intro w hSw; (try dsimp only at hSw); go_simp; (try with_reducible rfl)
        try simp only [Act.put, List.setIfInBounds_toArray, List.set_cons_zero, List.set_cons_succ]
        refine wpAnyH_take (i := 14) (oi := ⟨some 75, _, _, _, _, _⟩) (v := ?_) rfl (by kernel_rfl) (by kernel_rfl) (by kernel_rfl) (fun _ _ _ h => h) (Or.inl ⟨by rfl, ?_⟩) (by assumption) ?_
        rotate_left
        · intro w hSw; (try dsimp only at hSw); go_simp; (try with_reducible rfl)
        try simp only [Act.put, List.setIfInBounds_toArray, List.set_cons_zero, List.set_cons_succ]
        refine wpAnyH_ready (rs := [15]) (by kernel_rfl) (by simp) ?_
        refine AllReadyH.cons (o := ⟨some 76, _, _, _, _, _⟩) rfl (fun K hK => ?_) (AllReadyH.nil)
        go_simp
        go_at_call 43
        refine (HKV.out _ hS1).mono ?_
        rintro e v2 ⟨rfl, kv2⟩
        have hS2 := Chg.trans hS1 kv2
        clear kv2
        go_wp2_with fail
        refine hK.out _ _ hS2 (fun _ => ?_)
        clear hK K
        try simp only [Act.put, List.setIfInBounds_toArray, List.set_cons_zero, List.set_cons_succ]
        refine wpAnyH_take (i := 16) (oi := ⟨some 77, _, _, _, _, _⟩) (v := ?_) rfl (by kernel_rfl) (by kernel_rfl) (by kernel_rfl) (fun _ _ _ h => h) (Or.inl ⟨by rfl, ?_⟩) (by assumption) ?_
        rotate_left
        · intro w hSw; (try dsimp only at hSw); go_simp; (try with_reducible rfl)
        try simp only [Act.put, List.setIfInBounds_toArray, List.set_cons_zero, List.set_cons_succ]
        refine wpAnyH_take (i := 17) (oi := ⟨some 6, _, _, _, _, _⟩) (v := ?_) rfl (by kernel_rfl) (by kernel_rfl) (by kernel_rfl) (fun _ _ _ h => h) (Or.inl ⟨by rfl, ?_⟩) (by assumption) ?_
        rotate_left
        · intro w hSw; (try dsimp only at hSw); go_simp; (try with_reducible rfl)
        try simp only [Act.put, List.setIfInBounds_toArray, List.set_cons_zero, List.set_cons_succ]
        refine wpAnyH_done (by kernel_rfl) ?_ _
        try simp only [Act.put]
        go_wp2_with fail
        go_ret
        exact ⟨rfl, HGW.out.trans hS2⟩

end Go.Proofs.YtglfakglcoffkaaDoor
