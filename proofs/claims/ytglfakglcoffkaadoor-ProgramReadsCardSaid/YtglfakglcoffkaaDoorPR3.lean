/-
  The document's program: Read.
-/
import Derived.Test.YtglfakglcoffkaaDoorPR4
namespace Go.Proofs.YtglfakglcoffkaaDoor
open Go.RowKit

/-- The state ahead of the j-th text, and the text. -/
def txtSt (bs : List UInt8) (s : Option Nat) : Nat → Option Nat
  | 0 => s
  | j + 1 => (txtS bs (txtSt bs s j)).2
def txtAt (bs : List UInt8) (s : Option Nat) (j : Nat) : List UInt8 := (txtS bs (txtSt bs s j)).1
def txtCells (bs : List UInt8) (s : Option Nat) (j : Nat) : Array Value :=
  #[.string ⟨(if 0 < j then txtAt bs s 0 else []).toArray⟩, .string ⟨(if 1 < j then txtAt bs s 1 else []).toArray⟩, .string ⟨(if 2 < j then txtAt bs s 2 else []).toArray⟩]
def numSt (bs : List UInt8) (s : Option Nat) : Nat → Option Nat
  | 0 => s
  | j + 1 => (numS bs 2000 (numSt bs s j)).2
def numAt (bs : List UInt8) (s : Option Nat) (j : Nat) : Nat := (numS bs 2000 (numSt bs s j)).1
def numCells (bs : List UInt8) (s : Option Nat) (j : Nat) : Array Value :=
  #[.int .u64 (if 0 < j then numAt bs s 0 else 0 : Nat), .int .u64 (if 1 < j then numAt bs s 1 else 0 : Nat)]
theorem insS_parts (bs : List UInt8) (s : Option Nat) :
    insS bs s = (⟨(numS bs 255 s).1, txtAt bs (numS bs 255 s).2 0, txtAt bs (numS bs 255 s).2 1, txtAt bs (numS bs 255 s).2 2, numAt bs (txtSt bs (numS bs 255 s).2 3) 0, numAt bs (txtSt bs (numS bs 255 s).2 3) 1⟩, numSt bs (txtSt bs (numS bs 255 s).2 3) 2) := rfl
theorem lost_op {bs : List UInt8} {s : Option Nat} (h : (numS bs 255 s).2 = none) : (insS bs s).2 = none := by
  rw [insS_parts, h]; rfl
theorem lost_txt {bs : List UInt8} {s : Option Nat} {j : Nat} (hj : j < 3) (h : (txtS bs (txtSt bs (numS bs 255 s).2 j)).2 = none) : (insS bs s).2 = none := by
  have h3 : txtSt bs (numS bs 255 s).2 3 = none := by
    rcases (show j = 0 ∨ j = 1 ∨ j = 2 by omega) with rfl | rfl | rfl
    · show (txtS bs (txtS bs (txtS bs _).2).2).2 = none
      have h' : (txtS bs (numS bs 255 s).2).2 = none := h
      rw [show txtSt bs (numS bs 255 s).2 0 = (numS bs 255 s).2 from rfl, h']; rfl
    · show (txtS bs (txtSt bs (numS bs 255 s).2 2)).2 = none
      rw [show txtSt bs (numS bs 255 s).2 2 = none from h]; rfl
    · exact h
  rw [insS_parts, h3]; rfl
theorem lost_num {bs : List UInt8} {s : Option Nat} {j : Nat} (hj : j < 2) (h : (numS bs 2000 (numSt bs (txtSt bs (numS bs 255 s).2 3) j)).2 = none) : (insS bs s).2 = none := by
  rw [insS_parts]
  rcases (show j = 0 ∨ j = 1 by omega) with rfl | rfl
  · show (numS bs 2000 (numSt bs _ 1)).2 = none
    rw [show numSt bs (txtSt bs (numS bs 255 s).2 3) 1 = none from h]; rfl
  · exact h

set_option maxHeartbeats 32000000 in
set_option maxRecDepth 100000 in
theorem refread_any (A : Option Addr) (bs : List UInt8) (c : Nat) (w : World) (hr : Reads w w.heap.size 1 A bs.length (byteVals bs)) (hl : bs.length ≤ 1000000) :
    Calls Tryd.prog 41 #[.slice A bs.length c] w (ToldQ w (readP bs)) := by
  obtain ⟨i0, hi, hz0, hz1, hz2⟩ := info_parts Tryd.info61
  have HU : Hid (∀ (pl : Int) v, Chg none w v → Calls Tryd.prog 76 #[.slice A bs.length c, .int .i64 pl] v (Told3 v (readU bs pl))) := fun pl v g => refUint_any A bs c pl v ((hr.below (g.belowNone (Nat.le_refl _))).more g.size) hl
  have HB : Hid (∀ (pl : Int) v, Chg none w v → Calls Tryd.prog 77 #[.slice A bs.length c, .int .i64 pl, .int .i64 40] v (ToldB v (readB bs pl 40))) := fun pl v g => refBytes_any A bs c pl 40 v ((hr.below (g.belowNone (Nat.le_refl _))).more g.size) hl (by decide)
  clear hr
  have HRP : Hid (readP bs = if (listS bs (numS bs 30 (some 0)).1 (numS bs 30 (some 0)).2).2 = some bs.length ∧ mayB (listS bs (numS bs 30 (some 0)).1 (numS bs 30 (some 0)).2).1 = true then some (listS bs (numS bs 30 (some 0)).1 (numS bs 30 (some 0)).2).1 else none) := rfl
  have HLO := Lib.hid (fun (h : (numS bs 30 (some 0)).2 = none) => readP_lost (bs := bs) h)
  have HLA := Lib.hid (fun k (hk : k < (numS bs 30 (some 0)).1) h => readP_lost_at (bs := bs) (k := k) hk h)
  have HLP := Lib.hid (fun k (hk : k < (numS bs 30 (some 0)).1) h => readP_op (bs := bs) (k := k) hk h)
  generalize readP bs = RP at *
  obtain ⟨n, nx, er, hq⟩ : ∃ n nx er, readU bs 0 = (n, nx, er) := ⟨_, _, _, rfl⟩
  have HQ : Hid (readU bs ((0 : Nat) : Int) = (n, nx, er)) := hq
  have HU0 := Lib.hid (HU.out 0 w (Chg.refl _ _))
  rw [hq] at HU0
  have hwl := readU_well bs 0
  rw [hq] at hwl
  have hok := hwl.ok
  dsimp only at hok
  clear hq hwl
  by_cases he : er = 0 ∧ n ≤ 30
  rotate_left
  · have hno : RP = none := HLO.out (by rw [numS_no HQ.out he])
    have HNO := Lib.hid hno
    clear hno
    by_cases he0 : er = 0
    · subst he0
      have dm : decide (30 < n) = true := by rw [decide_eq_true_eq]; omega
      have dm2 : decide ((30 : Int) < (n : Int)) = true := by rw [decide_eq_true_eq]; omega
      clear he hok
      as_aux_lemma =>
        go_enter Tryd.func41, Tryd.ntmps41
        go_wp2_with fail
        refine HU0.out.mono ?_
        rintro e v1 ⟨rfl, rfl⟩
        go_wp2_with fail
        go_ret2
        exact .inl ⟨HNO.out, rfl, Chg.refl _ _⟩
    · have d0 : (er != 0) = true := by rw [bne_iff_ne]; exact he0
      have d1 : (er == 0) = false := by rw [beq_eq_false_iff_ne]; exact he0
      clear he he0 hok
      as_aux_lemma =>
        go_enter Tryd.func41, Tryd.ntmps41
        go_wp2_with fail
        refine HU0.out.mono ?_
        rintro e v1 ⟨rfl, rfl⟩
        go_wp2_with fail
        go_ret2
        exact .inl ⟨HNO.out, rfl, Chg.refl _ _⟩
  obtain ⟨rfl, hn30⟩ := he
  obtain ⟨X0, hX0⟩ : ∃ X0 : Nat, nx = X0 := ⟨nx.toNat, by have := hok rfl; omega⟩
  subst hX0
  have e0 := numS_ok (most := 30) HQ.out hn30
  rw [Int.toNat_natCast] at e0
  rw [e0] at HRP HLA HLP
  dsimp only at HRP HLA HLP
  have dm : decide (30 < n) = false := by rw [decide_eq_false_iff_not]; omega
  have dm2 : decide ((30 : Int) < (n : Int)) = false := by rw [decide_eq_false_iff_not]; omega
  have HN := Lib.hid hn30
  clear e0 hok hn30 HLO HQ
  go_enter Tryd.func41, Tryd.ntmps41
  go_wp2_with fail
  refine HU0.out.mono ?_
  rintro e v1 ⟨rfl, rfl⟩
  clear HU0
  go_wp2_with fail
  clear dm dm2
  go_loopw [5, 7, 8] (fun s5 s7 s8 wr => ∃ (k : Nat) (A1 : Option Addr) (c1 at_ : Nat), s8 = .int .u64 k ∧ s5 = .int .i64 at_ ∧ s7 = .slice A1 k c1 ∧ Hid (k ≤ n) ∧ Hid (wr.ownsRow w.heap.size 61 6 (.slice A1 k c1) k ((listS bs k (some X0)).1.flatMap insCells)) ∧ Hid ((listS bs k (some X0)).2 = some at_) ∧ Hid (Chg none w wr)) (fun _ _ s8 _ => n - (intOf s8).toNat)
  case atStart => exact ⟨0, none, 0, X0, rfl, rfl, rfl, Lib.hid (Nat.zero_le _), Lib.hid (World.ownsRow_nil _ _ _ _), Lib.hid rfl, Lib.hid (Chg.refl _ _)⟩
  case round =>
    obtain ⟨k, A1, c1, at_, rfl, rfl, rfl, H1, H2, H3, H4⟩ := hrel
    by_cases hlt : k < n
    · have hd : decide ((k : Int) < (n : Int)) = true := by rw [decide_eq_true_eq]; omega
      have hd2 : decide (k < n) = true := by rw [decide_eq_true_eq]; exact hlt
      have HLT := Lib.hid hlt
      have HL1 := Lib.hid (HLA.out k hlt)
      have HL2 := Lib.hid (HLP.out k hlt)
      rw [H3.out] at HL1 HL2
      obtain ⟨V0, hV⟩ : ∃ V0, V0 = wr := ⟨_, rfl⟩
      rw [← hV] at H2 H4 ⊢
      clear hV hlt HLA HLP HRP
      have hsz : w.heap.size ≤ V0.heap.size := H4.out.size
      have HSZ := Lib.hid hsz
      go_wp2_with fail
      have HG0 : Hid (Chg none V0 (V0.alloc (.cells #[.int .u8 0, .string ⟨#[]⟩, .string ⟨#[]⟩, .string ⟨#[]⟩, .int .i64 0, .int .i64 0] 61))) := (Chg.refl _ _).alloc _
      have HX0 : Hid (Blk (V0.alloc (.cells #[.int .u8 0, .string ⟨#[]⟩, .string ⟨#[]⟩, .string ⟨#[]⟩, .int .i64 0, .int .i64 0] 61)) V0.heap.size #[.int .u8 0, .string ⟨#[]⟩, .string ⟨#[]⟩, .string ⟨#[]⟩, .int .i64 0, .int .i64 0] 61) := blk_newAt _ _ _ rfl
      generalize V0.alloc (.cells #[.int .u8 0, .string ⟨#[]⟩, .string ⟨#[]⟩, .string ⟨#[]⟩, .int .i64 0, .int .i64 0] 61) = W0 at *
      obtain ⟨PX, hPX⟩ : ∃ PX, PX = V0.heap.size := ⟨_, rfl⟩
      rw [← hPX] at HX0 ⊢
      have HPX : Hid (V0.heap.size ≤ PX) := Nat.le_of_eq hPX.symm
      clear hPX hsz
      obtain ⟨o, nx1, er1, hq1⟩ : ∃ o nx1 er1, readU bs at_ = (o, nx1, er1) := ⟨_, _, _, rfl⟩
      have HU1 := Lib.hid (HU.out at_ W0 (H4.out.trans HG0.out))
      rw [hq1] at HU1
      have hw1 := readU_well bs at_
      rw [hq1] at hw1
      have hok1 := hw1.ok
      dsimp only at hok1
      have HQ1 := Lib.hid hq1
      clear hq1 hw1
      refine HU1.out.mono ?_
      rintro e v2 ⟨rfl, rfl⟩
      clear HU1
      by_cases he1 : er1 = 0
      rotate_left
      · have hno : RP = none := HL1.out (lost_op (by rw [numS_no HQ1.out (fun h => he1 h.1)]))
        have HNO := Lib.hid hno
        have d0 : (er1 != 0) = true := by rw [bne_iff_ne]; exact he1
        have d1 : (er1 == 0) = false := by rw [beq_eq_false_iff_ne]; exact he1
        clear hno he1 hok1 HL1 HL2
        as_aux_lemma =>
          go_wp2_with fail
          go_ret2
          exact .inl ⟨HNO.out, rfl, H4.out.trans HG0.out⟩
      subst he1
      by_cases ho : o ≤ 11
      rotate_left
      · have hno : RP = none := by
          by_cases h2 : o ≤ 255
          · exact HL2.out (by rw [insS_parts, numS_ok HQ1.out h2]; dsimp only; omega)
          · exact HL1.out (lost_op (by rw [numS_no HQ1.out (fun h => h2 h.2)]))
        have HNO := Lib.hid hno
        have d0 : decide (11 < o) = true := by rw [decide_eq_true_eq]; omega
        have d1 : decide ((11 : Int) < (o : Int)) = true := by rw [decide_eq_true_eq]; omega
        clear hno ho hok1 HL1 HL2
        as_aux_lemma =>
          go_wp2_with fail
          go_ret2
          exact .inl ⟨HNO.out, rfl, H4.out.trans HG0.out⟩
      obtain ⟨X1, hX1⟩ : ∃ X1 : Nat, nx1 = X1 := ⟨nx1.toNat, by have := hok1 rfl; omega⟩
      subst hX1
      have e1 := numS_ok (most := 255) HQ1.out (by omega)
      rw [Int.toNat_natCast] at e1
      have HE1 := Lib.hid e1
      have do1 : decide (11 < o) = false := by rw [decide_eq_false_iff_not]; omega
      have do2 : decide ((11 : Int) < (o : Int)) = false := by rw [decide_eq_false_iff_not]; omega
      have hw8 : IntKind.u8.wrap (o : Int) = (o : Int) := by rw [IntKind.wrap_u8]; omega
      have x0 : W0.cell? ⟨PX, 0, none⟩ = some (.int .u8 0) := HX0.out.cell 0
      have y0 : W0.frozen? ⟨PX, 0, none⟩ = false := HX0.out.frozen 0
      have HX1 : Hid (Blk (W0.setCell ⟨PX, 0, none⟩ (.int .u8 (o : Nat))) PX #[.int .u8 (o : Nat), .string ⟨#[]⟩, .string ⟨#[]⟩, .string ⟨#[]⟩, .int .i64 0, .int .i64 0] 61) := HX0.out.set 0 _
      have HG1 : Hid (Chg none V0 (W0.setCell ⟨PX, 0, none⟩ (.int .u8 (o : Nat)))) := HG0.out.setNew _ HPX.out _
      clear e1 hok1 ho HQ1 HL2
      go_upto_region 14 with fail
      clear x0 y0 do1 do2 hw8 HX0 HG0
      generalize W0.setCell ⟨PX, 0, none⟩ (.int .u8 (o : Nat)) = W1 at *
      go_upto_region 16 with fail
      have HG2 : Hid (Chg none V0 (W1.alloc (.cells #[.string ⟨#[]⟩, .string ⟨#[]⟩, .string ⟨#[]⟩] 100))) := HG1.out.alloc _
      have HX2 : Hid (Blk (W1.alloc (.cells #[.string ⟨#[]⟩, .string ⟨#[]⟩, .string ⟨#[]⟩] 100)) PX #[.int .u8 (o : Nat), .string ⟨#[]⟩, .string ⟨#[]⟩, .string ⟨#[]⟩, .int .i64 0, .int .i64 0] 61) := HX1.out.alloc _
      have HS2 : Hid (Blk (W1.alloc (.cells #[.string ⟨#[]⟩, .string ⟨#[]⟩, .string ⟨#[]⟩] 100)) W1.heap.size (txtCells bs (numS bs 255 (some at_)).2 0) 100) := blk_newAt _ _ _ rfl
      generalize W1.alloc (.cells #[.string ⟨#[]⟩, .string ⟨#[]⟩, .string ⟨#[]⟩] 100) = W2 at *
      have HPS : Hid (V0.heap.size ≤ W1.heap.size) := HG1.out.size
      have HXS : Hid (W1.heap.size ≠ PX) := by have := HX1.out.lt; show _ ≠ _; omega
      clear HX1 HG1
      generalize W1.heap.size = PS at *
      have T0 : Hid (txtSt bs (numS bs 255 (some at_)).2 0 = some X1) := by show (numS bs 255 (some at_)).2 = _; rw [HE1.out]
      go_loopw [5, 14] (fun s5 s14 wq => ∃ (j a2 : Nat), s14 = .int .i64 j ∧ s5 = .int .i64 a2 ∧ Hid (j ≤ 3) ∧ Hid (txtSt bs (numS bs 255 (some at_)).2 j = some a2) ∧ Hid (Blk wq PX #[.int .u8 (o : Nat), .string ⟨#[]⟩, .string ⟨#[]⟩, .string ⟨#[]⟩, .int .i64 0, .int .i64 0] 61) ∧ Hid (Blk wq PS (txtCells bs (numS bs 255 (some at_)).2 j) 100) ∧ Hid (Chg none V0 wq)) (fun _ s14 _ => 3 - (intOf s14).toNat)
      case atStart => exact ⟨0, X1, rfl, rfl, Lib.hid (by decide), T0, HX2, HS2, HG2⟩
      case round =>
        clear T0 HX2 HS2 HG2
        obtain ⟨j, a2, rfl, rfl, J1, J2, JX, JS, JG⟩ := hrel
        have hj3 := J1.out
        rcases (show j = 0 ∨ j = 1 ∨ j = 2 ∨ j = 3 by omega) with rfl | rfl | rfl | hje
        · clear hj3
          obtain ⟨l, nx2, er2, hq2⟩ : ∃ l nx2 er2, readB bs a2 40 = (l, nx2, er2) := ⟨_, _, _, rfl⟩
          have HB2 := Lib.hid (HB.out a2 wr (H4.out.trans JG.out))
          have hnn := readB_place bs a2 40
          rw [hq2] at HB2 hnn
          dsimp only at hnn
          have HQ2 := Lib.hid hq2
          clear hq2
          go_wp2_with fail
          refine HB2.out.mono ?_
          rintro e v3 ⟨A3, n3, c3, rfl, -, hown3, hb3⟩
          have k3 : Chg none wr v3 := ⟨hb3.os, hb3.tape, hb3.output, hb3.size, fun k hk _ => hb3.block k hk⟩
          have JX3 := Lib.hid (JX.out.chg k3 (by simp))
          have JS3 := Lib.hid (JS.out.chg k3 (by simp))
          have JG3 := Lib.hid (JG.out.trans k3)
          have hcv := fun v (g : Chg none v3 v) => conv_own v (own_chgW hown3 g)
          dsimp only at hcv
          have HCV := Lib.hid hcv
          clear HB2 hown3 hb3 k3 hcv
          by_cases he2 : er2 = 0
          rotate_left
          · have hno : RP = none := HL1.out (lost_txt (j := 0) (by decide) (by rw [J2.out, txtS_no HQ2.out he2]))
            have HNO := Lib.hid hno
            have d0 : (er2 != 0) = true := by rw [bne_iff_ne]; exact he2
            have d1 : (er2 == 0) = false := by rw [beq_eq_false_iff_ne]; exact he2
            clear hno he2 hnn HL1
            as_aux_lemma =>
              go_wp2_with fail
              go_ret2
              exact .inl ⟨HNO.out, rfl, H4.out.trans JG3.out⟩
          subst he2
          obtain ⟨X2, hX2⟩ : ∃ X2 : Nat, nx2 = X2 := ⟨nx2.toNat, by have := hnn rfl; omega⟩
          subst hX2
          have e2 := txtS_ok HQ2.out
          rw [Int.toNat_natCast, ← J2.out] at e2
          have HTA : Hid (txtAt bs (numS bs 255 (some at_)).2 0 = l) := by show (txtS bs (txtSt bs _ 0)).1 = l; rw [e2]
          have HTS : Hid (txtSt bs (numS bs 255 (some at_)).2 1 = some X2) := by show (txtS bs (txtSt bs _ 0)).2 = _; rw [e2]
          have hcv := HCV.out v3 (Chg.refl _ _)
          have s0 : ∃ z, v3.cell? ⟨PS, 0, none⟩ = some z := ⟨_, JS3.out.cell 0⟩
          obtain ⟨z0, s0⟩ := s0
          have t0 : v3.frozen? ⟨PS, 0, none⟩ = false := JS3.out.frozen 0
          have JX4 : Hid (Blk (v3.setCell ⟨PS, 0, none⟩ (.string ⟨l.toArray⟩)) PX #[.int .u8 (o : Nat), .string ⟨#[]⟩, .string ⟨#[]⟩, .string ⟨#[]⟩, .int .i64 0, .int .i64 0] 61) := JX3.out.setOther _ _ (fun h => HXS.out h.symm)
          have JS4 : Hid (Blk (v3.setCell ⟨PS, 0, none⟩ (.string ⟨l.toArray⟩)) PS (txtCells bs (numS bs 255 (some at_)).2 1) 100) := by
            have h := JS3.out.set 0 (.string ⟨l.toArray⟩)
            rw [← HTA.out] at h ⊢
            exact h
          have JG4 : Hid (Chg none V0 (v3.setCell ⟨PS, 0, none⟩ (.string ⟨l.toArray⟩))) := JG3.out.setNew _ HPS.out _
          clear e2 hnn HQ2 J2 JX JS JG JX3 JS3 JG3 HCV
          go_upto_region 22 with fail
          clear s0 t0 hcv
          generalize v3.setCell ⟨PS, 0, none⟩ (.string ⟨l.toArray⟩) = W4 at *
          go_wp2_with fail
          go_roundw
          case rel => exact ⟨1, X2, by first | rfl | (simp; done), rfl, Lib.hid (by decide), HTS, JX4, JS4, JG4⟩
          case measure => first | omega | (simp only [intOf]; omega) | (simp [intOf]; done)
        · clear hj3
          obtain ⟨l, nx2, er2, hq2⟩ : ∃ l nx2 er2, readB bs a2 40 = (l, nx2, er2) := ⟨_, _, _, rfl⟩
          have HB2 := Lib.hid (HB.out a2 wr (H4.out.trans JG.out))
          have hnn := readB_place bs a2 40
          rw [hq2] at HB2 hnn
          dsimp only at hnn
          have HQ2 := Lib.hid hq2
          clear hq2
          go_wp2_with fail
          refine HB2.out.mono ?_
          rintro e v3 ⟨A3, n3, c3, rfl, -, hown3, hb3⟩
          have k3 : Chg none wr v3 := ⟨hb3.os, hb3.tape, hb3.output, hb3.size, fun k hk _ => hb3.block k hk⟩
          have JX3 := Lib.hid (JX.out.chg k3 (by simp))
          have JS3 := Lib.hid (JS.out.chg k3 (by simp))
          have JG3 := Lib.hid (JG.out.trans k3)
          have hcv := fun v (g : Chg none v3 v) => conv_own v (own_chgW hown3 g)
          dsimp only at hcv
          have HCV := Lib.hid hcv
          clear HB2 hown3 hb3 k3 hcv
          by_cases he2 : er2 = 0
          rotate_left
          · have hno : RP = none := HL1.out (lost_txt (j := 1) (by decide) (by rw [J2.out, txtS_no HQ2.out he2]))
            have HNO := Lib.hid hno
            have d0 : (er2 != 0) = true := by rw [bne_iff_ne]; exact he2
            have d1 : (er2 == 0) = false := by rw [beq_eq_false_iff_ne]; exact he2
            clear hno he2 hnn HL1
            as_aux_lemma =>
              go_wp2_with fail
              go_ret2
              exact .inl ⟨HNO.out, rfl, H4.out.trans JG3.out⟩
          subst he2
          obtain ⟨X2, hX2⟩ : ∃ X2 : Nat, nx2 = X2 := ⟨nx2.toNat, by have := hnn rfl; omega⟩
          subst hX2
          have e2 := txtS_ok HQ2.out
          rw [Int.toNat_natCast, ← J2.out] at e2
          have HTA : Hid (txtAt bs (numS bs 255 (some at_)).2 1 = l) := by show (txtS bs (txtSt bs _ 1)).1 = l; rw [e2]
          have HTS : Hid (txtSt bs (numS bs 255 (some at_)).2 2 = some X2) := by show (txtS bs (txtSt bs _ 1)).2 = _; rw [e2]
          have hcv := HCV.out v3 (Chg.refl _ _)
          have s0 : ∃ z, v3.cell? ⟨PS, 1, none⟩ = some z := ⟨_, JS3.out.cell 1⟩
          obtain ⟨z0, s0⟩ := s0
          have t0 : v3.frozen? ⟨PS, 1, none⟩ = false := JS3.out.frozen 1
          have JX4 : Hid (Blk (v3.setCell ⟨PS, 1, none⟩ (.string ⟨l.toArray⟩)) PX #[.int .u8 (o : Nat), .string ⟨#[]⟩, .string ⟨#[]⟩, .string ⟨#[]⟩, .int .i64 0, .int .i64 0] 61) := JX3.out.setOther _ _ (fun h => HXS.out h.symm)
          have JS4 : Hid (Blk (v3.setCell ⟨PS, 1, none⟩ (.string ⟨l.toArray⟩)) PS (txtCells bs (numS bs 255 (some at_)).2 2) 100) := by
            have h := JS3.out.set 1 (.string ⟨l.toArray⟩)
            rw [← HTA.out] at h ⊢
            exact h
          have JG4 : Hid (Chg none V0 (v3.setCell ⟨PS, 1, none⟩ (.string ⟨l.toArray⟩))) := JG3.out.setNew _ HPS.out _
          clear e2 hnn HQ2 J2 JX JS JG JX3 JS3 JG3 HCV
          go_upto_region 22 with fail
          clear s0 t0 hcv
          generalize v3.setCell ⟨PS, 1, none⟩ (.string ⟨l.toArray⟩) = W4 at *
          go_wp2_with fail
          go_roundw
          case rel => exact ⟨2, X2, by first | rfl | (simp; done), rfl, Lib.hid (by decide), HTS, JX4, JS4, JG4⟩
          case measure => first | omega | (simp only [intOf]; omega) | (simp [intOf]; done)
        · clear hj3
          obtain ⟨l, nx2, er2, hq2⟩ : ∃ l nx2 er2, readB bs a2 40 = (l, nx2, er2) := ⟨_, _, _, rfl⟩
          have HB2 := Lib.hid (HB.out a2 wr (H4.out.trans JG.out))
          have hnn := readB_place bs a2 40
          rw [hq2] at HB2 hnn
          dsimp only at hnn
          have HQ2 := Lib.hid hq2
          clear hq2
          go_wp2_with fail
          refine HB2.out.mono ?_
          rintro e v3 ⟨A3, n3, c3, rfl, -, hown3, hb3⟩
          have k3 : Chg none wr v3 := ⟨hb3.os, hb3.tape, hb3.output, hb3.size, fun k hk _ => hb3.block k hk⟩
          have JX3 := Lib.hid (JX.out.chg k3 (by simp))
          have JS3 := Lib.hid (JS.out.chg k3 (by simp))
          have JG3 := Lib.hid (JG.out.trans k3)
          have hcv := fun v (g : Chg none v3 v) => conv_own v (own_chgW hown3 g)
          dsimp only at hcv
          have HCV := Lib.hid hcv
          clear HB2 hown3 hb3 k3 hcv
          by_cases he2 : er2 = 0
          rotate_left
          · have hno : RP = none := HL1.out (lost_txt (j := 2) (by decide) (by rw [J2.out, txtS_no HQ2.out he2]))
            have HNO := Lib.hid hno
            have d0 : (er2 != 0) = true := by rw [bne_iff_ne]; exact he2
            have d1 : (er2 == 0) = false := by rw [beq_eq_false_iff_ne]; exact he2
            clear hno he2 hnn HL1
            as_aux_lemma =>
              go_wp2_with fail
              go_ret2
              exact .inl ⟨HNO.out, rfl, H4.out.trans JG3.out⟩
          subst he2
          obtain ⟨X2, hX2⟩ : ∃ X2 : Nat, nx2 = X2 := ⟨nx2.toNat, by have := hnn rfl; omega⟩
          subst hX2
          have e2 := txtS_ok HQ2.out
          rw [Int.toNat_natCast, ← J2.out] at e2
          have HTA : Hid (txtAt bs (numS bs 255 (some at_)).2 2 = l) := by show (txtS bs (txtSt bs _ 2)).1 = l; rw [e2]
          have HTS : Hid (txtSt bs (numS bs 255 (some at_)).2 3 = some X2) := by show (txtS bs (txtSt bs _ 2)).2 = _; rw [e2]
          have hcv := HCV.out v3 (Chg.refl _ _)
          have s0 : ∃ z, v3.cell? ⟨PS, 2, none⟩ = some z := ⟨_, JS3.out.cell 2⟩
          obtain ⟨z0, s0⟩ := s0
          have t0 : v3.frozen? ⟨PS, 2, none⟩ = false := JS3.out.frozen 2
          have JX4 : Hid (Blk (v3.setCell ⟨PS, 2, none⟩ (.string ⟨l.toArray⟩)) PX #[.int .u8 (o : Nat), .string ⟨#[]⟩, .string ⟨#[]⟩, .string ⟨#[]⟩, .int .i64 0, .int .i64 0] 61) := JX3.out.setOther _ _ (fun h => HXS.out h.symm)
          have JS4 : Hid (Blk (v3.setCell ⟨PS, 2, none⟩ (.string ⟨l.toArray⟩)) PS (txtCells bs (numS bs 255 (some at_)).2 3) 100) := by
            have h := JS3.out.set 2 (.string ⟨l.toArray⟩)
            rw [← HTA.out] at h ⊢
            exact h
          have JG4 : Hid (Chg none V0 (v3.setCell ⟨PS, 2, none⟩ (.string ⟨l.toArray⟩))) := JG3.out.setNew _ HPS.out _
          clear e2 hnn HQ2 J2 JX JS JG JX3 JS3 JG3 HCV
          go_upto_region 22 with fail
          clear s0 t0 hcv
          generalize v3.setCell ⟨PS, 2, none⟩ (.string ⟨l.toArray⟩) = W4 at *
          go_wp2_with fail
          go_roundw
          case rel => exact ⟨3, X2, by first | rfl | (simp; done), rfl, Lib.hid (by decide), HTS, JX4, JS4, JG4⟩
          case measure => first | omega | (simp only [intOf]; omega) | (simp [intOf]; done)
        · have hd3 : decide (j < 3) = false := by rw [decide_eq_false_iff_not]; omega
          have hd4 : decide ((j : Int) < 3) = false := by rw [decide_eq_false_iff_not]; omega
          rw [hje] at J2 JS
          clear hje J1 hj3
          go_upto_region 25 with fail
          have HG3 : Hid (Chg none V0 (wr.alloc (.cells #[.int .u64 0, .int .u64 0] 108))) := JG.out.alloc _
          have HX3 : Hid (Blk (wr.alloc (.cells #[.int .u64 0, .int .u64 0] 108)) PX #[.int .u8 (o : Nat), .string ⟨#[]⟩, .string ⟨#[]⟩, .string ⟨#[]⟩, .int .i64 0, .int .i64 0] 61) := JX.out.alloc _
          have HS3 : Hid (Blk (wr.alloc (.cells #[.int .u64 0, .int .u64 0] 108)) PS (txtCells bs (numS bs 255 (some at_)).2 3) 100) := JS.out.alloc _
          have HM3 : Hid (Blk (wr.alloc (.cells #[.int .u64 0, .int .u64 0] 108)) wr.heap.size (numCells bs (txtSt bs (numS bs 255 (some at_)).2 3) 0) 108) := blk_newAt _ _ _ rfl
          generalize wr.alloc (.cells #[.int .u64 0, .int .u64 0] 108) = W3 at *
          have HPM : Hid (V0.heap.size ≤ wr.heap.size) := JG.out.size
          have HXM : Hid (wr.heap.size ≠ PX ∧ wr.heap.size ≠ PS) := by have h1 := JX.out.lt; have h2 := JS.out.lt; show _ ≠ _ ∧ _ ≠ _; omega
          clear JX JS JG
          generalize wr.heap.size = PM at *
          go_loopw [5, 19] (fun s5 s19 wq => ∃ (i a3 : Nat), s19 = .int .i64 i ∧ s5 = .int .i64 a3 ∧ Hid (i ≤ 2) ∧ Hid (numSt bs (txtSt bs (numS bs 255 (some at_)).2 3) i = some a3) ∧ Hid (Blk wq PX #[.int .u8 (o : Nat), .string ⟨#[]⟩, .string ⟨#[]⟩, .string ⟨#[]⟩, .int .i64 0, .int .i64 0] 61) ∧ Hid (Blk wq PS (txtCells bs (numS bs 255 (some at_)).2 3) 100) ∧ Hid (Blk wq PM (numCells bs (txtSt bs (numS bs 255 (some at_)).2 3) i) 108) ∧ Hid (Chg none V0 wq)) (fun _ s19 _ => 2 - (intOf s19).toNat)
          case atStart => exact ⟨0, a2, rfl, rfl, Lib.hid (by decide), J2, HX3, HS3, HM3, HG3⟩
          case round =>
            clear HX3 HS3 HM3 HG3 J2
            obtain ⟨i, a3, rfl, rfl, I1, I2, IX, IS, IM, IG⟩ := hrel
            have hi3 := I1.out
            rcases (show i = 0 ∨ i = 1 ∨ i = 2 by omega) with rfl | rfl | hie
            · clear hi3
              obtain ⟨u, nx3, er3, hq3⟩ : ∃ u nx3 er3, readU bs a3 = (u, nx3, er3) := ⟨_, _, _, rfl⟩
              have HU3 := Lib.hid (HU.out a3 wr (H4.out.trans IG.out))
              rw [hq3] at HU3
              have hw3 := readU_well bs a3
              rw [hq3] at hw3
              have hok3 := hw3.ok
              dsimp only at hok3
              have HQ3 := Lib.hid hq3
              clear hq3 hw3
              go_wp2_with fail
              refine HU3.out.mono ?_
              rintro e v5 ⟨rfl, rfl⟩
              clear HU3
              by_cases he3 : er3 = 0
              rotate_left
              · have hno : RP = none := HL1.out (lost_num (j := 0) (by decide) (by rw [I2.out, numS_no HQ3.out (fun h => he3 h.1)]))
                have HNO := Lib.hid hno
                have d0 : (er3 != 0) = true := by rw [bne_iff_ne]; exact he3
                have d1 : (er3 == 0) = false := by rw [beq_eq_false_iff_ne]; exact he3
                clear hno he3 hok3 HL1
                as_aux_lemma =>
                  go_wp2_with fail
                  go_ret2
                  exact .inl ⟨HNO.out, rfl, H4.out.trans IG.out⟩
              subst he3
              by_cases hu : u ≤ 2000
              rotate_left
              · have hno : RP = none := HL1.out (lost_num (j := 0) (by decide) (by rw [I2.out, numS_no HQ3.out (fun h => hu h.2)]))
                have HNO := Lib.hid hno
                have d0 : decide (2000 < u) = true := by rw [decide_eq_true_eq]; omega
                have d1 : decide ((2000 : Int) < (u : Int)) = true := by rw [decide_eq_true_eq]; omega
                clear hno hu hok3 HL1
                as_aux_lemma =>
                  go_wp2_with fail
                  go_ret2
                  exact .inl ⟨HNO.out, rfl, H4.out.trans IG.out⟩
              obtain ⟨X3, hX3⟩ : ∃ X3 : Nat, nx3 = X3 := ⟨nx3.toNat, by have := hok3 rfl; omega⟩
              subst hX3
              have e3 := numS_ok (most := 2000) HQ3.out hu
              rw [Int.toNat_natCast, ← I2.out] at e3
              have HNA : Hid (numAt bs (txtSt bs (numS bs 255 (some at_)).2 3) 0 = u) := by show (numS bs 2000 (numSt bs _ 0)).1 = u; rw [e3]
              have HNS : Hid (numSt bs (txtSt bs (numS bs 255 (some at_)).2 3) 1 = some X3) := by show (numS bs 2000 (numSt bs _ 0)).2 = _; rw [e3]
              have d2 : decide (2000 < u) = false := by rw [decide_eq_false_iff_not]; omega
              have d3 : decide ((2000 : Int) < (u : Int)) = false := by rw [decide_eq_false_iff_not]; omega
              obtain ⟨z0, s0⟩ : ∃ z, wr.cell? ⟨PM, 0, none⟩ = some z := ⟨_, IM.out.cell 0⟩
              have t0 : wr.frozen? ⟨PM, 0, none⟩ = false := IM.out.frozen 0
              have IX4 : Hid (Blk (wr.setCell ⟨PM, 0, none⟩ (.int .u64 (u : Nat))) PX #[.int .u8 (o : Nat), .string ⟨#[]⟩, .string ⟨#[]⟩, .string ⟨#[]⟩, .int .i64 0, .int .i64 0] 61) := IX.out.setOther _ _ (fun h => HXM.out.1 h.symm)
              have IS4 : Hid (Blk (wr.setCell ⟨PM, 0, none⟩ (.int .u64 (u : Nat))) PS (txtCells bs (numS bs 255 (some at_)).2 3) 100) := IS.out.setOther _ _ (fun h => HXM.out.2 h.symm)
              have IM4 : Hid (Blk (wr.setCell ⟨PM, 0, none⟩ (.int .u64 (u : Nat))) PM (numCells bs (txtSt bs (numS bs 255 (some at_)).2 3) 1) 108) := by
                have h := IM.out.set 0 (.int .u64 (u : Nat))
                rw [← HNA.out] at h ⊢
                exact h
              have IG4 : Hid (Chg none V0 (wr.setCell ⟨PM, 0, none⟩ (.int .u64 (u : Nat)))) := IG.out.setNew _ HPM.out _
              clear e3 hok3 hu HQ3 I2 IX IS IM IG
              go_upto_region 31 with fail
              clear s0 t0 d2 d3
              generalize wr.setCell ⟨PM, 0, none⟩ (.int .u64 (u : Nat)) = W5 at *
              go_wp2_with fail
              go_roundw
              case rel => exact ⟨1, X3, by first | rfl | (simp; done), rfl, Lib.hid (by decide), HNS, IX4, IS4, IM4, IG4⟩
              case measure => first | omega | (simp only [intOf]; omega) | (simp [intOf]; done)
            · clear hi3
              obtain ⟨u, nx3, er3, hq3⟩ : ∃ u nx3 er3, readU bs a3 = (u, nx3, er3) := ⟨_, _, _, rfl⟩
              have HU3 := Lib.hid (HU.out a3 wr (H4.out.trans IG.out))
              rw [hq3] at HU3
              have hw3 := readU_well bs a3
              rw [hq3] at hw3
              have hok3 := hw3.ok
              dsimp only at hok3
              have HQ3 := Lib.hid hq3
              clear hq3 hw3
              go_wp2_with fail
              refine HU3.out.mono ?_
              rintro e v5 ⟨rfl, rfl⟩
              clear HU3
              by_cases he3 : er3 = 0
              rotate_left
              · have hno : RP = none := HL1.out (lost_num (j := 1) (by decide) (by rw [I2.out, numS_no HQ3.out (fun h => he3 h.1)]))
                have HNO := Lib.hid hno
                have d0 : (er3 != 0) = true := by rw [bne_iff_ne]; exact he3
                have d1 : (er3 == 0) = false := by rw [beq_eq_false_iff_ne]; exact he3
                clear hno he3 hok3 HL1
                as_aux_lemma =>
                  go_wp2_with fail
                  go_ret2
                  exact .inl ⟨HNO.out, rfl, H4.out.trans IG.out⟩
              subst he3
              by_cases hu : u ≤ 2000
              rotate_left
              · have hno : RP = none := HL1.out (lost_num (j := 1) (by decide) (by rw [I2.out, numS_no HQ3.out (fun h => hu h.2)]))
                have HNO := Lib.hid hno
                have d0 : decide (2000 < u) = true := by rw [decide_eq_true_eq]; omega
                have d1 : decide ((2000 : Int) < (u : Int)) = true := by rw [decide_eq_true_eq]; omega
                clear hno hu hok3 HL1
                as_aux_lemma =>
                  go_wp2_with fail
                  go_ret2
                  exact .inl ⟨HNO.out, rfl, H4.out.trans IG.out⟩
              obtain ⟨X3, hX3⟩ : ∃ X3 : Nat, nx3 = X3 := ⟨nx3.toNat, by have := hok3 rfl; omega⟩
              subst hX3
              have e3 := numS_ok (most := 2000) HQ3.out hu
              rw [Int.toNat_natCast, ← I2.out] at e3
              have HNA : Hid (numAt bs (txtSt bs (numS bs 255 (some at_)).2 3) 1 = u) := by show (numS bs 2000 (numSt bs _ 1)).1 = u; rw [e3]
              have HNS : Hid (numSt bs (txtSt bs (numS bs 255 (some at_)).2 3) 2 = some X3) := by show (numS bs 2000 (numSt bs _ 1)).2 = _; rw [e3]
              have d2 : decide (2000 < u) = false := by rw [decide_eq_false_iff_not]; omega
              have d3 : decide ((2000 : Int) < (u : Int)) = false := by rw [decide_eq_false_iff_not]; omega
              obtain ⟨z0, s0⟩ : ∃ z, wr.cell? ⟨PM, 1, none⟩ = some z := ⟨_, IM.out.cell 1⟩
              have t0 : wr.frozen? ⟨PM, 1, none⟩ = false := IM.out.frozen 1
              have IX4 : Hid (Blk (wr.setCell ⟨PM, 1, none⟩ (.int .u64 (u : Nat))) PX #[.int .u8 (o : Nat), .string ⟨#[]⟩, .string ⟨#[]⟩, .string ⟨#[]⟩, .int .i64 0, .int .i64 0] 61) := IX.out.setOther _ _ (fun h => HXM.out.1 h.symm)
              have IS4 : Hid (Blk (wr.setCell ⟨PM, 1, none⟩ (.int .u64 (u : Nat))) PS (txtCells bs (numS bs 255 (some at_)).2 3) 100) := IS.out.setOther _ _ (fun h => HXM.out.2 h.symm)
              have IM4 : Hid (Blk (wr.setCell ⟨PM, 1, none⟩ (.int .u64 (u : Nat))) PM (numCells bs (txtSt bs (numS bs 255 (some at_)).2 3) 2) 108) := by
                have h := IM.out.set 1 (.int .u64 (u : Nat))
                rw [← HNA.out] at h ⊢
                exact h
              have IG4 : Hid (Chg none V0 (wr.setCell ⟨PM, 1, none⟩ (.int .u64 (u : Nat)))) := IG.out.setNew _ HPM.out _
              clear e3 hok3 hu HQ3 I2 IX IS IM IG
              go_upto_region 31 with fail
              clear s0 t0 d2 d3
              generalize wr.setCell ⟨PM, 1, none⟩ (.int .u64 (u : Nat)) = W5 at *
              go_wp2_with fail
              go_roundw
              case rel => exact ⟨2, X3, by first | rfl | (simp; done), rfl, Lib.hid (by decide), HNS, IX4, IS4, IM4, IG4⟩
              case measure => first | omega | (simp only [intOf]; omega) | (simp [intOf]; done)
            · have hd5 : decide (i < 2) = false := by rw [decide_eq_false_iff_not]; omega
              have hd6 : decide ((i : Int) < 2) = false := by rw [decide_eq_false_iff_not]; omega
              rw [hie] at I2 IM
              clear hie I1 hi3
              have HI : Hid (insS bs (some at_) = (⟨o, txtAt bs (numS bs 255 (some at_)).2 0, txtAt bs (numS bs 255 (some at_)).2 1, txtAt bs (numS bs 255 (some at_)).2 2, (numAt bs (txtSt bs (numS bs 255 (some at_)).2 3) 0 : Nat), (numAt bs (txtSt bs (numS bs 255 (some at_)).2 3) 1 : Nat)⟩, some a3)) := by
                show _ = _
                rw [insS_parts, I2.out, HE1.out]
              have IS : Hid (Blk wr PS #[.string ⟨(txtAt bs (numS bs 255 (some at_)).2 0).toArray⟩, .string ⟨(txtAt bs (numS bs 255 (some at_)).2 1).toArray⟩, .string ⟨(txtAt bs (numS bs 255 (some at_)).2 2).toArray⟩] 100) := IS
              have IM : Hid (Blk wr PM #[.int .u64 (numAt bs (txtSt bs (numS bs 255 (some at_)).2 3) 0 : Nat), .int .u64 (numAt bs (txtSt bs (numS bs 255 (some at_)).2 3) 1 : Nat)] 108) := IM
              have hn0 : numAt bs (txtSt bs (numS bs 255 (some at_)).2 3) 0 ≤ 2000 := numS_le _ _ _
              have hn1 : numAt bs (txtSt bs (numS bs 255 (some at_)).2 3) 1 ≤ 2000 := numS_le _ _ _
              generalize txtAt bs (numS bs 255 (some at_)).2 0 = ta at *
              generalize txtAt bs (numS bs 255 (some at_)).2 1 = tb at *
              generalize txtAt bs (numS bs 255 (some at_)).2 2 = tc at *
              generalize numAt bs (txtSt bs (numS bs 255 (some at_)).2 3) 0 = nn at *
              generalize numAt bs (txtSt bs (numS bs 255 (some at_)).2 3) 1 = nm at *
              have HWN : Hid (IntKind.i64.wrap (nn : Int) = (nn : Int)) := by show _ = _; rw [IntKind.wrap_i64]; omega
              have HWM : Hid (IntKind.i64.wrap (nm : Int) = (nm : Int)) := by show _ = _; rw [IntKind.wrap_i64]; omega
              clear hn0 hn1 I2 HE1 HL1
              have HFI : Hid (∀ v : World, Reads (v.alloc (.cells #[.int .u8 (o : Nat), .string ⟨ta.toArray⟩, .string ⟨tb.toArray⟩, .string ⟨tc.toArray⟩, .int .i64 (nn : Nat), .int .i64 (nm : Nat)] 61)) (v.alloc (.cells #[.int .u8 (o : Nat), .string ⟨ta.toArray⟩, .string ⟨tb.toArray⟩, .string ⟨tc.toArray⟩, .int .i64 (nn : Nat), .int .i64 (nm : Nat)] 61)).heap.size 6 (some ⟨v.heap.size, 0, none⟩) 1 (insCells ⟨o, ta, tb, tc, (nn : Nat), (nm : Nat)⟩)) := fun v => by
                have h := reads_lit61 v [⟨o, ta, tb, tc, (nn : Nat), (nm : Nat)⟩]
                simp only [List.flatMap_cons, List.flatMap_nil, List.append_nil, List.length_cons, List.length_nil, Nat.zero_add] at h
                exact h
              have HON : Hid (∀ u ∈ insCells ⟨o, ta, tb, tc, (nn : Nat), (nm : Nat)⟩, u.oneCell' = true) := fun u hu => insCells_one (L := [⟨o, ta, tb, tc, (nn : Nat), (nm : Nat)⟩]) u (by simpa using hu)
              have HLS : Hid ((listS bs (k + 1) (some X0)).1 = (listS bs k (some X0)).1 ++ [⟨o, ta, tb, tc, (nn : Nat), (nm : Nat)⟩] ∧ (listS bs (k + 1) (some X0)).2 = some a3) := by
                show _ ∧ _
                refine ⟨?_, ?_⟩
                · show (listS bs k (some X0)).1 ++ [(insS bs (listS bs k (some X0)).2).1] = _
                  rw [H3.out, HI.out]
                · show (insS bs (listS bs k (some X0)).2).2 = _
                  rw [H3.out, HI.out]
              clear HI
              go_upto_region 32 with fail
              have hS0 : Blk wr.drew PS #[.string ⟨ta.toArray⟩, .string ⟨tb.toArray⟩, .string ⟨tc.toArray⟩] 100 ∧ Blk wr.drew PM #[.int .u64 (nn : Nat), .int .u64 (nm : Nat)] 108 := ⟨IS.out, IM.out⟩
              have HX0 : Hid (Blk wr.drew PX #[.int .u8 (o : Nat), .string ⟨#[]⟩, .string ⟨#[]⟩, .string ⟨#[]⟩, .int .i64 0, .int .i64 0] 61) := IX.out
              have HG0 : Hid (Chg none V0 wr.drew) := IG.out.drew
              refine wp_region_held_drew (S := fun v => Blk v PS #[.string ⟨ta.toArray⟩, .string ⟨tb.toArray⟩, .string ⟨tc.toArray⟩] 100 ∧ Blk v PM #[.int .u64 (nn : Nat), .int .u64 (nm : Nat)] 108) (by kernel_rfl) hS0 (fun _ => ?_)
              clear IS IM IX IG
              generalize wr.drew = v0 at *
              refine wpAnyH_take (i := 0) (oi := ⟨some 96, _, _, _, _, _⟩) (v := ?_) rfl (by kernel_rfl) (by kernel_rfl) (by kernel_rfl) (fun _ _ _ h => h) (Or.inl ⟨by rfl, ?_⟩) (by assumption) ?_
              rotate_left
              · intro w hSw; (try dsimp only at hSw); go_simp; (try with_reducible rfl)
              try simp only [Act.put, List.setIfInBounds_toArray, List.set_cons_zero, List.set_cons_succ]
              refine wpAnyH_take (i := 1) (oi := ⟨some 97, _, _, _, _, _⟩) (v := .string ⟨ta.toArray⟩) rfl (by kernel_rfl) (by kernel_rfl) (by kernel_rfl) (fun _ _ _ h => h) (Or.inl ⟨by rfl, ?_⟩) (by assumption) ?_
              · intro v hSv; have z : v.cell? ⟨PS, 0, none⟩ = some (.string ⟨ta.toArray⟩) := hSv.1.cell 0; go_simp
              try simp only [Act.put, List.setIfInBounds_toArray, List.set_cons_zero, List.set_cons_succ]
              refine wpAnyH_take (i := 2) (oi := ⟨some 98, _, _, _, _, _⟩) (v := ?_) rfl (by kernel_rfl) (by kernel_rfl) (by kernel_rfl) (fun _ _ _ h => h) (Or.inl ⟨by rfl, ?_⟩) (by assumption) ?_
              rotate_left
              · intro w hSw; (try dsimp only at hSw); go_simp; (try with_reducible rfl)
              try simp only [Act.put, List.setIfInBounds_toArray, List.set_cons_zero, List.set_cons_succ]
              refine wpAnyH_take (i := 3) (oi := ⟨some 99, _, _, _, _, _⟩) (v := .string ⟨tb.toArray⟩) rfl (by kernel_rfl) (by kernel_rfl) (by kernel_rfl) (fun _ _ _ h => h) (Or.inl ⟨by rfl, ?_⟩) (by assumption) ?_
              · intro v hSv; have z : v.cell? ⟨PS, 1, none⟩ = some (.string ⟨tb.toArray⟩) := hSv.1.cell 1; go_simp
              try simp only [Act.put, List.setIfInBounds_toArray, List.set_cons_zero, List.set_cons_succ]
              refine wpAnyH_take (i := 4) (oi := ⟨some 100, _, _, _, _, _⟩) (v := ?_) rfl (by kernel_rfl) (by kernel_rfl) (by kernel_rfl) (fun _ _ _ h => h) (Or.inl ⟨by rfl, ?_⟩) (by assumption) ?_
              rotate_left
              · intro w hSw; (try dsimp only at hSw); go_simp; (try with_reducible rfl)
              try simp only [Act.put, List.setIfInBounds_toArray, List.set_cons_zero, List.set_cons_succ]
              refine wpAnyH_take (i := 5) (oi := ⟨some 101, _, _, _, _, _⟩) (v := .string ⟨tc.toArray⟩) rfl (by kernel_rfl) (by kernel_rfl) (by kernel_rfl) (fun _ _ _ h => h) (Or.inl ⟨by rfl, ?_⟩) (by assumption) ?_
              · intro v hSv; have z : v.cell? ⟨PS, 2, none⟩ = some (.string ⟨tc.toArray⟩) := hSv.1.cell 2; go_simp
              try simp only [Act.put, List.setIfInBounds_toArray, List.set_cons_zero, List.set_cons_succ]
              refine wpAnyH_take (i := 6) (oi := ⟨some 102, _, _, _, _, _⟩) (v := ?_) rfl (by kernel_rfl) (by kernel_rfl) (by kernel_rfl) (fun _ _ _ h => h) (Or.inl ⟨by rfl, ?_⟩) (by assumption) ?_
              rotate_left
              · intro w hSw; (try dsimp only at hSw); go_simp; (try with_reducible rfl)
              try simp only [Act.put, List.setIfInBounds_toArray, List.set_cons_zero, List.set_cons_succ]
              refine wpAnyH_take (i := 7) (oi := ⟨some 103, _, _, _, _, _⟩) (v := .int .u64 (nn : Nat)) rfl (by kernel_rfl) (by kernel_rfl) (by kernel_rfl) (fun _ _ _ h => h) (Or.inl ⟨by rfl, ?_⟩) (by assumption) ?_
              · intro v hSv; have z : v.cell? ⟨PM, 0, none⟩ = some (.int .u64 (nn : Nat)) := hSv.2.cell 0; go_simp
              try simp only [Act.put, List.setIfInBounds_toArray, List.set_cons_zero, List.set_cons_succ]
              refine wpAnyH_take (i := 8) (oi := ⟨some 104, _, _, _, _, _⟩) (v := .int .i64 (nn : Nat)) rfl (by kernel_rfl) (by kernel_rfl) (by kernel_rfl) (fun _ _ _ h => h) (Or.inl ⟨by rfl, ?_⟩) (by assumption) ?_
              · intro v hSv; have hw := HWN.out; go_simp
              try simp only [Act.put, List.setIfInBounds_toArray, List.set_cons_zero, List.set_cons_succ]
              refine wpAnyH_take (i := 9) (oi := ⟨some 105, _, _, _, _, _⟩) (v := ?_) rfl (by kernel_rfl) (by kernel_rfl) (by kernel_rfl) (fun _ _ _ h => h) (Or.inl ⟨by rfl, ?_⟩) (by assumption) ?_
              rotate_left
              · intro w hSw; (try dsimp only at hSw); go_simp; (try with_reducible rfl)
              try simp only [Act.put, List.setIfInBounds_toArray, List.set_cons_zero, List.set_cons_succ]
              refine wpAnyH_take (i := 10) (oi := ⟨some 106, _, _, _, _, _⟩) (v := .int .u64 (nm : Nat)) rfl (by kernel_rfl) (by kernel_rfl) (by kernel_rfl) (fun _ _ _ h => h) (Or.inl ⟨by rfl, ?_⟩) (by assumption) ?_
              · intro v hSv; have z : v.cell? ⟨PM, 1, none⟩ = some (.int .u64 (nm : Nat)) := hSv.2.cell 1; go_simp
              try simp only [Act.put, List.setIfInBounds_toArray, List.set_cons_zero, List.set_cons_succ]
              refine wpAnyH_take (i := 11) (oi := ⟨some 107, _, _, _, _, _⟩) (v := .int .i64 (nm : Nat)) rfl (by kernel_rfl) (by kernel_rfl) (by kernel_rfl) (fun _ _ _ h => h) (Or.inl ⟨by rfl, ?_⟩) (by assumption) ?_
              · intro v hSv; have hw := HWM.out; go_simp
              try simp only [Act.put, List.setIfInBounds_toArray, List.set_cons_zero, List.set_cons_succ]
              refine wpAnyH_take (i := 12) (oi := ⟨some 108, _, _, _, _, _⟩) (v := ?_) rfl (by kernel_rfl) (by kernel_rfl) (by kernel_rfl) (fun _ _ _ h => h) (Or.inl ⟨by rfl, ?_⟩) (by assumption) ?_
              rotate_left
              · intro w hSw; (try dsimp only at hSw); go_simp; (try with_reducible rfl)
              try simp only [Act.put, List.setIfInBounds_toArray, List.set_cons_zero, List.set_cons_succ]
              refine wpAnyH_ready (rs := [13]) (by kernel_rfl) (by simp) ?_
              refine AllReadyH.cons (o := ⟨none, _, _, _, _, _⟩) rfl (fun K hK => ?_) (AllReadyH.nil)
              have xc : v0.cell? ⟨PX, 1, none⟩ = some (.string ⟨#[]⟩) := HX0.out.cell 1
              have xf : v0.frozen? ⟨PX, 1, none⟩ = false := HX0.out.frozen 1
              have hS1 : Blk (v0.setCell ⟨PX, 1, none⟩ (.string ⟨ta.toArray⟩)) PS #[.string ⟨ta.toArray⟩, .string ⟨tb.toArray⟩, .string ⟨tc.toArray⟩] 100 ∧ Blk (v0.setCell ⟨PX, 1, none⟩ (.string ⟨ta.toArray⟩)) PM #[.int .u64 (nn : Nat), .int .u64 (nm : Nat)] 108 := ⟨hS0.1.setOther _ _ HXS.out, hS0.2.setOther _ _ HXM.out.1⟩
              have HX1 : Hid (Blk (v0.setCell ⟨PX, 1, none⟩ (.string ⟨ta.toArray⟩)) PX #[.int .u8 (o : Nat), .string ⟨ta.toArray⟩, .string ⟨#[]⟩, .string ⟨#[]⟩, .int .i64 0, .int .i64 0] 61) := HX0.out.set 1 _
              have HG1 : Hid (Chg none V0 (v0.setCell ⟨PX, 1, none⟩ (.string ⟨ta.toArray⟩))) := HG0.out.setNew _ HPX.out _
              go_simp
              refine hK.out _ _ hS1 (fun _ => ?_)
              clear hK K
              generalize v0.setCell ⟨PX, 1, none⟩ (.string ⟨ta.toArray⟩) = v1 at *
              refine wpAnyH_take (i := 14) (oi := ⟨some 109, _, _, _, _, _⟩) (v := ?_) rfl (by kernel_rfl) (by kernel_rfl) (by kernel_rfl) (fun _ _ _ h => h) (Or.inl ⟨by rfl, ?_⟩) (by assumption) ?_
              rotate_left
              · intro w hSw; (try dsimp only at hSw); go_simp; (try with_reducible rfl)
              try simp only [Act.put, List.setIfInBounds_toArray, List.set_cons_zero, List.set_cons_succ]
              refine wpAnyH_ready (rs := [15]) (by kernel_rfl) (by simp) ?_
              refine AllReadyH.cons (o := ⟨none, _, _, _, _, _⟩) rfl (fun K hK => ?_) (AllReadyH.nil)
              have xc : v1.cell? ⟨PX, 2, none⟩ = some (.string ⟨#[]⟩) := HX1.out.cell 2
              have xf : v1.frozen? ⟨PX, 2, none⟩ = false := HX1.out.frozen 2
              have hS2 : Blk (v1.setCell ⟨PX, 2, none⟩ (.string ⟨tb.toArray⟩)) PS #[.string ⟨ta.toArray⟩, .string ⟨tb.toArray⟩, .string ⟨tc.toArray⟩] 100 ∧ Blk (v1.setCell ⟨PX, 2, none⟩ (.string ⟨tb.toArray⟩)) PM #[.int .u64 (nn : Nat), .int .u64 (nm : Nat)] 108 := ⟨hS1.1.setOther _ _ HXS.out, hS1.2.setOther _ _ HXM.out.1⟩
              have HX2 : Hid (Blk (v1.setCell ⟨PX, 2, none⟩ (.string ⟨tb.toArray⟩)) PX #[.int .u8 (o : Nat), .string ⟨ta.toArray⟩, .string ⟨tb.toArray⟩, .string ⟨#[]⟩, .int .i64 0, .int .i64 0] 61) := HX1.out.set 2 _
              have HG2 : Hid (Chg none V0 (v1.setCell ⟨PX, 2, none⟩ (.string ⟨tb.toArray⟩))) := HG1.out.setNew _ HPX.out _
              go_simp
              refine hK.out _ _ hS2 (fun _ => ?_)
              clear hK K
              generalize v1.setCell ⟨PX, 2, none⟩ (.string ⟨tb.toArray⟩) = v2 at *
              refine wpAnyH_take (i := 16) (oi := ⟨some 110, _, _, _, _, _⟩) (v := ?_) rfl (by kernel_rfl) (by kernel_rfl) (by kernel_rfl) (fun _ _ _ h => h) (Or.inl ⟨by rfl, ?_⟩) (by assumption) ?_
              rotate_left
              · intro w hSw; (try dsimp only at hSw); go_simp; (try with_reducible rfl)
              try simp only [Act.put, List.setIfInBounds_toArray, List.set_cons_zero, List.set_cons_succ]
              refine wpAnyH_ready (rs := [17]) (by kernel_rfl) (by simp) ?_
              refine AllReadyH.cons (o := ⟨none, _, _, _, _, _⟩) rfl (fun K hK => ?_) (AllReadyH.nil)
              have xc : v2.cell? ⟨PX, 3, none⟩ = some (.string ⟨#[]⟩) := HX2.out.cell 3
              have xf : v2.frozen? ⟨PX, 3, none⟩ = false := HX2.out.frozen 3
              have hS3 : Blk (v2.setCell ⟨PX, 3, none⟩ (.string ⟨tc.toArray⟩)) PS #[.string ⟨ta.toArray⟩, .string ⟨tb.toArray⟩, .string ⟨tc.toArray⟩] 100 ∧ Blk (v2.setCell ⟨PX, 3, none⟩ (.string ⟨tc.toArray⟩)) PM #[.int .u64 (nn : Nat), .int .u64 (nm : Nat)] 108 := ⟨hS2.1.setOther _ _ HXS.out, hS2.2.setOther _ _ HXM.out.1⟩
              have HX3 : Hid (Blk (v2.setCell ⟨PX, 3, none⟩ (.string ⟨tc.toArray⟩)) PX #[.int .u8 (o : Nat), .string ⟨ta.toArray⟩, .string ⟨tb.toArray⟩, .string ⟨tc.toArray⟩, .int .i64 0, .int .i64 0] 61) := HX2.out.set 3 _
              have HG3 : Hid (Chg none V0 (v2.setCell ⟨PX, 3, none⟩ (.string ⟨tc.toArray⟩))) := HG2.out.setNew _ HPX.out _
              go_simp
              refine hK.out _ _ hS3 (fun _ => ?_)
              clear hK K
              generalize v2.setCell ⟨PX, 3, none⟩ (.string ⟨tc.toArray⟩) = v3 at *
              refine wpAnyH_take (i := 18) (oi := ⟨some 111, _, _, _, _, _⟩) (v := ?_) rfl (by kernel_rfl) (by kernel_rfl) (by kernel_rfl) (fun _ _ _ h => h) (Or.inl ⟨by rfl, ?_⟩) (by assumption) ?_
              rotate_left
              · intro w hSw; (try dsimp only at hSw); go_simp; (try with_reducible rfl)
              try simp only [Act.put, List.setIfInBounds_toArray, List.set_cons_zero, List.set_cons_succ]
              refine wpAnyH_ready (rs := [19]) (by kernel_rfl) (by simp) ?_
              refine AllReadyH.cons (o := ⟨none, _, _, _, _, _⟩) rfl (fun K hK => ?_) (AllReadyH.nil)
              have xc : v3.cell? ⟨PX, 4, none⟩ = some (.int .i64 0) := HX3.out.cell 4
              have xf : v3.frozen? ⟨PX, 4, none⟩ = false := HX3.out.frozen 4
              have hS4 : Blk (v3.setCell ⟨PX, 4, none⟩ (.int .i64 (nn : Nat))) PS #[.string ⟨ta.toArray⟩, .string ⟨tb.toArray⟩, .string ⟨tc.toArray⟩] 100 ∧ Blk (v3.setCell ⟨PX, 4, none⟩ (.int .i64 (nn : Nat))) PM #[.int .u64 (nn : Nat), .int .u64 (nm : Nat)] 108 := ⟨hS3.1.setOther _ _ HXS.out, hS3.2.setOther _ _ HXM.out.1⟩
              have HX4 : Hid (Blk (v3.setCell ⟨PX, 4, none⟩ (.int .i64 (nn : Nat))) PX #[.int .u8 (o : Nat), .string ⟨ta.toArray⟩, .string ⟨tb.toArray⟩, .string ⟨tc.toArray⟩, .int .i64 (nn : Nat), .int .i64 0] 61) := HX3.out.set 4 _
              have HG4 : Hid (Chg none V0 (v3.setCell ⟨PX, 4, none⟩ (.int .i64 (nn : Nat)))) := HG3.out.setNew _ HPX.out _
              go_simp
              refine hK.out _ _ hS4 (fun _ => ?_)
              clear hK K
              generalize v3.setCell ⟨PX, 4, none⟩ (.int .i64 (nn : Nat)) = v4 at *
              refine wpAnyH_take (i := 20) (oi := ⟨some 112, _, _, _, _, _⟩) (v := ?_) rfl (by kernel_rfl) (by kernel_rfl) (by kernel_rfl) (fun _ _ _ h => h) (Or.inl ⟨by rfl, ?_⟩) (by assumption) ?_
              rotate_left
              · intro w hSw; (try dsimp only at hSw); go_simp; (try with_reducible rfl)
              try simp only [Act.put, List.setIfInBounds_toArray, List.set_cons_zero, List.set_cons_succ]
              refine wpAnyH_ready (rs := [21]) (by kernel_rfl) (by simp) ?_
              refine AllReadyH.cons (o := ⟨none, _, _, _, _, _⟩) rfl (fun K hK => ?_) (AllReadyH.nil)
              have xc : v4.cell? ⟨PX, 5, none⟩ = some (.int .i64 0) := HX4.out.cell 5
              have xf : v4.frozen? ⟨PX, 5, none⟩ = false := HX4.out.frozen 5
              have hS5 : Blk (v4.setCell ⟨PX, 5, none⟩ (.int .i64 (nm : Nat))) PS #[.string ⟨ta.toArray⟩, .string ⟨tb.toArray⟩, .string ⟨tc.toArray⟩] 100 ∧ Blk (v4.setCell ⟨PX, 5, none⟩ (.int .i64 (nm : Nat))) PM #[.int .u64 (nn : Nat), .int .u64 (nm : Nat)] 108 := ⟨hS4.1.setOther _ _ HXS.out, hS4.2.setOther _ _ HXM.out.1⟩
              have HX5 : Hid (Blk (v4.setCell ⟨PX, 5, none⟩ (.int .i64 (nm : Nat))) PX #[.int .u8 (o : Nat), .string ⟨ta.toArray⟩, .string ⟨tb.toArray⟩, .string ⟨tc.toArray⟩, .int .i64 (nn : Nat), .int .i64 (nm : Nat)] 61) := HX4.out.set 5 _
              have HG5 : Hid (Chg none V0 (v4.setCell ⟨PX, 5, none⟩ (.int .i64 (nm : Nat)))) := HG4.out.setNew _ HPX.out _
              go_simp
              refine hK.out _ _ hS5 (fun _ => ?_)
              clear hK K
              generalize v4.setCell ⟨PX, 5, none⟩ (.int .i64 (nm : Nat)) = v5 at *
              refine wpAnyH_done (by kernel_rfl) ?_ _
              try simp only [Act.put]
              have x0 : v5.cell? ⟨PX, 0, none⟩ = some (.int .u8 (o : Nat)) := HX5.out.cell 0
              have x1 : v5.cell? ⟨PX, 1, none⟩ = some (.string ⟨ta.toArray⟩) := HX5.out.cell 1
              have x2 : v5.cell? ⟨PX, 2, none⟩ = some (.string ⟨tb.toArray⟩) := HX5.out.cell 2
              have x3 : v5.cell? ⟨PX, 3, none⟩ = some (.string ⟨tc.toArray⟩) := HX5.out.cell 3
              have x4 : v5.cell? ⟨PX, 4, none⟩ = some (.int .i64 (nn : Nat)) := HX5.out.cell 4
              have x5 : v5.cell? ⟨PX, 5, none⟩ = some (.int .i64 (nm : Nat)) := HX5.out.cell 5
              have HO5 := Lib.hid (World.ownsRow.kept H2.out HG5.out (by cases (Value.slice A1 k c1).ownBlock <;> simp))
              have HSE : Hid (∀ ob : Obj, w.heap.size ≤ (v5.alloc ob).heap.size) := fun ob => ((H4.out.trans HG5.out).alloc ob).size
              have hk1 : IntKind.u64.wrap ((k : Int) + 1) = ((k + 1 : Nat) : Int) := by have h1 := HLT.out; have h2 := HN.out; rw [IntKind.wrap_u64]; omega
              go_wp2_with (at_builtin; refine wpList_append_any _ rfl (.tmp 113) (.tmp 115) 52 rfl w.heap.size 61 i0 (.agg #[.int .u8 0, .string ⟨#[]⟩, .string ⟨#[]⟩, .string ⟨#[]⟩, .int .i64 0, .int .i64 0]) 6 72 Tryd.underlying52 hi hz0 hz1 hz2 rfl (by decide) _ k ((listS bs k (some X0)).1.flatMap insCells) rfl (HO5.out.alloc _) _ (some ⟨v5.heap.size, 0, none⟩) 1 1 _ rfl (HFI.out v5) HON.out (by have h1 := HLT.out; have h2 := HN.out; unfold maxLen; omega) (by have h1 := HLT.out; have h2 := HN.out; omega) (HSE.out _) ?_)
              intro v6 w6 hown6 hgr6 _
              obtain ⟨A6, c6, rfl⟩ := own_slice hown6
              have HG6 : Hid (Chg none w w6) := own_chg ((H4.out.trans HG5.out).alloc _) (HO5.out.alloc _) (Nat.le_refl _) hgr6
              have HO6 : Hid (w6.ownsRow w.heap.size 61 6 (.slice A6 (k + 1) c6) (k + 1) ((listS bs (k + 1) (some X0)).1.flatMap insCells)) := by
                show World.ownsRow _ _ _ _ _ _ _
                rw [HLS.out.1, List.flatMap_append]
                simpa using hown6
              clear hown6 hgr6 x0 x1 x2 x3 x4 x5
              go_wp2_with fail
              go_roundw
              case rel => exact ⟨k + 1, A6, c6, a3, by first | rfl | (simp; done), rfl, rfl, Lib.hid HLT.out, HO6, Lib.hid HLS.out.2, HG6⟩
              case measure =>
                have := HLT.out
                first | omega | (simp only [intOf]; omega) | (simp [intOf]; omega)
    · have hd : decide (k < n) = false := by rw [decide_eq_false_iff_not]; exact hlt
      have hd2 : decide ((k : Int) < (n : Int)) = false := by rw [decide_eq_false_iff_not]; omega
      have hkn : k = n := by have := H1.out; omega
      have hrp := HRP.out
      subst hkn
      rw [H3.out] at hrp
      obtain ⟨hrow, hnl, hnc⟩ := rows_of_own H2.out
      have hfit := listS_fits bs (some X0) k
      have hlen := listS_len bs k (some X0)
      generalize (listS bs k (some X0)).1 = L at *
      have hmy := refmay_any L A1 c1 wr hrow hfit (by have := HN.out; omega)
      rw [hlen] at hmy
      have HOB : Hid (∀ a : Addr, A1 = some a → w.heap.size ≤ a.block) := fun a h => own_base H2.out h
      have HMY := Lib.hid hmy
      have HROW := Lib.hid hrow
      have HFIT := Lib.hid hfit
      have HLEN := Lib.hid hlen
      have HNC := Lib.hid hnc
      clear hmy hrow hfit hlen hnl hnc H1 H2 H3 HRP HLA HLP HU HB hlt
      by_cases hat : at_ = bs.length
      rotate_left
      · have dne : ((at_ : Int) != (bs.length : Int)) = true := by rw [bne_iff_ne]; omega
        have hno : RP = none := by rw [hrp]; exact if_neg (fun h => hat (Option.some.inj h.1))
        have HNO := Lib.hid hno
        clear hrp hno hat
        as_aux_lemma =>
          go_wp2_with fail
          go_ret2
          exact .inl ⟨HNO.out, rfl, H4.out⟩
      have dne : ((at_ : Int) != (bs.length : Int)) = false := by rw [bne_eq_false_iff_eq]; omega
      by_cases hmb : mayB L = true
      · have hyes : RP = some L := by rw [hrp]; exact if_pos ⟨by rw [hat], hmb⟩
        have HYES := Lib.hid hyes
        rw [hmb] at HMY
        clear hrp hyes hat hmb
        as_aux_lemma =>
          go_wp2_with fail
          refine HMY.out.mono ?_
          rintro e w9 ⟨rfl, g9⟩
          have G9 := Lib.hid g9
          clear g9
          go_wp2_with fail
          go_ret2
          exact .inr ⟨L, A1, c1, HYES.out, by rw [HLEN.out]; rfl, HROW.out.chg G9.out, by rw [HLEN.out]; exact HNC.out, by rw [HLEN.out]; exact HN.out, HFIT.out, HOB.out, H4.out.trans G9.out⟩
      · have hmb' : mayB L = false := by simpa using hmb
        have hno : RP = none := by rw [hrp]; exact if_neg (fun h => hmb h.2)
        have HNO := Lib.hid hno
        rw [hmb'] at HMY
        clear hrp hno hat hmb hmb'
        as_aux_lemma =>
          go_wp2_with fail
          refine HMY.out.mono ?_
          rintro e w9 ⟨rfl, g9⟩
          have G9 := Lib.hid g9
          clear g9
          go_wp2_with fail
          go_ret2
          exact .inl ⟨HNO.out, rfl, H4.out.trans G9.out⟩

end Go.Proofs.YtglfakglcoffkaaDoor
