/-
  Package parser: a target; mayRun; May of one target.
-/
import Derived.Test.YtbadkkilblgpmaaDoorNB
import Derived.Test.YtbadkkilblgpmaaDoorPG
namespace Go.Proofs.YtbadkkilblgpmaaDoor
open Go.RowKit

/-- A target. -/
structure Tgt where
  n : List UInt8
  A : Option Addr
  D : List (List UInt8)
  c : Nat
  fuel : Int
  B : Option Addr
  P : List Ins
  d : Nat
instance : Inhabited Tgt := ⟨⟨[], none, [], 0, 0, none, [], 0⟩⟩
def tgtCells (t : Tgt) : List Value := [.string ⟨t.n.toArray⟩, .slice t.A t.D.length t.c, .int .i64 t.fuel, .slice t.B t.P.length t.d]
structure TgtAt (w : World) (t : Tgt) : Prop where
  nl : t.n.length ≤ 9223372036854775807
  deps : StrsAt w t.A t.D
  dl : t.D.length ≤ 9223372036854775807
  dc : t.D.length ≤ t.c
  dm : t.c ≤ 9223372036854775807
  prog : RowsAt w 6 t.B insCells t.P
  fits : ∀ x ∈ t.P, x.fits
  pl : t.P.length ≤ 9223372036854775807
  fl : -9223372036854775808 ≤ t.fuel ∧ t.fuel ≤ 9223372036854775807
theorem TgtAt.chg {w w' : World} {t : Tgt} (h : TgtAt w t) (g : Chg none w w') : TgtAt w' t := ⟨h.nl, h.deps.chg g, h.dl, h.dc, h.dm, RowsAt.chg h.prog g, h.fits, h.pl, h.fl⟩
def runB (t : Tgt) : Bool := decide (0 ≤ t.fuel) && (decide (t.fuel ≤ 20000) && mayB t.P)
def mayTgt (t : Tgt) : Bool := nameB t.n && (depsB t.D && runB t)

set_option maxHeartbeats 8000000 in
theorem mayrun_any (t : Tgt) (w : World) (ht : TgtAt w t) (hF : Flds w) : Calls Tryd.prog 139 #[.agg (tgtCells t).toArray] w fun e w' => e = .returned (.bool (runB t)) ∧ Chg none w w' := by
  have HM := Lib.hid (fun v (g : Chg none w v) => may_any t.P t.B t.d v (RowsAt.chg ht.prog g) ht.fits ht.pl (hF.chg g))
  obtain ⟨n, A, D, c, fuel, B, P, d⟩ := t
  unfold tgtCells runB
  dsimp only at HM ⊢
  clear ht hF
  by_cases h0 : 0 ≤ fuel
  · by_cases h1 : fuel ≤ 20000
    · have d0 : decide (0 ≤ fuel) = true := decide_eq_true h0
      have d1 : decide (fuel ≤ 20000) = true := decide_eq_true h1
      rw [d0, d1, Bool.true_and, Bool.true_and]
      generalize mayB P = b at *
      clear h0 h1
      have HG : Hid (Chg none w (w.alloc (.cells #[.string ⟨n.toArray⟩, .slice A D.length c, .int .i64 fuel, .slice B P.length d] 77))) := Lib.hid ((Chg.refl _ _).alloc _)
      go_enter Tryd.func139, Tryd.ntmps139
      go_wp2_with fail
      refine (HM.out _ HG.out).mono ?_
      rintro e w2 ⟨rfl, g2⟩
      have G2 := Lib.hid (HG.out.trans g2)
      clear g2
      go_wp2_with fail
      go_ret
      exact ⟨rfl, G2.out⟩
    · have d0 : decide (0 ≤ fuel) = true := decide_eq_true h0
      have d1 : decide (fuel ≤ 20000) = false := decide_eq_false h1
      rw [d0, d1, Bool.true_and, Bool.false_and]
      clear h0 h1
      go_enter Tryd.func139, Tryd.ntmps139
      go_wp2_with fail
      go_ret
      exact ⟨rfl, (Chg.refl _ _).alloc _⟩
  · have d0 : decide (0 ≤ fuel) = false := decide_eq_false h0
    rw [d0, Bool.false_and]
    clear h0
    go_enter Tryd.func139, Tryd.ntmps139
    go_wp2_with fail
    go_ret
    exact ⟨rfl, (Chg.refl _ _).alloc _⟩

set_option maxHeartbeats 4000000 in
theorem index176_none (A : Option Addr) (c : Nat) (f : Value) (w : World) : Calls Tryd.prog 176 #[.slice A 0 c, f] w fun e w' => e = .returned (.int .i64 (-1)) ∧ w = w' := by
  go_enter Tryd.func176, Tryd.ntmps176
  go_wp2_with fail
  go_loop [8] (fun s8 => s8 = .int .i64 0) (fun _ => 0)
  case atStart => rfl
  case round =>
    subst hrel
    go_wp2_with fail
    go_ret
    exact ⟨rfl, rfl⟩
set_option maxHeartbeats 4000000 in
theorem contains140_none (A : Option Addr) (c : Nat) (f : Value) (w : World) : Calls Tryd.prog 140 #[.slice A 0 c, f] w fun e w' => e = .returned (.bool false) ∧ w = w' := by
  go_enter Tryd.func140, Tryd.ntmps140
  go_wp2_with fail
  refine (index176_none A c f w).mono ?_
  rintro e w' ⟨rfl, rfl⟩
  go_wp2_with fail
  go_ret
  exact ⟨rfl, rfl⟩
theorem cut_none63 (g : Nat) (w : World) :
    (Instr.sliceAt 63 (.slice (some ⟨g, 0, none⟩) 1 1) none (some (.int .i64 0)) none).run Tryd.prog w = .ok (.slice (some ⟨g, 0, none⟩) 0 1) w := by
  have u63 := Tryd.underlying63
  have z77 := Tryd.sizeOf77
  go_simp

set_option maxHeartbeats 8000000 in
set_option maxRecDepth 100000 in
theorem pmay_one (t : Tgt) (b : Nat) (w : World) (ht : TgtAt w t) (hF : Flds w) (hb : Blk w b (tgtCells t).toArray 77) :
    Calls Tryd.prog 94 #[.slice (some ⟨b, 0, none⟩) 1 1] w fun e w' => e = .returned (.bool (mayTgt t)) ∧ Chg none w w' := by
  have HN := Lib.hid (fun v => isname_any t.n v ht.nl)
  have HD := Lib.hid (fun v (g : Chg none w v) => maydeps_any t.D t.A t.c v (ht.deps.chg g) ht.dl ht.dc ht.dm)
  have HR := Lib.hid (fun v (g : Chg none w v) => mayrun_any t v (ht.chg g) (hF.chg g))
  have HC : Hid (∀ v, Chg none w v → v.cell? ⟨b, 0, none⟩ = some (.string ⟨t.n.toArray⟩) ∧ v.cell? ⟨b, 1, none⟩ = some (.slice t.A t.D.length t.c) ∧ v.cell? ⟨b, 2, none⟩ = some (.int .i64 t.fuel) ∧ v.cell? ⟨b, 3, none⟩ = some (.slice t.B t.P.length t.d)) := Lib.hid fun v g => by
    have h := hb.chg g (by simp)
    exact ⟨h.cell 0, h.cell 1, h.cell 2, h.cell 3⟩
  have hlt := hb.lt
  unfold mayTgt
  have HCUT := Lib.hid (cut_none63 b)
  obtain ⟨n, A, D, c, fuel, B, P, d⟩ := t
  unfold tgtCells at HR
  dsimp only at HN HD HR HC ⊢
  generalize runB ⟨n, A, D, c, fuel, B, P, d⟩ = rb at *
  generalize depsB D = db at *
  generalize nameB n = nb at *
  clear ht hF hb
  obtain ⟨c0, c1, c2, c3⟩ := HC.out w (Chg.refl _ _)
  go_enter Tryd.func94, Tryd.ntmps94
  go_wp2_with fail
  go_loopw [10] (fun s10 wr => (s10 = .int .i64 0 ∧ w = wr) ∨ (s10 = .int .i64 1 ∧ Hid (Chg none w wr ∧ (nb && (db && rb)) = true))) (fun i _ => 1 - (intOf i).toNat)
  case atStart => exact .inl ⟨rfl, rfl⟩
  case round =>
    rcases hrel with ⟨rfl, rfl⟩ | ⟨rfl, H1⟩
    · obtain ⟨W1, hW1⟩ : ∃ W1, W1 = w.alloc (.cells #[.string ⟨n.toArray⟩, .slice A D.length c, .int .i64 fuel, .slice B P.length d] 77) := ⟨_, rfl⟩
      have hbW : Blk W1 w.heap.size #[.string ⟨n.toArray⟩, .slice A D.length c, .int .i64 fuel, .slice B P.length d] 77 := by rw [hW1]; exact Blk.new _ _ _
      have HG1 : Hid (Chg none w W1) := Lib.hid (by rw [hW1]; exact (Chg.refl _ _).alloc _)
      have HX : Hid (∀ v, Chg none W1 v → v.cell? ⟨w.heap.size, 0, none⟩ = some (.string ⟨n.toArray⟩) ∧ v.cell? ⟨w.heap.size, 1, none⟩ = some (.slice A D.length c) ∧ v.cell? ⟨w.heap.size, 2, none⟩ = some (.int .i64 fuel) ∧ v.cell? ⟨w.heap.size, 3, none⟩ = some (.slice B P.length d)) := Lib.hid fun v g => by
        have h := hbW.chg g (by simp)
        exact ⟨h.cell 0, h.cell 1, h.cell 2, h.cell 3⟩
      have HW1 := Lib.hid hW1
      clear hW1 hbW
      go_upto_region 6 with fail
      rw [← HW1.out]
      clear HW1
      generalize w.heap.size = px at *
      obtain ⟨x0, x1, x2, x3⟩ := HX.out W1 (Chg.refl _ _)
      cases nb with
      | false =>
        go_wp2_with fail
        refine (HN.out _).mono ?_
        rintro e w2 ⟨rfl, g2⟩
        have G2 := Lib.hid (HG1.out.trans g2)
        clear g2
        go_wp2_with fail
        go_ret
        exact ⟨rfl, G2.out⟩
      | true =>
        go_wp2_with fail
        refine (HN.out _).mono ?_
        rintro e w2 ⟨rfl, g2⟩
        obtain ⟨y0, y1, y2, y3⟩ := HX.out w2 g2
        have K2 := Lib.hid g2
        have G2 := Lib.hid (HG1.out.trans g2)
        clear g2 x0 x1 x2 x3
        cases db with
        | false =>
          go_wp2_with fail
          refine (HD.out _ G2.out).mono ?_
          rintro e w3 ⟨rfl, g3⟩
          have G3 := Lib.hid (G2.out.trans g3)
          clear g3
          go_wp2_with fail
          go_ret
          exact ⟨rfl, G3.out⟩
        | true =>
          go_wp2_with fail
          refine (HD.out _ G2.out).mono ?_
          rintro e w3 ⟨rfl, g3⟩
          obtain ⟨z0, z1, z2, z3⟩ := HX.out w3 (K2.out.trans g3)
          have G3 := Lib.hid (G2.out.trans g3)
          clear g3 y0 y1 y2 y3
          cases rb with
          | false =>
            go_wp2_with fail
            refine (HR.out _ G3.out).mono ?_
            rintro e w4 ⟨rfl, g4⟩
            have G4 := Lib.hid (G3.out.trans g4)
            clear g4
            go_wp2_with fail
            go_ret
            exact ⟨rfl, G4.out⟩
          | true =>
            go_wp2_with fail
            refine (HR.out _ G3.out).mono ?_
            rintro e w4 ⟨rfl, g4⟩
            have G4 := Lib.hid (G3.out.trans g4)
            have hcut := HCUT.out w4
            clear g4 z0 z1 z2 z3
            go_wp2_with fail
            refine (contains140_none _ _ _ _).mono ?_
            rintro e w5 ⟨rfl, rfl⟩
            go_wp2_with fail
            go_roundw
            case rel => exact .inr ⟨rfl, Lib.hid ⟨G4.out, rfl⟩⟩
            case measure => simp [intOf]
    · have hr := H1.out.2
      have HRR := Lib.hid hr
      clear hr
      go_wp2_with fail
      go_ret
      exact ⟨by rw [HRR.out]; rfl, H1.out.1⟩

end Go.Proofs.YtbadkkilblgpmaaDoor
