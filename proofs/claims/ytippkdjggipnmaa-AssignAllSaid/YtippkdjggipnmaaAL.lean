/-
  The law AssignAll, walked.
-/
import Derived.Test.YtippkdjggipnmaaAQ
import Derived.Test.YtippkdjggipnmaaHD
import Derived.Deep.LoopGhost
namespace Go.Proofs.Ytippkdjggipnmaa
open Go.RowKit Go.Maps

structure AllRel (w : World) (q : Qb) (g nc np : Nat) (tim : Int) (k n : Nat) (p : Pl) (wr : World) : Prop where
  at_ : PlanAt wr q n p
  ok : p.ok n
  nc : p.ch.length = nc
  np : p.pe.length = np
  tm : p.tim = tim
  inv : AInv g k p
  bud : n + 110 * phiM p ≤ 110 * (k + 120)
  chg : Chg none w wr

theorem by_contra_ne {L : List Ck} (h : ¬ ∃ x ∈ L, x.st ≠ 2) : ∀ x ∈ L, x.st = 2 := fun x hx => by
  by_cases e : x.st = 2
  · exact e
  · exact absurd ⟨x, hx, e⟩ h

def mayAll (nc np tim : Int) : Prop := nc ≤ 20 ∧ (1 ≤ np ∧ np ≤ 6) ∧ tim ≤ 10

set_option maxRecDepth 100000 in
set_option maxHeartbeats 16000000 in
theorem all_main (nc np : Nat) (win tim good bits : Int) (w : World) (hm : mayP nc np win tim) (ha : mayAll nc np tim) (_hb0 : 0 ≤ bits) (_hb1 : bits ≤ 18446744073709551615) :
    Calls Try.prog 6 #[.int .i64 nc, .int .i64 np, .int .i64 win, .int .i64 tim, .int .i64 good, .int .u64 bits] w fun e w' => e = .returned (.bool true) ∧ Chg none w w' := by
  have HN := Lib.hid (new_yes nc np win tim w hm)
  have HOK := Lib.hid (newP_ok hm)
  obtain ⟨q1, ⟨q2, q3⟩, q4⟩ := ha
  obtain ⟨_, _, ⟨w1', w2'⟩, t1, _⟩ := hm
  have u0 := u64_pos good
  have z0 : 0 ≤ IntKind.u64.wrap good % (np : Int) := Int.emod_nonneg _ (by omega)
  have z1 : IntKind.u64.wrap good % (np : Int) < np := Int.emod_lt_of_pos _ (by omega)
  obtain ⟨g, hg⟩ := Int.eq_ofNat_of_zero_le z0
  have hgn : g < np := by omega
  have z2 : IntKind.u64.wrap good % (np : Int) ≤ 6 := by omega
  have HG := Lib.hid hg
  clear hg
  go_enter Try.func6, Try.ntmps6
  go_wp2_with fail
  refine HN.out.mono ?_
  rintro e w1 ⟨q, rfl, hp1, hq, g1⟩
  have H1 := Lib.hid hp1
  have HQ := Lib.hid hq
  have G1 := Lib.hid g1
  clear hp1 hq g1 HN
  have e1 : decide ((20 : Int) < (nc : Int)) = false := decide_eq_false (by omega)
  have e2 : decide ((6 : Int) < (np : Int)) = false := decide_eq_false (by omega)
  have e3 : decide ((np : Int) < 1) = false := decide_eq_false (by omega)
  have e4 : decide ((10 : Int) < tim) = false := decide_eq_false (by omega)
  have b1 : 0 ≤ (3 * (nc : Int) + 1) * (np : Int) := Int.mul_nonneg (by omega) (by omega)
  have b2 : (3 * (nc : Int) + 1) * (np : Int) ≤ 61 * 6 := Int.mul_le_mul (by omega) (by omega) (by omega) (by omega)
  have b3 : 0 ≤ (3 * (nc : Int) + 1) * (np : Int) * tim := Int.mul_nonneg b1 (by omega)
  have b4 : (3 * (nc : Int) + 1) * (np : Int) * tim ≤ 366 * 10 := Int.mul_le_mul (by omega) (by omega) (by omega) (by omega)
  have b5 : ((np : Int) - 1) * tim ≤ (3 * (nc : Int) + 1) * (np : Int) * tim := Int.mul_le_mul_of_nonneg_right (by
    have : 1 * (np : Int) ≤ (3 * (nc : Int) + 1) * (np : Int) := Int.mul_le_mul_of_nonneg_right (by omega) (by omega)
    omega) (by omega)
  have b6 : ((np : Int) - 1) * tim ≤ 50 := by
    have : ((np : Int) - 1) * tim ≤ 5 * 10 := Int.mul_le_mul (by omega) (by omega) (by omega) (by omega)
    omega
  go_wp2_with fail
  rw [HG.out]
  clear u0 z0 z1 z2
  go_loopw [16] (fun s16 wr => ∃ (k n : Nat) (p : Pl), k ≤ 60 ∧ s16 = .int .i64 k ∧ Hid (AllRel w q g nc np tim k n p wr)) (fun i _ => 100 - (intOf i).toNat)
  case atStart =>
    refine ⟨0, 0, newP nc np win tim, by omega, rfl, Lib.hid ⟨H1.out, HOK.out, List.length_replicate, List.length_replicate, rfl, AInv.new hgn, ?_, G1.out⟩⟩
    have h1 := phiK_le (newP nc np win tim) nc
    rw [show (newP nc np win tim).pe.length = np from List.length_replicate] at h1
    have h2 : phiM (newP nc np win tim) = phiK (newP nc np win tim) nc := by unfold phiM; rw [show (newP nc np win tim).ch.length = nc from List.length_replicate]
    have h3 : nc * np ≤ 20 * 6 := Nat.mul_le_mul (by omega) (by omega)
    omega
  case round =>
    obtain ⟨k, n, p, hk, rfl, HR⟩ := hrel
    clear G1 H1 HOK
    have hbud := HR.out.bud
    have HLF := Lib.hid (left_any wr q n p HR.out.at_ HR.out.ok)
    have HLZ : Hid (leftM p = 0 → ∀ W, Chg none wr W → Calls Try.prog 24 #[.pointer (some ⟨q.b, 0, none⟩)] W fun e w' => e = .returned (.int .i64 0) ∧ Chg none W w') :=
      Lib.hid fun hz W g => (left_any W q n p (HR.out.at_.chg g) HR.out.ok).mono fun e w' hh => ⟨by rw [hh.1, hz]; rfl, hh.2⟩
    have HSZ : Hid (leftM p = 0 → ∀ W, Chg none wr W → Calls Try.prog 25 #[.pointer (some ⟨q.b, 0, none⟩)] W fun e w' => e = .returned (.bool false) ∧ Chg none W w') :=
      Lib.hid fun hz W g => (stuck_any W q n p (HR.out.at_.chg g) HR.out.ok).mono fun e w' hh => ⟨by rw [hh.1]; unfold stuckM; rw [hz]; rfl, hh.2⟩
    have HCG := Lib.hid HR.out.chg
    by_cases hl : leftM p = 0
    · have HLZ2 := Lib.hid (HLZ.out hl)
      have HSZ2 := Lib.hid (HSZ.out hl)
      clear hl HLF HLZ HSZ HR hbud
      by_cases hB : (k : Int) < (3 * (nc : Int) + 1) * (np : Int) * tim + (nc : Int) + 1
      · have dB : decide ((k : Int) < (3 * (nc : Int) + 1) * (np : Int) * tim + (nc : Int) + 1) = true := decide_eq_true hB
        clear hB
        go_wp2_with fail
        refine (HLZ2.out wr (Chg.refl _ _)).mono ?_
        rintro e w2 ⟨rfl, g2⟩
        have G2 := Lib.hid g2
        clear g2
        go_wp2_with fail
        refine (HLZ2.out w2 G2.out).mono ?_
        rintro e w3 ⟨rfl, g3⟩
        have G3 := Lib.hid (G2.out.trans g3)
        clear g3
        go_wp2_with fail
        refine (HSZ2.out w3 G3.out).mono ?_
        rintro e w4 ⟨rfl, g4⟩
        have G4 := Lib.hid (G3.out.trans g4)
        clear g4
        go_wp2_with fail
        refine (known_any _).mono ?_
        rintro e w5 ⟨rfl, g5⟩
        have G5 := Lib.hid ((HCG.out.trans G4.out).trans g5)
        clear g5
        go_wp2_with fail
        go_ret
        exact ⟨rfl, G5.out⟩
      · have dB : decide ((k : Int) < (3 * (nc : Int) + 1) * (np : Int) * tim + (nc : Int) + 1) = false := decide_eq_false hB
        clear hB
        obtain ⟨w2, hw2⟩ : ∃ w2, w2 = wr := ⟨_, rfl⟩
        have G2 : Hid (Chg none wr w2) := Lib.hid (by rw [hw2]; exact Chg.refl _ _)
        subst hw2
        go_wp2_with fail
        refine (HLZ2.out w2 G2.out).mono ?_
        rintro e w3 ⟨rfl, g3⟩
        have G3 := Lib.hid (G2.out.trans g3)
        clear g3
        go_wp2_with fail
        refine (HSZ2.out w3 G3.out).mono ?_
        rintro e w4 ⟨rfl, g4⟩
        have G4 := Lib.hid (G3.out.trans g4)
        clear g4
        go_wp2_with fail
        refine (known_any _).mono ?_
        rintro e w5 ⟨rfl, g5⟩
        have G5 := Lib.hid ((HCG.out.trans G4.out).trans g5)
        clear g5
        go_wp2_with fail
        go_ret
        exact ⟨rfl, G5.out⟩
    · have hsoon : (k : Int) ≤ ((np : Int) - 1) * tim := by
        have h0 : ¬ ∀ x ∈ p.ch, x.st = 2 := fun h => hl (left_zero.2 h)
        have ⟨x, hx, hx2⟩ : ∃ x ∈ p.ch, x.st ≠ 2 := by
          by_cases hE : ∃ x ∈ p.ch, x.st ≠ 2
          · exact hE
          · exact absurd (fun x hx => by_contra_ne hE x hx) h0
        obtain ⟨c, hc⟩ := List.mem_iff_getElem?.1 hx
        have := HR.out.inv.soon HR.out.ok hc hx2
        rw [HR.out.np, HR.out.tm] at this
        exact this
      have dB : decide ((k : Int) < (3 * (nc : Int) + 1) * (np : Int) * tim + (nc : Int) + 1) = true := decide_eq_true (by omega)
      have d1 : decide (0 < leftM p) = true := decide_eq_true (by omega)
      have d2 : decide ((0 : Int) < (leftM p : Nat)) = true := decide_eq_true (by omega)
      obtain ⟨LL, hLL⟩ : ∃ LL, leftM p = LL := ⟨_, rfl⟩
      rw [hLL] at HLF d1 d2
      clear hl hLL HLZ HSZ
      go_wp2_with fail
      refine HLF.out.mono ?_
      rintro e w2 ⟨rfl, g2⟩
      have HR2 : Hid (AllRel w q g nc np tim k n p w2) := Lib.hid ⟨HR.out.at_.chg g2, HR.out.ok, HR.out.nc, HR.out.np, HR.out.tm, HR.out.inv, HR.out.bud, HR.out.chg.trans g2⟩
      clear g2 HR
      obtain ⟨wo, rfl⟩ : ∃ wo : World, wo = wr := ⟨_, rfl⟩
      go_wp2_with fail
      go_loopg [] (phiM p) (fun N wx => ∃ (n : Nat) (p : Pl), phiM p ≤ N ∧ Hid (AllRel w q g nc np tim k n p wx))
      case atStart => exact ⟨n, p, Nat.le_refl _, HR2⟩
      case round =>
        clear HR2 hbud
        obtain ⟨n, p, hN, HR⟩ := hrel
        have hbud := HR.out.bud
        have hlen := HR.out.nc
        have hpl := HR.out.np
        have htm := HR.out.tm
        have HNX := Lib.hid (next_any (k : Int) wr q n p HR.out.at_ HR.out.ok (by omega) ⟨by omega, by omega⟩)
        have hok1 := nextM_ok (now := (k : Int)) HR.out.ok ⟨by omega, by omega⟩
        obtain ⟨lc, lp, lw, lt⟩ := nextM_len p (k : Int)
        obtain ⟨no, hno⟩ : ∃ no, (nextM p (k : Int)).2 = no := ⟨_, rfl⟩
        have hinv := HR.out.inv
        cases no with
        | none =>
          obtain ⟨r1, r2, r3⟩ := hinv.rest HR.out.ok hno
          have HEND : Hid (∀ w3, PlanAt w3 q (n + 101) (nextM p (k : Int)).1 → Chg none w w3 → AllRel w q g nc np tim (k + 1) (n + 101) (nextM p (k : Int)).1 w3) := Lib.hid fun w3 h3 g3 =>
            ⟨h3, hok1, lc.trans hlen, lp.trans hpl, lt.trans htm, by rw [r1]; exact r2, by rw [r1, r3]; omega, g3⟩
          have HCG := Lib.hid HR.out.chg
          have HNO := Lib.hid hno
          clear hbud hlen hpl htm hok1 lc lp lw lt hno hinv r1 r2 r3 HR
          go_wp2_with fail
          refine HNX.out.mono ?_
          rintro e w3 ⟨rfl, h3, k3⟩
          rw [HNO.out]
          have HE := Lib.hid (HEND.out w3 h3 (Kept.fresh HCG.out k3 HQ.out))
          clear h3 k3
          unfold next3
          go_wp2_with fail
          go_roundw
          case rel => exact ⟨k + 1, _, _, by omega, by go_num, HE⟩
          case measure => simp [intOf]; omega
        | some ck =>
          obtain ⟨c, j⟩ := ck
          obtain ⟨x, hx, h0, hf, hE, _⟩ := next_asked hno
          have hs := (hinv.sweep HR.out.ok).1
          have hso := (sweepK_ok (k : Int) HR.out.ok p.ch.length (Nat.le_refl _)).mono (m := n + 100) (by have := HR.out.ok.nc; omega)
          have hps := phiM_sweep p (k : Int)
          have hjn : j < np := by
            have := fit_lt hf
            rw [(sweep_facts p (k : Int)).2.1] at this
            omega
          have HCG := Lib.hid HR.out.chg
          have HNO := Lib.hid hno
          rw [hE] at hok1 lc lp lw lt
          obtain ⟨P2, hP2⟩ : ∃ P2, askAt (sweepM p (k : Int)) c j (k : Int) = P2 := ⟨_, rfl⟩
          have HNS : Hid (Calls Try.prog 13 #[.pointer (some ⟨q.b, 0, none⟩), .int .i64 (k : Int)] wr fun e w' => e = .returned (.tuple #[.int .i64 (c : Int), .int .i64 (j : Int), .bool true]) ∧ PlanAt w' q (n + 101) P2 ∧ Kept q.has wr w') :=
            Lib.hid (HNX.out.mono fun e w' hh => ⟨by rw [hh.1, hno]; rfl, by rw [← hP2, ← hE]; exact hh.2.1, hh.2.2⟩)
          rw [hP2] at hok1 lc lp lw lt
          have u1 : bits / 2 ^ j % 2 < 2 := Int.emod_lt_of_pos _ (by omega)
          by_cases hg : j = g
          · subst hg
            obtain ⟨s1, s2, s3⟩ := hs.good hso hx h0 hf
            rw [hP2] at s1 s2 s3
            obtain ⟨l1, l2⟩ := hadM_len P2 c
            have hok2 := hadM_ok (c : Int) hok1
            have HEND : Hid (∀ w4, PlanAt w4 q (n + 101) (hadM P2 c).1 → Chg none w w4 → AllRel w q j nc np tim k (n + 101) (hadM P2 c).1 w4) := Lib.hid fun w4 h4 g4 =>
              ⟨h4, hok2, (l1.trans lc).trans hlen, (l2.trans lp).trans hpl, (by
                have : (hadM P2 c).1.tim = P2.tim := by
                  unfold hadM
                  split
                  · split
                    · rfl
                    · split <;> rfl
                  · rfl
                rw [this, lt, htm]), s2, by omega, g4⟩
            have HHD : Hid (∀ w3, PlanAt w3 q (n + 101) P2 → Calls Try.prog 15 #[.pointer (some ⟨q.b, 0, none⟩), .int .i64 (c : Int)] w3 fun e w' => e = .returned (.int .i64 0) ∧ PlanAt w' q (n + 101) (hadM P2 c).1 ∧ Kept q.has w3 w') :=
              Lib.hid fun w3 h3 => (had_any c w3 q _ P2 h3 hok1).mono fun e w' hh => ⟨by rw [hh.1, s1], hh.2⟩
            have hlt : phiM (hadM P2 c).1 < gk := by omega
            have HLT := Lib.hid hlt
            have n1 : ((j : Int) == (j : Int)) = true := by simp
            clear hno hx h0 hf hE hs hso hps hok1 lc lp lw lt s1 s2 s3 l1 l2 hok2 hP2 hlen hpl htm hbud hinv HNX HR hlt hN u1
            go_wp2_with fail
            refine HNS.out.mono ?_
            rintro e w3 ⟨rfl, h3, k3⟩
            have H3 := Lib.hid h3
            have G3 := Lib.hid (Kept.fresh HCG.out k3 HQ.out)
            clear h3 k3
            go_wp2_with fail
            refine (HHD.out w3 H3.out).mono ?_
            rintro e w4 ⟨rfl, h4, k4⟩
            have HE := Lib.hid (HEND.out w4 h4 (Kept.fresh G3.out k4 HQ.out))
            clear h4 k4
            go_wp2_with fail
            go_roundg (phiM (hadM P2 c).1)
            case measure => exact HLT.out
            case rel => exact ⟨_, _, Nat.le_refl _, HE⟩
          · obtain ⟨s1, s2⟩ := hs.silent hso hx h0 hf hg
            obtain ⟨v1, v2, v3⟩ := hs.bad hso hx h0 hf hg
            rw [hP2] at s1 s2 v1 v2 v3
            have hokb := badM_ok (c : Int) (j : Int) hok1
            rw [v1] at hokb
            obtain ⟨l1, l2, _, l4, _⟩ := reopenM_len P2 c
            have HEND : Hid (∀ w4, PlanAt w4 q (n + 101) P2 → Chg none w w4 → AllRel w q g nc np tim k (n + 101) P2 w4) := Lib.hid fun w4 h4 g4 =>
              ⟨h4, hok1, lc.trans hlen, lp.trans hpl, lt.trans htm, s1, by omega, g4⟩
            have HENB : Hid (∀ w4, PlanAt w4 q (n + 102) (reopenM P2 c) → Chg none w w4 → AllRel w q g nc np tim k (n + 102) (reopenM P2 c) w4) := Lib.hid fun w4 h4 g4 =>
              ⟨h4, hokb, (l1.trans lc).trans hlen, (l2.trans lp).trans hpl, (l4.trans lt).trans htm, v2, by omega, g4⟩
            have HBD : Hid (∀ w3, PlanAt w3 q (n + 101) P2 → Calls Try.prog 17 #[.pointer (some ⟨q.b, 0, none⟩), .int .i64 (c : Int), .int .i64 (j : Int)] w3 fun e w' => e = .returned (.int .i64 0) ∧ PlanAt w' q (n + 102) (reopenM P2 c) ∧ Kept q.has w3 w') :=
              Lib.hid fun w3 h3 => (bad_any c j w3 q _ P2 h3 hok1 (by omega)).mono fun e w' hh => ⟨by rw [hh.1, v1], by have := hh.2.1; rw [v1] at this; exact this, hh.2.2⟩
            have hlt : phiM P2 < gk := by omega
            have hltb : phiM (reopenM P2 c) < gk := by omega
            have HLT := Lib.hid hlt
            have HLB := Lib.hid hltb
            have n1 : ((j : Int) == (g : Int)) = false := by simp; omega
            have j6 : j ≤ 6 := by omega
            clear hno hx h0 hf hE hs hso hps hok1 lc lp lw lt s1 s2 v1 v2 v3 l1 l2 l4 hokb hP2 hlen hpl htm hbud hinv HNX HR hlt hltb hN hg
            go_wp2_with fail
            refine HNS.out.mono ?_
            rintro e w3 ⟨rfl, h3, k3⟩
            have H3 := Lib.hid h3
            have G3 := Lib.hid (Kept.fresh HCG.out k3 HQ.out)
            clear h3 k3
            go_wp2_with fail
            · refine (HBD.out w3 H3.out).mono ?_
              rintro e w4 ⟨rfl, h4, k4⟩
              have HE := Lib.hid (HENB.out w4 h4 (Kept.fresh G3.out k4 HQ.out))
              clear h4 k4
              go_wp2_with fail
              go_roundg (phiM (reopenM P2 c))
              case measure => exact HLB.out
              case rel => exact ⟨_, _, Nat.le_refl _, HE⟩
            · have HE := Lib.hid (HEND.out w3 H3.out G3.out)
              go_roundg (phiM P2)
              case measure => exact HLT.out
              case rel => exact ⟨_, _, Nat.le_refl _, HE⟩

set_option maxRecDepth 100000 in
set_option maxHeartbeats 8000000 in
theorem all_not (nc np win tim good bits : Int) (w : World) (hm : ¬ mayP nc np win tim) :
    Calls Try.prog 6 #[.int .i64 nc, .int .i64 np, .int .i64 win, .int .i64 tim, .int .i64 good, .int .u64 bits] w fun e w' => e = .returned (.bool true) ∧ Chg none w w' := by
  have HN := Lib.hid (new_no nc np win tim w hm)
  clear hm
  go_enter Try.func6, Try.ntmps6
  go_wp2_with fail
  refine HN.out.mono ?_
  rintro e w1 ⟨rfl, rfl⟩
  go_wp2_with fail
  refine (known_any _).mono ?_
  rintro e w2 ⟨rfl, g2⟩
  have G2 := Lib.hid g2
  clear g2
  go_wp2_with fail
  go_ret
  exact ⟨rfl, G2.out⟩

set_option maxRecDepth 100000 in
set_option maxHeartbeats 8000000 in
theorem all_other (nc np : Nat) (win tim good bits : Int) (w : World) (hm : mayP nc np win tim) (ha : ¬ mayAll nc np tim) :
    Calls Try.prog 6 #[.int .i64 nc, .int .i64 np, .int .i64 win, .int .i64 tim, .int .i64 good, .int .u64 bits] w fun e w' => e = .returned (.bool true) ∧ Chg none w w' := by
  have HN := Lib.hid (new_yes nc np win tim w hm)
  clear hm
  by_cases h0 : (20 : Int) < (nc : Int)
  · have d0 : decide ((20 : Int) < (nc : Int)) = true := decide_eq_true h0
    clear ha h0
    go_enter Try.func6, Try.ntmps6
    go_wp2_with fail
    refine HN.out.mono ?_
    rintro e w1 ⟨q, rfl, h1, hq, g1⟩
    have G1 := Lib.hid g1
    clear h1 hq g1
    go_wp2_with fail
    refine (known_any _).mono ?_
    rintro e w2 ⟨rfl, g2⟩
    have G2 := Lib.hid (G1.out.trans g2)
    clear g2
    go_wp2_with fail
    go_ret
    exact ⟨rfl, G2.out⟩
  · have d0 : decide ((20 : Int) < (nc : Int)) = false := decide_eq_false h0
    by_cases h1 : (6 : Int) < (np : Int)
    · have d1 : decide ((6 : Int) < (np : Int)) = true := decide_eq_true h1
      clear ha h1
      go_enter Try.func6, Try.ntmps6
      go_wp2_with fail
      refine HN.out.mono ?_
      rintro e w1 ⟨q, rfl, h1, hq, g1⟩
      have G1 := Lib.hid g1
      clear h1 hq g1
      go_wp2_with fail
      refine (known_any _).mono ?_
      rintro e w2 ⟨rfl, g2⟩
      have G2 := Lib.hid (G1.out.trans g2)
      clear g2
      go_wp2_with fail
      go_ret
      exact ⟨rfl, G2.out⟩
    · have d1 : decide ((6 : Int) < (np : Int)) = false := decide_eq_false h1
      by_cases h2 : (np : Int) < 1
      · have d2 : decide ((np : Int) < 1) = true := decide_eq_true h2
        clear ha h2
        go_enter Try.func6, Try.ntmps6
        go_wp2_with fail
        refine HN.out.mono ?_
        rintro e w1 ⟨q, rfl, h1, hq, g1⟩
        have G1 := Lib.hid g1
        clear h1 hq g1
        go_wp2_with fail
        refine (known_any _).mono ?_
        rintro e w2 ⟨rfl, g2⟩
        have G2 := Lib.hid (G1.out.trans g2)
        clear g2
        go_wp2_with fail
        go_ret
        exact ⟨rfl, G2.out⟩
      · have d2 : decide ((np : Int) < 1) = false := decide_eq_false h2
        by_cases h3 : (10 : Int) < tim
        · have d3 : decide ((10 : Int) < tim) = true := decide_eq_true h3
          clear ha h3
          go_enter Try.func6, Try.ntmps6
          go_wp2_with fail
          refine HN.out.mono ?_
          rintro e w1 ⟨q, rfl, h1, hq, g1⟩
          have G1 := Lib.hid g1
          clear h1 hq g1
          go_wp2_with fail
          refine (known_any _).mono ?_
          rintro e w2 ⟨rfl, g2⟩
          have G2 := Lib.hid (G1.out.trans g2)
          clear g2
          go_wp2_with fail
          go_ret
          exact ⟨rfl, G2.out⟩
        · have d3 : decide ((10 : Int) < tim) = false := decide_eq_false h3
          exact absurd ⟨by omega, ⟨by omega, by omega⟩, by omega⟩ ha

theorem all_all (nc np win tim good bits : Int) (w : World) (_hb0 : 0 ≤ bits) (_hb1 : bits ≤ 18446744073709551615) :
    Calls Try.prog 6 #[.int .i64 nc, .int .i64 np, .int .i64 win, .int .i64 tim, .int .i64 good, .int .u64 bits] w fun e w' => e = .returned (.bool true) ∧ Chg none w w' := by
  by_cases hm : mayP nc np win tim
  · obtain ⟨c, rfl⟩ := Int.eq_ofNat_of_zero_le hm.1.1
    obtain ⟨p, rfl⟩ := Int.eq_ofNat_of_zero_le hm.2.1.1
    by_cases ha : mayAll c p tim
    · exact all_main c p win tim good bits w hm ha _hb0 _hb1
    · exact all_other c p win tim good bits w hm ha
  · exact all_not nc np win tim good bits w hm

end Go.Proofs.Ytippkdjggipnmaa
