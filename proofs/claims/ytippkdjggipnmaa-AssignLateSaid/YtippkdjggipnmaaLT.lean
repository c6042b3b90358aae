/-
  The law AssignLate, walked.
-/
import Derived.Test.YtippkdjggipnmaaLP
import Derived.Test.YtippkdjggipnmaaN
import Derived.Test.YtippkdjggipnmaaV
namespace Go.Proofs.Ytippkdjggipnmaa
open Go.RowKit Go.Maps

def mayLate (np tim a : Int) : Prop := (1 ≤ np ∧ np ≤ 64) ∧ (1 ≤ tim ∧ tim ≤ 1000) ∧ 0 ≤ a ∧ a ≤ 1000

set_option maxRecDepth 100000 in
set_option maxHeartbeats 8000000 in
theorem late_not (np tim a : Int) (w : World) (h : ¬ mayLate np tim a) :
    Calls Try.prog 8 #[.int .i64 np, .int .i64 tim, .int .i64 a] w fun e w' => e = .returned (.bool true) ∧ Chg none w w' := by
  by_cases h0 : np < 1
  · have d0 : decide (np < 1) = true := decide_eq_true h0
    clear h h0
    go_enter Try.func8, Try.ntmps8
    go_wp2_with fail
    refine (known_any _).mono ?_
    rintro e w2 ⟨rfl, g2⟩
    have G2 := Lib.hid g2
    clear g2
    go_wp2_with fail
    go_ret
    exact ⟨rfl, G2.out⟩
  · have d0 : decide (np < 1) = false := decide_eq_false h0
    by_cases h1 : 64 < np
    · have d1 : decide (64 < np) = true := decide_eq_true h1
      clear h h1
      go_enter Try.func8, Try.ntmps8
      go_wp2_with fail
      refine (known_any _).mono ?_
      rintro e w2 ⟨rfl, g2⟩
      have G2 := Lib.hid g2
      clear g2
      go_wp2_with fail
      go_ret
      exact ⟨rfl, G2.out⟩
    · have d1 : decide (64 < np) = false := decide_eq_false h1
      by_cases h2 : tim < 1
      · have d2 : decide (tim < 1) = true := decide_eq_true h2
        clear h h2
        go_enter Try.func8, Try.ntmps8
        go_wp2_with fail
        refine (known_any _).mono ?_
        rintro e w2 ⟨rfl, g2⟩
        have G2 := Lib.hid g2
        clear g2
        go_wp2_with fail
        go_ret
        exact ⟨rfl, G2.out⟩
      · have d2 : decide (tim < 1) = false := decide_eq_false h2
        by_cases h3 : 1000 < tim
        · have d3 : decide (1000 < tim) = true := decide_eq_true h3
          clear h h3
          go_enter Try.func8, Try.ntmps8
          go_wp2_with fail
          refine (known_any _).mono ?_
          rintro e w2 ⟨rfl, g2⟩
          have G2 := Lib.hid g2
          clear g2
          go_wp2_with fail
          go_ret
          exact ⟨rfl, G2.out⟩
        · have d3 : decide (1000 < tim) = false := decide_eq_false h3
          by_cases h4 : a < 0
          · have d4 : decide (a < 0) = true := decide_eq_true h4
            clear h h4
            go_enter Try.func8, Try.ntmps8
            go_wp2_with fail
            refine (known_any _).mono ?_
            rintro e w2 ⟨rfl, g2⟩
            have G2 := Lib.hid g2
            clear g2
            go_wp2_with fail
            go_ret
            exact ⟨rfl, G2.out⟩
          · have d4 : decide (a < 0) = false := decide_eq_false h4
            by_cases h5 : 1000 < a
            · have d5 : decide (1000 < a) = true := decide_eq_true h5
              clear h h5
              go_enter Try.func8, Try.ntmps8
              go_wp2_with fail
              refine (known_any _).mono ?_
              rintro e w2 ⟨rfl, g2⟩
              have G2 := Lib.hid g2
              clear g2
              go_wp2_with fail
              go_ret
              exact ⟨rfl, G2.out⟩
            · have d5 : decide (1000 < a) = false := decide_eq_false h5
              exact absurd ⟨⟨by omega, by omega⟩, ⟨by omega, by omega⟩, by omega, by omega⟩ h

structure LateRel (w : World) (q : Qb) (np : Nat) (tim a : Int) (r : Nat) (p : Pl) (wr : World) : Prop where
  at_ : PlanAt wr q (202 * r) p
  ok : p.ok (202 * r)
  sw : sweepM p (a + r * tim) = swR np tim r
  chg : Chg none w wr

set_option maxRecDepth 100000 in
set_option maxHeartbeats 16000000 in
theorem late_main (np : Nat) (tim a : Int) (w : World) (h : mayLate np tim a) :
    Calls Try.prog 8 #[.int .i64 np, .int .i64 tim, .int .i64 a] w fun e w' => e = .returned (.bool true) ∧ Chg none w w' := by
  obtain ⟨⟨p1, p2⟩, ⟨t1, t2⟩, a1, a2⟩ := h
  have hmay : mayP (1 : Nat) np 1 tim := ⟨by omega, by omega, by omega, by omega, by omega⟩
  have HN : Hid (Calls Try.prog 9 #[.int .i64 1, .int .i64 np, .int .i64 1, .int .i64 tim] w (NewPost w 1 np 1 tim)) := Lib.hid (new_yes 1 np 1 tim w hmay)
  have HOK := Lib.hid (newP_ok hmay)
  have h0 : 0 < np := by omega
  clear hmay
  go_enter Try.func8, Try.ntmps8
  go_wp2_with fail
  refine HN.out.mono ?_
  rintro e w1 ⟨q, rfl, hp1, hq, g1⟩
  have H1 := Lib.hid hp1
  have HQ := Lib.hid hq
  have G1 := Lib.hid g1
  clear hp1 hq g1 HN
  go_wp2_with fail
  go_loopw [56] (fun s56 wr => ∃ (r : Nat) (p : Pl), r ≤ 3 * np ∧ s56 = .int .i64 r ∧ Hid (LateRel w q np tim a r p wr)) (fun i _ => 3 * np - (intOf i).toNat)
  case atStart => exact ⟨0, newP 1 np 1 tim, Nat.zero_le _, rfl, Lib.hid ⟨H1.out, HOK.out, sweep_new np tim a, G1.out⟩⟩
  case round =>
    obtain ⟨r, p, hr, rfl, HR⟩ := hrel
    clear G1 H1 HOK
    have m0 : 0 ≤ (r : Int) * tim := Int.mul_nonneg (by omega) (by omega)
    have m1 : (r : Int) * tim ≤ 192000 := by
      have e1 : (r : Int) * tim ≤ r * 1000 := Int.mul_le_mul_of_nonneg_left t2 (by omega)
      omega
    by_cases hlt : r < 3 * np
    · have hmod : r % np < np := Nat.mod_lt r h0
      have c1 : ((r % np : Nat) : Int) = (r : Int) % (np : Int) := Int.natCast_emod r np
      have c2 : ((r / np : Nat) : Int) = (r : Int) / (np : Int) := Int.natCast_ediv r np
      have hns := next_sw np tim a r h0 hlt HR.out.sw
      have HN1 : Hid (Calls Try.prog 13 #[.pointer (some ⟨q.b, 0, none⟩), .int .i64 (a + r * tim)] wr fun e w' => e = .returned (.tuple #[.int .i64 0, .int .i64 ((r : Int) % (np : Int)), .bool true]) ∧ PlanAt w' q (202 * r + 101) (akR np tim a r) ∧ Kept q.has wr w') :=
        Lib.hid ((next_any (a + r * tim) wr q (202 * r) p HR.out.at_ HR.out.ok (by omega) ⟨by omega, by omega⟩).mono fun e w' hh => by
          obtain ⟨q1, q2, q3⟩ := hh
          rw [hns] at q1 q2
          exact ⟨by rw [q1, ← c1]; rfl, q2, q3⟩)
      have hok1 : (akR np tim a r).ok (202 * r + 101) := by
        have := nextM_ok (now := a + r * tim) HR.out.ok ⟨by omega, by omega⟩
        rw [hns] at this
        exact this
      have hna := next_ak np tim a r h0 t1
      have hok2 : (akR np tim a r).ok (202 * (r + 1)) := hok1.mono (by omega)
      have HN2 : Hid (∀ w3, PlanAt w3 q (202 * r + 101) (akR np tim a r) → Calls Try.prog 13 #[.pointer (some ⟨q.b, 0, none⟩), .int .i64 (a + r * tim + tim - 1)] w3 fun e w' => e = .returned (.tuple #[.int .i64 0, .int .i64 0, .bool false]) ∧ PlanAt w' q (202 * (r + 1)) (akR np tim a r) ∧ Kept q.has w3 w') :=
        Lib.hid fun w3 h3 => (next_any (a + r * tim + tim - 1) w3 q (202 * r + 101) _ h3 hok1 (by omega) ⟨by omega, by omega⟩).mono fun e w' hh => by
          obtain ⟨q1, q2, q3⟩ := hh
          rw [hna] at q1 q2
          exact ⟨q1, q2.mono (by omega), q3⟩
      have HDM : Hid (∀ w4, PlanAt w4 q (202 * (r + 1)) (akR np tim a r) → Calls Try.prog 23 #[.pointer (some ⟨q.b, 0, none⟩), .int .i64 ((r : Int) % (np : Int))] w4 fun e w' => e = .returned (.int .i64 ((r : Int) / (np : Int))) ∧ w4 = w') :=
        Lib.hid fun w4 h4 => by
          have hd := dem_any ((r % np : Nat) : Int) w4 q _ _ h4 hok2
          rw [dem_ak np tim a r h0, c1, c2] at hd
          exact hd
      have HOK2 := Lib.hid hok2
      have HSW : Hid (sweepM (akR np tim a r) (a + ((r + 1 : Nat) : Int) * tim) = swR np tim (r + 1)) := Lib.hid (sweep_ak np tim a r h0 t1)
      have n1 : ((r : Int) % (np : Int) != (r : Int) % (np : Int)) = false := by simp
      have n2 : ((r : Int) / (np : Int) != (r : Int) / (np : Int)) = false := by simp
      have HCG := Lib.hid HR.out.chg
      have d0 : 0 ≤ (r : Int) / (np : Int) := by rw [← c2]; exact Int.natCast_nonneg _
      have d1 : (r : Int) / (np : Int) ≤ 192 := by
        rw [← c2]
        exact Int.ofNat_le.2 (Nat.le_trans (Nat.div_le_self r np) (by omega : r ≤ 192))
      clear hns hok1 hna hok2 c1 c2 hmod HR
      go_wp2_with fail
      refine HN1.out.mono ?_
      rintro e w3 ⟨rfl, h3, k3⟩
      have H3 := Lib.hid h3
      have G3 := Lib.hid (Kept.fresh HCG.out k3 HQ.out)
      clear h3 k3
      go_wp2_with fail
      refine (HN2.out w3 H3.out).mono ?_
      rintro e w4 ⟨rfl, h4, k4⟩
      have H4 := Lib.hid h4
      have G4 := Lib.hid (Kept.fresh G3.out k4 HQ.out)
      clear h4 k4
      go_wp2
      go_quiet ((go_at_call 23; refine (HDM.out _ (PlanAt.drewN H4.out _)).mono (fun _ _ h => ⟨h.1, _, h.2.symm⟩)))
      go_wp2
      go_roundw
      case rel => exact ⟨r + 1, _, by omega, by go_num, Lib.hid ⟨PlanAt.drewN H4.out _, HOK2.out, HSW.out, G4.out.drewN _⟩⟩
      case measure => simp [intOf]; omega
    · have hr3 : r = 3 * np := by omega
      have hen := next_end np tim a h0 (p := p) (by rw [← hr3]; exact HR.out.sw)
      have c3 : (a + ((3 * np : Nat) : Int) * tim) = a + 3 * (np : Int) * tim := by rw [Int.natCast_mul]; rfl
      have m2 : 0 ≤ 3 * (np : Int) * tim := Int.mul_nonneg (by omega) (by omega)
      have m3 : 3 * (np : Int) * tim ≤ 192000 := by
        rw [hr3, Int.natCast_mul] at m1
        exact m1
      have HNE : Hid (Calls Try.prog 13 #[.pointer (some ⟨q.b, 0, none⟩), .int .i64 (a + 3 * (np : Int) * tim)] wr fun e w' => e = .returned (.tuple #[.int .i64 0, .int .i64 0, .bool false]) ∧ PlanAt w' q (202 * r + 101) (swR np tim (3 * np)) ∧ Kept q.has wr w') :=
        Lib.hid ((next_any (a + 3 * (np : Int) * tim) wr q (202 * r) p HR.out.at_ HR.out.ok (by omega) ⟨by omega, by omega⟩).mono fun e w' hh => by
          obtain ⟨q1, q2, q3⟩ := hh
          rw [← c3, hen.1] at q1 q2
          exact ⟨q1, q2, q3⟩)
      have hok1 : (swR np tim (3 * np)).ok (202 * r + 101) := by
        have := nextM_ok (now := a + ((3 * np : Nat) : Int) * tim) HR.out.ok ⟨by rw [c3]; omega, by rw [c3]; omega⟩
        rw [hen.1] at this
        exact this
      have HST : Hid (∀ w3, PlanAt w3 q (202 * r + 101) (swR np tim (3 * np)) → Calls Try.prog 25 #[.pointer (some ⟨q.b, 0, none⟩)] w3 fun e w' => e = .returned (.bool true) ∧ Chg none w3 w') :=
        Lib.hid fun w3 h3 => (stuck_any w3 q _ _ h3 hok1).mono fun e w' hh => ⟨by rw [hh.1, hen.2.2], hh.2⟩
      have HLF : Hid (∀ w3, PlanAt w3 q (202 * r + 101) (swR np tim (3 * np)) → Calls Try.prog 24 #[.pointer (some ⟨q.b, 0, none⟩)] w3 fun e w' => e = .returned (.int .i64 1) ∧ Chg none w3 w') :=
        Lib.hid fun w3 h3 => (left_any w3 q _ _ h3 hok1).mono fun e w' hh => ⟨by rw [hh.1, hen.2.1]; rfl, hh.2⟩
      have HCG := Lib.hid HR.out.chg
      clear hen c3 hok1 HR hr3
      go_wp2_with fail
      refine HNE.out.mono ?_
      rintro e w3 ⟨rfl, h3, k3⟩
      have H3 := Lib.hid h3
      have G3 := Lib.hid (Kept.fresh HCG.out k3 HQ.out)
      clear h3 k3
      go_wp2_with fail
      refine (HST.out w3 H3.out).mono ?_
      rintro e w4 ⟨rfl, g4⟩
      have H4 := Lib.hid (H3.out.chg g4)
      have G4 := Lib.hid (G3.out.trans g4)
      clear g4
      go_wp2_with fail
      refine (HLF.out w4 H4.out).mono ?_
      rintro e w5 ⟨rfl, g5⟩
      have G5 := Lib.hid (G4.out.trans g5)
      clear g5
      go_wp2_with fail
      refine (known_any _).mono ?_
      rintro e w6 ⟨rfl, g6⟩
      have G6 := Lib.hid (G5.out.trans g6)
      clear g6
      go_wp2_with fail
      go_ret
      exact ⟨rfl, G6.out⟩

theorem late_all (np tim a : Int) (w : World) :
    Calls Try.prog 8 #[.int .i64 np, .int .i64 tim, .int .i64 a] w fun e w' => e = .returned (.bool true) ∧ Chg none w w' := by
  by_cases h : mayLate np tim a
  · obtain ⟨k, rfl⟩ := Int.eq_ofNat_of_zero_le (a := np) (by have := h.1; omega)
    exact late_main k tim a w h
  · exact late_not np tim a w h

end Go.Proofs.Ytippkdjggipnmaa
