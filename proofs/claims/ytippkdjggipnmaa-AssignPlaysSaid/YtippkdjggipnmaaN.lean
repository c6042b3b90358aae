/-
  Walks over package assign: New refuses; what is known.
-/
import Derived.Test.YtippkdjggipnmaaF
import Derived.Test.YtippkdjggipnmaaK2
namespace Go.Proofs.Ytippkdjggipnmaa
open Go.RowKit Go.Maps

set_option maxHeartbeats 4000000 in
theorem new_no (nc np win tim : Int) (w : World) (h : ¬ mayP nc np win tim) :
    Calls Try.prog 9 #[.int .i64 nc, .int .i64 np, .int .i64 win, .int .i64 tim] w fun e w' => e = .returned (.tuple #[.pointer none, .int .i64 2]) ∧ w = w' := by
  by_cases h0 : nc < 0
  · have d0 : decide (nc < 0) = true := decide_eq_true h0
    clear h h0
    go_enter Try.func9, Try.ntmps9
    go_wp2
    go_ret2
    exact ⟨rfl, rfl⟩
  · have d0 : decide (nc < 0) = false := decide_eq_false h0
    by_cases h1 : 100 < nc
    · have d1 : decide (100 < nc) = true := decide_eq_true h1
      clear h h1
      go_enter Try.func9, Try.ntmps9
      go_wp2
      go_ret2
      exact ⟨rfl, rfl⟩
    · have d1 : decide (100 < nc) = false := decide_eq_false h1
      by_cases h2 : np < 0
      · have d2 : decide (np < 0) = true := decide_eq_true h2
        clear h h2
        go_enter Try.func9, Try.ntmps9
        go_wp2
        go_ret2
        exact ⟨rfl, rfl⟩
      · have d2 : decide (np < 0) = false := decide_eq_false h2
        by_cases h3 : 64 < np
        · have d3 : decide (64 < np) = true := decide_eq_true h3
          clear h h3
          go_enter Try.func9, Try.ntmps9
          go_wp2
          go_ret2
          exact ⟨rfl, rfl⟩
        · have d3 : decide (64 < np) = false := decide_eq_false h3
          by_cases h4 : win < 1
          · have d4 : decide (win < 1) = true := decide_eq_true h4
            clear h h4
            go_enter Try.func9, Try.ntmps9
            go_wp2
            go_ret2
            exact ⟨rfl, rfl⟩
          · have d4 : decide (win < 1) = false := decide_eq_false h4
            by_cases h5 : 100 < win
            · have d5 : decide (100 < win) = true := decide_eq_true h5
              clear h h5
              go_enter Try.func9, Try.ntmps9
              go_wp2
              go_ret2
              exact ⟨rfl, rfl⟩
            · have d5 : decide (100 < win) = false := decide_eq_false h5
              by_cases h6 : tim < 1
              · have d6 : decide (tim < 1) = true := decide_eq_true h6
                clear h h6
                go_enter Try.func9, Try.ntmps9
                go_wp2
                go_ret2
                exact ⟨rfl, rfl⟩
              · have d6 : decide (tim < 1) = false := decide_eq_false h6
                by_cases h7 : 1000000 < tim
                · have d7 : decide (1000000 < tim) = true := decide_eq_true h7
                  clear h h7
                  go_enter Try.func9, Try.ntmps9
                  go_wp2
                  go_ret2
                  exact ⟨rfl, rfl⟩
                · have d7 : decide (1000000 < tim) = false := decide_eq_false h7
                  exact absurd ⟨⟨by omega, by omega⟩, ⟨by omega, by omega⟩, ⟨by omega, by omega⟩, by omega, by omega⟩ h

def kp0 : Pl := newP 2 2 1 5
def kp1 : Pl := (nextM kp0 0).1
def kp2 : Pl := (nextM kp1 0).1
def kp3 : Pl := (nextM kp2 0).1
def kp4 : Pl := (badM kp3 0 0).1
def kp5 : Pl := (nextM kp4 1).1
def kp6 : Pl := (hadM kp5 0).1
def kp7 : Pl := (hadM kp6 0).1
theorem i0 : I64 0 := ⟨by decide, by decide⟩
theorem i1 : I64 1 := ⟨by decide, by decide⟩
theorem ko0 : kp0.ok 0 := newP_ok ⟨by decide, by decide, by decide, by decide⟩
theorem ko1 : kp1.ok 101 := nextM_ok ko0 i0
theorem ko2 : kp2.ok 202 := nextM_ok ko1 i0
theorem ko3 : kp3.ok 303 := nextM_ok ko2 i0
theorem ko4 : kp4.ok 304 := badM_ok 0 0 ko3
theorem ko5 : kp5.ok 405 := nextM_ok ko4 i1
theorem ko6 : kp6.ok 405 := hadM_ok 0 ko5
theorem ko7 : kp7.ok 405 := hadM_ok 0 ko6

theorem kn1 (w : World) (q : Qb) (h : PlanAt w q 0 kp0) : Calls Try.prog 13 #[.pointer (some ⟨q.b, 0, none⟩), .int .i64 0] w fun e w' => e = .returned (.tuple #[.int .i64 0, .int .i64 0, .bool true]) ∧ PlanAt w' q 101 kp1 ∧ Kept q.has w w' :=
  (next_any 0 w q 0 kp0 h ko0 (by decide) i0).mono fun _ _ ⟨h1, h2⟩ => ⟨by rw [h1, show (nextM kp0 0).2 = some (0, 0) by decide +kernel]; rfl, h2⟩
theorem kn2 (w : World) (q : Qb) (h : PlanAt w q 101 kp1) : Calls Try.prog 13 #[.pointer (some ⟨q.b, 0, none⟩), .int .i64 0] w fun e w' => e = .returned (.tuple #[.int .i64 1, .int .i64 1, .bool true]) ∧ PlanAt w' q 202 kp2 ∧ Kept q.has w w' :=
  (next_any 0 w q 101 kp1 h ko1 (by decide) i0).mono fun _ _ ⟨h1, h2⟩ => ⟨by rw [h1, show (nextM kp1 0).2 = some (1, 1) by decide +kernel]; rfl, h2⟩
theorem kn3 (w : World) (q : Qb) (h : PlanAt w q 202 kp2) : Calls Try.prog 13 #[.pointer (some ⟨q.b, 0, none⟩), .int .i64 0] w fun e w' => e = .returned (.tuple #[.int .i64 0, .int .i64 0, .bool false]) ∧ PlanAt w' q 303 kp3 ∧ Kept q.has w w' :=
  (next_any 0 w q 202 kp2 h ko2 (by decide) i0).mono fun _ _ ⟨h1, h2⟩ => ⟨by rw [h1, show (nextM kp2 0).2 = none by decide +kernel]; rfl, h2⟩
theorem kb4 (w : World) (q : Qb) (h : PlanAt w q 303 kp3) : Calls Try.prog 17 #[.pointer (some ⟨q.b, 0, none⟩), .int .i64 0, .int .i64 0] w fun e w' => e = .returned (.int .i64 0) ∧ PlanAt w' q 304 kp4 ∧ Kept q.has w w' :=
  (bad_any 0 0 w q 303 kp3 h ko3 (by decide)).mono fun _ _ ⟨h1, h2⟩ => ⟨by rw [h1, show (badM kp3 0 0).2 = 0 by decide +kernel], h2⟩
theorem kn5 (w : World) (q : Qb) (h : PlanAt w q 304 kp4) : Calls Try.prog 13 #[.pointer (some ⟨q.b, 0, none⟩), .int .i64 1] w fun e w' => e = .returned (.tuple #[.int .i64 0, .int .i64 0, .bool true]) ∧ PlanAt w' q 405 kp5 ∧ Kept q.has w w' :=
  (next_any 1 w q 304 kp4 h ko4 (by decide) i1).mono fun _ _ ⟨h1, h2⟩ => ⟨by rw [h1, show (nextM kp4 1).2 = some (0, 0) by decide +kernel]; rfl, h2⟩
theorem kd5 (w : World) (q : Qb) (h : PlanAt w q 405 kp5) : Calls Try.prog 23 #[.pointer (some ⟨q.b, 0, none⟩), .int .i64 0] w fun e w' => e = .returned (.int .i64 1) ∧ w = w' :=
  (dem_any 0 w q 405 kp5 h ko5).mono fun _ _ ⟨h1, h2⟩ => ⟨by rw [h1, show demM kp5 0 = 1 by decide +kernel], h2⟩
theorem kh6 (w : World) (q : Qb) (h : PlanAt w q 405 kp5) : Calls Try.prog 15 #[.pointer (some ⟨q.b, 0, none⟩), .int .i64 0] w fun e w' => e = .returned (.int .i64 0) ∧ PlanAt w' q 405 kp6 ∧ Kept q.has w w' :=
  (had_any 0 w q 405 kp5 h ko5).mono fun _ _ ⟨h1, h2⟩ => ⟨by rw [h1, show (hadM kp5 0).2 = 0 by decide +kernel], h2⟩
theorem kh7 (w : World) (q : Qb) (h : PlanAt w q 405 kp6) : Calls Try.prog 15 #[.pointer (some ⟨q.b, 0, none⟩), .int .i64 0] w fun e w' => e = .returned (.int .i64 7) ∧ PlanAt w' q 405 kp7 ∧ Kept q.has w w' :=
  (had_any 0 w q 405 kp6 h ko6).mono fun _ _ ⟨h1, h2⟩ => ⟨by rw [h1, show (hadM kp6 0).2 = 7 by decide +kernel], h2⟩
theorem kl8 (w : World) (q : Qb) (h : PlanAt w q 405 kp7) : Calls Try.prog 24 #[.pointer (some ⟨q.b, 0, none⟩)] w fun e w' => e = .returned (.int .i64 1) ∧ Chg none w w' :=
  (left_any w q 405 kp7 h ko7).mono fun _ _ ⟨h1, h2⟩ => ⟨by rw [h1, show leftM kp7 = 1 by decide +kernel]; rfl, h2⟩

set_option maxRecDepth 100000 in
set_option maxHeartbeats 4000000 in
theorem known_any (w : World) : Calls Try.prog 11 #[] w fun e w' => e = .returned (.bool true) ∧ Chg none w w' := by
  have HN : Hid (Calls Try.prog 9 #[.int .i64 2, .int .i64 2, .int .i64 1, .int .i64 5] w (NewPost w 2 2 1 5)) := Lib.hid (new_yes 2 2 1 5 w ⟨by decide, by decide, by decide, by decide⟩)
  go_enter Try.func11, Try.ntmps11
  go_wp2_with fail
  refine HN.out.mono ?_
  rintro e w1 ⟨q, rfl, h1, hq, g1⟩
  have HQ := Lib.hid hq
  have G1 := Lib.hid g1
  clear hq g1 HN
  go_wp2_with fail
  refine (kn1 _ q h1).mono ?_
  rintro e w2 ⟨rfl, h2, k2⟩
  have K2 := Lib.hid (Kept.fresh G1.out k2 HQ.out)
  clear k2 h1 G1
  go_wp2_with fail
  refine (kn2 _ q h2).mono ?_
  rintro e w3 ⟨rfl, h3, k3⟩
  have K3 := Lib.hid (Kept.fresh K2.out k3 HQ.out)
  clear k3 h2 K2
  go_wp2_with fail
  refine (kn3 _ q h3).mono ?_
  rintro e w4 ⟨rfl, h4, k4⟩
  have K4 := Lib.hid (Kept.fresh K3.out k4 HQ.out)
  clear k4 h3 K3
  go_wp2_with fail
  refine (kb4 _ q h4).mono ?_
  rintro e w5 ⟨rfl, h5, k5⟩
  have K5 := Lib.hid (Kept.fresh K4.out k5 HQ.out)
  clear k5 h4 K4
  go_wp2_with fail
  refine (kn5 _ q h5).mono ?_
  rintro e w6 ⟨rfl, h6, k6⟩
  have K6 := Lib.hid (Kept.fresh K5.out k6 HQ.out)
  clear k6 h5 K5
  go_wp2_with fail
  refine (kd5 _ q h6).mono ?_
  rintro e w7 ⟨rfl, rfl⟩
  go_wp2_with fail
  refine (kh6 _ q h6).mono ?_
  rintro e w7 ⟨rfl, h7, k7⟩
  have K7 := Lib.hid (Kept.fresh K6.out k7 HQ.out)
  clear k7 h6 K6
  go_wp2_with fail
  refine (kh7 _ q h7).mono ?_
  rintro e w8 ⟨rfl, h8, k8⟩
  have K8 := Lib.hid (Kept.fresh K7.out k8 HQ.out)
  clear k8 h7 K7
  go_wp2_with fail
  refine (kl8 _ q h8).mono ?_
  rintro e w9 ⟨rfl, k9⟩
  have K9 := Lib.hid (K8.out.trans k9)
  clear k9 h8 K8
  go_wp2_with fail
  go_ret
  exact ⟨rfl, K9.out⟩

end Go.Proofs.Ytippkdjggipnmaa
