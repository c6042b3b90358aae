/-
  Walks over package builder and its statements: New, known.
-/
import Derived.Test.YtcfpjlojknahlaaE
namespace Go.Proofs.Ytcfpjlojknahlaa
open Go.RowKit

def T.fresh (c u : Int) : T := ⟨c, u, 1, false, 0, false, 0, 0⟩

set_option maxHeartbeats 400000 in
theorem new_yes (c u : Int) (w : World) (hc : 0 ≤ c ∧ c ≤ 1000000) (hu : 0 ≤ u ∧ u ≤ 1000000) :
    Calls Try.prog 7 #[.int .i64 c, .int .i64 u] w fun e w' =>
      e = .returned (.pointer (some ⟨w.heap.size, 0, none⟩)) ∧ TurnAt w' w.heap.size (T.fresh c u) ∧ Chg none w w' := by
  have h1 : decide (0 ≤ c ∧ c ≤ 1000000) = true := by simp; omega
  have h2 : decide (0 ≤ u ∧ u ≤ 1000000) = true := by simp; omega
  have s1 := fun W => isSpan_any c W
  have s2 := fun W => isSpan_any u W
  rw [h1] at s1
  rw [h2] at s2
  have S1 := Lib.hid s1
  have S2 := Lib.hid s2
  clear h1 h2 s1 s2 hc hu
  go_enter Try.func7, Try.ntmps7
  go_wp2_with fail
  refine (S1.out _).mono ?_
  rintro e w' ⟨rfl, rfl⟩
  go_wp2_with fail
  refine (S2.out _).mono ?_
  rintro e w' ⟨rfl, rfl⟩
  go_wp2
  go_ret
  exact ⟨rfl, Blk.new w _ _, (Chg.refl _ _).alloc _⟩

set_option maxHeartbeats 400000 in
theorem new_no (c u : Int) (w : World) (h : ¬ ((0 ≤ c ∧ c ≤ 1000000) ∧ (0 ≤ u ∧ u ≤ 1000000))) :
    Calls Try.prog 7 #[.int .i64 c, .int .i64 u] w fun e w' => e = .returned (.pointer none) ∧ w = w' := by
  have s1 := fun W => isSpan_any c W
  have s2 := fun W => isSpan_any u W
  by_cases hc : 0 ≤ c ∧ c ≤ 1000000
  · have h1 : decide (0 ≤ c ∧ c ≤ 1000000) = true := by simpa using hc
    have h2 : decide (0 ≤ u ∧ u ≤ 1000000) = false := by rw [decide_eq_false_iff_not]; intro hu; exact h ⟨hc, hu⟩
    rw [h1] at s1
    rw [h2] at s2
    have S1 := Lib.hid s1
    have S2 := Lib.hid s2
    clear h1 h2 s1 s2 hc h
    go_enter Try.func7, Try.ntmps7
    go_wp2_with fail
    refine (S1.out _).mono ?_
    rintro e w' ⟨rfl, rfl⟩
    go_wp2_with fail
    refine (S2.out _).mono ?_
    rintro e w' ⟨rfl, rfl⟩
    go_wp2
    go_ret
    exact ⟨rfl, rfl⟩
  · have h1 : decide (0 ≤ c ∧ c ≤ 1000000) = false := by simpa using hc
    rw [h1] at s1
    have S1 := Lib.hid s1
    clear h1 s1 s2 hc h
    go_enter Try.func7, Try.ntmps7
    go_wp2_with fail
    refine (S1.out _).mono ?_
    rintro e w' ⟨rfl, rfl⟩
    go_wp2
    go_ret
    exact ⟨rfl, rfl⟩

theorem i64_lit (n : Int) (h : 0 ≤ n ∧ n ≤ 1000000) : I64 n := ⟨by omega, by omega⟩
theorem I64.mk {n : Int} (h : -9223372036854775808 ≤ n) (h' : n ≤ 9223372036854775807) : I64 n := ⟨h, h'⟩

/-- Step, with what it is told written out. -/
theorem step_lit (b : Nat) (t : T) (now : Int) (f0 f1 f2 f3 f4 f5 f6 f7 : Bool) (w : World) (ht : TurnAt w b t) (hm : t.made) (hok : t.ok) (hnow : I64 now)
    (r : T × Int) (hr : stepM t now ⟨f0, f1, f2, f3, f4, f5, f6, f7⟩ = r) :
    Calls Try.prog 10 #[.pointer (some ⟨b, 0, none⟩), .int .i64 now, .agg #[.bool f0, .bool f1, .bool f2, .bool f3, .bool f4, .bool f5, .bool f6, .bool f7]] w
      (StepPost b w r) := hr ▸ step_any b t now ⟨f0, f1, f2, f3, f4, f5, f6, f7⟩ w ht hm hok hnow

theorem T.made1 {a b c d e f g : _} : (T.mk a b 1 c d e f g).made := Or.inl rfl
theorem T.made2 {a b c d e f g : _} : (T.mk a b 2 c d e f g).made := Or.inr (Or.inl rfl)
theorem T.made3 {a b c d e f g : _} : (T.mk a b 3 c d e f g).made := Or.inr (Or.inr (Or.inl rfl))
theorem T.made4 {a b c d e f g : _} : (T.mk a b 4 c d e f g).made := Or.inr (Or.inr (Or.inr rfl))

theorem ok_small (a b c d : Int) (h : (0 ≤ a ∧ a ≤ 1000000) ∧ (0 ≤ b ∧ b ≤ 1000000) ∧ (0 ≤ c ∧ c ≤ 1000000) ∧ (0 ≤ d ∧ d ≤ 1000000)) (s e : Int) (x y : Bool) :
    (T.mk a b s x c y d e).ok := ⟨i64_lit _ h.1, i64_lit _ h.2.1, i64_lit _ h.2.2.1, i64_lit _ h.2.2.2⟩

set_option maxHeartbeats 1000000 in
theorem known_any (w : World) : Calls Try.prog 8 #[] w fun e w' => e = .returned (.bool true) ∧ Chg none w w' := by
  go_enter Try.func8, Try.ntmps8
  go_wp2_with fail
  refine (new_yes 9 4 _ (by omega) (by omega)).mono ?_
  rintro e w1 ⟨rfl, h1, g1⟩
  go_wp2_with fail
  refine (step_lit _ _ 0 _ _ _ _ _ _ _ _ _ h1 T.made1 (ok_small _ _ _ _ (by omega) _ _ _ _) (i64_lit _ (by omega)) (⟨9, 4, 1, true, 0, false, 0, 0⟩, 1) (by rfl)).mono ?_
  rintro e w2 ⟨rfl, h2, g2⟩
  go_wp2_with fail
  refine (step_lit _ _ 3 _ _ _ _ _ _ _ _ _ h2 T.made1 (ok_small _ _ _ _ (by omega) _ _ _ _) (i64_lit _ (by omega)) (⟨9, 4, 2, true, 0, false, 3, 0⟩, 2) (by rfl)).mono ?_
  rintro e w3 ⟨rfl, h3, g3⟩
  go_wp2_with fail
  refine (step_lit _ _ 7 _ _ _ _ _ _ _ _ _ h3 T.made2 (ok_small _ _ _ _ (by omega) _ _ _ _) (i64_lit _ (by omega)) (⟨9, 4, 1, true, 0, true, 3, 0⟩, 1) (by rfl)).mono ?_
  rintro e w4 ⟨rfl, h4, g4⟩
  go_wp2_with fail
  refine (step_lit _ _ 9 _ _ _ _ _ _ _ _ _ h4 T.made1 (ok_small _ _ _ _ (by omega) _ _ _ _) (i64_lit _ (by omega)) (⟨9, 4, 3, true, 0, true, 3, 0⟩, 3) (by rfl)).mono ?_
  rintro e w5 ⟨rfl, h5, g5⟩
  go_wp2_with fail
  refine (over_any _ _ _ h5 T.made3).mono ?_
  rintro e w6 ⟨rfl, rfl⟩
  go_wp2_with fail
  refine (step_lit _ _ 10 _ _ _ _ _ _ _ _ _ h5 T.made3 (ok_small _ _ _ _ (by omega) _ _ _ _) (i64_lit _ (by omega)) (⟨9, 4, 4, true, 0, true, 3, 4⟩, 4) (by rfl)).mono ?_
  rintro e w7 ⟨rfl, h7, g7⟩
  go_wp2_with fail
  refine (over_any _ _ _ h7 T.made4).mono ?_
  rintro e w8 ⟨rfl, rfl⟩
  go_wp2
  go_ret
  have hz := Nat.le_refl w.heap.size
  exact ⟨rfl, ((((((g1.own g2 hz).own g3 hz).own g4 hz).own g5 hz).own g7 hz))⟩

end Go.Proofs.Ytcfpjlojknahlaa
