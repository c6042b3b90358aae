/-
  The document's book of claims: above (30), New (8).
-/
import Derived.Test.YtnpmfigcfikdgaaCC
namespace Go.Proofs.Ytnpmfigcfikdgaa
open Go.RowKit Go.Maps

set_option maxRecDepth 100000 in
set_option maxHeartbeats 4000000 in
theorem above_any (a c : Cl) (w : World) :
    Calls Try.prog 30 #[.agg a.cells.toArray, .agg c.cells.toArray] w fun e w' => e = .returned (.bool (aboveB a c)) ∧ Chg none w w' := by
  obtain ⟨W, hW⟩ : ∃ W, W = (w.alloc (.cells a.cells.toArray 33)).alloc (.cells c.cells.toArray 33) := ⟨_, rfl⟩
  have g0 : Chg none w W := by rw [hW]; exact ((Chg.refl _ _).alloc _).alloc _
  have hba : Blk W w.heap.size a.cells.toArray 33 := by rw [hW]; exact (Blk.new w _ _).alloc _
  have hbc : Blk W (w.heap.size + 1) c.cells.toArray 33 := by rw [hW]; exact new_after _ _ _ _ (by simp)
  obtain ⟨-, a1, a2, -⟩ := cl_fields (rangeAt_blk hba)
  obtain ⟨-, c1, c2, -⟩ := cl_fields (rangeAt_blk hbc)
  simp only [Nat.zero_add] at a1 a2 c1 c2
  have HW := Lib.hid hW
  have HG0 := Lib.hid g0
  clear hW g0 hba hbc
  obtain ⟨z, hz⟩ : ∃ z, aboveB a c = z := ⟨_, rfl⟩
  rw [hz]
  unfold aboveB at hz
  have HZ := Lib.hid hz
  clear hz
  by_cases h1 : c.inc < a.inc
  · have e : z = true := by rw [← HZ.out, decide_eq_true h1]; rfl
    subst e
    have d1 : decide (c.inc < a.inc) = true := decide_eq_true h1
    go_enter Try.func30, Try.ntmps30
    go_upto_region 1 with fail
    rw [← HW.out]
    go_wp2_with fail
    go_ret
    exact ⟨rfl, HG0.out⟩
  · by_cases h2 : a.inc = c.inc
    · by_cases h3 : c.count < a.count
      · have e : z = true := by rw [← HZ.out, decide_eq_true h2, decide_eq_true h3]; simp
        subst e
        rw [h2] at a1 h1
        clear h2
        have d1 : decide (c.inc < c.inc) = false := decide_eq_false h1
        have d2 : (c.inc == c.inc) = true := by simp
        have d3 : decide (c.count < a.count) = true := decide_eq_true h3
        go_enter Try.func30, Try.ntmps30
        go_upto_region 1 with fail
        rw [← HW.out]
        go_wp2_with fail
        go_ret
        exact ⟨rfl, HG0.out⟩
      · have e : z = false := by rw [← HZ.out, decide_eq_true h2, decide_eq_false h3, decide_eq_false h1]; rfl
        subst e
        rw [h2] at a1 h1
        clear h2
        have d1 : decide (c.inc < c.inc) = false := decide_eq_false h1
        have d2 : (c.inc == c.inc) = true := by simp
        have d3 : decide (c.count < a.count) = false := decide_eq_false h3
        go_enter Try.func30, Try.ntmps30
        go_upto_region 1 with fail
        rw [← HW.out]
        go_wp2_with fail
        go_ret
        exact ⟨rfl, HG0.out⟩
    · have e : z = false := by rw [← HZ.out, decide_eq_false h2, decide_eq_false h1]; rfl
      subst e
      have d1 : decide (c.inc < a.inc) = false := decide_eq_false h1
      have d2 : (a.inc == c.inc) = false := by simp [h2]
      go_enter Try.func30, Try.ntmps30
      go_upto_region 1 with fail
      rw [← HW.out]
      go_wp2_with fail
      go_ret
      exact ⟨rfl, HG0.out⟩
def rk0 (id inc wait ttl : Int) : Rk := ⟨id, inc, wait, ttl, 0, [], []⟩
theorem rk0_sim (id inc wait ttl : Int) (now : Int) : Sim (bk0 id inc wait ttl) (rk0 id inc wait ttl) now :=
  ⟨rfl, rfl, rfl, rfl, rfl, fun _ => rfl, fun _ h => (by cases h), List.Pairwise.nil, fun _ _ => rfl, List.Pairwise.nil, fun _ h => (by cases h), fun _ _ h => (by cases h)⟩
theorem rk0_at (w : World) (id inc wait ttl : Int) : RkAt (w.alloc (.cells #[.int .i64 id, .int .u64 inc, .int .i64 wait, .int .i64 ttl, .int .u64 0, .slice none 0 0, .slice none 0 0] 50)) w.heap.size (rk0 id inc wait ttl) (.slice none 0 0) (.slice none 0 0) :=
  ⟨Blk.new w _ _, World.ownsRow_nil _ _ _ _, World.ownsRow_nil _ _ _ _⟩
set_option maxRecDepth 100000 in
set_option maxHeartbeats 8000000 in
theorem refnew_any (id inc wait ttl : Int) (w : World) :
    Calls Try.prog 8 #[.int .i64 id, .int .u64 inc, .int .i64 wait, .int .i64 ttl] w fun e w' => e = .returned (.tuple #[.pointer (some ⟨w.heap.size, 0, none⟩), .bool (newOk id inc wait ttl)]) ∧ RkAt w' w.heap.size (rk0 id inc wait ttl) (.slice none 0 0) (.slice none 0 0) ∧ Chg none w w' := by
  obtain ⟨z, hz⟩ : ∃ z, newOk id inc wait ttl = z := ⟨_, rfl⟩
  rw [hz]
  have HRK := Lib.hid (rk0_at w id inc wait ttl)
  have key : ∀ (b1 b2 b3 b4 b5 b6 b7 : Bool), (b1 && b2 && b3 && (b4 && b5) && (b6 && b7)) = z → decide (0 ≤ id) = b1 → decide (id < 16) = b2 → decide (inc ≤ 1099511627776) = b3 → decide (0 ≤ wait) = b4 → decide (wait ≤ 1000000) = b5 → decide (0 ≤ ttl) = b6 → decide (ttl ≤ 1000000) = b7 → 
      Calls Try.prog 8 #[.int .i64 id, .int .u64 inc, .int .i64 wait, .int .i64 ttl] w fun e w' => e = .returned (.tuple #[.pointer (some ⟨w.heap.size, 0, none⟩), .bool z]) ∧ RkAt w' w.heap.size (rk0 id inc wait ttl) (.slice none 0 0) (.slice none 0 0) ∧ Chg none w w' := by
    intro b1 b2 b3 b4 b5 b6 b7 hzz h1 h2 h3 h4 h5 h6 h7
    have HZ := Lib.hid hzz
    clear hzz hz
    cases b1 with
    | false =>
      obtain rfl : z = false := by rw [← HZ.out]; simp
      clear HZ
      simp only [decide_eq_false_iff_not] at h1 h2 h3 h4 h5 h6 h7
      go_enter Try.func8, Try.ntmps8
      go_wp2
      go_ret2
      exact ⟨rfl, HRK.out, (Chg.refl _ _).alloc _⟩
    | true =>
    cases b2 with
    | false =>
      obtain rfl : z = false := by rw [← HZ.out]; simp
      clear HZ
      simp only [decide_eq_true_eq, decide_eq_false_iff_not] at h1 h2 h3 h4 h5 h6 h7
      go_enter Try.func8, Try.ntmps8
      go_wp2
      go_ret2
      exact ⟨rfl, HRK.out, (Chg.refl _ _).alloc _⟩
    | true =>
    cases b3 with
    | false =>
      obtain rfl : z = false := by rw [← HZ.out]; simp
      clear HZ
      simp only [decide_eq_true_eq, decide_eq_false_iff_not] at h1 h2 h3 h4 h5 h6 h7
      go_enter Try.func8, Try.ntmps8
      go_wp2
      go_ret2
      exact ⟨rfl, HRK.out, (Chg.refl _ _).alloc _⟩
    | true =>
    cases b4 with
    | false =>
      obtain rfl : z = false := by rw [← HZ.out]; simp
      clear HZ
      simp only [decide_eq_true_eq, decide_eq_false_iff_not] at h1 h2 h3 h4 h5 h6 h7
      go_enter Try.func8, Try.ntmps8
      go_wp2
      go_ret2
      exact ⟨rfl, HRK.out, (Chg.refl _ _).alloc _⟩
    | true =>
    cases b5 with
    | false =>
      obtain rfl : z = false := by rw [← HZ.out]; simp
      clear HZ
      simp only [decide_eq_true_eq, decide_eq_false_iff_not] at h1 h2 h3 h4 h5 h6 h7
      go_enter Try.func8, Try.ntmps8
      go_wp2
      go_ret2
      exact ⟨rfl, HRK.out, (Chg.refl _ _).alloc _⟩
    | true =>
    cases b6 with
    | false =>
      obtain rfl : z = false := by rw [← HZ.out]; simp
      clear HZ
      simp only [decide_eq_true_eq, decide_eq_false_iff_not] at h1 h2 h3 h4 h5 h6 h7
      go_enter Try.func8, Try.ntmps8
      go_wp2
      go_ret2
      exact ⟨rfl, HRK.out, (Chg.refl _ _).alloc _⟩
    | true =>
    cases b7 with
    | false =>
      obtain rfl : z = false := by rw [← HZ.out]; simp
      clear HZ
      simp only [decide_eq_true_eq, decide_eq_false_iff_not] at h1 h2 h3 h4 h5 h6 h7
      go_enter Try.func8, Try.ntmps8
      go_wp2
      go_ret2
      exact ⟨rfl, HRK.out, (Chg.refl _ _).alloc _⟩
    | true =>
      obtain rfl : z = true := by rw [← HZ.out]; simp
      clear HZ
      simp only [decide_eq_true_eq] at h1 h2 h3 h4 h5 h6 h7
      go_enter Try.func8, Try.ntmps8
      go_wp2
      go_ret2
      exact ⟨rfl, HRK.out, (Chg.refl _ _).alloc _⟩
  refine key _ _ _ _ _ _ _ ?_ rfl rfl rfl rfl rfl rfl rfl
  rw [← hz]
  unfold newOk
  rw [Bool.eq_iff_iff]
  simp only [Bool.and_eq_true, decide_eq_true_eq]
end Go.Proofs.Ytnpmfigcfikdgaa
