/-
  The document's plan of layer 23: May.
-/
import Derived.Test.YtippkdjggipnmaaRA
import Derived.Test.YtippkdjggipnmaaHD
namespace Go.Proofs.Ytippkdjggipnmaa
open Go.RowKit Go.Maps

def mayQ (nc np win tim : Int) : Bool := decide ((0 ≤ nc ∧ nc ≤ 100) ∧ (0 ≤ np ∧ np ≤ 64) ∧ (1 ≤ win ∧ win ≤ 100) ∧ (1 ≤ tim ∧ tim ≤ 1000000))
theorem mayQ_yes {nc np win tim : Int} (h : mayP nc np win tim) : mayQ nc np win tim = true := decide_eq_true h
theorem mayQ_no {nc np win tim : Int} (h : ¬ mayP nc np win tim) : mayQ nc np win tim = false := decide_eq_false h

set_option maxHeartbeats 4000000 in
theorem rmay_any (nc np win tim : Int) (w : World) : Calls Try.prog 10 #[.int .i64 nc, .int .i64 np, .int .i64 win, .int .i64 tim] w fun e w' => e = .returned (.bool (mayQ nc np win tim)) ∧ w = w' := by
  by_cases h0 : 0 ≤ nc
  rotate_left
  · have d0 : decide (0 ≤ nc) = false := decide_eq_false h0
    have HQ : Hid (mayQ nc np win tim = false) := Lib.hid (decide_eq_false (fun h => h0 (by omega)))
    clear h0
    go_enter Try.func10, Try.ntmps10
    go_wp2
    go_ret
    exact ⟨by rw [HQ.out]; rfl, rfl⟩
  have d0 : decide (0 ≤ nc) = true := decide_eq_true h0
  by_cases h1 : nc ≤ 100
  rotate_left
  · have d1 : decide (nc ≤ 100) = false := decide_eq_false h1
    have HQ : Hid (mayQ nc np win tim = false) := Lib.hid (decide_eq_false (fun h => h1 (by omega)))
    clear h0 h1
    go_enter Try.func10, Try.ntmps10
    go_wp2
    go_ret
    exact ⟨by rw [HQ.out]; rfl, rfl⟩
  have d1 : decide (nc ≤ 100) = true := decide_eq_true h1
  by_cases h2 : 0 ≤ np
  rotate_left
  · have d2 : decide (0 ≤ np) = false := decide_eq_false h2
    have HQ : Hid (mayQ nc np win tim = false) := Lib.hid (decide_eq_false (fun h => h2 (by omega)))
    clear h0 h1 h2
    go_enter Try.func10, Try.ntmps10
    go_wp2
    go_ret
    exact ⟨by rw [HQ.out]; rfl, rfl⟩
  have d2 : decide (0 ≤ np) = true := decide_eq_true h2
  by_cases h3 : np ≤ 64
  rotate_left
  · have d3 : decide (np ≤ 64) = false := decide_eq_false h3
    have HQ : Hid (mayQ nc np win tim = false) := Lib.hid (decide_eq_false (fun h => h3 (by omega)))
    clear h0 h1 h2 h3
    go_enter Try.func10, Try.ntmps10
    go_wp2
    go_ret
    exact ⟨by rw [HQ.out]; rfl, rfl⟩
  have d3 : decide (np ≤ 64) = true := decide_eq_true h3
  by_cases h4 : 1 ≤ win
  rotate_left
  · have d4 : decide (1 ≤ win) = false := decide_eq_false h4
    have HQ : Hid (mayQ nc np win tim = false) := Lib.hid (decide_eq_false (fun h => h4 (by omega)))
    clear h0 h1 h2 h3 h4
    go_enter Try.func10, Try.ntmps10
    go_wp2
    go_ret
    exact ⟨by rw [HQ.out]; rfl, rfl⟩
  have d4 : decide (1 ≤ win) = true := decide_eq_true h4
  by_cases h5 : win ≤ 100
  rotate_left
  · have d5 : decide (win ≤ 100) = false := decide_eq_false h5
    have HQ : Hid (mayQ nc np win tim = false) := Lib.hid (decide_eq_false (fun h => h5 (by omega)))
    clear h0 h1 h2 h3 h4 h5
    go_enter Try.func10, Try.ntmps10
    go_wp2
    go_ret
    exact ⟨by rw [HQ.out]; rfl, rfl⟩
  have d5 : decide (win ≤ 100) = true := decide_eq_true h5
  by_cases h6 : 1 ≤ tim
  rotate_left
  · have d6 : decide (1 ≤ tim) = false := decide_eq_false h6
    have HQ : Hid (mayQ nc np win tim = false) := Lib.hid (decide_eq_false (fun h => h6 (by omega)))
    clear h0 h1 h2 h3 h4 h5 h6
    go_enter Try.func10, Try.ntmps10
    go_wp2
    go_ret
    exact ⟨by rw [HQ.out]; rfl, rfl⟩
  have d6 : decide (1 ≤ tim) = true := decide_eq_true h6
  by_cases h7 : tim ≤ 1000000
  rotate_left
  · have d7 : decide (tim ≤ 1000000) = false := decide_eq_false h7
    have HQ : Hid (mayQ nc np win tim = false) := Lib.hid (decide_eq_false (fun h => h7 (by omega)))
    clear h0 h1 h2 h3 h4 h5 h6 h7
    go_enter Try.func10, Try.ntmps10
    go_wp2
    go_ret
    exact ⟨by rw [HQ.out]; rfl, rfl⟩
  have d7 : decide (tim ≤ 1000000) = true := decide_eq_true h7
  have HQ : Hid (mayQ nc np win tim = true) := Lib.hid (decide_eq_true ⟨⟨h0, h1⟩, ⟨h2, h3⟩, ⟨h4, h5⟩, ⟨h6, h7⟩⟩)
  clear h0 h1 h2 h3 h4 h5 h6 h7
  go_enter Try.func10, Try.ntmps10
  go_wp2
  go_ret
  exact ⟨by rw [HQ.out]; rfl, rfl⟩

end Go.Proofs.Ytippkdjggipnmaa
