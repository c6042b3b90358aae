/-
  Walks over package member: what is told of one member; what is told of none.
-/
import Derived.Test.YtiehbbbncmdchaaK
import Derived.BigQuiet
import Derived.Deep.QuietTactic
namespace Go.Proofs.Ytiehbbbncmdchaa
open Go.RowKit

structure U where
  node : Int
  st : Int
  inc : Int
deriving DecidableEq
instance : Inhabited U := ⟨⟨0, 0, 0⟩⟩

def U.parts (u : U) : Array Value := #[.int .i64 u.node, .int .u8 u.st, .int .u64 u.inc]
def U.cells (u : U) : List Value := [.int .i64 u.node, .int .u8 u.st, .int .u64 u.inc]

def greater (u v : U) : Bool := decide (v.inc < u.inc ∨ (u.inc = v.inc ∧ v.st < u.st))

def answered (own : Int) (u : U) : Int :=
  if u.st = 1 then max own u.inc else if u.inc < own then own else min (u.inc + 1) 1099511627776

set_option maxHeartbeats 400000 in
theorem greater_any (u v : U) (w : World) :
    Calls Try.prog 38 #[.agg #[.int .i64 u.node, .int .u8 u.st, .int .u64 u.inc], .agg #[.int .i64 v.node, .int .u8 v.st, .int .u64 v.inc]] w
      fun e w' => e = .returned (.bool (greater u v)) ∧ w' = (w.alloc (.cells u.parts 31)).alloc (.cells v.parts 31) := by
  obtain ⟨un, us, ui⟩ := u
  obtain ⟨vn, vs, vi⟩ := v
  unfold U.parts
  by_cases h1 : vi < ui
  · have hg : greater ⟨un, us, ui⟩ ⟨vn, vs, vi⟩ = true := by simp [greater, h1]
    rw [hg]
    clear hg
    go_enter Try.func38, Try.ntmps38
    go_wp2
    go_ret
    exact ⟨rfl, rfl⟩
  · by_cases h2 : ui = vi
    · subst h2
      by_cases h3 : vs < us
      · have hg : greater ⟨un, us, ui⟩ ⟨vn, vs, ui⟩ = true := by simp [greater, h3]
        rw [hg]
        clear hg
        go_enter Try.func38, Try.ntmps38
        go_wp2
        go_ret
        exact ⟨rfl, rfl⟩
      · have hg : greater ⟨un, us, ui⟩ ⟨vn, vs, ui⟩ = false := by simp [greater]; omega
        rw [hg]
        clear hg
        go_enter Try.func38, Try.ntmps38
        go_wp2
        go_ret
        exact ⟨rfl, rfl⟩
    · have hg : greater ⟨un, us, ui⟩ ⟨vn, vs, vi⟩ = false := by simp [greater]; omega
      have hb : (ui == vi) = false := beq_false_of_ne h2
      rw [hg]
      clear hg h2
      go_enter Try.func38, Try.ntmps38
      go_wp2
      go_ret
      exact ⟨rfl, rfl⟩

set_option maxHeartbeats 400000 in
theorem answered_any (own : Int) (u : U) (w : World) (hi : 0 ≤ u.inc ∧ u.inc ≤ 1099511627776) :
    Calls Try.prog 37 #[.int .u64 own, .agg #[.int .i64 u.node, .int .u8 u.st, .int .u64 u.inc]] w
      fun e w' => e = .returned (.int .u64 (answered own u)) ∧ w' = w.alloc (.cells u.parts 31) := by
  obtain ⟨un, us, ui⟩ := u
  unfold U.parts
  obtain ⟨hi0, hi1⟩ := hi
  dsimp only at hi0 hi1
  by_cases h1 : us = 1
  · have hb : (us == 1) = true := by simp [h1]
    by_cases h2 : own < ui
    · have hg : answered own ⟨un, us, ui⟩ = ui := by simp [answered, h1]; omega
      rw [hg]
      clear hg h1
      go_enter Try.func37, Try.ntmps37
      go_wp2
      go_ret
      exact ⟨rfl, rfl⟩
    · have hg : answered own ⟨un, us, ui⟩ = own := by simp [answered, h1]; omega
      rw [hg]
      clear hg h1
      go_enter Try.func37, Try.ntmps37
      go_wp2
      go_ret
      exact ⟨rfl, rfl⟩
  · have hb : (us == 1) = false := beq_false_of_ne h1
    by_cases h2 : ui < own
    · have hg : answered own ⟨un, us, ui⟩ = own := by simp [answered, h1, h2]
      rw [hg]
      clear hg h1
      go_enter Try.func37, Try.ntmps37
      go_wp2
      go_ret
      exact ⟨rfl, rfl⟩
    · by_cases h3 : ui < 1099511627776
      · have hg : answered own ⟨un, us, ui⟩ = ui + 1 := by simp [answered, h1, h2]; omega
        rw [hg]
        clear hg h1
        go_enter Try.func37, Try.ntmps37
        go_wp2
        go_ret
        exact ⟨rfl, rfl⟩
      · have hg : answered own ⟨un, us, ui⟩ = 1099511627776 := by simp [answered, h1, h2]; omega
        rw [hg]
        clear hg h1
        go_enter Try.func37, Try.ntmps37
        go_wp2
        go_ret
        exact ⟨rfl, rfl⟩

set_option maxHeartbeats 400000 in
theorem isNone_nil (w : World) : Calls Try.prog 35 #[.pointer none] w fun e w' => e = .returned (.bool true) ∧ w = w' := by
  go_enter Try.func35, Try.ntmps35
  go_wp2
  go_ret
  exact ⟨rfl, rfl⟩

set_option maxHeartbeats 400000 in
theorem isNone_some (b : Nat) (c : Int) (w : World) (hc : w.cell? ⟨b, 1, none⟩ = some (.int .i64 c)) :
    Calls Try.prog 35 #[.pointer (some ⟨b, 0, none⟩)] w fun e w' => e = .returned (.bool (c == 0)) ∧ w = w' := by
  go_enter Try.func35, Try.ntmps35
  go_wp2
  go_ret
  exact ⟨rfl, rfl⟩

set_option maxHeartbeats 400000 in
theorem has_none (p : Option Addr) (n : Int) (w : World) (h : Calls Try.prog 35 #[.pointer p] w fun e w' => e = .returned (.bool true) ∧ w = w') :
    Calls Try.prog 36 #[.pointer p, .int .i64 n] w fun e w' => e = .returned (.bool false) ∧ w = w' := by
  go_enter Try.func36, Try.ntmps36
  go_wp2_with fail
  refine h.mono ?_
  rintro e w' ⟨rfl, rfl⟩
  go_wp2_with fail
  go_ret
  exact ⟨rfl, rfl⟩

set_option maxHeartbeats 400000 in
theorem has_some (b : Nat) (c n : Int) (w : World) (hc : w.cell? ⟨b, 1, none⟩ = some (.int .i64 c)) (h0 : 1 ≤ c) :
    Calls Try.prog 36 #[.pointer (some ⟨b, 0, none⟩), .int .i64 n] w fun e w' => e = .returned (.bool (decide (0 ≤ n ∧ n < c))) ∧ w = w' := by
  have hN := isNone_some b c w hc
  have hz : (c == 0) = false := beq_false_of_ne (by omega)
  rw [hz] at hN
  by_cases h1 : 0 ≤ n
  · by_cases h2 : n < c
    · have hg : decide (0 ≤ n ∧ n < c) = true := by simp [h1, h2]
      rw [hg]
      clear hg
      go_enter Try.func36, Try.ntmps36
      go_wp2_with fail
      refine hN.mono ?_
      rintro e w' ⟨rfl, rfl⟩
      go_wp2_with fail
      go_ret
      exact ⟨rfl, rfl⟩
    · have hg : decide (0 ≤ n ∧ n < c) = false := by simp [h2]
      have hd : decide (n < c) = false := by simp [h2]
      rw [hg]
      clear hg
      go_enter Try.func36, Try.ntmps36
      go_wp2_with fail
      refine hN.mono ?_
      rintro e w' ⟨rfl, rfl⟩
      go_wp2_with fail
      go_ret
      exact ⟨rfl, rfl⟩
  · have hg : decide (0 ≤ n ∧ n < c) = false := by simp; omega
    rw [hg]
    clear hg
    go_enter Try.func36, Try.ntmps36
    go_wp2_with fail
    refine hN.mono ?_
    rintro e w' ⟨rfl, rfl⟩
    go_wp2_with fail
    go_ret
    exact ⟨rfl, rfl⟩

end Go.Proofs.Ytiehbbbncmdchaa
