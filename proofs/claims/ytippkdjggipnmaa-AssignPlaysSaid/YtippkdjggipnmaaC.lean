/-
  Walks over package assign: what tells of a plan.
-/
import Derived.Test.YtippkdjggipnmaaB
import Derived.WalkKit
import Derived.WalkSpells
import Derived.WalkLawsBesides
import Derived.BigQuiet
import Derived.Deep.QuietTactic
import Derived.RegionTactic
import Derived.ChangeAlike
namespace Go.Proofs.Ytippkdjggipnmaa
open Go.RowKit Go.Maps

theorem u64_sub (a b : Int) (h : b ≤ a) (ha0 : -9223372036854775808 ≤ a) (ha1 : a ≤ 9223372036854775807)
    (hb0 : -9223372036854775808 ≤ b) (hb1 : b ≤ 9223372036854775807) :
    IntKind.u64.wrap (IntKind.u64.wrap a - IntKind.u64.wrap b) = a - b := by
  simp [IntKind.wrap, IntKind.bits, IntKind.signed]
  omega

def pastB (a b c : Int) : Bool := decide (b ≤ a ∧ (c ≤ 0 ∨ c ≤ a - b))

set_option maxHeartbeats 400000 in
theorem past_any (a b c : Int) (w : World) (ha0 : -9223372036854775808 ≤ a) (ha1 : a ≤ 9223372036854775807)
    (hb0 : -9223372036854775808 ≤ b) (hb1 : b ≤ 9223372036854775807) (hc0 : -9223372036854775808 ≤ c) (hc1 : c ≤ 9223372036854775807) :
    Calls Try.prog 27 #[.int .i64 a, .int .i64 b, .int .i64 c] w fun e w' => e = .returned (.bool (pastB a b c)) ∧ w = w' := by
  by_cases h1 : a < b
  · go_enter Try.func27, Try.ntmps27
    go_wp2
    go_ret
    exact ⟨by simp [pastB]; omega, rfl⟩
  · by_cases h2 : c ≤ 0
    · go_enter Try.func27, Try.ntmps27
      go_wp2
      go_ret
      exact ⟨by simp [pastB]; omega, rfl⟩
    · go_enter Try.func27, Try.ntmps27
      go_wp2
      go_ret
      exact ⟨by rw [u64_sub a b (by omega) ha0 ha1 hb0 hb1]; exact ret_bool (by unfold pastB; rw [decide_eq_decide]; omega), rfl⟩

theorem isNone_nil (w : World) : Calls Try.prog 26 #[.pointer none] w fun e w' => e = .returned (.bool true) ∧ w = w' := by
  go_enter Try.func26, Try.ntmps26
  go_wp2
  go_ret
  exact ⟨rfl, rfl⟩

theorem isNone_some (b : Nat) (c : Int) (z : Bool) (w : World) (h : w.cell? ⟨b, 0, none⟩ = some (.int .i64 c)) (hz : (c == 0) = z) :
    Calls Try.prog 26 #[.pointer (some ⟨b, 0, none⟩)] w fun e w' => e = .returned (.bool z) ∧ w = w' := by
  go_enter Try.func26, Try.ntmps26
  go_wp2
  go_ret
  exact ⟨rfl, rfl⟩

section
variable {w : World} {q : Qb} {n : Nat} {p : Pl}

theorem PlanAt.made (h : PlanAt w q n p) (ho : p.ok n) : Calls Try.prog 26 #[.pointer (some ⟨q.b, 0, none⟩)] w fun e w' => e = .returned (.bool false) ∧ w = w' := by
  obtain ⟨c1, c2, h0, _⟩ := h.open
  exact isNone_some q.b p.win false w h0 (beq_false_of_ne (by have := ho.win; omega))
end

def inB (c : Int) (n : Nat) : Bool := decide (0 ≤ c ∧ c < n)

set_option maxHeartbeats 1000000 in
theorem hasChunk_any (c : Int) (w : World) (q : Qb) (n : Nat) (p : Pl) (h : PlanAt w q n p) (ho : p.ok n) :
    Calls Try.prog 34 #[.pointer (some ⟨q.b, 0, none⟩), .int .i64 c] w fun e w' => e = .returned (.bool (inB c p.ch.length)) ∧ w = w' := by
  have hM := h.made ho
  have hnc := ho.nc
  obtain ⟨c1, c2, h0, h1, h2, h3, h4, fz⟩ := h.open
  have HM := Lib.hid hM
  clear hM h ho h0 h1 h3 h4
  generalize p.ch.length = L at *
  by_cases g0 : 0 ≤ c
  · by_cases g1 : c < L
    · have e0 : inB c L = true := by simp [inB, g0, g1]
      rw [e0]; clear e0
      go_enter Try.func34, Try.ntmps34
      go_wp2_with fail
      refine HM.out.mono ?_
      rintro e w' ⟨rfl, rfl⟩
      go_wp2
      go_ret
      exact ⟨rfl, rfl⟩
    · have e0 : inB c L = false := by simp [inB]; omega
      rw [e0]; clear e0
      go_enter Try.func34, Try.ntmps34
      go_wp2_with fail
      refine HM.out.mono ?_
      rintro e w' ⟨rfl, rfl⟩
      go_wp2
      go_ret
      exact ⟨ret_bool (decide_eq_false (by omega)), rfl⟩
  · have e0 : inB c L = false := by simp [inB]; omega
    rw [e0]; clear e0
    go_enter Try.func34, Try.ntmps34
    go_wp2_with fail
    refine HM.out.mono ?_
    rintro e w' ⟨rfl, rfl⟩
    go_wp2
    go_ret
    exact ⟨rfl, rfl⟩

set_option maxHeartbeats 1000000 in
theorem hasPeer_any (c : Int) (w : World) (q : Qb) (n : Nat) (p : Pl) (h : PlanAt w q n p) (ho : p.ok n) :
    Calls Try.prog 35 #[.pointer (some ⟨q.b, 0, none⟩), .int .i64 c] w fun e w' => e = .returned (.bool (inB c p.pe.length)) ∧ w = w' := by
  have hM := h.made ho
  have hnp := ho.np
  obtain ⟨c1, c2, h0, h1, h2, h3, h4, fz⟩ := h.open
  have HM := Lib.hid hM
  clear hM h ho h0 h1 h2 h4
  generalize p.pe.length = L at *
  by_cases g0 : 0 ≤ c
  · by_cases g1 : c < L
    · have e0 : inB c L = true := by simp [inB, g0, g1]
      rw [e0]; clear e0
      go_enter Try.func35, Try.ntmps35
      go_wp2_with fail
      refine HM.out.mono ?_
      rintro e w' ⟨rfl, rfl⟩
      go_wp2
      go_ret
      exact ⟨rfl, rfl⟩
    · have e0 : inB c L = false := by simp [inB]; omega
      rw [e0]; clear e0
      go_enter Try.func35, Try.ntmps35
      go_wp2_with fail
      refine HM.out.mono ?_
      rintro e w' ⟨rfl, rfl⟩
      go_wp2
      go_ret
      exact ⟨ret_bool (decide_eq_false (by omega)), rfl⟩
  · have e0 : inB c L = false := by simp [inB]; omega
    rw [e0]; clear e0
    go_enter Try.func35, Try.ntmps35
    go_wp2_with fail
    refine HM.out.mono ?_
    rintro e w' ⟨rfl, rfl⟩
    go_wp2
    go_ret
    exact ⟨rfl, rfl⟩

def banB (x : Pr) : Bool := decide (3 ≤ x.de)

set_option maxHeartbeats 400000 in
theorem isBanned_any (x : Pr) (w : World) :
    Calls Try.prog 43 #[.agg #[.int .i64 x.ak, .int .i64 x.de]] w fun e w' => e = .returned (.bool (banB x)) ∧ w' = w.alloc (.cells #[.int .i64 x.ak, .int .i64 x.de] 68) := by
  go_enter Try.func43, Try.ntmps43
  go_wp2
  go_ret
  exact ⟨rfl, rfl⟩

def stateM (p : Pl) (c : Int) : Int := if 0 ≤ c ∧ c < p.ch.length then (p.ch.getD c.toNat default).st else 0

theorem getD_of {α : Type} [Inhabited α] {L : List α} {i : Nat} {x : α} (h : L[i]? = some x) : L.getD i default = x := by rw [List.getD_eq_getElem?_getD, h]; rfl

set_option maxHeartbeats 1000000 in
theorem state_any (c : Int) (w : World) (q : Qb) (n : Nat) (p : Pl) (h : PlanAt w q n p) (ho : p.ok n) :
    Calls Try.prog 22 #[.pointer (some ⟨q.b, 0, none⟩), .int .i64 c] w fun e w' => e = .returned (.int .i64 (stateM p c)) ∧ w = w' := by
  have hH := hasChunk_any c w q n p h ho
  obtain ⟨c1, c2, -, -, h2, -, -, fz⟩ := h.open
  have hnc := ho.nc
  by_cases g : 0 ≤ c ∧ c < p.ch.length
  · have e0 : inB c p.ch.length = true := by simp [inB, g]
    rw [e0] at hH
    obtain ⟨i, rfl⟩ := Int.eq_ofNat_of_zero_le g.1
    have hi : i < p.ch.length := by omega
    obtain ⟨x, hx⟩ : ∃ x, p.ch[i]? = some x := ⟨_, List.getElem?_eq_getElem hi⟩
    have e1 : stateM p i = x.st := by unfold stateM; rw [if_pos g, Int.toNat_natCast, getD_of hx]
    rw [e1]
    obtain ⟨k0, k1, k2, kf⟩ := h.chunk hx
    have HH := Lib.hid hH
    clear e0 e1 hH h ho g hx
    generalize p.ch.length = L at *
    go_enter Try.func22, Try.ntmps22
    go_wp2_with fail
    refine HH.out.mono ?_
    rintro e w' ⟨rfl, rfl⟩
    go_wp2
    go_ret
    exact ⟨rfl, rfl⟩
  · have e0 : inB c p.ch.length = false := by simp [inB]; omega
    rw [e0] at hH
    have e1 : stateM p c = 0 := by unfold stateM; rw [if_neg g]
    rw [e1]
    have HH := Lib.hid hH
    clear e0 e1 hH h ho g
    go_enter Try.func22, Try.ntmps22
    go_wp2_with fail
    refine HH.out.mono ?_
    rintro e w' ⟨rfl, rfl⟩
    go_wp2
    go_ret
    exact ⟨rfl, rfl⟩

def demM (p : Pl) (c : Int) : Int := if 0 ≤ c ∧ c < p.pe.length then (p.pe.getD c.toNat default).de else 0

set_option maxHeartbeats 1000000 in
theorem dem_any (c : Int) (w : World) (q : Qb) (n : Nat) (p : Pl) (h : PlanAt w q n p) (ho : p.ok n) :
    Calls Try.prog 23 #[.pointer (some ⟨q.b, 0, none⟩), .int .i64 c] w fun e w' => e = .returned (.int .i64 (demM p c)) ∧ w = w' := by
  have hH := hasPeer_any c w q n p h ho
  obtain ⟨c1, c2, -, -, -, h2, -, fz⟩ := h.open
  have hnp := ho.np
  by_cases g : 0 ≤ c ∧ c < p.pe.length
  · have e0 : inB c p.pe.length = true := by simp [inB, g]
    rw [e0] at hH
    obtain ⟨i, rfl⟩ := Int.eq_ofNat_of_zero_le g.1
    have hi : i < p.pe.length := by omega
    obtain ⟨x, hx⟩ : ∃ x, p.pe[i]? = some x := ⟨_, List.getElem?_eq_getElem hi⟩
    have e1 : demM p i = x.de := by unfold demM; rw [if_pos g, Int.toNat_natCast, getD_of hx]
    rw [e1]
    obtain ⟨k0, k1, kf⟩ := h.peer hx
    have HH := Lib.hid hH
    clear e0 e1 hH h ho g hx
    generalize p.pe.length = L at *
    go_enter Try.func23, Try.ntmps23
    go_wp2_with fail
    refine HH.out.mono ?_
    rintro e w' ⟨rfl, rfl⟩
    go_wp2
    go_ret
    exact ⟨rfl, rfl⟩
  · have e0 : inB c p.pe.length = false := by simp [inB]; omega
    rw [e0] at hH
    have e1 : demM p c = 0 := by unfold demM; rw [if_neg g]
    rw [e1]
    have HH := Lib.hid hH
    clear e0 e1 hH h ho g
    go_enter Try.func23, Try.ntmps23
    go_wp2_with fail
    refine HH.out.mono ?_
    rintro e w' ⟨rfl, rfl⟩
    go_wp2
    go_ret
    exact ⟨rfl, rfl⟩

end Go.Proofs.Ytippkdjggipnmaa
