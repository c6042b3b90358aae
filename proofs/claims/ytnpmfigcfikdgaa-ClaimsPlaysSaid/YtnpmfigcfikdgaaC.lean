/-
  Walks over package claims: what makes no memory, or little.
-/
import Derived.Test.YtnpmfigcfikdgaaB
import Derived.WalkKit
import Derived.WalkSpells
import Derived.WalkLawsBesides
import Derived.BigQuiet
import Derived.Deep.QuietTactic
import Derived.Deep.RegionHeld3
import Derived.Deep.MidRow
import Derived.RegionTactic
import Derived.ChangeAlike
namespace Go.Proofs.Ytnpmfigcfikdgaa
open Go.RowKit Go.Maps

theorem yieldsIf_build {P : Program} {ops : Array Oper} {S : World → Prop} {op : Oper} {a : Act} (hw : Region.wanted op (yielded ops a.tmps) = true) (t : TypeId) (parts : Array (Nat × Operand)) (ho : op.op = .build t parts)
    (cells : Array Value) (hf : P.built t (parts.map fun (i, x) => (i, a.eval x)).toList = some cells) : YieldsIf P ops S op (.agg cells) a :=
  .inl ⟨hw, fun w _ => by
    unfold execOp
    simp only [ho, Sem.run_bind, run_build w t _ cells hf, Sem.run_pure, Result.andThen_ok]⟩

theorem u64_sub (a b : Int) (h : b ≤ a) (ha0 : -9223372036854775808 ≤ a) (ha1 : a ≤ 9223372036854775807)
    (hb0 : -9223372036854775808 ≤ b) (hb1 : b ≤ 9223372036854775807) :
    IntKind.u64.wrap (IntKind.u64.wrap a - IntKind.u64.wrap b) = a - b := by
  simp [IntKind.wrap, IntKind.bits, IntKind.signed]
  omega

def pastB (a b c : Int) : Bool := decide (b ≤ a ∧ (c ≤ 0 ∨ c ≤ a - b))

set_option maxHeartbeats 400000 in
theorem past_any (a b c : Int) (w : World) (ha : I64 a) (hb : I64 b) (hc : I64 c) :
    Calls Try.prog 31 #[.int .i64 a, .int .i64 b, .int .i64 c] w fun e w' => e = .returned (.bool (pastB a b c)) ∧ w = w' := by
  obtain ⟨ha0, ha1⟩ := ha
  obtain ⟨hb0, hb1⟩ := hb
  obtain ⟨hc0, hc1⟩ := hc
  by_cases h1 : a < b
  · go_enter Try.func31, Try.ntmps31
    go_wp2
    go_ret
    exact ⟨by simp [pastB]; omega, rfl⟩
  · by_cases h2 : c ≤ 0
    · go_enter Try.func31, Try.ntmps31
      go_wp2
      go_ret
      exact ⟨by simp [pastB]; omega, rfl⟩
    · go_enter Try.func31, Try.ntmps31
      go_wp2
      go_ret
      exact ⟨by rw [u64_sub a b (by omega) ha0 ha1 hb0 hb1]; exact ret_bool (by unfold pastB; rw [decide_eq_decide]; omega), rfl⟩

theorem isNode_any (n : Int) (w : World) : Calls Try.prog 22 #[.int .i64 n] w fun e w' => e = .returned (.bool (decide (0 ≤ n ∧ n < 16))) ∧ w = w' := by
  by_cases h1 : 0 ≤ n
  · by_cases h2 : n < 16
    · go_enter Try.func22, Try.ntmps22
      go_wp2
      go_ret
      exact ⟨by simp [h1, h2], rfl⟩
    · go_enter Try.func22, Try.ntmps22
      go_wp2
      go_ret
      exact ⟨by simp; omega, rfl⟩
  · go_enter Try.func22, Try.ntmps22
    go_wp2
    go_ret
    exact ⟨by simp; omega, rfl⟩

theorem isSpan_any (n : Int) (w : World) : Calls Try.prog 23 #[.int .i64 n] w fun e w' => e = .returned (.bool (decide (0 ≤ n ∧ n ≤ 1000000))) ∧ w = w' := by
  by_cases h1 : 0 ≤ n
  · by_cases h2 : n ≤ 1000000
    · go_enter Try.func23, Try.ntmps23
      go_wp2
      go_ret
      exact ⟨by simp [h1, h2], rfl⟩
    · go_enter Try.func23, Try.ntmps23
      go_wp2
      go_ret
      exact ⟨by simp; omega, rfl⟩
  · go_enter Try.func23, Try.ntmps23
    go_wp2
    go_ret
    exact ⟨by simp; omega, rfl⟩

theorem isNone_nil (w : World) : Calls Try.prog 24 #[.pointer none] w fun e w' => e = .returned (.bool true) ∧ w = w' := by
  go_enter Try.func24, Try.ntmps24
  go_wp2
  go_ret
  exact ⟨rfl, rfl⟩
theorem isNone_some (b : Nat) (c : Bool) (w : World) (h : w.cell? ⟨b, 0, none⟩ = some (.bool c)) :
    Calls Try.prog 24 #[.pointer (some ⟨b, 0, none⟩)] w fun e w' => e = .returned (.bool (!c)) ∧ w = w' := by
  go_enter Try.func24, Try.ntmps24
  go_wp2
  go_ret
  exact ⟨rfl, rfl⟩
theorem BookAt.made {w : World} {q : Qk} {n : Nat} {B : Bk} (h : BookAt w q n B) : Calls Try.prog 24 #[.pointer (some ⟨q.b, 0, none⟩)] w fun e w' => e = .returned (.bool false) ∧ w = w' := isNone_some q.b true w h.open.1

/-- Is one serial below another one? -/
def lessB (x y : Int × Int) : Bool := decide (x.1 < y.1) || (decide (x.1 = y.1) && decide (x.2 < y.2))

set_option maxHeartbeats 400000 in
theorem isLess_any (x y : Int × Int) (w : World) :
    Calls Try.prog 28 #[.agg #[.int .u64 x.1, .int .u64 x.2], .agg #[.int .u64 y.1, .int .u64 y.2]] w fun e w' => e = .returned (.bool (lessB x y)) ∧ Chg none w w' := by
  obtain ⟨a, b⟩ := x
  obtain ⟨c, d⟩ := y
  dsimp only
  unfold lessB
  dsimp only
  by_cases h1 : a < c
  · have d1 : decide (a < c) = true := decide_eq_true h1
    go_enter Try.func28, Try.ntmps28
    go_wp2
    go_ret
    exact ⟨by simp [h1], ((Chg.refl _ _).alloc _).alloc _⟩
  · have d1 : decide (a < c) = false := decide_eq_false h1
    by_cases h2 : a = c
    · subst h2
      have d2 : (a == a) = true := by simp
      go_enter Try.func28, Try.ntmps28
      go_wp2
      go_ret
      exact ⟨by simp, ((Chg.refl _ _).alloc _).alloc _⟩
    · have d2 : (a == c) = false := by simp [h2]
      have d3 : decide (a = c) = false := decide_eq_false h2
      go_enter Try.func28, Try.ntmps28
      go_wp2
      go_ret
      exact ⟨by simp, ((Chg.refl _ _).alloc _).alloc _⟩

def readyB (B : Bk) (x : Int × Int) (now : Int) : Bool := pastB now x.2 B.wait

set_option maxHeartbeats 1000000 in
theorem isReady_any (x : Int × Int) (now : Int) (w : World) (q : Qk) (n : Nat) (B : Bk) (h : BookAt w q n B) (ho : B.ok n) (hx : I64 x.2) (hn : I64 now) :
    Calls Try.prog 25 #[.pointer (some ⟨q.b, 0, none⟩), pairV .u64 .i64 x, .int .i64 now] w fun e w' => e = .returned (.bool (readyB B x now)) ∧ Chg none w w' := by
  obtain ⟨o0, o1, o2, o3, o4, o5, o6, o7, o8, fz⟩ := h.open
  have hlb := h.lt (g := q.b) (.inl rfl)
  have HP := Lib.hid (fun W => past_any now x.2 B.wait W hn hx ⟨by have := ho.wait; omega, by have := ho.wait; omega⟩)
  unfold pairV readyB
  obtain ⟨a, b⟩ := x
  dsimp only at *
  generalize pastB now b B.wait = z at *
  clear h ho hx hn
  go_enter Try.func25, Try.ntmps25
  go_wp2
  go_quiet ((go_at_call 31; refine (HP.out _).mono (fun _ _ h => ⟨h.1, _, h.2.symm⟩)))
  go_wp2
  go_ret
  exact ⟨rfl, ((Chg.refl _ _).alloc _).drewN _⟩

end Go.Proofs.Ytnpmfigcfikdgaa
