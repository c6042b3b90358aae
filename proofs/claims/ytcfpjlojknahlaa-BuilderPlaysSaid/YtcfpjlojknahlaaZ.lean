/-
  Walks over package builder: turns that are not there, or were not made.
-/
import Derived.Test.YtcfpjlojknahlaaG
namespace Go.Proofs.Ytcfpjlojknahlaa
open Go.RowKit

set_option maxHeartbeats 400000 in
theorem step_nil (now : Int) (f : F) (w : World) :
    Calls Try.prog 10 #[.pointer none, .int .i64 now, f.val] w fun e w' => e = .returned (.int .u8 0) ∧ w' = w.alloc (.cells f.parts 28) := by
  obtain ⟨f0, f1, f2, f3, f4, f5, f6, f7⟩ := f
  unfold F.val F.parts
  go_enter Try.func10, Try.ntmps10
  go_wp2_with fail
  refine (isNone_nil _).mono ?_
  rintro e w' ⟨rfl, rfl⟩
  go_wp2_with fail
  go_ret
  exact ⟨rfl, rfl⟩

set_option maxHeartbeats 400000 in
theorem step_zero (b : Nat) (t : T) (now : Int) (f : F) (w : World) (ht : TurnAt w b t) (hs : t.st = 0) :
    Calls Try.prog 10 #[.pointer (some ⟨b, 0, none⟩), .int .i64 now, f.val] w fun e w' => e = .returned (.int .u8 0) ∧ w' = w.alloc (.cells f.parts 28) := by
  have hb := Blk.lt ht
  have hn := isNone_zero b t (w.alloc (.cells f.parts 28)) (ht.alloc _) hs
  obtain ⟨f0, f1, f2, f3, f4, f5, f6, f7⟩ := f
  unfold F.val F.parts at *
  clear hs
  go_enter Try.func10, Try.ntmps10
  go_wp2_with fail
  refine hn.mono ?_
  rintro e w' ⟨rfl, rfl⟩
  go_wp2_with fail
  go_ret
  exact ⟨rfl, rfl⟩

theorem step_nil_lit (now : Int) (f0 f1 f2 f3 f4 f5 f6 f7 : Bool) (w : World) :
    Calls Try.prog 10 #[.pointer none, .int .i64 now, .agg #[.bool f0, .bool f1, .bool f2, .bool f3, .bool f4, .bool f5, .bool f6, .bool f7]] w
      fun e w' => e = .returned (.int .u8 0) ∧ w' = w.alloc (.cells #[.bool f0, .bool f1, .bool f2, .bool f3, .bool f4, .bool f5, .bool f6, .bool f7] 28) :=
  step_nil now ⟨f0, f1, f2, f3, f4, f5, f6, f7⟩ w

theorem step_zero_lit (b : Nat) (now : Int) (f0 f1 f2 f3 f4 f5 f6 f7 : Bool) (w : World) (ht : TurnAt w b ⟨0, 0, 0, false, 0, false, 0, 0⟩) :
    Calls Try.prog 10 #[.pointer (some ⟨b, 0, none⟩), .int .i64 now, .agg #[.bool f0, .bool f1, .bool f2, .bool f3, .bool f4, .bool f5, .bool f6, .bool f7]] w
      fun e w' => e = .returned (.int .u8 0) ∧ w' = w.alloc (.cells #[.bool f0, .bool f1, .bool f2, .bool f3, .bool f4, .bool f5, .bool f6, .bool f7] 28) :=
  step_zero b _ now ⟨f0, f1, f2, f3, f4, f5, f6, f7⟩ w ht rfl

end Go.Proofs.Ytcfpjlojknahlaa
