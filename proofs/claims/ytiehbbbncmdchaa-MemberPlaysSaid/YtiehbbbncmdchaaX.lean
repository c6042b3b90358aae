/-
  Walks over package member, to the world: Self; the document's Greater.
-/
import Derived.Test.YtiehbbbncmdchaaJ
import Derived.Test.YtiehbbbncmdchaaH
namespace Go.Proofs.Ytiehbbbncmdchaa
open Go.RowKit

set_option maxHeartbeats 400000 in
theorem refGreater_any (u v : U) (w : World) :
    Calls Try.prog 25 #[.agg #[.int .i64 u.node, .int .u8 u.st, .int .u64 u.inc], .agg #[.int .i64 v.node, .int .u8 v.st, .int .u64 v.inc]] w
      fun e w' => e = .returned (.bool (greater u v)) ∧ w' = (w.alloc (.cells u.parts 31)).alloc (.cells v.parts 31) := by
  obtain ⟨un, us, ui⟩ := u
  obtain ⟨vn, vs, vi⟩ := v
  unfold U.parts
  by_cases h1 : vi < ui
  · have hg : greater ⟨un, us, ui⟩ ⟨vn, vs, vi⟩ = true := by simp [greater, h1]
    rw [hg]
    clear hg
    go_enter Try.func25, Try.ntmps25
    go_wp2
    go_ret
    exact ⟨rfl, rfl⟩
  · by_cases h2 : ui = vi
    · subst h2
      by_cases h3 : vs < us
      · have hg : greater ⟨un, us, ui⟩ ⟨vn, vs, ui⟩ = true := by simp [greater, h3]
        rw [hg]
        clear hg
        go_enter Try.func25, Try.ntmps25
        go_wp2
        go_ret
        exact ⟨rfl, rfl⟩
      · have hg : greater ⟨un, us, ui⟩ ⟨vn, vs, ui⟩ = false := by simp [greater]; omega
        rw [hg]
        clear hg
        go_enter Try.func25, Try.ntmps25
        go_wp2
        go_ret
        exact ⟨rfl, rfl⟩
    · have hg : greater ⟨un, us, ui⟩ ⟨vn, vs, vi⟩ = false := by simp [greater]; omega
      have hb : (ui == vi) = false := beq_false_of_ne h2
      rw [hg]
      clear hg h2
      go_enter Try.func25, Try.ntmps25
      go_wp2
      go_ret
      exact ⟨rfl, rfl⟩

set_option maxHeartbeats 400000 in
theorem self_exact (b : Nat) (m : M) (u : U) (w : World) (hm : MemAt w b m) (ho : m.ok) (hu : m.stand[m.self]? = some u) :
    Calls Try.prog 24 #[.pointer (some ⟨b, 0, none⟩)] w fun e w' => e = .returned (.agg #[.int .i64 u.node, .int .u8 u.st, .int .u64 u.inc]) ∧ w' = (w.alloc (.cells u.parts 31)).drew := by
  obtain ⟨h0, h1⟩ := hm.head
  obtain ⟨c0, c1, c2⟩ := hm.at hu
  have hb := Blk.lt hm
  have hN := isNone_some b m.count _ (hm.alloc (.cells #[.int .i64 0, .int .u8 0, .int .u64 0] 31)).head.2
  have hz : ((m.count : Int) == 0) = false := beq_false_of_ne (by have := ho.one; omega)
  rw [hz] at hN
  have htop := ho.top
  have hown := ho.own
  clear hz ho hm hu
  go_enter Try.func24, Try.ntmps24
  go_wp2_with fail
  refine hN.mono ?_
  rintro e w' ⟨rfl, rfl⟩
  go_wp2_with fail
  go_region
  all_goals go_wp2_with fail
  all_goals exact bodyPost_ret (v := .agg #[.int .i64 u.node, .int .u8 u.st, .int .u64 u.inc]) (by simp [results, Try.results24, go_sem]) rfl ⟨rfl, rfl⟩

theorem field31_1 (w : World) (a b c : Int) : (Instr.field 31 (.agg #[.int .i64 a, .int .u8 b, .int .u64 c]) 1).run Try.prog w = .ok (.int .u8 b) w := by
  have a5 := Try.isAgg5
  have z5 := Try.sizeOf5
  have u31 := Try.underlying31
  unfold Instr.field asAgg
  go_simp

theorem field31_2 (w : World) (a b c : Int) : (Instr.field 31 (.agg #[.int .i64 a, .int .u8 b, .int .u64 c]) 2).run Try.prog w = .ok (.int .u64 c) w := by
  have a22 := Try.isAgg22
  have z22 := Try.sizeOf22
  have u31 := Try.underlying31
  unfold Instr.field asAgg
  go_simp

end Go.Proofs.Ytiehbbbncmdchaa
