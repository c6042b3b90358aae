/-
  The law BuilderWaits: it answers true at every input.
  No condition narrows it.
-/
import Derived.Test.YtcfpjlojknahlaaWaits
namespace Go.Proofs.Ytcfpjlojknahlaa
open Go.ChangeShapes Go.WideShapes Go.ChangeAt Go.RowKit
open Go.WideMaps Go.WideElems

theorem Try.own : ownKnob Try.prog.godebug = none := by kernel_rfl
theorem Try.laidOut : laidOutB Try.prog = true := by kernel_rfl

set_option maxHeartbeats 1000000 in
theorem waits_short (c u : Int) (A : Option Addr) (n ca : Nat) (D : Option Addr) (m cd : Nat) (w : World)
    (hx : ((0 ≤ c ∧ c ≤ 1000000) ∧ (0 ≤ u ∧ u ≤ 1000000)) → 1000 < c ∨ 200 < n ∨ m < n) :
    Calls Try.prog 6 #[.int .i64 c, .int .i64 u, .slice A n ca, .slice D m cd] w fun e w' => e = .returned (.bool true) ∧ Chg none w w' := by
  by_cases hok : (0 ≤ c ∧ c ≤ 1000000) ∧ (0 ≤ u ∧ u ≤ 1000000)
  · have hy := hx hok
    clear hx
    have hN := new_yes c u w hok.1 hok.2
    by_cases e1 : 1000 < c
    · go_enter Try.func6, Try.ntmps6
      go_wp2_with fail
      refine hN.mono ?_
      rintro e w1 ⟨rfl, h1, g1⟩
      go_wp2_with fail
      refine (known_any _).mono ?_
      rintro e w2 ⟨rfl, g2⟩
      go_wp2_with fail
      go_ret
      exact ⟨rfl, g1.trans g2⟩
    · by_cases e2 : 200 < n
      · go_enter Try.func6, Try.ntmps6
        go_wp2_with fail
        refine hN.mono ?_
        rintro e w1 ⟨rfl, h1, g1⟩
        go_wp2_with fail
        refine (known_any _).mono ?_
        rintro e w2 ⟨rfl, g2⟩
        go_wp2_with fail
        go_ret
        exact ⟨rfl, g1.trans g2⟩
      · have e3 : m < n := by omega
        go_enter Try.func6, Try.ntmps6
        go_wp2_with fail
        refine hN.mono ?_
        rintro e w1 ⟨rfl, h1, g1⟩
        go_wp2_with fail
        refine (known_any _).mono ?_
        rintro e w2 ⟨rfl, g2⟩
        go_wp2_with fail
        go_ret
        exact ⟨rfl, g1.trans g2⟩
  · have hN := new_no c u w hok
    clear hx hok
    go_enter Try.func6, Try.ntmps6
    go_wp2_with fail
    refine hN.mono ?_
    rintro e w1 ⟨rfl, rfl⟩
    go_wp2_with fail
    refine (known_any _).mono ?_
    rintro e w2 ⟨rfl, g2⟩
    go_wp2_with fail
    go_ret
    exact ⟨rfl, g2⟩

theorem waits_all (c u : Int) (A : Option Addr) (xs : List Int) (ca : Nat) (D : Option Addr) (ys : List Bool) (cd : Nat) (w : World)
    (hA : RowsAt w 1 A intCells xs) (hD : RowsAt w 1 D boolCells ys) :
    Calls Try.prog 6 #[.int .i64 c, .int .i64 u, .slice A xs.length ca, .slice D ys.length cd] w fun e w' => e = .returned (.bool true) ∧ Chg none w w' := by
  by_cases h : (0 ≤ c ∧ c ≤ 1000000) ∧ (0 ≤ u ∧ u ≤ 1000000) ∧ ¬ (1000 < c ∨ 200 < xs.length ∨ ys.length < xs.length)
  · exact waits_main c u A xs ca D ys cd w (by omega) h.2.1 (by omega) (by omega) hA hD
  · exact waits_short c u A xs.length ca D ys.length cd w (fun hok => by omega)

theorem open_int64 {H : Type} {enc : TypeId × Value → H} {w : World} {base : Nat} {spare : Nat → Bool} {held : Bool} (n : Nat) (cs : List Value) (x) (h : DataW.trod enc Try.prog w base spare held n 3 cs = some x) :
    ∃ a : Int, I64 a ∧ cs = intCells a := by
  obtain ⟨a, h1, _, hw⟩ := DataW.trod_int Try.underlying3 h
  refine ⟨a, ?_, h1⟩
  simpa [Lit.wf, IntKind.min, IntKind.max, IntKind.signed, IntKind.bits, I64] using hw

theorem open_bool1 {H : Type} {enc : TypeId × Value → H} {w : World} {base : Nat} {spare : Nat → Bool} {held : Bool} (n : Nat) (cs : List Value) (x) (h : DataW.trod enc Try.prog w base spare held n 4 cs = some x) :
    ∃ a : Bool, True ∧ cs = boolCells a := by
  obtain ⟨a, h1, _⟩ := DataW.trod_bool Try.underlying4 h
  exact ⟨a, trivial, h1⟩

set_option maxRecDepth 100000 in
theorem waits_lifted (os : Os) (started : os.Started) (H : Type) (enc : TypeId × Value → H) :
    ReturnsInHanded {} Try.checked os 6 .any (Rows.builderWaitsSpec.pre6 enc Try.prog Try.f6 Rows.builderWaitsRow.domain false) (Rows.builderWaitsSpec.post enc Try.prog Try.f6 false true false false) := by
  refine returnsInHanded_of_change (C := Try.checked) Try.own started (by kernel_rfl) Try.func6
    (ChangeSpec.witness6 (enc := enc) (C := Try.checked) false ⟨#[], #[.int .i64 0, .int .i64 0, .slice none 0 0, .slice none 0 0], []⟩ 8 (by kernel_rfl) (by kernel_rfl) (by kernel_rfl) (by kernel_rfl)) ?_
  intro W base args ds gs before hval0 hW _ _
  have hval : ∀ (j : Nat) t v, Try.f6.params[j]? = some t → args[j]? = some v → Value.okWide Try.prog W .any base t v := hval0
  have hW' := hW
  obtain ⟨p, q, hA0, hV, rfl, hfz, hnd⟩ := hW
  have hA : DataW.TrodAll enc Try.prog W 0 (fun _ => true) true Try.f6.params.toList args.toList ds p := hA0
  rw [Try.params6] at hA hval
  obtain ⟨v0, vs0, d0, ds0, p0, q0, hargs, rfl, rfl, h0, r0⟩ := trodAll_cons hA
  obtain ⟨v1, vs1, d1, ds1, p1, q1, rfl, rfl, rfl, h1, r1⟩ := trodAll_cons r0
  obtain ⟨v2, vs2, d2, ds2, p2, q2, rfl, rfl, rfl, h2, r2⟩ := trodAll_cons r1
  obtain ⟨v3, vs3, d3, ds3, p3, q3, rfl, rfl, rfl, h3, r3⟩ := trodAll_cons r2
  obtain ⟨rfl, rfl, rfl⟩ := trodAll_nil r3
  obtain rfl : args = #[v0, v1, v2, v3] := by cases args; simp_all
  obtain ⟨c, rfl, rfl, rfl, _⟩ := open_int Try.underlying3 (hval 0 3 v0 rfl rfl) h0
  obtain ⟨u, rfl, rfl, rfl, _⟩ := open_int Try.underlying3 (hval 1 3 v1 rfl rfl) h1
  obtain ⟨A, xs, ca, rfl, _, _, _, hxs⟩ := open_rows intCells I64 Try.underlying43 (k := 1) (by kernel_rfl) (by omega) open_int64 (hval 2 43 v2 rfl rfl) h2
  obtain ⟨D, ys, cd, rfl, _, _, _, hys⟩ := open_rows boolCells (fun _ => True) Try.underlying44 (k := 1) (by kernel_rfl) (by omega) open_bool1 (hval 3 44 v3 rfl rfl) h3
  refine (waits_all c u A xs ca D ys cd W hxs hys).mono fun e W' ⟨he, hg⟩ => ?_
  subst he
  exact ⟨_, rfl, law_post Try.laidOut (by decide +kernel) (by kernel_rfl) Try.underlying4 rfl hW' rfl (hg.belowNone (Nat.le_refl _))⟩

theorem waits_holds : Rows.BuilderWaitsSaid :=
  OpenClaim.holds_of_wide 6 Try.f6 rfl rfl rfl rfl rfl rfl rfl ⟨rfl, rfl, rfl, rfl, rfl⟩ rfl rfl rfl rfl rfl (by kernel_rfl) Try.func6 (by kernel_rfl)
    (of_decide_eq_true (by kernel_rfl)) (by unfold Func.isWrapper; rw [if_neg (of_decide_eq_false (by kernel_rfl))]; exact ⟨rfl, rfl⟩)
    (fun os started H enc _ => waits_lifted os started H enc)

end Go.Proofs.Ytcfpjlojknahlaa
