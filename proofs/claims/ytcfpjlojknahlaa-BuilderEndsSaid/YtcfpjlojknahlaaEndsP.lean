/-
  The law BuilderEnds: it answers true at every input.
  No condition narrows it.
-/
import Derived.Test.YtcfpjlojknahlaaEnds
import Derived.Test.YtcfpjlojknahlaaV
namespace Go.Proofs.Ytcfpjlojknahlaa
open Go.ChangeShapes Go.WideShapes Go.ChangeAt Go.RowKit
open Go.WideMaps Go.WideElems

set_option maxHeartbeats 1000000 in
theorem ends_short (c u : Int) (A : Option Addr) (n ca : Nat) (w : World)
    (hx : ((0 ≤ c ∧ c ≤ 1000000) ∧ (0 ≤ u ∧ u ≤ 1000000)) → 300 < c ∨ 300 < u ∨ 300 < n) :
    Calls Try.prog 4 #[.int .i64 c, .int .i64 u, .slice A n ca] w fun e w' => e = .returned (.bool true) ∧ Chg none w w' := by
  by_cases hok : (0 ≤ c ∧ c ≤ 1000000) ∧ (0 ≤ u ∧ u ≤ 1000000)
  · have hy := hx hok
    clear hx
    have hN := new_yes c u w hok.1 hok.2
    by_cases e1 : 300 < c
    · go_enter Try.func4, Try.ntmps4
      go_wp2_with fail
      refine hN.mono ?_
      rintro e w1 ⟨rfl, h1, g1⟩
      go_wp2_with fail
      refine (known_any _).mono ?_
      rintro e w2 ⟨rfl, g2⟩
      go_wp2_with fail
      go_ret
      exact ⟨rfl, g1.trans g2⟩
    · by_cases e2 : 300 < u
      · go_enter Try.func4, Try.ntmps4
        go_wp2_with fail
        refine hN.mono ?_
        rintro e w1 ⟨rfl, h1, g1⟩
        go_wp2_with fail
        refine (known_any _).mono ?_
        rintro e w2 ⟨rfl, g2⟩
        go_wp2_with fail
        go_ret
        exact ⟨rfl, g1.trans g2⟩
      · have e3 : 300 < n := by omega
        go_enter Try.func4, Try.ntmps4
        go_wp2_with fail
        refine hN.mono ?_
        rintro e w1 ⟨rfl, h1, g1⟩
        go_wp2_with fail
        refine (known_any _).mono ?_
        rintro e w2 ⟨rfl, g2⟩
        go_wp2_with fail
        go_ret
        exact ⟨rfl, g1.trans g2⟩
  · have hN := new_no c u w hok
    clear hx hok
    go_enter Try.func4, Try.ntmps4
    go_wp2_with fail
    refine hN.mono ?_
    rintro e w1 ⟨rfl, rfl⟩
    go_wp2_with fail
    refine (known_any _).mono ?_
    rintro e w2 ⟨rfl, g2⟩
    go_wp2_with fail
    go_ret
    exact ⟨rfl, g2⟩

theorem ends_all (c u : Int) (A : Option Addr) (L : List F) (ca : Nat) (w : World) (hA : RowsAt w 8 A F.cells L) :
    Calls Try.prog 4 #[.int .i64 c, .int .i64 u, .slice A L.length ca] w fun e w' => e = .returned (.bool true) ∧ Chg none w w' := by
  by_cases h : (0 ≤ c ∧ c ≤ 300) ∧ (0 ≤ u ∧ u ≤ 300) ∧ ¬ 300 < L.length
  · exact ends_main c u A L ca w h.1 h.2.1 (by omega) hA
  · exact ends_short c u A L.length ca w (fun hok => by omega)

instance : Inhabited F := ⟨⟨false, false, false, false, false, false, false, false⟩⟩

set_option maxRecDepth 100000 in
theorem ends_lifted (os : Os) (started : os.Started) (H : Type) (enc : TypeId × Value → H) :
    ReturnsInHanded {} Try.checked os 4 .any (Rows.builderEndsSpec.pre6 enc Try.prog Try.f4 Rows.builderEndsRow.domain false) (Rows.builderEndsSpec.post enc Try.prog Try.f4 false true false false) := by
  refine returnsInHanded_of_change (C := Try.checked) Try.own started (by kernel_rfl) Try.func4
    (ChangeSpec.witness6 (enc := enc) (C := Try.checked) false ⟨#[], #[.int .i64 0, .int .i64 0, .slice none 0 0], []⟩ 8 (by kernel_rfl) (by kernel_rfl) (by kernel_rfl) (by kernel_rfl)) ?_
  intro W base args ds gs before hval0 hW _ _
  have hval : ∀ (j : Nat) t v, Try.f4.params[j]? = some t → args[j]? = some v → Value.okWide Try.prog W .any base t v := hval0
  have hW' := hW
  obtain ⟨p, q, hA0, hV, rfl, hfz, hnd⟩ := hW
  have hA : DataW.TrodAll enc Try.prog W 0 (fun _ => true) true Try.f4.params.toList args.toList ds p := hA0
  rw [Try.params4] at hA hval
  obtain ⟨v0, vs0, d0, ds0, p0, q0, hargs, rfl, rfl, h0, r0⟩ := trodAll_cons hA
  obtain ⟨v1, vs1, d1, ds1, p1, q1, rfl, rfl, rfl, h1, r1⟩ := trodAll_cons r0
  obtain ⟨v2, vs2, d2, ds2, p2, q2, rfl, rfl, rfl, h2, r2⟩ := trodAll_cons r1
  obtain ⟨rfl, rfl, rfl⟩ := trodAll_nil r2
  obtain rfl : args = #[v0, v1, v2] := by cases args; simp_all
  obtain ⟨c, rfl, rfl, rfl, _⟩ := open_int Try.underlying3 (hval 0 3 v0 rfl rfl) h0
  obtain ⟨u, rfl, rfl, rfl, _⟩ := open_int Try.underlying3 (hval 1 3 v1 rfl rfl) h1
  obtain ⟨A, L, ca, rfl, _, _, _, hL⟩ := open_rows F.cells (fun _ => True) Try.underlying38 (k := 8) (by kernel_rfl) (by omega) open_facts (hval 2 38 v2 rfl rfl) h2
  refine (ends_all c u A L ca W hL).mono fun e W' ⟨he, hg⟩ => ?_
  subst he
  exact ⟨_, rfl, law_post Try.laidOut (by decide +kernel) (by kernel_rfl) Try.underlying4 rfl hW' rfl (hg.belowNone (Nat.le_refl _))⟩

theorem ends_holds : Rows.BuilderEndsSaid :=
  OpenClaim.holds_of_wide 4 Try.f4 rfl rfl rfl rfl rfl rfl rfl ⟨rfl, rfl, rfl, rfl, rfl⟩ rfl rfl rfl rfl rfl (by kernel_rfl) Try.func4 (by kernel_rfl)
    (of_decide_eq_true (by kernel_rfl)) (by unfold Func.isWrapper; rw [if_neg (of_decide_eq_false (by kernel_rfl))]; exact ⟨rfl, rfl⟩)
    (fun os started H enc _ => ends_lifted os started H enc)

end Go.Proofs.Ytcfpjlojknahlaa
