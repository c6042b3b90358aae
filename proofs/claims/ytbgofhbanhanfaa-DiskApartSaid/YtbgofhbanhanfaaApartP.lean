/-
  The law DiskApart: it answers true at every input.
  No condition narrows it.
-/
import Derived.Test.YtbgofhbanhanfaaApart
namespace Go.Proofs.Ytbgofhbanhanfaa
open Go.ChangeShapes Go.WideShapes Go.ChangeAt Go.RowKit
open Go.WideMaps Go.WideElems

set_option maxHeartbeats 1000000 in
theorem apart_short (A : Option Addr) (n ca : Nat) (f : Int) (w : World) (hx : ¬ (n ≤ 60 ∧ 0 ≤ f ∧ f ≤ 1)) :
    Calls Try.prog 6 #[.slice A n ca, .int .i64 f] w fun e w' => e = .returned (.bool true) ∧ Chg none w w' := by
  by_cases h1 : n ≤ 60
  · have e1 : decide ((60 : Int) < (n : Int)) = false := by simp; omega
    by_cases h2 : f < 0
    · have e2 : decide (f < 0) = true := by simpa using h2
      clear hx h1 h2
      go_enter Try.func6, Try.ntmps6
      go_wp2_with fail
      refine (new_rel _).mono ?_
      rintro e w1 ⟨rfl, r1⟩
      have hz := r1.chg
      go_wp2_with fail
      refine (known_any _).mono ?_
      rintro e w2 ⟨rfl, g2⟩
      go_wp2_with fail
      go_ret
      exact ⟨rfl, hz.trans g2⟩
    · have e2 : decide (f < 0) = false := by simpa using h2
      have e3 : decide (1 < f) = true := by simp; omega
      clear hx h1 h2
      go_enter Try.func6, Try.ntmps6
      go_wp2_with fail
      refine (new_rel _).mono ?_
      rintro e w1 ⟨rfl, r1⟩
      have hz := r1.chg
      go_wp2_with fail
      refine (known_any _).mono ?_
      rintro e w2 ⟨rfl, g2⟩
      go_wp2_with fail
      go_ret
      exact ⟨rfl, hz.trans g2⟩
  · have e1 : decide ((60 : Int) < (n : Int)) = true := by simp; omega
    clear hx h1
    go_enter Try.func6, Try.ntmps6
    go_wp2_with fail
    refine (new_rel _).mono ?_
    rintro e w1 ⟨rfl, r1⟩
    have hz := r1.chg
    go_wp2_with fail
    refine (known_any _).mono ?_
    rintro e w2 ⟨rfl, g2⟩
    go_wp2_with fail
    go_ret
    exact ⟨rfl, hz.trans g2⟩

theorem apart_all (A : Option Addr) (L : List Opn) (ca : Nat) (f : Int) (w : World) (hA : RowsAt w 5 A Opn.cells L) (hL : ∀ o ∈ L, o.okIn w) :
    Calls Try.prog 6 #[.slice A L.length ca, .int .i64 f] w fun e w' => e = .returned (.bool true) ∧ Chg none w w' := by
  by_cases h : L.length ≤ 60 ∧ 0 ≤ f ∧ f ≤ 1
  · obtain ⟨n, rfl⟩ := Int.eq_ofNat_of_zero_le h.2.1
    exact apart_main A L ca n (1 - n) w (by omega) h.1 hA hL
  · exact apart_short A L.length ca f w h

set_option maxRecDepth 100000 in
theorem apart_lifted (os : Os) (started : os.Started) (H : Type) (enc : TypeId × Value → H) :
    ReturnsInHanded {} Try.checked os 6 .any (Rows.diskApartSpec.pre6 enc Try.prog Try.f6 Rows.diskApartRow.domain false) (Rows.diskApartSpec.post enc Try.prog Try.f6 false true false false) := by
  refine returnsInHanded_of_change (C := Try.checked) Try.own started (by kernel_rfl) Try.func6
    (ChangeSpec.witness6 (enc := enc) (C := Try.checked) false ⟨#[], #[.slice none 0 0, .int .i64 0], []⟩ 8 (by kernel_rfl) (by kernel_rfl) (by kernel_rfl) (by kernel_rfl)) ?_
  intro W base args ds gs before hval0 hW _ _
  have hval : ∀ (j : Nat) t v, Try.f6.params[j]? = some t → args[j]? = some v → Value.okWide Try.prog W .any base t v := hval0
  have hW' := hW
  obtain ⟨p, q, hA0, hV, rfl, hfz, hnd⟩ := hW
  have hA : DataW.TrodAll enc Try.prog W 0 (fun _ => true) true Try.f6.params.toList args.toList ds p := hA0
  rw [Try.params6] at hA hval
  obtain ⟨v0, vs0, d0, ds0, p0, q0, hargs, rfl, rfl, h0, r0⟩ := trodAll_cons hA
  obtain ⟨v1, vs1, d1, ds1, p1, q1, rfl, rfl, rfl, h1, r1⟩ := trodAll_cons r0
  obtain ⟨rfl, rfl, rfl⟩ := trodAll_nil r1
  obtain rfl : args = #[v0, v1] := by cases args; simp_all
  obtain ⟨A, L, ca, rfl, _, _, hLw, hL⟩ := open_rows Opn.cells (fun o => o.okIn W) Try.underlying22 (k := 5) (by kernel_rfl) (by omega) open_opn (hval 0 22 v0 rfl rfl) h0
  obtain ⟨f, rfl, rfl, rfl, _⟩ := open_int Try.underlying3 (hval 1 3 v1 rfl rfl) h1
  refine (apart_all A L ca f W hL hLw).mono fun e W' ⟨he, hg⟩ => ?_
  subst he
  exact ⟨_, rfl, law_post Try.laidOut (by decide +kernel) (by kernel_rfl) Try.underlying4 rfl hW' rfl (hg.belowNone (Nat.le_refl _))⟩

theorem apart_holds : Rows.DiskApartSaid :=
  OpenClaim.holds_of_wide 6 Try.f6 rfl rfl rfl rfl rfl rfl rfl ⟨rfl, rfl, rfl, rfl, rfl⟩ rfl rfl rfl rfl rfl (by kernel_rfl) Try.func6 (by kernel_rfl)
    (of_decide_eq_true (by kernel_rfl)) (by unfold Func.isWrapper; rw [if_neg (of_decide_eq_false (by kernel_rfl))]; exact ⟨rfl, rfl⟩)
    (fun os started H enc _ => apart_lifted os started H enc)

end Go.Proofs.Ytbgofhbanhanfaa
