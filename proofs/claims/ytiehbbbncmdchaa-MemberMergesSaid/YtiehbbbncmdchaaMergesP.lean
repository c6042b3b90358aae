/-
  The law MemberMerges: it answers true at every input.
  No condition narrows it.
-/
import Derived.Test.YtiehbbbncmdchaaMG
import Derived.Test.YtiehbbbncmdchaaMergesP0
namespace Go.Proofs.Ytiehbbbncmdchaa
open Go.ChangeShapes Go.WideShapes Go.ChangeAt Go.RowKit
open Go.WideMaps Go.WideElems

theorem merges_all (c : Int) (A : Option Addr) (L : List U) (ca : Nat) (D : Option Addr) (X : List U) (cd : Nat) (w : World)
    (hA : RowsAt w 3 A U.cells L) (hD : RowsAt w 3 D U.cells X) (hL : ∀ u ∈ L, u.wide) (hX : ∀ u ∈ X, u.wide) :
    Calls Try.prog 7 #[.int .i64 c, .slice A L.length ca, .slice D X.length cd] w fun e w' => e = .returned (.bool true) ∧ Chg none w w' := by
  by_cases h : (1 < c ∧ c ≤ 16) ∧ L.length ≤ 60 ∧ X.length ≤ 60
  · obtain ⟨c', rfl⟩ := Int.eq_ofNat_of_zero_le (show 0 ≤ c by omega)
    exact merges_main c' A L ca D X cd w (by omega) (by omega) h.2.1 h.2.2 hA hD (fun u hu => (hL u hu).2.2.1) (fun u hu => (hX u hu).2.2.1)
  · exact merges_short c A L.length ca D X.length cd w (fun hok => by omega)

set_option maxRecDepth 100000 in
theorem merges_lifted (os : Os) (started : os.Started) (H : Type) (enc : TypeId × Value → H) :
    ReturnsInHanded {} Try.checked os 7 .any (Rows.memberMergesSpec.pre6 enc Try.prog Try.f7 Rows.memberMergesRow.domain false) (Rows.memberMergesSpec.post enc Try.prog Try.f7 false true false false) := by
  refine returnsInHanded_of_change (C := Try.checked) Try.own started (by kernel_rfl) Try.func7
    (ChangeSpec.witness6 (enc := enc) (C := Try.checked) false ⟨#[], #[.int .i64 0, .slice none 0 0, .slice none 0 0], []⟩ 8 (by kernel_rfl) (by kernel_rfl) (by kernel_rfl) (by kernel_rfl)) ?_
  intro W base args ds gs before hval0 hW _ _
  have hval : ∀ (j : Nat) t v, Try.f7.params[j]? = some t → args[j]? = some v → Value.okWide Try.prog W .any base t v := hval0
  have hW' := hW
  obtain ⟨p, q, hA0, hV, rfl, hfz, hnd⟩ := hW
  have hA : DataW.TrodAll enc Try.prog W 0 (fun _ => true) true Try.f7.params.toList args.toList ds p := hA0
  rw [Try.params7] at hA hval
  obtain ⟨v0, vs0, d0, ds0, p0, q0, hargs, rfl, rfl, h0, r0⟩ := trodAll_cons hA
  obtain ⟨v1, vs1, d1, ds1, p1, q1, rfl, rfl, rfl, h1, r1⟩ := trodAll_cons r0
  obtain ⟨v2, vs2, d2, ds2, p2, q2, rfl, rfl, rfl, h2, r2⟩ := trodAll_cons r1
  obtain ⟨rfl, rfl, rfl⟩ := trodAll_nil r2
  obtain rfl : args = #[v0, v1, v2] := by cases args; simp_all
  obtain ⟨c, rfl, rfl, rfl, _⟩ := open_int Try.underlying3 (hval 0 3 v0 rfl rfl) h0
  obtain ⟨A, L, ca, rfl, _, _, hLw, hL⟩ := open_rows U.cells U.wide Try.underlying42 (k := 3) (by kernel_rfl) (by omega) open_upd (hval 1 42 v1 rfl rfl) h1
  obtain ⟨D, X, cd, rfl, _, _, hXw, hX⟩ := open_rows U.cells U.wide Try.underlying42 (k := 3) (by kernel_rfl) (by omega) open_upd (hval 2 42 v2 rfl rfl) h2
  refine (merges_all c A L ca D X cd W hL hX hLw hXw).mono fun e W' ⟨he, hg⟩ => ?_
  subst he
  exact ⟨_, rfl, law_post Try.laidOut (by decide +kernel) (by kernel_rfl) Try.underlying4 rfl hW' rfl (hg.belowNone (Nat.le_refl _))⟩

theorem merges_holds : Rows.MemberMergesSaid :=
  OpenClaim.holds_of_wide 7 Try.f7 rfl rfl rfl rfl rfl rfl rfl ⟨rfl, rfl, rfl, rfl, rfl⟩ rfl rfl rfl rfl rfl (by kernel_rfl) Try.func7 (by kernel_rfl)
    (of_decide_eq_true (by kernel_rfl)) (by unfold Func.isWrapper; rw [if_neg (of_decide_eq_false (by kernel_rfl))]; exact ⟨rfl, rfl⟩)
    (fun os started H enc _ => merges_lifted os started H enc)

end Go.Proofs.Ytiehbbbncmdchaa
