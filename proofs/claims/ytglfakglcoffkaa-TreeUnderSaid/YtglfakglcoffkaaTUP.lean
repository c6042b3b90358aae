/-
  TreeUnder: to put under one directory and then another is to put under both, and to join and put under is to put under and join: for every input.
-/
import Derived.Test.YtglfakglcoffkaaTUW
import Derived.Test.YtglfakglcoffkaaTV
import Derived.Stop.Joined
namespace Go.Proofs.Ytglfakglcoffkaa
open Go.ChangeShapes Go.WideShapes Go.ChangeAt Go.RowKit
open Go.WideMaps Go.WideElems

set_option maxRecDepth 100000 in
theorem treeUnder_lifted (os : Os) (started : os.Started) (H : Type) (enc : TypeId × Value → H) :
    ReturnsInHanded {} Try.checked os 9 .any (Rows.treeUnderSpec.pre6 enc Try.prog Try.f9 Rows.treeUnderRow.domain false) (Rows.treeUnderSpec.post enc Try.prog Try.f9 false true false false) := by
  refine returnsInHanded_of_change (C := Try.checked) Try.own started (by kernel_rfl) Try.func9
    (ChangeSpec.witness6 (enc := enc) (C := Try.checked) false ⟨#[], #[.slice none 0 0, .slice none 0 0, .string "".toUTF8, .string "".toUTF8], []⟩ 8 (by kernel_rfl) (by kernel_rfl) (by kernel_rfl) (by kernel_rfl)) ?_
  intro W base args ds gs before hval0 hW _ _
  have hval : ∀ (j : Nat) t v, Try.f9.params[j]? = some t → args[j]? = some v → Value.okWide Try.prog W .any base t v := hval0
  have hW' := hW
  obtain ⟨p, q, hA0, hV, rfl, hfz, hnd⟩ := hW
  have hA : DataW.TrodAll enc Try.prog W 0 (fun _ => true) true Try.f9.params.toList args.toList ds p := hA0
  rw [Try.params9] at hA hval
  obtain ⟨v0, vs0, d0, ds0, p0, q0, hargs, rfl, rfl, h0, r0⟩ := trodAll_cons hA
  obtain ⟨v1, vs1, d1, ds1, p1, q1, rfl, rfl, rfl, h1, r1⟩ := trodAll_cons r0
  obtain ⟨v2, vs2, d2, ds2, p2, q2, rfl, rfl, rfl, h2, r2⟩ := trodAll_cons r1
  obtain ⟨v3, vs3, d3, ds3, p3, q3, rfl, rfl, rfl, h3, r3⟩ := trodAll_cons r2
  obtain ⟨rfl, rfl, rfl⟩ := trodAll_nil r3
  obtain rfl : args = #[v0, v1, v2, v3] := by cases args; simp_all
  obtain ⟨A, L, c, rfl, hL, hLc, hLm, hLn⟩ := open_tree (hval 0 25 v0 rfl rfl) h0
  obtain ⟨B, N, d, rfl, hN, hNc, hNm, hNn⟩ := open_tree (hval 1 25 v1 rfl rfl) h1
  obtain ⟨one, rfl, h1s⟩ := open_str (hval 2 9 v2 rfl rfl) h2
  obtain ⟨two, rfl, h2s⟩ := open_str (hval 3 9 v3 rfl rfl) h3
  refine (tunder_law L N A B c d one two W hL hN (by omega) (by omega) h1s h2s).mono fun e W' ⟨he, hg⟩ => ?_
  subst he
  exact ⟨_, rfl, law_post Try.laidOut (by decide +kernel) (by kernel_rfl) Try.underlying4 rfl hW' rfl (hg.belowNone (Nat.le_refl _))⟩

theorem treeUnder_holds : Rows.TreeUnderSaid :=
  OpenClaim.holds_of_wide 9 Try.f9 rfl rfl rfl rfl rfl rfl rfl ⟨rfl, rfl, rfl, rfl, rfl⟩ rfl rfl rfl rfl rfl (by kernel_rfl) Try.func9 (by kernel_rfl)
    (of_decide_eq_true (by kernel_rfl)) (by unfold Func.isWrapper; rw [if_neg (of_decide_eq_false (by kernel_rfl))]; exact ⟨rfl, rfl⟩)
    (fun os started H enc _ => treeUnder_lifted os started H enc)

end Go.Proofs.Ytglfakglcoffkaa
