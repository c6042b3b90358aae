/-
  TreeParts: what is got of any trees, put into them, below and under a directory, joined, and whether they are alike, are the document's, or refused; trees stay: for every input.
-/
import Derived.Test.YtglfakglcoffkaaUJ
import Derived.Test.YtglfakglcoffkaaUV
import Derived.Stop.Joined
namespace Go.Proofs.Ytglfakglcoffkaa
open Go.ChangeShapes Go.WideShapes Go.ChangeAt Go.RowKit
open Go.WideMaps Go.WideElems

set_option maxRecDepth 100000 in
theorem treeParts_lifted (os : Os) (started : os.Started) (H : Type) (enc : TypeId × Value → H) :
    ReturnsInHanded {} Try.checked os 4 .any (Rows.treePartsSpec.pre6 enc Try.prog Try.f4 Rows.treePartsRow.domain false) (Rows.treePartsSpec.post enc Try.prog Try.f4 false true false false) := by
  refine returnsInHanded_of_change_sized (C := Try.checked) Try.own started (by kernel_rfl) Try.func4
    (ChangeSpec.witness6 (enc := enc) (C := Try.checked) false ⟨#[], #[.slice none 0 0, .slice none 0 0, .string "".toUTF8, .slice none 0 0], []⟩ 8 (by kernel_rfl) (by kernel_rfl) (by kernel_rfl) (by kernel_rfl)) ?_
  intro W base args ds gs before hval0 hW _ hsz _
  have hval : ∀ (j : Nat) t v, Try.f4.params[j]? = some t → args[j]? = some v → Value.okWide Try.prog W .any base t v := hval0
  have hW' := hW
  obtain ⟨p, q, hA0, hV, rfl, hfz, hnd⟩ := hW
  have hA : DataW.TrodAll enc Try.prog W 0 (fun _ => true) true Try.f4.params.toList args.toList ds p := hA0
  rw [Try.params4] at hA hval
  obtain ⟨v0, vs0, d0, ds0, p0, q0, hargs, rfl, rfl, h0, r0⟩ := trodAll_cons hA
  obtain ⟨v1, vs1, d1, ds1, p1, q1, rfl, rfl, rfl, h1, r1⟩ := trodAll_cons r0
  obtain ⟨v2, vs2, d2, ds2, p2, q2, rfl, rfl, rfl, h2, r2⟩ := trodAll_cons r1
  obtain ⟨v3, vs3, d3, ds3, p3, q3, rfl, rfl, rfl, h3, r3⟩ := trodAll_cons r2
  obtain ⟨rfl, rfl, rfl⟩ := trodAll_nil r3
  obtain rfl : args = #[v0, v1, v2, v3] := by cases args; simp_all
  have hall : ∀ (j : Nat) (t : TypeId) (dd : DataW H), [25, 25, 9, 22][j]? = some t → [d0, d1, d2, d3][j]? = some dd → ∀ k, Wgh t dd k → k ≤ 140737488355328 := fun j t dd h1 h2 k h => by
    rcases h with h | ⟨q, hq, hn⟩
    · omega
    · have h3 := List.all_eq_true.1 hsz q (DataW.weights_mem_each (j := j) (t := t) (d := dd) (by
        match j, h1 with
        | 0, h1 => exact h1
        | 1, h1 => exact h1
        | 2, h1 => exact h1
        | 3, h1 => exact h1) (by
        match j, h2 with
        | 0, h2 => exact h2
        | 1, h2 => exact h2
        | 2, h2 => exact h2
        | 3, h2 => exact h2) q hq)
      have h4 : q ≤ reachBytes := by simpa using h3
      have h5 : reachBytes ≤ 140737488355328 := by decide
      omega
  obtain ⟨A, L, c, rfl, hL, hl1, hl2⟩ := open_treeV (hval 0 25 v0 rfl rfl) h0
  obtain ⟨B, N, d, rfl, hN, hn1, hn2⟩ := open_treeV (hval 1 25 v1 rfl rfl) h1
  obtain ⟨path, rfl, hp⟩ := open_str (hval 2 9 v2 rfl rfl) h2
  obtain ⟨Ax, x, cx, rfl, hx, hxc, hxm, hxn⟩ := open_bytes3 (hval 3 22 v3 rfl rfl) h3
  have z0 := hall 0 25 d0 rfl rfl
  have z1 := hall 1 25 d1 rfl rfl
  refine (tparts_law L N A B c d path Ax x cx W hL hN (z0 _ hl1) (fun f hf => z0 _ (hl2 f hf)) (z1 _ hn1) (fun f hf => z1 _ (hn2 f hf)) hp ⟨hx, hxc, hp, by omega, hxn⟩).mono fun e W' ⟨he, hg⟩ => ?_
  subst he
  exact ⟨_, rfl, law_post Try.laidOut (by decide +kernel) (by kernel_rfl) Try.underlying4 rfl hW' rfl (hg.belowNone (Nat.le_refl _))⟩

theorem treeParts_holds : Rows.TreePartsSaid :=
  OpenClaim.holds_of_wide 4 Try.f4 rfl rfl rfl rfl rfl rfl rfl ⟨rfl, rfl, rfl, rfl, rfl⟩ rfl rfl rfl rfl rfl (by kernel_rfl) Try.func4 (by kernel_rfl)
    (of_decide_eq_true (by kernel_rfl)) (by unfold Func.isWrapper; rw [if_neg (of_decide_eq_false (by kernel_rfl))]; exact ⟨rfl, rfl⟩)
    (fun os started H enc _ => treeParts_lifted os started H enc)

end Go.Proofs.Ytglfakglcoffkaa
