/-
  TreeForms: whether any tree may be, its bytes and root, are the document's, or refused, and it is read again: for every input of a machine's sizes, where the two tables of package sha hold what its text lays (the card ties them).
-/
import Derived.Test.YtglfakglcoffkaaDoorTFM
import Derived.Test.YtglfakglcoffkaaDoorTVW
import Derived.Test.YtglfakglcoffkaaDoorVT
import Derived.Test.YtglfakglcoffkaaDoorCards
import Derived.Test.YtglfakglcoffkaaDoorTie
import Derived.SevenTiedAt
namespace Go.Proofs.YtglfakglcoffkaaDoor
open Go.ChangeShapes Go.WideShapes Go.ChangeAt Go.RowKit
open Go.WideMaps Go.WideElems
open Go

set_option maxRecDepth 100000 in
theorem treeForms_lifted (os : Os) (started : os.Started) (H : Type) (enc : TypeId × Value → H) :
    ReturnsInHanded {} Tryd.checked os 6 .any (fun w args => (Rows.treeFormsSpec.pre enc Tryd.prog Tryd.f6 [] false w args ∧ laidMetH Tryd.prog laidT w) ∧ sizedMet enc Tryd.prog Tryd.f6 (OpenSpec.ofChange Rows.treeFormsSpec) false w args)
      (Rows.treeFormsSpec.post enc Tryd.prog Tryd.f6 false true false false) := by
  refine returnsInHanded_of_change_and (C := Tryd.checked) (X := fun w _ => laidMetH Tryd.prog laidT w) (fun _ _ _ hh h => h.of_heap hh) Tryd.own started (by kernel_rfl) Tryd.func6
    (ChangeSpec.witness_shaped (enc := enc) (C := Tryd.checked) (os := os) (X := fun w _ => laidMetH Tryd.prog laidT w) false (World.doorLaid Tryd.prog 19 os) #[.slice none 0 0] 8 rfl (World.shaped_of_RefB (by kernel_rfl) (by kernel_rfl)) (by kernel_rfl) (by kernel_rfl) (by kernel_rfl) (door_met os _)) ?_
  intro W base args ds gs before hval0 hW _ hsz hL _
  have hval : ∀ (j : Nat) t v, Tryd.f6.params[j]? = some t → args[j]? = some v → Value.okWide Tryd.prog W .any base t v := hval0
  have hW' := hW
  obtain ⟨p, q, hA0, hV, rfl, hfz, hnd⟩ := hW
  have hA : DataW.TrodAll enc Tryd.prog W 0 (fun _ => true) true Tryd.f6.params.toList args.toList ds p := hA0
  have hT := tabs_of_laid hL
  rw [Tryd.params6] at hA hval
  obtain ⟨v0, vs0, d0, ds0, p0, q0, hargs, rfl, rfl, h0, r0⟩ := trodAll_cons hA
  obtain ⟨rfl, rfl, rfl⟩ := trodAll_nil r0
  obtain rfl : args = #[v0] := by cases args; simp_all
  obtain ⟨a0, len0, cap0, rfl⟩ := okWide_slice Tryd.underlying40 (hval 0 40 v0 rfl rfl)
  obtain ⟨fuel, hf⟩ := h0
  obtain ⟨A, L, c, hvs, hL', hLl, hg1, hg2⟩ := open_tree4 fuel _ _ hf
  simp only [Value.cells, List.cons.injEq, and_true] at hvs
  injection hvs with e1 e2 e3
  subst e1 e2 e3
  have hall : ∀ k, Wgh 40 d0 k → k ≤ 140737488355328 := fun k h => by
    rcases h with h | ⟨q, hq, hn⟩
    · omega
    · have h2 := List.all_eq_true.1 hsz q (DataW.weights_mem_each (j := 0) (t := 40) (d := d0) rfl rfl q hq)
      have h3 : q ≤ reachBytes := by simpa using h2
      have h4 : reachBytes ≤ 140737488355328 := by decide
      omega
  refine (tforms_law L _ _ W hL' hLl hT (hall _ hg1) (fun f hf => hall _ (hg2 f hf))).mono fun e W' ⟨he, hg⟩ => ?_
  subst he
  exact ⟨_, rfl, law_post Tryd.laidOut (by decide +kernel) (by kernel_rfl) Tryd.underlying4 rfl hW' rfl (hg.belowNone (Nat.le_refl _))⟩

theorem treeForms_row : Rows.TreeFormsSaid :=
  OpenClaim.holds_of_wide 6 Tryd.f6 rfl rfl rfl rfl rfl rfl rfl ⟨rfl, rfl, rfl, rfl, rfl⟩ rfl rfl rfl rfl rfl (by kernel_rfl) Tryd.func6 (by kernel_rfl)
    (of_decide_eq_true (by kernel_rfl)) (by unfold Func.isWrapper; first | (rw [if_pos (by decide +kernel)]; kernel_rfl) | (rw [if_neg (by decide +kernel)]; exact ⟨rfl, rfl⟩))
    (fun os started H enc _ => treeForms_lifted os started H enc)

theorem treeForms_holds : Rows.TreeFormsCardSaid :=
  Claim7.holds_tied_plain_at .later [] [.data, .data] true (true, "cdb48bfb347405d501605887c9b8747d6c18396e00bf771c47e5c4de3f2e0b9d") false
    treeForms_row (fun _ h => by cases h) (by kernel_rfl) (fun _ h => by cases h) treeForms_row_tie rfl ⟨rfl, rfl⟩ (by kernel_rfl) rfl
    (fun f fn hf hfn => by
      obtain rfl : f = 6 := Option.some.inj ((show Tryd.prog.funcNamed "murmuration/murmurationlaw05.TreeForms" = some 6 by kernel_rfl).symm.trans hf) |>.symm
      obtain rfl : fn = Tryd.f6 := (Option.some.inj (Tryd.func6.symm.trans hfn)).symm
      exact ⟨by kernel_rfl, fun j t ht => by
        rw [Tryd.params6] at ht
        have hm : t ∈ [40] := by simpa using Array.mem_of_getElem? ht
        have hall : ([40].all fun u => !Tryd.prog.wantsStandIn u) = true := by kernel_rfl
        exact (show Tryd.prog.wantsStandIn t = false by simpa using List.all_eq_true.1 hall t hm)⟩)
    (by kernel_rfl)

end Go.Proofs.YtglfakglcoffkaaDoor
