/-
  The law DiskLasts: it answers true at every input.
  No condition narrows it.
-/
import Derived.Test.YtbgofhbanhanfaaLasts
namespace Go.Proofs.Ytbgofhbanhanfaa
open Go.ChangeShapes Go.WideShapes Go.ChangeAt Go.RowKit
open Go.WideMaps Go.WideElems

set_option maxHeartbeats 1000000 in
theorem lasts_short (A : Option Addr) (n ca : Nat) (w : World) (hx : 60 < n) :
    Calls Try.prog 5 #[.slice A n ca] w fun e w' => e = .returned (.bool true) ∧ Chg none w w' := by
  have e1 : decide ((60 : Int) < (n : Int)) = true := by simp; omega
  clear hx
  go_enter Try.func5, Try.ntmps5
  go_wp2_with fail
  refine (new_rel _).mono ?_
  rintro e w1 ⟨rfl, r1⟩
  have hz := r1.chg
  go_wp2_with fail
  refine (known_any _).mono ?_
  rintro e w2 ⟨rfl, g2⟩
  go_wp2_with fail
  go_ret
  exact ⟨rfl, hz.trans g2⟩

theorem lasts_all (A : Option Addr) (L : List Opn) (ca : Nat) (w : World) (hA : RowsAt w 5 A Opn.cells L) (hL : ∀ o ∈ L, o.okIn w) :
    Calls Try.prog 5 #[.slice A L.length ca] w fun e w' => e = .returned (.bool true) ∧ Chg none w w' := by
  by_cases h : L.length ≤ 60
  · exact lasts_main A L ca w h hA hL
  · exact lasts_short A L.length ca w (by omega)

set_option maxRecDepth 100000 in
theorem lasts_lifted (os : Os) (started : os.Started) (H : Type) (enc : TypeId × Value → H) :
    ReturnsInHanded {} Try.checked os 5 .any (Rows.diskLastsSpec.pre6 enc Try.prog Try.f5 Rows.diskLastsRow.domain false) (Rows.diskLastsSpec.post enc Try.prog Try.f5 false true false false) := by
  refine returnsInHanded_of_change (C := Try.checked) Try.own started (by kernel_rfl) Try.func5
    (ChangeSpec.witness6 (enc := enc) (C := Try.checked) false ⟨#[], #[.slice none 0 0], []⟩ 8 (by kernel_rfl) (by kernel_rfl) (by kernel_rfl) (by kernel_rfl)) ?_
  intro W base args ds gs before hval0 hW _ _
  have hval : ∀ (j : Nat) t v, Try.f5.params[j]? = some t → args[j]? = some v → Value.okWide Try.prog W .any base t v := hval0
  have hW' := hW
  obtain ⟨p, q, hA0, hV, rfl, hfz, hnd⟩ := hW
  have hA : DataW.TrodAll enc Try.prog W 0 (fun _ => true) true Try.f5.params.toList args.toList ds p := hA0
  rw [Try.params5] at hA hval
  obtain ⟨v0, vs0, d0, ds0, p0, q0, hargs, rfl, rfl, h0, r0⟩ := trodAll_cons hA
  obtain ⟨rfl, rfl, rfl⟩ := trodAll_nil r0
  obtain rfl : args = #[v0] := by cases args; simp_all
  obtain ⟨A, L, ca, rfl, _, _, hLw, hL⟩ := open_rows Opn.cells (fun o => o.okIn W) Try.underlying22 (k := 5) (by kernel_rfl) (by omega) open_opn (hval 0 22 v0 rfl rfl) h0
  refine (lasts_all A L ca W hL hLw).mono fun e W' ⟨he, hg⟩ => ?_
  subst he
  exact ⟨_, rfl, law_post Try.laidOut (by decide +kernel) (by kernel_rfl) Try.underlying4 rfl hW' rfl (hg.belowNone (Nat.le_refl _))⟩

theorem lasts_holds : Rows.DiskLastsSaid :=
  OpenClaim.holds_of_wide 5 Try.f5 rfl rfl rfl rfl rfl rfl rfl ⟨rfl, rfl, rfl, rfl, rfl⟩ rfl rfl rfl rfl rfl (by kernel_rfl) Try.func5 (by kernel_rfl)
    (of_decide_eq_true (by kernel_rfl)) (by unfold Func.isWrapper; rw [if_neg (of_decide_eq_false (by kernel_rfl))]; exact ⟨rfl, rfl⟩)
    (fun os started H enc _ => lasts_lifted os started H enc)

end Go.Proofs.Ytbgofhbanhanfaa
