/-
  PlanOrder: in which order a target names its deps changes no inputs, if their trees go with them: for every input of a machine's sizes, where the table of package program's kinds holds what its text lays (the card ties it).
-/
import Derived.Test.YtbadkkilblgpmaaDoorNO
import Derived.Test.YtbadkkilblgpmaaDoorNOX
import Derived.Test.YtbadkkilblgpmaaDoorNOY
import Derived.Test.YtbadkkilblgpmaaDoorVN
import Derived.Test.YtbadkkilblgpmaaDoorCards
import Derived.Test.YtbadkkilblgpmaaDoorTie
import Derived.SevenTiedAt
namespace Go.Proofs.YtbadkkilblgpmaaDoor
open Go.ChangeShapes Go.WideShapes Go.ChangeAt Go.RowKit
open Go.WideMaps Go.WideElems
open Go

set_option maxRecDepth 100000 in
theorem planOrder_joined : joinedFacts Tryd.pinned.checked.prog 19 Tryd.f19 Rows.planOrderSpec Rows.planOrderRow = true := by
  unfold joinedFacts
  simp only [Bool.and_eq_true]
  exact ⟨⟨⟨⟨⟨⟨⟨⟨⟨⟨⟨⟨⟨⟨⟨⟨⟨⟨⟨⟨⟨⟨⟨⟨⟨⟨⟨⟨⟨⟨⟨planOrder_j0, planOrder_j1⟩, planOrder_j2⟩, planOrder_j3⟩, planOrder_j4⟩, planOrder_j5⟩, planOrder_j6⟩, planOrder_j7⟩, planOrder_j8⟩, planOrder_j9⟩, planOrder_j10⟩, planOrder_j11⟩, planOrder_j12⟩, planOrder_j13⟩, planOrder_j14⟩, planOrder_j15⟩, planOrder_j16⟩, planOrder_j17⟩, planOrder_j18⟩, planOrder_j19⟩, planOrder_j20⟩, planOrder_j21⟩, planOrder_j22⟩, planOrder_j23⟩, planOrder_j24⟩, planOrder_j25⟩, planOrder_j26⟩, planOrder_j27⟩, planOrder_j28⟩, planOrder_j29⟩, planOrder_j30⟩, planOrder_j31⟩

set_option maxHeartbeats 4000000 in
set_option maxRecDepth 100000 in
theorem planOrder_lifted (os : Os) (started : os.Started) (H : Type) (enc : TypeId × Value → H) :
    ReturnsInHanded {} Tryd.checked os 19 .any (fun w args => (Rows.planOrderSpec.pre enc Tryd.prog Tryd.f19 [] false w args ∧ laidMetH Tryd.prog laidF w) ∧ sizedMet enc Tryd.prog Tryd.f19 (OpenSpec.ofChange Rows.planOrderSpec) false w args)
      (Rows.planOrderSpec.post enc Tryd.prog Tryd.f19 false true false false) := by
  refine returnsInHanded_of_change_and (C := Tryd.checked) (X := fun w _ => laidMetH Tryd.prog laidF w) (fun _ _ _ hh h => h.of_heap hh) Tryd.own started (by kernel_rfl) Tryd.func19
    (ChangeSpec.witness_shaped (enc := enc) (C := Tryd.checked) (os := os) (X := fun w _ => laidMetH Tryd.prog laidF w) false (World.doorLaid Tryd.prog 19 os) #[.agg #[.string ⟨#[]⟩, .slice none 0 0, .int .i64 0, .slice none 0 0], .slice none 0 0, .slice none 0 0, .int .i64 0] 8 rfl (World.shaped_of_RefB (by kernel_rfl) (by kernel_rfl)) (by kernel_rfl) (by kernel_rfl) (by kernel_rfl) (door_metF os _)) ?_
  intro W base args ds gs before hval0 hW _ hsz hL _
  have hval : ∀ (j : Nat) t v, Tryd.f19.params[j]? = some t → args[j]? = some v → Value.okWide Tryd.prog W .any base t v := hval0
  have hW' := hW
  obtain ⟨p, q, hA0, hV, rfl, hfz, hnd⟩ := hW
  have hA : DataW.TrodAll enc Tryd.prog W 0 (fun _ => true) true Tryd.f19.params.toList args.toList ds p := hA0
  have hT := flds_of_laid hL
  rw [Tryd.params19] at hA hval
  obtain ⟨v0, vs0, d0, ds0, p0, q0, hargs, rfl, rfl, h0, r0⟩ := trodAll_cons hA
  obtain ⟨v1, vs1, d1, ds1, p1, q1, rfl, rfl, rfl, h1, r1⟩ := trodAll_cons r0
  obtain ⟨v2, vs2, d2, ds2, p2, q2, rfl, rfl, rfl, h2, r2⟩ := trodAll_cons r1
  obtain ⟨v3, vs3, d3, ds3, p3, q3, rfl, rfl, rfl, h3, r3⟩ := trodAll_cons r2
  obtain ⟨rfl, rfl, rfl⟩ := trodAll_nil r3
  obtain rfl : args = #[v0, v1, v2, v3] := by cases args; simp_all
  obtain ⟨t, htg, rfl⟩ := open_tgt_val (hval 0 77 v0 rfl rfl) h0
  obtain ⟨a1, len1, cap1, rfl⟩ := okWide_slice Tryd.underlying40 (hval 1 40 v1 rfl rfl)
  obtain ⟨fuel1, hf1⟩ := h1
  obtain ⟨A, L, c, hvs1, hTL, hLl, hgL, hgF⟩ := open_tree4 fuel1 _ _ hf1
  simp only [Value.cells, List.cons.injEq, and_true] at hvs1
  injection hvs1 with e1 e2 e3
  subst e1 e2 e3
  obtain ⟨a2, len2, cap2, rfl⟩ := okWide_slice Tryd.underlying82 (hval 2 82 v2 rfl rfl)
  obtain ⟨fuel2, hf2⟩ := h2
  obtain ⟨OA, O, oc, hvs2, hOr, hgO, hOt⟩ := open_outs fuel2 _ _ hf2
  simp only [Value.cells, List.cons.injEq, and_true] at hvs2
  injection hvs2 with e1 e2 e3
  subst e1 e2 e3
  have hall1 : ∀ k, Wgh 40 d1 k → k ≤ 140737488355328 := fun k h => by
    rcases h with h | ⟨q, hq, hn⟩
    · omega
    · have h2 := List.all_eq_true.1 hsz q (DataW.weights_mem_each (j := 1) (t := 40) (d := d1) rfl rfl q hq)
      have h3 : q ≤ reachBytes := by simpa using h2
      have h4 : reachBytes ≤ 140737488355328 := by decide
      omega
  have hall2 : ∀ k, Wgh 82 d2 k → k ≤ 140737488355328 := fun k h => by
    rcases h with h | ⟨q, hq, hn⟩
    · omega
    · have h2 := List.all_eq_true.1 hsz q (DataW.weights_mem_each (j := 2) (t := 82) (d := d2) rfl rfl q hq)
      have h3 : q ≤ reachBytes := by simpa using h2
      have h4 : reachBytes ≤ 140737488355328 := by decide
      omega
  have hO : OutsAt W _ O := ⟨hOr, fun o ho => ⟨(hOt o ho).1, by have := hall2 _ (hOt o ho).2.1; omega⟩⟩
  have hol : O.length ≤ 4611686018427387904 := by have := hall2 _ hgO; omega
  obtain ⟨turn, rfl, ht1, ht2⟩ := open_int3 (hval 3 3 v3 rfl rfl) h3
  refine (planorder_any t L _ _ O _ _ turn W htg hTL hO hT hLl hol).mono fun e W' ⟨he, hg⟩ => ?_
  subst he
  exact ⟨_, rfl, law_post Tryd.laidOut (by decide +kernel) (by kernel_rfl) Tryd.underlying4 rfl hW' rfl (hg.belowNone (Nat.le_refl _))⟩

theorem planOrder_row : Rows.PlanOrderSaid :=
  OpenClaim.holds_of_wide 19 Tryd.f19 rfl rfl rfl rfl rfl rfl rfl ⟨rfl, rfl, rfl, rfl, rfl⟩ rfl rfl rfl rfl rfl (by kernel_rfl) Tryd.func19 planOrder_joined
    (of_decide_eq_true (by kernel_rfl)) (by unfold Func.isWrapper; first | (rw [if_pos (by decide +kernel)]; kernel_rfl) | (rw [if_neg (by decide +kernel)]; exact ⟨rfl, rfl⟩))
    (fun os started H enc _ => planOrder_lifted os started H enc)

theorem planOrder_holds : Rows.PlanOrderCardSaid :=
  Claim7.holds_tied_plain_at .later [] [.data] true (true, "5c8649663a603df984334e8b882f2ca833624ba6e21d51dc1c512a01fa069efd") false
    planOrder_row (fun _ h => by cases h) (by kernel_rfl) (fun _ h => by cases h) planOrder_row_tie rfl ⟨rfl, rfl⟩ io_main rfl
    (fun f fn hf hfn => by
      obtain rfl : f = 19 := Option.some.inj ((show Tryd.prog.funcNamed "murmuration/murmurationlaw16.PlanOrder" = some 19 by kernel_rfl).symm.trans hf) |>.symm
      obtain rfl : fn = Tryd.f19 := (Option.some.inj (Tryd.func19.symm.trans hfn)).symm
      exact ⟨by kernel_rfl, fun j t ht => by
        rw [Tryd.params19] at ht
        have hm : t ∈ [77, 40, 82, 3] := by simpa using Array.mem_of_getElem? ht
        have hall : ([77, 40, 82, 3].all fun u => !Tryd.prog.wantsStandIn u) = true := by kernel_rfl
        exact (show Tryd.prog.wantsStandIn t = false by simpa using List.all_eq_true.1 hall t hm)⟩)
    (by kernel_rfl)

end Go.Proofs.YtbadkkilblgpmaaDoor
