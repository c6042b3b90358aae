/-
  PlanGrows: a file more among the sources is a file more among the inputs, and changes no other one: for every input of a machine's sizes, where the table of package program's kinds holds what its text lays (the card ties it).
-/
import Derived.Test.YtbadkkilblgpmaaDoorNK
import Derived.Test.YtbadkkilblgpmaaDoorNKX
import Derived.Test.YtbadkkilblgpmaaDoorNKY
import Derived.Test.YtbadkkilblgpmaaDoorVN
import Derived.Test.YtbadkkilblgpmaaDoorCards
import Derived.Test.YtbadkkilblgpmaaDoorTie
import Derived.SevenTiedAt
namespace Go.Proofs.YtbadkkilblgpmaaDoor
open Go.ChangeShapes Go.WideShapes Go.ChangeAt Go.RowKit
open Go.WideMaps Go.WideElems
open Go

set_option maxRecDepth 100000 in
theorem planGrows_joined : joinedFacts Tryd.pinned.checked.prog 20 Tryd.f20 Rows.planGrowsSpec Rows.planGrowsRow = true := by
  unfold joinedFacts
  simp only [Bool.and_eq_true]
  exact ⟨⟨⟨⟨⟨⟨⟨⟨⟨⟨⟨⟨⟨⟨⟨⟨⟨⟨⟨⟨⟨⟨⟨⟨⟨⟨⟨⟨⟨⟨⟨planGrows_j0, planGrows_j1⟩, planGrows_j2⟩, planGrows_j3⟩, planGrows_j4⟩, planGrows_j5⟩, planGrows_j6⟩, planGrows_j7⟩, planGrows_j8⟩, planGrows_j9⟩, planGrows_j10⟩, planGrows_j11⟩, planGrows_j12⟩, planGrows_j13⟩, planGrows_j14⟩, planGrows_j15⟩, planGrows_j16⟩, planGrows_j17⟩, planGrows_j18⟩, planGrows_j19⟩, planGrows_j20⟩, planGrows_j21⟩, planGrows_j22⟩, planGrows_j23⟩, planGrows_j24⟩, planGrows_j25⟩, planGrows_j26⟩, planGrows_j27⟩, planGrows_j28⟩, planGrows_j29⟩, planGrows_j30⟩, planGrows_j31⟩

set_option maxHeartbeats 4000000 in
set_option maxRecDepth 100000 in
theorem planGrows_lifted (os : Os) (started : os.Started) (H : Type) (enc : TypeId × Value → H) :
    ReturnsInHanded {} Tryd.checked os 20 .any (fun w args => (Rows.planGrowsSpec.pre enc Tryd.prog Tryd.f20 [] false w args ∧ laidMetH Tryd.prog laidF w) ∧ sizedMet enc Tryd.prog Tryd.f20 (OpenSpec.ofChange Rows.planGrowsSpec) false w args)
      (Rows.planGrowsSpec.post enc Tryd.prog Tryd.f20 false true false false) := by
  refine returnsInHanded_of_change_and (C := Tryd.checked) (X := fun w _ => laidMetH Tryd.prog laidF w) (fun _ _ _ hh h => h.of_heap hh) Tryd.own started (by kernel_rfl) Tryd.func20
    (ChangeSpec.witness_shaped (enc := enc) (C := Tryd.checked) (os := os) (X := fun w _ => laidMetH Tryd.prog laidF w) false (World.doorLaid Tryd.prog 19 os) #[.agg #[.string ⟨#[]⟩, .slice none 0 0, .int .i64 0, .slice none 0 0], .slice none 0 0, .slice none 0 0, .string ⟨#[]⟩, .slice none 0 0] 8 rfl (World.shaped_of_RefB (by kernel_rfl) (by kernel_rfl)) (by kernel_rfl) (by kernel_rfl) (by kernel_rfl) (door_metF os _)) ?_
  intro W base args ds gs before hval0 hW _ hsz hL _
  have hval : ∀ (j : Nat) t v, Tryd.f20.params[j]? = some t → args[j]? = some v → Value.okWide Tryd.prog W .any base t v := hval0
  have hW' := hW
  obtain ⟨p, q, hA0, hV, rfl, hfz, hnd⟩ := hW
  have hA : DataW.TrodAll enc Tryd.prog W 0 (fun _ => true) true Tryd.f20.params.toList args.toList ds p := hA0
  have hT := flds_of_laid hL
  rw [Tryd.params20] at hA hval
  obtain ⟨v0, vs0, d0, ds0, p0, q0, hargs, rfl, rfl, h0, r0⟩ := trodAll_cons hA
  obtain ⟨v1, vs1, d1, ds1, p1, q1, rfl, rfl, rfl, h1, r1⟩ := trodAll_cons r0
  obtain ⟨v2, vs2, d2, ds2, p2, q2, rfl, rfl, rfl, h2, r2⟩ := trodAll_cons r1
  obtain ⟨v3, vs3, d3, ds3, p3, q3, rfl, rfl, rfl, h3, r3⟩ := trodAll_cons r2
  obtain ⟨v4, vs4, d4, ds4, p4, q4, rfl, rfl, rfl, h4, r4⟩ := trodAll_cons r3
  obtain ⟨rfl, rfl, rfl⟩ := trodAll_nil r4
  obtain rfl : args = #[v0, v1, v2, v3, v4] := by cases args; simp_all
  obtain ⟨t, htg, rfl⟩ := open_tgt_val (hval 0 77 v0 rfl rfl) h0
  obtain ⟨a1, len1, cap1, rfl⟩ := okWide_slice Tryd.underlying40 (hval 1 40 v1 rfl rfl)
  obtain ⟨fuel1, hf1⟩ := h1
  obtain ⟨A, L, c, hvs1, hTL, hLl, hgL, hgF⟩ := open_tree4 fuel1 _ _ hf1
  simp only [Value.cells, List.cons.injEq, and_true] at hvs1
  injection hvs1 with e1 e2 e3
  subst e1 e2 e3
  obtain ⟨a2, len2, cap2, rfl⟩ := okWide_slice Tryd.underlying82 (hval 2 82 v2 rfl rfl)
  obtain ⟨fuel2, hf2⟩ := h2
  obtain ⟨OA, O, oc, hvs2, hOr, hgO, hOt⟩ := open_outs fuel2 _ _ hf2
  simp only [Value.cells, List.cons.injEq, and_true] at hvs2
  injection hvs2 with e1 e2 e3
  subst e1 e2 e3
  have hall1 : ∀ k, Wgh 40 d1 k → k ≤ 140737488355328 := fun k h => by
    rcases h with h | ⟨q, hq, hn⟩
    · omega
    · have h2 := List.all_eq_true.1 hsz q (DataW.weights_mem_each (j := 1) (t := 40) (d := d1) rfl rfl q hq)
      have h3 : q ≤ reachBytes := by simpa using h2
      have h4 : reachBytes ≤ 140737488355328 := by decide
      omega
  have hall2 : ∀ k, Wgh 82 d2 k → k ≤ 140737488355328 := fun k h => by
    rcases h with h | ⟨q, hq, hn⟩
    · omega
    · have h2 := List.all_eq_true.1 hsz q (DataW.weights_mem_each (j := 2) (t := 82) (d := d2) rfl rfl q hq)
      have h3 : q ≤ reachBytes := by simpa using h2
      have h4 : reachBytes ≤ 140737488355328 := by decide
      omega
  have hO : OutsAt W _ O := ⟨hOr, fun o ho => ⟨(hOt o ho).1, by have := hall2 _ (hOt o ho).2.1; omega⟩⟩
  have hol : O.length ≤ 4611686018427387904 := by have := hall2 _ hgO; omega
  obtain ⟨path, rfl, hpl⟩ := open_str (hval 3 9 v3 rfl rfl) h3
  obtain ⟨a4, len4, cap4, rfl⟩ := okWide_slice Tryd.underlying22 (hval 4 22 v4 rfl rfl)
  obtain ⟨fuel4, hf4⟩ := h4
  obtain ⟨p4, ⟨⟨hpt, hpc⟩, hpm, hpn⟩, -, hvs4⟩ := open_prt4 fuel4 _ _ hf4
  unfold Prt.val at hvs4
  simp only [Value.cells, List.cons.injEq, and_true] at hvs4
  injection hvs4 with e1 e2 e3
  subst e1 e2 e3
  refine (plangrows_any t L _ _ O _ _ path _ p4.x _ W htg hTL hO hT hLl hol hpl hpt hpn).mono fun e W' ⟨he, hg⟩ => ?_
  subst he
  exact ⟨_, rfl, law_post Tryd.laidOut (by decide +kernel) (by kernel_rfl) Tryd.underlying4 rfl hW' rfl (hg.belowNone (Nat.le_refl _))⟩

theorem planGrows_row : Rows.PlanGrowsSaid :=
  OpenClaim.holds_of_wide 20 Tryd.f20 rfl rfl rfl rfl rfl rfl rfl ⟨rfl, rfl, rfl, rfl, rfl⟩ rfl rfl rfl rfl rfl (by kernel_rfl) Tryd.func20 planGrows_joined
    (of_decide_eq_true (by kernel_rfl)) (by unfold Func.isWrapper; first | (rw [if_pos (by decide +kernel)]; kernel_rfl) | (rw [if_neg (by decide +kernel)]; exact ⟨rfl, rfl⟩))
    (fun os started H enc _ => planGrows_lifted os started H enc)

theorem planGrows_holds : Rows.PlanGrowsCardSaid :=
  Claim7.holds_tied_plain_at .later [] [.data] true (true, "5c8649663a603df984334e8b882f2ca833624ba6e21d51dc1c512a01fa069efd") false
    planGrows_row (fun _ h => by cases h) (by kernel_rfl) (fun _ h => by cases h) planGrows_row_tie rfl ⟨rfl, rfl⟩ io_main rfl
    (fun f fn hf hfn => by
      obtain rfl : f = 20 := Option.some.inj ((show Tryd.prog.funcNamed "murmuration/murmurationlaw16.PlanGrows" = some 20 by kernel_rfl).symm.trans hf) |>.symm
      obtain rfl : fn = Tryd.f20 := (Option.some.inj (Tryd.func20.symm.trans hfn)).symm
      exact ⟨by kernel_rfl, fun j t ht => by
        rw [Tryd.params20] at ht
        have hm : t ∈ [77, 40, 82, 9, 22] := by simpa using Array.mem_of_getElem? ht
        have hall : ([77, 40, 82, 9, 22].all fun u => !Tryd.prog.wantsStandIn u) = true := by kernel_rfl
        exact (show Tryd.prog.wantsStandIn t = false by simpa using List.all_eq_true.1 hall t hm)⟩)
    (by kernel_rfl)

end Go.Proofs.YtbadkkilblgpmaaDoor
