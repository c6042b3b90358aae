/-
  GraphNames: the order hangs on names and deps alone (of a list turned round the same names come, one by one), and all that a dep of want needs stands ahead of want: for every input of a machine's sizes, where the table of package program's field names is laid.
-/
import Derived.Test.YtbadkkilblgpmaaDoorHG
import Derived.Test.YtbadkkilblgpmaaDoorVT
import Derived.Test.YtbadkkilblgpmaaDoorHGX
import Derived.Test.YtbadkkilblgpmaaDoorHGY
import Derived.Test.YtbadkkilblgpmaaDoorVG
import Derived.Test.YtbadkkilblgpmaaDoorCards
import Derived.Test.YtbadkkilblgpmaaDoorTie
import Derived.SevenTiedAt
namespace Go.Proofs.YtbadkkilblgpmaaDoor
open Go.ChangeShapes Go.WideShapes Go.ChangeAt Go.RowKit
open Go.WideMaps Go.WideElems
open Go

set_option maxRecDepth 100000 in
theorem graphNames_joined : joinedFacts Tryd.pinned.checked.prog 15 Tryd.f15 Rows.graphNamesSpec Rows.graphNamesRow = true := by
  unfold joinedFacts
  simp only [Bool.and_eq_true]
  exact ⟨⟨⟨⟨⟨⟨⟨⟨⟨⟨⟨⟨⟨⟨⟨⟨⟨⟨⟨⟨⟨⟨⟨⟨⟨⟨⟨⟨⟨⟨⟨graphNames_j0, graphNames_j1⟩, graphNames_j2⟩, graphNames_j3⟩, graphNames_j4⟩, graphNames_j5⟩, graphNames_j6⟩, graphNames_j7⟩, graphNames_j8⟩, graphNames_j9⟩, graphNames_j10⟩, graphNames_j11⟩, graphNames_j12⟩, graphNames_j13⟩, graphNames_j14⟩, graphNames_j15⟩, graphNames_j16⟩, graphNames_j17⟩, graphNames_j18⟩, graphNames_j19⟩, graphNames_j20⟩, graphNames_j21⟩, graphNames_j22⟩, graphNames_j23⟩, graphNames_j24⟩, graphNames_j25⟩, graphNames_j26⟩, graphNames_j27⟩, graphNames_j28⟩, graphNames_j29⟩, graphNames_j30⟩, graphNames_j31⟩

set_option maxHeartbeats 4000000 in
set_option maxRecDepth 100000 in
theorem graphNames_lifted (os : Os) (started : os.Started) (H : Type) (enc : TypeId × Value → H) :
    ReturnsInHanded {} Tryd.checked os 15 .any (fun w args => (Rows.graphNamesSpec.pre enc Tryd.prog Tryd.f15 [] false w args ∧ laidMetH Tryd.prog laidF w) ∧ sizedMet enc Tryd.prog Tryd.f15 (OpenSpec.ofChange Rows.graphNamesSpec) false w args)
      (Rows.graphNamesSpec.post enc Tryd.prog Tryd.f15 false true false false) := by
  refine returnsInHanded_of_change_and (C := Tryd.checked) (X := fun w _ => laidMetH Tryd.prog laidF w) (fun _ _ _ hh h => h.of_heap hh) Tryd.own started (by kernel_rfl) Tryd.func15
    (ChangeSpec.witness_shaped (enc := enc) (C := Tryd.checked) (os := os) (X := fun w _ => laidMetH Tryd.prog laidF w) false (World.doorLaid Tryd.prog 19 os) #[.slice none 0 0, .string ⟨#[]⟩] 8 rfl (World.shaped_of_RefB (by kernel_rfl) (by kernel_rfl)) (by kernel_rfl) (by kernel_rfl) (by kernel_rfl) (door_metF os _)) ?_
  intro W base args ds gs before hval0 hW _ hsz hL _
  have hval : ∀ (j : Nat) t v, Tryd.f15.params[j]? = some t → args[j]? = some v → Value.okWide Tryd.prog W .any base t v := hval0
  have hW' := hW
  obtain ⟨p, q, hA0, hV, rfl, hfz, hnd⟩ := hW
  have hA : DataW.TrodAll enc Tryd.prog W 0 (fun _ => true) true Tryd.f15.params.toList args.toList ds p := hA0
  have hT := flds_of_laid hL
  rw [Tryd.params15] at hA hval
  obtain ⟨v0, vs0, d0, ds0, p0, q0, hargs, rfl, rfl, h0, r0⟩ := trodAll_cons hA
  obtain ⟨v1, vs1, d1, ds1, p1, q1, rfl, rfl, rfl, h1, r1⟩ := trodAll_cons r0
  obtain ⟨rfl, rfl, rfl⟩ := trodAll_nil r1
  obtain rfl : args = #[v0, v1] := by cases args; simp_all
  obtain ⟨a0, len0, cap0, rfl⟩ := okWide_slice Tryd.underlying63 (hval 0 63 v0 rfl rfl)
  obtain ⟨fuel0, hf0⟩ := h0
  obtain ⟨A, L, c, hvs0, hTg, hLc, hLm, hgL⟩ := open_tgts4 fuel0 _ _ hf0
  simp only [Value.cells, List.cons.injEq, and_true] at hvs0
  injection hvs0 with e1 e2 e3
  subst e1 e2 e3
  have hall0 : ∀ k, Wgh 63 d0 k → k ≤ 140737488351232 := fun k h => by
    rcases h with h | ⟨q, hq, hn⟩
    · omega
    · have h2 := List.all_eq_true.1 hsz q (DataW.weights_mem_each (j := 0) (t := 63) (d := d0) rfl rfl q hq)
      have h3 : q ≤ reachBytes := by simpa using h2
      have h4 : reachBytes ≤ 140737488351232 := by decide
      omega
  obtain ⟨want, rfl, hwantl⟩ := open_str (hval 1 9 v1 rfl rfl) h1
  refine (gnames_any L _ _ want W hTg hT (by omega) hLc (by have := hall0 _ hgL; omega) hwantl).mono fun e W' ⟨he, hg⟩ => ?_
  subst he
  exact ⟨_, rfl, law_post Tryd.laidOut (by decide +kernel) (by kernel_rfl) Tryd.underlying4 rfl hW' rfl (hg.belowNone (Nat.le_refl _))⟩

theorem graphNames_row : Rows.GraphNamesSaid :=
  OpenClaim.holds_of_wide 15 Tryd.f15 rfl rfl rfl rfl rfl rfl rfl ⟨rfl, rfl, rfl, rfl, rfl⟩ rfl rfl rfl rfl rfl (by kernel_rfl) Tryd.func15 graphNames_joined
    (of_decide_eq_true (by kernel_rfl)) (by unfold Func.isWrapper; first | (rw [if_pos (by decide +kernel)]; kernel_rfl) | (rw [if_neg (by decide +kernel)]; exact ⟨rfl, rfl⟩))
    (fun os started H enc _ => graphNames_lifted os started H enc)

theorem graphNames_holds : Rows.GraphNamesCardSaid :=
  Claim7.holds_tied_plain_at .later [] [.data] true (true, "5c8649663a603df984334e8b882f2ca833624ba6e21d51dc1c512a01fa069efd") false
    graphNames_row (fun _ h => by cases h) (by kernel_rfl) (fun _ h => by cases h) graphNames_row_tie rfl ⟨rfl, rfl⟩ io_main rfl
    (fun f fn hf hfn => by
      obtain rfl : f = 15 := Option.some.inj ((show Tryd.prog.funcNamed "murmuration/murmurationlaw15.GraphNames" = some 15 by kernel_rfl).symm.trans hf) |>.symm
      obtain rfl : fn = Tryd.f15 := (Option.some.inj (Tryd.func15.symm.trans hfn)).symm
      exact ⟨by kernel_rfl, fun j t ht => by
        rw [Tryd.params15] at ht
        have hm : t ∈ [63, 9] := by simpa using Array.mem_of_getElem? ht
        have hall : ([63, 9].all fun u => !Tryd.prog.wantsStandIn u) = true := by kernel_rfl
        exact (show Tryd.prog.wantsStandIn t = false by simpa using List.all_eq_true.1 hall t hm)⟩)
    (by kernel_rfl)

end Go.Proofs.YtbadkkilblgpmaaDoor
