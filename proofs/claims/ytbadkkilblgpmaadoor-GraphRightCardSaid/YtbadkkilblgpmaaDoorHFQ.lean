/-
  GraphRight: in an order each target stands behind its deps, and once, the last one is the one that is wanted, and each other one is a dep of one behind it: for every input of a machine's sizes, where the table of package program's field names is laid.
-/
import Derived.Test.YtbadkkilblgpmaaDoorHF
import Derived.Test.YtbadkkilblgpmaaDoorHFX
import Derived.Test.YtbadkkilblgpmaaDoorHFY
import Derived.Test.YtbadkkilblgpmaaDoorVG
import Derived.Test.YtbadkkilblgpmaaDoorCards
import Derived.Test.YtbadkkilblgpmaaDoorTie
import Derived.SevenTiedAt
namespace Go.Proofs.YtbadkkilblgpmaaDoor
open Go.ChangeShapes Go.WideShapes Go.ChangeAt Go.RowKit
open Go.WideMaps Go.WideElems
open Go

set_option maxRecDepth 100000 in
theorem graphRight_joined : joinedFacts Tryd.pinned.checked.prog 13 Tryd.f13 Rows.graphRightSpec Rows.graphRightRow = true := by
  unfold joinedFacts
  simp only [Bool.and_eq_true]
  exact ⟨⟨⟨⟨⟨⟨⟨⟨⟨⟨⟨⟨⟨⟨⟨⟨⟨⟨⟨⟨⟨⟨⟨⟨⟨⟨⟨⟨⟨⟨⟨graphRight_j0, graphRight_j1⟩, graphRight_j2⟩, graphRight_j3⟩, graphRight_j4⟩, graphRight_j5⟩, graphRight_j6⟩, graphRight_j7⟩, graphRight_j8⟩, graphRight_j9⟩, graphRight_j10⟩, graphRight_j11⟩, graphRight_j12⟩, graphRight_j13⟩, graphRight_j14⟩, graphRight_j15⟩, graphRight_j16⟩, graphRight_j17⟩, graphRight_j18⟩, graphRight_j19⟩, graphRight_j20⟩, graphRight_j21⟩, graphRight_j22⟩, graphRight_j23⟩, graphRight_j24⟩, graphRight_j25⟩, graphRight_j26⟩, graphRight_j27⟩, graphRight_j28⟩, graphRight_j29⟩, graphRight_j30⟩, graphRight_j31⟩

set_option maxHeartbeats 4000000 in
set_option maxRecDepth 100000 in
theorem graphRight_lifted (os : Os) (started : os.Started) (H : Type) (enc : TypeId × Value → H) :
    ReturnsInHanded {} Tryd.checked os 13 .any (fun w args => (Rows.graphRightSpec.pre enc Tryd.prog Tryd.f13 [] false w args ∧ laidMetH Tryd.prog laidF w) ∧ sizedMet enc Tryd.prog Tryd.f13 (OpenSpec.ofChange Rows.graphRightSpec) false w args)
      (Rows.graphRightSpec.post enc Tryd.prog Tryd.f13 false true false false) := by
  refine returnsInHanded_of_change_and (C := Tryd.checked) (X := fun w _ => laidMetH Tryd.prog laidF w) (fun _ _ _ hh h => h.of_heap hh) Tryd.own started (by kernel_rfl) Tryd.func13
    (ChangeSpec.witness_shaped (enc := enc) (C := Tryd.checked) (os := os) (X := fun w _ => laidMetH Tryd.prog laidF w) false (World.doorLaid Tryd.prog 19 os) #[.slice none 0 0, .string ⟨#[]⟩] 8 rfl (World.shaped_of_RefB (by kernel_rfl) (by kernel_rfl)) (by kernel_rfl) (by kernel_rfl) (by kernel_rfl) (door_metF os _)) ?_
  intro W base args ds gs before hval0 hW _ hsz hL _
  have hval : ∀ (j : Nat) t v, Tryd.f13.params[j]? = some t → args[j]? = some v → Value.okWide Tryd.prog W .any base t v := hval0
  have hW' := hW
  obtain ⟨p, q, hA0, hV, rfl, hfz, hnd⟩ := hW
  have hA : DataW.TrodAll enc Tryd.prog W 0 (fun _ => true) true Tryd.f13.params.toList args.toList ds p := hA0
  have hT := flds_of_laid hL
  rw [Tryd.params13] at hA hval
  obtain ⟨v0, vs0, d0, ds0, p0, q0, hargs, rfl, rfl, h0, r0⟩ := trodAll_cons hA
  obtain ⟨v1, vs1, d1, ds1, p1, q1, rfl, rfl, rfl, h1, r1⟩ := trodAll_cons r0
  obtain ⟨rfl, rfl, rfl⟩ := trodAll_nil r1
  obtain rfl : args = #[v0, v1] := by cases args; simp_all
  obtain ⟨A, L, c, rfl, hLc, hcm, hok, hrow⟩ := open_rows tgtCells (fun t => TgtAt _ t) Tryd.underlying63 (k := 4) (by kernel_rfl) (by omega) (fun n cs x h => open_tgt n cs x h) (hval 0 63 v0 rfl rfl) h0
  obtain ⟨want, rfl, hwantl⟩ := open_str (hval 1 9 v1 rfl rfl) h1
  refine (gright_any L _ c want W ⟨hrow, hok⟩ hT (by unfold maxLen at hcm; omega) hLc hwantl).mono fun e W' ⟨he, hg⟩ => ?_
  subst he
  exact ⟨_, rfl, law_post Tryd.laidOut (by decide +kernel) (by kernel_rfl) Tryd.underlying4 rfl hW' rfl (hg.belowNone (Nat.le_refl _))⟩

theorem graphRight_row : Rows.GraphRightSaid :=
  OpenClaim.holds_of_wide 13 Tryd.f13 rfl rfl rfl rfl rfl rfl rfl ⟨rfl, rfl, rfl, rfl, rfl⟩ rfl rfl rfl rfl rfl (by kernel_rfl) Tryd.func13 graphRight_joined
    (of_decide_eq_true (by kernel_rfl)) (by unfold Func.isWrapper; first | (rw [if_pos (by decide +kernel)]; kernel_rfl) | (rw [if_neg (by decide +kernel)]; exact ⟨rfl, rfl⟩))
    (fun os started H enc _ => graphRight_lifted os started H enc)

theorem graphRight_holds : Rows.GraphRightCardSaid :=
  Claim7.holds_tied_plain_at .later [] [.data] true (true, "5c8649663a603df984334e8b882f2ca833624ba6e21d51dc1c512a01fa069efd") false
    graphRight_row (fun _ h => by cases h) (by kernel_rfl) (fun _ h => by cases h) graphRight_row_tie rfl ⟨rfl, rfl⟩ io_main rfl
    (fun f fn hf hfn => by
      obtain rfl : f = 13 := Option.some.inj ((show Tryd.prog.funcNamed "murmuration/murmurationlaw15.GraphRight" = some 13 by kernel_rfl).symm.trans hf) |>.symm
      obtain rfl : fn = Tryd.f13 := (Option.some.inj (Tryd.func13.symm.trans hfn)).symm
      exact ⟨by kernel_rfl, fun j t ht => by
        rw [Tryd.params13] at ht
        have hm : t ∈ [63, 9] := by simpa using Array.mem_of_getElem? ht
        have hall : ([63, 9].all fun u => !Tryd.prog.wantsStandIn u) = true := by kernel_rfl
        exact (show Tryd.prog.wantsStandIn t = false by simpa using List.all_eq_true.1 hall t hm)⟩)
    (by kernel_rfl)

end Go.Proofs.YtbadkkilblgpmaaDoor
