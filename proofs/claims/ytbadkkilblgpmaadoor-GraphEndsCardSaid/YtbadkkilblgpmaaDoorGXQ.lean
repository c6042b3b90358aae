/-
  GraphEnds: of no changes nothing is dirty, of all names everything is, and what two names make dirty is what each of them makes dirty: for every input of a machine's sizes, where the table of package program's field names is laid.
-/
import Derived.Test.YtbadkkilblgpmaaDoorGX3
import Derived.Test.YtbadkkilblgpmaaDoorGXX
import Derived.Test.YtbadkkilblgpmaaDoorGXY
import Derived.Test.YtbadkkilblgpmaaDoorVG
import Derived.Test.YtbadkkilblgpmaaDoorCards
import Derived.Test.YtbadkkilblgpmaaDoorTie
import Derived.SevenTiedAt
namespace Go.Proofs.YtbadkkilblgpmaaDoor
open Go.ChangeShapes Go.WideShapes Go.ChangeAt Go.RowKit
open Go.WideMaps Go.WideElems
open Go

set_option maxRecDepth 100000 in
theorem graphEnds_joined : joinedFacts Tryd.pinned.checked.prog 16 Tryd.f16 Rows.graphEndsSpec Rows.graphEndsRow = true := by
  unfold joinedFacts
  simp only [Bool.and_eq_true]
  exact ⟨⟨⟨⟨⟨⟨⟨⟨⟨⟨⟨⟨⟨⟨⟨⟨⟨⟨⟨⟨⟨⟨⟨⟨⟨⟨⟨⟨⟨⟨⟨graphEnds_j0, graphEnds_j1⟩, graphEnds_j2⟩, graphEnds_j3⟩, graphEnds_j4⟩, graphEnds_j5⟩, graphEnds_j6⟩, graphEnds_j7⟩, graphEnds_j8⟩, graphEnds_j9⟩, graphEnds_j10⟩, graphEnds_j11⟩, graphEnds_j12⟩, graphEnds_j13⟩, graphEnds_j14⟩, graphEnds_j15⟩, graphEnds_j16⟩, graphEnds_j17⟩, graphEnds_j18⟩, graphEnds_j19⟩, graphEnds_j20⟩, graphEnds_j21⟩, graphEnds_j22⟩, graphEnds_j23⟩, graphEnds_j24⟩, graphEnds_j25⟩, graphEnds_j26⟩, graphEnds_j27⟩, graphEnds_j28⟩, graphEnds_j29⟩, graphEnds_j30⟩, graphEnds_j31⟩

set_option maxHeartbeats 4000000 in
set_option maxRecDepth 100000 in
theorem graphEnds_lifted (os : Os) (started : os.Started) (H : Type) (enc : TypeId × Value → H) :
    ReturnsInHanded {} Tryd.checked os 16 .any (fun w args => (Rows.graphEndsSpec.pre enc Tryd.prog Tryd.f16 [] false w args ∧ laidMetH Tryd.prog laidF w) ∧ sizedMet enc Tryd.prog Tryd.f16 (OpenSpec.ofChange Rows.graphEndsSpec) false w args)
      (Rows.graphEndsSpec.post enc Tryd.prog Tryd.f16 false true false false) := by
  refine returnsInHanded_of_change_and (C := Tryd.checked) (X := fun w _ => laidMetH Tryd.prog laidF w) (fun _ _ _ hh h => h.of_heap hh) Tryd.own started (by kernel_rfl) Tryd.func16
    (ChangeSpec.witness_shaped (enc := enc) (C := Tryd.checked) (os := os) (X := fun w _ => laidMetH Tryd.prog laidF w) false (World.doorLaid Tryd.prog 19 os) #[.slice none 0 0, .string ⟨#[]⟩, .string ⟨#[]⟩] 8 rfl (World.shaped_of_RefB (by kernel_rfl) (by kernel_rfl)) (by kernel_rfl) (by kernel_rfl) (by kernel_rfl) (door_metF os _)) ?_
  intro W base args ds gs before hval0 hW _ hsz hL _
  have hval : ∀ (j : Nat) t v, Tryd.f16.params[j]? = some t → args[j]? = some v → Value.okWide Tryd.prog W .any base t v := hval0
  have hW' := hW
  obtain ⟨p, q, hA0, hV, rfl, hfz, hnd⟩ := hW
  have hA : DataW.TrodAll enc Tryd.prog W 0 (fun _ => true) true Tryd.f16.params.toList args.toList ds p := hA0
  have hT := flds_of_laid hL
  rw [Tryd.params16] at hA hval
  obtain ⟨v0, vs0, d0, ds0, p0, q0, hargs, rfl, rfl, h0, r0⟩ := trodAll_cons hA
  obtain ⟨v1, vs1, d1, ds1, p1, q1, rfl, rfl, rfl, h1, r1⟩ := trodAll_cons r0
  obtain ⟨v2, vs2, d2, ds2, p2, q2, rfl, rfl, rfl, h2, r2⟩ := trodAll_cons r1
  obtain ⟨rfl, rfl, rfl⟩ := trodAll_nil r2
  obtain rfl : args = #[v0, v1, v2] := by cases args; simp_all
  obtain ⟨A, L, c, rfl, hLc, hcm, hok, hrow⟩ := open_rows tgtCells (fun t => TgtAt _ t) Tryd.underlying63 (k := 4) (by kernel_rfl) (by omega) (fun n cs x h => open_tgt n cs x h) (hval 0 63 v0 rfl rfl) h0
  obtain ⟨a, rfl, hal⟩ := open_str (hval 1 9 v1 rfl rfl) h1
  obtain ⟨b, rfl, hbl⟩ := open_str (hval 2 9 v2 rfl rfl) h2
  refine (ends_any L _ c a b W ⟨hrow, hok⟩ hT (by unfold maxLen at hcm; omega) hLc hal hbl).mono fun e W' ⟨he, hg⟩ => ?_
  subst he
  exact ⟨_, rfl, law_post Tryd.laidOut (by decide +kernel) (by kernel_rfl) Tryd.underlying4 rfl hW' rfl (hg.belowNone (Nat.le_refl _))⟩

theorem graphEnds_row : Rows.GraphEndsSaid :=
  OpenClaim.holds_of_wide 16 Tryd.f16 rfl rfl rfl rfl rfl rfl rfl ⟨rfl, rfl, rfl, rfl, rfl⟩ rfl rfl rfl rfl rfl (by kernel_rfl) Tryd.func16 graphEnds_joined
    (of_decide_eq_true (by kernel_rfl)) (by unfold Func.isWrapper; first | (rw [if_pos (by decide +kernel)]; kernel_rfl) | (rw [if_neg (by decide +kernel)]; exact ⟨rfl, rfl⟩))
    (fun os started H enc _ => graphEnds_lifted os started H enc)

theorem graphEnds_holds : Rows.GraphEndsCardSaid :=
  Claim7.holds_tied_plain_at .later [] [.data] true (true, "5c8649663a603df984334e8b882f2ca833624ba6e21d51dc1c512a01fa069efd") false
    graphEnds_row (fun _ h => by cases h) (by kernel_rfl) (fun _ h => by cases h) graphEnds_row_tie rfl ⟨rfl, rfl⟩ io_main rfl
    (fun f fn hf hfn => by
      obtain rfl : f = 16 := Option.some.inj ((show Tryd.prog.funcNamed "murmuration/murmurationlaw15.GraphEnds" = some 16 by kernel_rfl).symm.trans hf) |>.symm
      obtain rfl : fn = Tryd.f16 := (Option.some.inj (Tryd.func16.symm.trans hfn)).symm
      exact ⟨by kernel_rfl, fun j t ht => by
        rw [Tryd.params16] at ht
        have hm : t ∈ [63, 9, 9] := by simpa using Array.mem_of_getElem? ht
        have hall : ([63, 9, 9].all fun u => !Tryd.prog.wantsStandIn u) = true := by kernel_rfl
        exact (show Tryd.prog.wantsStandIn t = false by simpa using List.all_eq_true.1 hall t hm)⟩)
    (by kernel_rfl)

end Go.Proofs.YtbadkkilblgpmaaDoor
