/-
  GraphDirty: what stands on something dirty is dirty, what has changed is, what is neither stands on none, and more that has changed makes no less dirty: for every input of a machine's sizes, where the table of package program's field names is laid.
-/
import Derived.Test.YtbadkkilblgpmaaDoorHE
import Derived.Test.YtbadkkilblgpmaaDoorVS
import Derived.Test.YtbadkkilblgpmaaDoorHEX
import Derived.Test.YtbadkkilblgpmaaDoorHEY
import Derived.Test.YtbadkkilblgpmaaDoorVG
import Derived.Test.YtbadkkilblgpmaaDoorCards
import Derived.Test.YtbadkkilblgpmaaDoorTie
import Derived.SevenTiedAt
namespace Go.Proofs.YtbadkkilblgpmaaDoor
open Go.ChangeShapes Go.WideShapes Go.ChangeAt Go.RowKit
open Go.WideMaps Go.WideElems
open Go

set_option maxRecDepth 100000 in
theorem graphDirty_joined : joinedFacts Tryd.pinned.checked.prog 14 Tryd.f14 Rows.graphDirtySpec Rows.graphDirtyRow = true := by
  unfold joinedFacts
  simp only [Bool.and_eq_true]
  exact ⟨⟨⟨⟨⟨⟨⟨⟨⟨⟨⟨⟨⟨⟨⟨⟨⟨⟨⟨⟨⟨⟨⟨⟨⟨⟨⟨⟨⟨⟨⟨graphDirty_j0, graphDirty_j1⟩, graphDirty_j2⟩, graphDirty_j3⟩, graphDirty_j4⟩, graphDirty_j5⟩, graphDirty_j6⟩, graphDirty_j7⟩, graphDirty_j8⟩, graphDirty_j9⟩, graphDirty_j10⟩, graphDirty_j11⟩, graphDirty_j12⟩, graphDirty_j13⟩, graphDirty_j14⟩, graphDirty_j15⟩, graphDirty_j16⟩, graphDirty_j17⟩, graphDirty_j18⟩, graphDirty_j19⟩, graphDirty_j20⟩, graphDirty_j21⟩, graphDirty_j22⟩, graphDirty_j23⟩, graphDirty_j24⟩, graphDirty_j25⟩, graphDirty_j26⟩, graphDirty_j27⟩, graphDirty_j28⟩, graphDirty_j29⟩, graphDirty_j30⟩, graphDirty_j31⟩

set_option maxHeartbeats 4000000 in
set_option maxRecDepth 100000 in
theorem graphDirty_lifted (os : Os) (started : os.Started) (H : Type) (enc : TypeId × Value → H) :
    ReturnsInHanded {} Tryd.checked os 14 .any (fun w args => (Rows.graphDirtySpec.pre enc Tryd.prog Tryd.f14 [] false w args ∧ laidMetH Tryd.prog laidF w) ∧ sizedMet enc Tryd.prog Tryd.f14 (OpenSpec.ofChange Rows.graphDirtySpec) false w args)
      (Rows.graphDirtySpec.post enc Tryd.prog Tryd.f14 false true false false) := by
  refine returnsInHanded_of_change_and (C := Tryd.checked) (X := fun w _ => laidMetH Tryd.prog laidF w) (fun _ _ _ hh h => h.of_heap hh) Tryd.own started (by kernel_rfl) Tryd.func14
    (ChangeSpec.witness_shaped (enc := enc) (C := Tryd.checked) (os := os) (X := fun w _ => laidMetH Tryd.prog laidF w) false (World.doorLaid Tryd.prog 19 os) #[.slice none 0 0, .slice none 0 0, .string ⟨#[]⟩] 8 rfl (World.shaped_of_RefB (by kernel_rfl) (by kernel_rfl)) (by kernel_rfl) (by kernel_rfl) (by kernel_rfl) (door_metF os _)) ?_
  intro W base args ds gs before hval0 hW _ hsz hL _
  have hval : ∀ (j : Nat) t v, Tryd.f14.params[j]? = some t → args[j]? = some v → Value.okWide Tryd.prog W .any base t v := hval0
  have hW' := hW
  obtain ⟨p, q, hA0, hV, rfl, hfz, hnd⟩ := hW
  have hA : DataW.TrodAll enc Tryd.prog W 0 (fun _ => true) true Tryd.f14.params.toList args.toList ds p := hA0
  have hT := flds_of_laid hL
  rw [Tryd.params14] at hA hval
  obtain ⟨v0, vs0, d0, ds0, p0, q0, hargs, rfl, rfl, h0, r0⟩ := trodAll_cons hA
  obtain ⟨v1, vs1, d1, ds1, p1, q1, rfl, rfl, rfl, h1, r1⟩ := trodAll_cons r0
  obtain ⟨v2, vs2, d2, ds2, p2, q2, rfl, rfl, rfl, h2, r2⟩ := trodAll_cons r1
  obtain ⟨rfl, rfl, rfl⟩ := trodAll_nil r2
  obtain rfl : args = #[v0, v1, v2] := by cases args; simp_all
  obtain ⟨A, L, c, rfl, hLc, hcm, hok, hrow⟩ := open_rows tgtCells (fun t => TgtAt _ t) Tryd.underlying63 (k := 4) (by kernel_rfl) (by omega) (fun n cs x h => open_tgt n cs x h) (hval 0 63 v0 rfl rfl) h0
  obtain ⟨a1, len1, cap1, rfl⟩ := okWide_slice Tryd.underlying64 (hval 1 64 v1 rfl rfl)
  obtain ⟨fuel1, hf1⟩ := h1
  obtain ⟨B, S, sc, hvs1, hS, hSd, hSm, hgS⟩ := open_strs4 fuel1 _ _ hf1
  simp only [Value.cells, List.cons.injEq, and_true] at hvs1
  injection hvs1 with e1 e2 e3
  subst e1 e2 e3
  have hall1 : ∀ k, Wgh 64 d1 k → k ≤ 140737488351232 := fun k h => by
    rcases h with h | ⟨q, hq, hn⟩
    · omega
    · have h2 := List.all_eq_true.1 hsz q (DataW.weights_mem_each (j := 1) (t := 64) (d := d1) rfl rfl q hq)
      have h3 : q ≤ reachBytes := by simpa using h2
      have h4 : reachBytes ≤ 140737488351232 := by decide
      omega
  obtain ⟨m, rfl, hml⟩ := open_str (hval 2 9 v2 rfl rfl) h2
  refine (gdirty_any L _ c S _ _ m W ⟨hrow, hok⟩ hS hT (by unfold maxLen at hcm; omega) hLc (by have := hall1 _ hgS; omega) hml).mono fun e W' ⟨he, hg⟩ => ?_
  subst he
  exact ⟨_, rfl, law_post Tryd.laidOut (by decide +kernel) (by kernel_rfl) Tryd.underlying4 rfl hW' rfl (hg.belowNone (Nat.le_refl _))⟩

theorem graphDirty_row : Rows.GraphDirtySaid :=
  OpenClaim.holds_of_wide 14 Tryd.f14 rfl rfl rfl rfl rfl rfl rfl ⟨rfl, rfl, rfl, rfl, rfl⟩ rfl rfl rfl rfl rfl (by kernel_rfl) Tryd.func14 graphDirty_joined
    (of_decide_eq_true (by kernel_rfl)) (by unfold Func.isWrapper; first | (rw [if_pos (by decide +kernel)]; kernel_rfl) | (rw [if_neg (by decide +kernel)]; exact ⟨rfl, rfl⟩))
    (fun os started H enc _ => graphDirty_lifted os started H enc)

theorem graphDirty_holds : Rows.GraphDirtyCardSaid :=
  Claim7.holds_tied_plain_at .later [] [.data] true (true, "5c8649663a603df984334e8b882f2ca833624ba6e21d51dc1c512a01fa069efd") false
    graphDirty_row (fun _ h => by cases h) (by kernel_rfl) (fun _ h => by cases h) graphDirty_row_tie rfl ⟨rfl, rfl⟩ io_main rfl
    (fun f fn hf hfn => by
      obtain rfl : f = 14 := Option.some.inj ((show Tryd.prog.funcNamed "murmuration/murmurationlaw15.GraphDirty" = some 14 by kernel_rfl).symm.trans hf) |>.symm
      obtain rfl : fn = Tryd.f14 := (Option.some.inj (Tryd.func14.symm.trans hfn)).symm
      exact ⟨by kernel_rfl, fun j t ht => by
        rw [Tryd.params14] at ht
        have hm : t ∈ [63, 64, 9] := by simpa using Array.mem_of_getElem? ht
        have hall : ([63, 64, 9].all fun u => !Tryd.prog.wantsStandIn u) = true := by kernel_rfl
        exact (show Tryd.prog.wantsStandIn t = false by simpa using List.all_eq_true.1 hall t hm)⟩)
    (by kernel_rfl)

end Go.Proofs.YtbadkkilblgpmaaDoor
