/-
  AdvertsMost: a set that is full keeps the first ones: none that is not there, and was added, is ahead of one that is: for every input, where the two tables of package sha hold what its text lays (the card ties them).
-/
import Derived.Test.YtkcammaccgkflaaDoorTE
import Derived.Test.YtkcammaccgkflaaDoorTEX
import Derived.Test.YtkcammaccgkflaaDoorTEY
import Derived.Test.YtkcammaccgkflaaDoorZB
import Derived.Test.YtkcammaccgkflaaDoorCards
import Derived.Test.YtkcammaccgkflaaDoorTie
import Derived.SevenTiedAt
namespace Go.Proofs.YtkcammaccgkflaaDoor
open Go.ChangeShapes Go.WideShapes Go.ChangeAt Go.RowKit
open Go.WideMaps Go.WideElems
open Go

set_option maxRecDepth 100000 in
theorem advertsMost_joined : joinedFacts Tryd.pinned.checked.prog 20 Tryd.f20 Rows.advertsMostSpec Rows.advertsMostRow = true := by
  unfold joinedFacts
  simp only [Bool.and_eq_true]
  exact ⟨⟨⟨⟨⟨⟨⟨⟨⟨⟨⟨⟨⟨⟨⟨⟨⟨⟨⟨⟨⟨⟨⟨⟨⟨⟨⟨⟨⟨⟨⟨advertsMost_j0, advertsMost_j1⟩, advertsMost_j2⟩, advertsMost_j3⟩, advertsMost_j4⟩, advertsMost_j5⟩, advertsMost_j6⟩, advertsMost_j7⟩, advertsMost_j8⟩, advertsMost_j9⟩, advertsMost_j10⟩, advertsMost_j11⟩, advertsMost_j12⟩, advertsMost_j13⟩, advertsMost_j14⟩, advertsMost_j15⟩, advertsMost_j16⟩, advertsMost_j17⟩, advertsMost_j18⟩, advertsMost_j19⟩, advertsMost_j20⟩, advertsMost_j21⟩, advertsMost_j22⟩, advertsMost_j23⟩, advertsMost_j24⟩, advertsMost_j25⟩, advertsMost_j26⟩, advertsMost_j27⟩, advertsMost_j28⟩, advertsMost_j29⟩, advertsMost_j30⟩, advertsMost_j31⟩

set_option maxRecDepth 100000 in
theorem advertsMost_lifted (os : Os) (started : os.Started) (H : Type) (enc : TypeId × Value → H) :
    ReturnsInHanded {} Tryd.checked os 20 .any (fun w args => (Rows.advertsMostSpec.pre enc Tryd.prog Tryd.f20 [] false w args ∧ laidMetH Tryd.prog laidT w) ∧ sizedMet enc Tryd.prog Tryd.f20 (OpenSpec.ofChange Rows.advertsMostSpec) false w args)
      (Rows.advertsMostSpec.post enc Tryd.prog Tryd.f20 false true false false) := by
  refine returnsInHanded_of_change_and (C := Tryd.checked) (X := fun w _ => laidMetH Tryd.prog laidT w) (fun _ _ _ hh h => h.of_heap hh) Tryd.own started (by kernel_rfl) Tryd.func20
    (ChangeSpec.witness_shaped (enc := enc) (C := Tryd.checked) (os := os) (X := fun w _ => laidMetH Tryd.prog laidT w) false (World.doorLaid Tryd.prog 19 os) #[.slice none 0 0] 8 rfl (World.shaped_of_RefB (by kernel_rfl) (by kernel_rfl)) (by kernel_rfl) (by kernel_rfl) (by kernel_rfl) (door_met os _)) ?_
  intro W base args ds gs before hval0 hW _ _ hL _
  have hval : ∀ (j : Nat) t v, Tryd.f20.params[j]? = some t → args[j]? = some v → Value.okWide Tryd.prog W .any base t v := hval0
  have hW' := hW
  obtain ⟨p, q, hA0, hV, rfl, hfz, hnd⟩ := hW
  have hA : DataW.TrodAll enc Tryd.prog W 0 (fun _ => true) true Tryd.f20.params.toList args.toList ds p := hA0
  have hT := tabs_of_laid hL
  rw [Tryd.params20] at hA hval
  obtain ⟨v0, vs0, d0, ds0, p0, q0, hargs, rfl, rfl, h0, r0⟩ := trodAll_cons hA
  obtain ⟨rfl, rfl, rfl⟩ := trodAll_nil r0
  obtain rfl : args = #[v0] := by cases args; simp_all
  obtain ⟨A0, L0, c0, rfl, hlm0, hok0, hrow0⟩ := open_atts (hval 0 64 v0 rfl rfl) h0
  refine (most_law A0 L0 c0 W hrow0 hlm0 hok0 hT).mono fun e W' ⟨he, hg⟩ => ?_
  subst he
  exact ⟨_, rfl, law_post Tryd.laidOut (by decide +kernel) (by kernel_rfl) Tryd.underlying4 rfl hW' rfl (hg.belowNone (Nat.le_refl _))⟩

theorem advertsMost_row : Rows.AdvertsMostSaid :=
  OpenClaim.holds_of_wide 20 Tryd.f20 rfl rfl rfl rfl rfl rfl rfl ⟨rfl, rfl, rfl, rfl, rfl⟩ rfl rfl rfl rfl rfl (by kernel_rfl) Tryd.func20 advertsMost_joined
    (of_decide_eq_true (by kernel_rfl)) (by unfold Func.isWrapper; first | (rw [if_pos (by decide +kernel)]; kernel_rfl) | (rw [if_neg (by decide +kernel)]; exact ⟨rfl, rfl⟩))
    (fun os started H enc _ => advertsMost_lifted os started H enc)

theorem advertsMost_holds : Rows.AdvertsMostCardSaid :=
  Claim7.holds_tied_plain_at .later [] [.data, .data] true (true, "68a5d775ff901897768111386c9f939cac63446331190ee960e3ff2414119937") false
    advertsMost_row (fun _ h => by cases h) (by kernel_rfl) (fun _ h => by cases h) advertsMost_row_tie rfl ⟨rfl, rfl⟩ io_main rfl
    (fun f fn hf hfn => by
      obtain rfl : f = 20 := Option.some.inj ((show Tryd.prog.funcNamed "murmuration/murmurationlaw20.AdvertsMost" = some 20 by kernel_rfl).symm.trans hf) |>.symm
      obtain rfl : fn = Tryd.f20 := (Option.some.inj (Tryd.func20.symm.trans hfn)).symm
      exact ⟨by kernel_rfl, fun j t ht => by
        rw [Tryd.params20] at ht
        have hm : t ∈ [64] := by simpa using Array.mem_of_getElem? ht
        have hall : ([64].all fun u => !Tryd.prog.wantsStandIn u) = true := by kernel_rfl
        exact (show Tryd.prog.wantsStandIn t = false by simpa using List.all_eq_true.1 hall t hm)⟩)
    (by kernel_rfl)

end Go.Proofs.YtkcammaccgkflaaDoor
