/-
  AdvertsParts: what is below a prefix is what is below the sixteen that are one longer, one behind the other; sums of ranges that are alike are alike: for every input, where the two tables of package sha hold what its text lays (the card ties them).
-/
import Derived.Test.YtkcammaccgkflaaDoorTC
import Derived.Test.YtkcammaccgkflaaDoorTCX
import Derived.Test.YtkcammaccgkflaaDoorTCY
import Derived.Test.YtkcammaccgkflaaDoorZB
import Derived.Test.YtkcammaccgkflaaDoorCards
import Derived.Test.YtkcammaccgkflaaDoorTie
import Derived.SevenTiedAt
namespace Go.Proofs.YtkcammaccgkflaaDoor
open Go.ChangeShapes Go.WideShapes Go.ChangeAt Go.RowKit
open Go.WideMaps Go.WideElems
open Go

set_option maxRecDepth 100000 in
theorem advertsParts_joined : joinedFacts Tryd.pinned.checked.prog 18 Tryd.f18 Rows.advertsPartsSpec Rows.advertsPartsRow = true := by
  unfold joinedFacts
  simp only [Bool.and_eq_true]
  exact ⟨⟨⟨⟨⟨⟨⟨⟨⟨⟨⟨⟨⟨⟨⟨⟨⟨⟨⟨⟨⟨⟨⟨⟨⟨⟨⟨⟨⟨⟨⟨advertsParts_j0, advertsParts_j1⟩, advertsParts_j2⟩, advertsParts_j3⟩, advertsParts_j4⟩, advertsParts_j5⟩, advertsParts_j6⟩, advertsParts_j7⟩, advertsParts_j8⟩, advertsParts_j9⟩, advertsParts_j10⟩, advertsParts_j11⟩, advertsParts_j12⟩, advertsParts_j13⟩, advertsParts_j14⟩, advertsParts_j15⟩, advertsParts_j16⟩, advertsParts_j17⟩, advertsParts_j18⟩, advertsParts_j19⟩, advertsParts_j20⟩, advertsParts_j21⟩, advertsParts_j22⟩, advertsParts_j23⟩, advertsParts_j24⟩, advertsParts_j25⟩, advertsParts_j26⟩, advertsParts_j27⟩, advertsParts_j28⟩, advertsParts_j29⟩, advertsParts_j30⟩, advertsParts_j31⟩

set_option maxRecDepth 100000 in
theorem advertsParts_lifted (os : Os) (started : os.Started) (H : Type) (enc : TypeId × Value → H) :
    ReturnsInHanded {} Tryd.checked os 18 .any (fun w args => (Rows.advertsPartsSpec.pre enc Tryd.prog Tryd.f18 [] false w args ∧ laidMetH Tryd.prog laidT w) ∧ sizedMet enc Tryd.prog Tryd.f18 (OpenSpec.ofChange Rows.advertsPartsSpec) false w args)
      (Rows.advertsPartsSpec.post enc Tryd.prog Tryd.f18 false true false false) := by
  refine returnsInHanded_of_change_and (C := Tryd.checked) (X := fun w _ => laidMetH Tryd.prog laidT w) (fun _ _ _ hh h => h.of_heap hh) Tryd.own started (by kernel_rfl) Tryd.func18
    (ChangeSpec.witness_shaped (enc := enc) (C := Tryd.checked) (os := os) (X := fun w _ => laidMetH Tryd.prog laidT w) false (World.doorLaid Tryd.prog 19 os) #[.slice none 0 0, .slice none 0 0] 8 rfl (World.shaped_of_RefB (by kernel_rfl) (by kernel_rfl)) (by kernel_rfl) (by kernel_rfl) (by kernel_rfl) (door_met os _)) ?_
  intro W base args ds gs before hval0 hW _ _ hL _
  have hval : ∀ (j : Nat) t v, Tryd.f18.params[j]? = some t → args[j]? = some v → Value.okWide Tryd.prog W .any base t v := hval0
  have hW' := hW
  obtain ⟨p, q, hA0, hV, rfl, hfz, hnd⟩ := hW
  have hA : DataW.TrodAll enc Tryd.prog W 0 (fun _ => true) true Tryd.f18.params.toList args.toList ds p := hA0
  have hT := tabs_of_laid hL
  rw [Tryd.params18] at hA hval
  obtain ⟨v0, vs0, d0, ds0, p0, q0, hargs, rfl, rfl, h0, r0⟩ := trodAll_cons hA
  obtain ⟨v1, vs1, d1, ds1, p1, q1, rfl, rfl, rfl, h1, r1⟩ := trodAll_cons r0
  obtain ⟨rfl, rfl, rfl⟩ := trodAll_nil r1
  obtain rfl : args = #[v0, v1] := by cases args; simp_all
  obtain ⟨A0, L0, c0, rfl, hlm0, hok0, hrow0⟩ := open_atts (hval 0 64 v0 rfl rfl) h0
  obtain ⟨p1, hp1, rfl, hpm1⟩ := open_bytes (hval 1 22 v1 rfl rfl) h1
  refine (parts_law A0 L0 c0 p1 W hrow0 hlm0 hp1 hpm1 hT).mono fun e W' ⟨he, hg⟩ => ?_
  subst he
  exact ⟨_, rfl, law_post Tryd.laidOut (by decide +kernel) (by kernel_rfl) Tryd.underlying4 rfl hW' rfl (hg.belowNone (Nat.le_refl _))⟩

theorem advertsParts_row : Rows.AdvertsPartsSaid :=
  OpenClaim.holds_of_wide 18 Tryd.f18 rfl rfl rfl rfl rfl rfl rfl ⟨rfl, rfl, rfl, rfl, rfl⟩ rfl rfl rfl rfl rfl (by kernel_rfl) Tryd.func18 advertsParts_joined
    (of_decide_eq_true (by kernel_rfl)) (by unfold Func.isWrapper; first | (rw [if_pos (by decide +kernel)]; kernel_rfl) | (rw [if_neg (by decide +kernel)]; exact ⟨rfl, rfl⟩))
    (fun os started H enc _ => advertsParts_lifted os started H enc)

theorem advertsParts_holds : Rows.AdvertsPartsCardSaid :=
  Claim7.holds_tied_plain_at .later [] [.data, .data] true (true, "68a5d775ff901897768111386c9f939cac63446331190ee960e3ff2414119937") false
    advertsParts_row (fun _ h => by cases h) (by kernel_rfl) (fun _ h => by cases h) advertsParts_row_tie rfl ⟨rfl, rfl⟩ io_main rfl
    (fun f fn hf hfn => by
      obtain rfl : f = 18 := Option.some.inj ((show Tryd.prog.funcNamed "murmuration/murmurationlaw20.AdvertsParts" = some 18 by kernel_rfl).symm.trans hf) |>.symm
      obtain rfl : fn = Tryd.f18 := (Option.some.inj (Tryd.func18.symm.trans hfn)).symm
      exact ⟨by kernel_rfl, fun j t ht => by
        rw [Tryd.params18] at ht
        have hm : t ∈ [64, 22] := by simpa using Array.mem_of_getElem? ht
        have hall : ([64, 22].all fun u => !Tryd.prog.wantsStandIn u) = true := by kernel_rfl
        exact (show Tryd.prog.wantsStandIn t = false by simpa using List.all_eq_true.1 hall t hm)⟩)
    (by kernel_rfl)

end Go.Proofs.YtkcammaccgkflaaDoor
