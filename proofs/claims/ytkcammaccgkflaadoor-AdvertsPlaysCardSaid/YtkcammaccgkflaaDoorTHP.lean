/-
  AdvertsPlays: whatever is added, one by one: each answer, and all that is told of a prefix, and a key, are the document's; a copy goes its own way: for every input, where the two tables of package sha hold what its text lays (the card ties them).
-/
import Derived.Test.YtkcammaccgkflaaDoorTH
import Derived.Test.YtkcammaccgkflaaDoorTHX
import Derived.Test.YtkcammaccgkflaaDoorTHY
import Derived.Test.YtkcammaccgkflaaDoorZB
import Derived.Test.YtkcammaccgkflaaDoorCards
import Derived.Test.YtkcammaccgkflaaDoorTie
import Derived.SevenTiedAt
namespace Go.Proofs.YtkcammaccgkflaaDoor
open Go.ChangeShapes Go.WideShapes Go.ChangeAt Go.RowKit
open Go.WideMaps Go.WideElems
open Go

set_option maxRecDepth 100000 in
theorem advertsPlays_joined : joinedFacts Tryd.pinned.checked.prog 15 Tryd.f15 Rows.advertsPlaysSpec Rows.advertsPlaysRow = true := by
  unfold joinedFacts
  simp only [Bool.and_eq_true]
  exact ⟨⟨⟨⟨⟨⟨⟨⟨⟨⟨⟨⟨⟨⟨⟨⟨⟨⟨⟨⟨⟨⟨⟨⟨⟨⟨⟨⟨⟨⟨⟨advertsPlays_j0, advertsPlays_j1⟩, advertsPlays_j2⟩, advertsPlays_j3⟩, advertsPlays_j4⟩, advertsPlays_j5⟩, advertsPlays_j6⟩, advertsPlays_j7⟩, advertsPlays_j8⟩, advertsPlays_j9⟩, advertsPlays_j10⟩, advertsPlays_j11⟩, advertsPlays_j12⟩, advertsPlays_j13⟩, advertsPlays_j14⟩, advertsPlays_j15⟩, advertsPlays_j16⟩, advertsPlays_j17⟩, advertsPlays_j18⟩, advertsPlays_j19⟩, advertsPlays_j20⟩, advertsPlays_j21⟩, advertsPlays_j22⟩, advertsPlays_j23⟩, advertsPlays_j24⟩, advertsPlays_j25⟩, advertsPlays_j26⟩, advertsPlays_j27⟩, advertsPlays_j28⟩, advertsPlays_j29⟩, advertsPlays_j30⟩, advertsPlays_j31⟩

set_option maxRecDepth 100000 in
theorem advertsPlays_lifted (os : Os) (started : os.Started) (H : Type) (enc : TypeId × Value → H) :
    ReturnsInHanded {} Tryd.checked os 15 .any (fun w args => (Rows.advertsPlaysSpec.pre enc Tryd.prog Tryd.f15 [] false w args ∧ laidMetH Tryd.prog laidT w) ∧ sizedMet enc Tryd.prog Tryd.f15 (OpenSpec.ofChange Rows.advertsPlaysSpec) false w args)
      (Rows.advertsPlaysSpec.post enc Tryd.prog Tryd.f15 false true false false) := by
  refine returnsInHanded_of_change_and (C := Tryd.checked) (X := fun w _ => laidMetH Tryd.prog laidT w) (fun _ _ _ hh h => h.of_heap hh) Tryd.own started (by kernel_rfl) Tryd.func15
    (ChangeSpec.witness_shaped (enc := enc) (C := Tryd.checked) (os := os) (X := fun w _ => laidMetH Tryd.prog laidT w) false (World.doorLaid Tryd.prog 19 os) #[.slice none 0 0, .slice none 0 0, .agg zero32] 8 rfl (World.shaped_of_RefB (by kernel_rfl) (by kernel_rfl)) (by kernel_rfl) (by kernel_rfl) (by kernel_rfl) (door_met os _)) ?_
  intro W base args ds gs before hval0 hW _ _ hL _
  have hval : ∀ (j : Nat) t v, Tryd.f15.params[j]? = some t → args[j]? = some v → Value.okWide Tryd.prog W .any base t v := hval0
  have hW' := hW
  obtain ⟨p, q, hA0, hV, rfl, hfz, hnd⟩ := hW
  have hA : DataW.TrodAll enc Tryd.prog W 0 (fun _ => true) true Tryd.f15.params.toList args.toList ds p := hA0
  have hT := tabs_of_laid hL
  rw [Tryd.params15] at hA hval
  obtain ⟨v0, vs0, d0, ds0, p0, q0, hargs, rfl, rfl, h0, r0⟩ := trodAll_cons hA
  obtain ⟨v1, vs1, d1, ds1, p1, q1, rfl, rfl, rfl, h1, r1⟩ := trodAll_cons r0
  obtain ⟨v2, vs2, d2, ds2, p2, q2, rfl, rfl, rfl, h2, r2⟩ := trodAll_cons r1
  obtain ⟨rfl, rfl, rfl⟩ := trodAll_nil r2
  obtain rfl : args = #[v0, v1, v2] := by cases args; simp_all
  obtain ⟨A0, L0, c0, rfl, hlm0, hok0, hrow0⟩ := open_atts (hval 0 64 v0 rfl rfl) h0
  obtain ⟨p1, hp1, rfl, hpm1⟩ := open_bytes (hval 1 22 v1 rfl rfl) h1
  obtain ⟨d2, hd2, rfl⟩ := open_digest (hval 2 30 v2 rfl rfl) h2
  refine (plays_law A0 L0 c0 p1 ⟨d2, hd2⟩ W hrow0 hlm0 hok0 hp1 hpm1 hT).mono fun e W' ⟨he, hg⟩ => ?_
  subst he
  exact ⟨_, rfl, law_post Tryd.laidOut (by decide +kernel) (by kernel_rfl) Tryd.underlying4 rfl hW' rfl (hg.belowNone (Nat.le_refl _))⟩

theorem advertsPlays_row : Rows.AdvertsPlaysSaid :=
  OpenClaim.holds_of_wide 15 Tryd.f15 rfl rfl rfl rfl rfl rfl rfl ⟨rfl, rfl, rfl, rfl, rfl⟩ rfl rfl rfl rfl rfl (by kernel_rfl) Tryd.func15 advertsPlays_joined
    (of_decide_eq_true (by kernel_rfl)) (by unfold Func.isWrapper; first | (rw [if_pos (by decide +kernel)]; kernel_rfl) | (rw [if_neg (by decide +kernel)]; exact ⟨rfl, rfl⟩))
    (fun os started H enc _ => advertsPlays_lifted os started H enc)

theorem advertsPlays_holds : Rows.AdvertsPlaysCardSaid :=
  Claim7.holds_tied_plain_at .later [] [.data, .data] true (true, "68a5d775ff901897768111386c9f939cac63446331190ee960e3ff2414119937") false
    advertsPlays_row (fun _ h => by cases h) (by kernel_rfl) (fun _ h => by cases h) advertsPlays_row_tie rfl ⟨rfl, rfl⟩ io_main rfl
    (fun f fn hf hfn => by
      obtain rfl : f = 15 := Option.some.inj ((show Tryd.prog.funcNamed "murmuration/murmurationlaw20.AdvertsPlays" = some 15 by kernel_rfl).symm.trans hf) |>.symm
      obtain rfl : fn = Tryd.f15 := (Option.some.inj (Tryd.func15.symm.trans hfn)).symm
      exact ⟨by kernel_rfl, fun j t ht => by
        rw [Tryd.params15] at ht
        have hm : t ∈ [64, 22, 30] := by simpa using Array.mem_of_getElem? ht
        have hall : ([64, 22, 30].all fun u => !Tryd.prog.wantsStandIn u) = true := by kernel_rfl
        exact (show Tryd.prog.wantsStandIn t = false by simpa using List.all_eq_true.1 hall t hm)⟩)
    (by kernel_rfl)

end Go.Proofs.YtkcammaccgkflaaDoor
