/-
  AdvertsNone: a set that is not there refuses; a zero one is as a new one: for every input, where the two tables of package sha hold what its text lays (the card ties them).
-/
import Derived.Test.YtkcammaccgkflaaDoorTG
import Derived.Test.YtkcammaccgkflaaDoorTGX
import Derived.Test.YtkcammaccgkflaaDoorTGY
import Derived.Test.YtkcammaccgkflaaDoorZB
import Derived.Test.YtkcammaccgkflaaDoorCards
import Derived.Test.YtkcammaccgkflaaDoorTie
import Derived.SevenTiedAt
namespace Go.Proofs.YtkcammaccgkflaaDoor
open Go.ChangeShapes Go.WideShapes Go.ChangeAt Go.RowKit
open Go.WideMaps Go.WideElems
open Go

set_option maxRecDepth 100000 in
theorem advertsNone_joined : joinedFacts Tryd.pinned.checked.prog 16 Tryd.f16 Rows.advertsNoneSpec Rows.advertsNoneRow = true := by
  unfold joinedFacts
  simp only [Bool.and_eq_true]
  exact ⟨⟨⟨⟨⟨⟨⟨⟨⟨⟨⟨⟨⟨⟨⟨⟨⟨⟨⟨⟨⟨⟨⟨⟨⟨⟨⟨⟨⟨⟨⟨advertsNone_j0, advertsNone_j1⟩, advertsNone_j2⟩, advertsNone_j3⟩, advertsNone_j4⟩, advertsNone_j5⟩, advertsNone_j6⟩, advertsNone_j7⟩, advertsNone_j8⟩, advertsNone_j9⟩, advertsNone_j10⟩, advertsNone_j11⟩, advertsNone_j12⟩, advertsNone_j13⟩, advertsNone_j14⟩, advertsNone_j15⟩, advertsNone_j16⟩, advertsNone_j17⟩, advertsNone_j18⟩, advertsNone_j19⟩, advertsNone_j20⟩, advertsNone_j21⟩, advertsNone_j22⟩, advertsNone_j23⟩, advertsNone_j24⟩, advertsNone_j25⟩, advertsNone_j26⟩, advertsNone_j27⟩, advertsNone_j28⟩, advertsNone_j29⟩, advertsNone_j30⟩, advertsNone_j31⟩

set_option maxRecDepth 100000 in
theorem advertsNone_lifted (os : Os) (started : os.Started) (H : Type) (enc : TypeId × Value → H) :
    ReturnsInHanded {} Tryd.checked os 16 .any (fun w args => (Rows.advertsNoneSpec.pre enc Tryd.prog Tryd.f16 [] false w args ∧ laidMetH Tryd.prog laidT w) ∧ sizedMet enc Tryd.prog Tryd.f16 (OpenSpec.ofChange Rows.advertsNoneSpec) false w args)
      (Rows.advertsNoneSpec.post enc Tryd.prog Tryd.f16 false true false false) := by
  refine returnsInHanded_of_change_and (C := Tryd.checked) (X := fun w _ => laidMetH Tryd.prog laidT w) (fun _ _ _ hh h => h.of_heap hh) Tryd.own started (by kernel_rfl) Tryd.func16
    (ChangeSpec.witness_shaped (enc := enc) (C := Tryd.checked) (os := os) (X := fun w _ => laidMetH Tryd.prog laidT w) false (World.doorLaid Tryd.prog 19 os) #[.agg Tryd.zeroCells46, .slice none 0 0] 8 rfl (World.shaped_of_RefB (by kernel_rfl) (by kernel_rfl)) (by kernel_rfl) (by kernel_rfl) (by kernel_rfl) (door_met os _)) ?_
  intro W base args ds gs before hval0 hW _ _ hL _
  have hval : ∀ (j : Nat) t v, Tryd.f16.params[j]? = some t → args[j]? = some v → Value.okWide Tryd.prog W .any base t v := hval0
  have hW' := hW
  obtain ⟨p, q, hA0, hV, rfl, hfz, hnd⟩ := hW
  have hA : DataW.TrodAll enc Tryd.prog W 0 (fun _ => true) true Tryd.f16.params.toList args.toList ds p := hA0
  have hT := tabs_of_laid hL
  rw [Tryd.params16] at hA hval
  obtain ⟨v0, vs0, d0, ds0, p0, q0, hargs, rfl, rfl, h0, r0⟩ := trodAll_cons hA
  obtain ⟨v1, vs1, d1, ds1, p1, q1, rfl, rfl, rfl, h1, r1⟩ := trodAll_cons r0
  obtain ⟨rfl, rfl, rfl⟩ := trodAll_nil r1
  obtain rfl : args = #[v0, v1] := by cases args; simp_all
  obtain ⟨a0, ha0, rfl⟩ := open_att (hval 0 46 v0 rfl rfl) h0
  obtain ⟨p1, hp1, rfl, hpm1⟩ := open_bytes (hval 1 22 v1 rfl rfl) h1
  refine (none_law a0 p1 W ha0 hp1 hpm1 hT).mono fun e W' ⟨he, hg⟩ => ?_
  subst he
  exact ⟨_, rfl, law_post Tryd.laidOut (by decide +kernel) (by kernel_rfl) Tryd.underlying4 rfl hW' rfl (hg.belowNone (Nat.le_refl _))⟩

theorem advertsNone_row : Rows.AdvertsNoneSaid :=
  OpenClaim.holds_of_wide 16 Tryd.f16 rfl rfl rfl rfl rfl rfl rfl ⟨rfl, rfl, rfl, rfl, rfl⟩ rfl rfl rfl rfl rfl (by kernel_rfl) Tryd.func16 advertsNone_joined
    (of_decide_eq_true (by kernel_rfl)) (by unfold Func.isWrapper; first | (rw [if_pos (by decide +kernel)]; kernel_rfl) | (rw [if_neg (by decide +kernel)]; exact ⟨rfl, rfl⟩))
    (fun os started H enc _ => advertsNone_lifted os started H enc)

theorem advertsNone_holds : Rows.AdvertsNoneCardSaid :=
  Claim7.holds_tied_plain_at .later [] [.data, .data] true (true, "68a5d775ff901897768111386c9f939cac63446331190ee960e3ff2414119937") false
    advertsNone_row (fun _ h => by cases h) (by kernel_rfl) (fun _ h => by cases h) advertsNone_row_tie rfl ⟨rfl, rfl⟩ io_main rfl
    (fun f fn hf hfn => by
      obtain rfl : f = 16 := Option.some.inj ((show Tryd.prog.funcNamed "murmuration/murmurationlaw20.AdvertsNone" = some 16 by kernel_rfl).symm.trans hf) |>.symm
      obtain rfl : fn = Tryd.f16 := (Option.some.inj (Tryd.func16.symm.trans hfn)).symm
      exact ⟨by kernel_rfl, fun j t ht => by
        rw [Tryd.params16] at ht
        have hm : t ∈ [46, 22] := by simpa using Array.mem_of_getElem? ht
        have hall : ([46, 22].all fun u => !Tryd.prog.wantsStandIn u) = true := by kernel_rfl
        exact (show Tryd.prog.wantsStandIn t = false by simpa using List.all_eq_true.1 hall t hm)⟩)
    (by kernel_rfl)

end Go.Proofs.YtkcammaccgkflaaDoor
