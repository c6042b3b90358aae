/-
  AdvertsOrder: the order in which results come is nothing: for every input, where the two tables of package sha hold what its text lays (the card ties them).
-/
import Derived.Test.YtkcammaccgkflaaDoorTD
import Derived.Test.YtkcammaccgkflaaDoorTDX
import Derived.Test.YtkcammaccgkflaaDoorTDY
import Derived.Test.YtkcammaccgkflaaDoorZB
import Derived.Test.YtkcammaccgkflaaDoorCards
import Derived.Test.YtkcammaccgkflaaDoorTie
import Derived.SevenTiedAt
namespace Go.Proofs.YtkcammaccgkflaaDoor
open Go.ChangeShapes Go.WideShapes Go.ChangeAt Go.RowKit
open Go.WideMaps Go.WideElems
open Go

set_option maxRecDepth 100000 in
theorem advertsOrder_joined : joinedFacts Tryd.pinned.checked.prog 17 Tryd.f17 Rows.advertsOrderSpec Rows.advertsOrderRow = true := by
  unfold joinedFacts
  simp only [Bool.and_eq_true]
  exact ⟨⟨⟨⟨⟨⟨⟨⟨⟨⟨⟨⟨⟨⟨⟨⟨⟨⟨⟨⟨⟨⟨⟨⟨⟨⟨⟨⟨⟨⟨⟨advertsOrder_j0, advertsOrder_j1⟩, advertsOrder_j2⟩, advertsOrder_j3⟩, advertsOrder_j4⟩, advertsOrder_j5⟩, advertsOrder_j6⟩, advertsOrder_j7⟩, advertsOrder_j8⟩, advertsOrder_j9⟩, advertsOrder_j10⟩, advertsOrder_j11⟩, advertsOrder_j12⟩, advertsOrder_j13⟩, advertsOrder_j14⟩, advertsOrder_j15⟩, advertsOrder_j16⟩, advertsOrder_j17⟩, advertsOrder_j18⟩, advertsOrder_j19⟩, advertsOrder_j20⟩, advertsOrder_j21⟩, advertsOrder_j22⟩, advertsOrder_j23⟩, advertsOrder_j24⟩, advertsOrder_j25⟩, advertsOrder_j26⟩, advertsOrder_j27⟩, advertsOrder_j28⟩, advertsOrder_j29⟩, advertsOrder_j30⟩, advertsOrder_j31⟩

set_option maxRecDepth 100000 in
theorem advertsOrder_lifted (os : Os) (started : os.Started) (H : Type) (enc : TypeId × Value → H) :
    ReturnsInHanded {} Tryd.checked os 17 .any (fun w args => (Rows.advertsOrderSpec.pre enc Tryd.prog Tryd.f17 [] false w args ∧ laidMetH Tryd.prog laidT w) ∧ sizedMet enc Tryd.prog Tryd.f17 (OpenSpec.ofChange Rows.advertsOrderSpec) false w args)
      (Rows.advertsOrderSpec.post enc Tryd.prog Tryd.f17 false true false false) := by
  refine returnsInHanded_of_change_and (C := Tryd.checked) (X := fun w _ => laidMetH Tryd.prog laidT w) (fun _ _ _ hh h => h.of_heap hh) Tryd.own started (by kernel_rfl) Tryd.func17
    (ChangeSpec.witness_shaped (enc := enc) (C := Tryd.checked) (os := os) (X := fun w _ => laidMetH Tryd.prog laidT w) false (World.doorLaid Tryd.prog 19 os) #[.slice none 0 0, .int .i64 0] 8 rfl (World.shaped_of_RefB (by kernel_rfl) (by kernel_rfl)) (by kernel_rfl) (by kernel_rfl) (by kernel_rfl) (door_met os _)) ?_
  intro W base args ds gs before hval0 hW _ _ hL _
  have hval : ∀ (j : Nat) t v, Tryd.f17.params[j]? = some t → args[j]? = some v → Value.okWide Tryd.prog W .any base t v := hval0
  have hW' := hW
  obtain ⟨p, q, hA0, hV, rfl, hfz, hnd⟩ := hW
  have hA : DataW.TrodAll enc Tryd.prog W 0 (fun _ => true) true Tryd.f17.params.toList args.toList ds p := hA0
  have hT := tabs_of_laid hL
  rw [Tryd.params17] at hA hval
  obtain ⟨v0, vs0, d0, ds0, p0, q0, hargs, rfl, rfl, h0, r0⟩ := trodAll_cons hA
  obtain ⟨v1, vs1, d1, ds1, p1, q1, rfl, rfl, rfl, h1, r1⟩ := trodAll_cons r0
  obtain ⟨rfl, rfl, rfl⟩ := trodAll_nil r1
  obtain rfl : args = #[v0, v1] := by cases args; simp_all
  obtain ⟨A0, L0, c0, rfl, hlm0, hok0, hrow0⟩ := open_atts (hval 0 64 v0 rfl rfl) h0
  obtain ⟨a1, rfl, rfl, rfl, _⟩ := open_int Tryd.underlying3 (hval 1 3 v1 rfl rfl) h1
  refine (order_law A0 L0 c0 a1 W hrow0 hlm0 hT).mono fun e W' ⟨he, hg⟩ => ?_
  subst he
  exact ⟨_, rfl, law_post Tryd.laidOut (by decide +kernel) (by kernel_rfl) Tryd.underlying4 rfl hW' rfl (hg.belowNone (Nat.le_refl _))⟩

theorem advertsOrder_row : Rows.AdvertsOrderSaid :=
  OpenClaim.holds_of_wide 17 Tryd.f17 rfl rfl rfl rfl rfl rfl rfl ⟨rfl, rfl, rfl, rfl, rfl⟩ rfl rfl rfl rfl rfl (by kernel_rfl) Tryd.func17 advertsOrder_joined
    (of_decide_eq_true (by kernel_rfl)) (by unfold Func.isWrapper; first | (rw [if_pos (by decide +kernel)]; kernel_rfl) | (rw [if_neg (by decide +kernel)]; exact ⟨rfl, rfl⟩))
    (fun os started H enc _ => advertsOrder_lifted os started H enc)

theorem advertsOrder_holds : Rows.AdvertsOrderCardSaid :=
  Claim7.holds_tied_plain_at .later [] [.data, .data] true (true, "68a5d775ff901897768111386c9f939cac63446331190ee960e3ff2414119937") false
    advertsOrder_row (fun _ h => by cases h) (by kernel_rfl) (fun _ h => by cases h) advertsOrder_row_tie rfl ⟨rfl, rfl⟩ io_main rfl
    (fun f fn hf hfn => by
      obtain rfl : f = 17 := Option.some.inj ((show Tryd.prog.funcNamed "murmuration/murmurationlaw20.AdvertsOrder" = some 17 by kernel_rfl).symm.trans hf) |>.symm
      obtain rfl : fn = Tryd.f17 := (Option.some.inj (Tryd.func17.symm.trans hfn)).symm
      exact ⟨by kernel_rfl, fun j t ht => by
        rw [Tryd.params17] at ht
        have hm : t ∈ [64, 3] := by simpa using Array.mem_of_getElem? ht
        have hall : ([64, 3].all fun u => !Tryd.prog.wantsStandIn u) = true := by kernel_rfl
        exact (show Tryd.prog.wantsStandIn t = false by simpa using List.all_eq_true.1 hall t hm)⟩)
    (by kernel_rfl)

end Go.Proofs.YtkcammaccgkflaaDoor
