/-
  AdvertsSums: two sets have one sum of a prefix just if the same results are below it, or two unlike rows of bytes have one digest: they are shown: for every input, where the two tables of package sha hold what its text lays (the card ties them).
-/
import Derived.Test.YtkcammaccgkflaaDoorTF
import Derived.Test.YtkcammaccgkflaaDoorTFX
import Derived.Test.YtkcammaccgkflaaDoorTFY
import Derived.Test.YtkcammaccgkflaaDoorZB
import Derived.Test.YtkcammaccgkflaaDoorCards
import Derived.Test.YtkcammaccgkflaaDoorTie
import Derived.SevenTiedAt
namespace Go.Proofs.YtkcammaccgkflaaDoor
open Go.ChangeShapes Go.WideShapes Go.ChangeAt Go.RowKit
open Go.WideMaps Go.WideElems
open Go

set_option maxRecDepth 100000 in
theorem advertsSums_joined : joinedFacts Tryd.pinned.checked.prog 19 Tryd.f19 Rows.advertsSumsSpec Rows.advertsSumsRow = true := by
  unfold joinedFacts
  simp only [Bool.and_eq_true]
  exact ⟨⟨⟨⟨⟨⟨⟨⟨⟨⟨⟨⟨⟨⟨⟨⟨⟨⟨⟨⟨⟨⟨⟨⟨⟨⟨⟨⟨⟨⟨⟨advertsSums_j0, advertsSums_j1⟩, advertsSums_j2⟩, advertsSums_j3⟩, advertsSums_j4⟩, advertsSums_j5⟩, advertsSums_j6⟩, advertsSums_j7⟩, advertsSums_j8⟩, advertsSums_j9⟩, advertsSums_j10⟩, advertsSums_j11⟩, advertsSums_j12⟩, advertsSums_j13⟩, advertsSums_j14⟩, advertsSums_j15⟩, advertsSums_j16⟩, advertsSums_j17⟩, advertsSums_j18⟩, advertsSums_j19⟩, advertsSums_j20⟩, advertsSums_j21⟩, advertsSums_j22⟩, advertsSums_j23⟩, advertsSums_j24⟩, advertsSums_j25⟩, advertsSums_j26⟩, advertsSums_j27⟩, advertsSums_j28⟩, advertsSums_j29⟩, advertsSums_j30⟩, advertsSums_j31⟩

set_option maxRecDepth 100000 in
theorem advertsSums_lifted (os : Os) (started : os.Started) (H : Type) (enc : TypeId × Value → H) :
    ReturnsInHanded {} Tryd.checked os 19 .any (fun w args => (Rows.advertsSumsSpec.pre enc Tryd.prog Tryd.f19 [] false w args ∧ laidMetH Tryd.prog laidT w) ∧ sizedMet enc Tryd.prog Tryd.f19 (OpenSpec.ofChange Rows.advertsSumsSpec) false w args)
      (Rows.advertsSumsSpec.post enc Tryd.prog Tryd.f19 false true false false) := by
  refine returnsInHanded_of_change_and (C := Tryd.checked) (X := fun w _ => laidMetH Tryd.prog laidT w) (fun _ _ _ hh h => h.of_heap hh) Tryd.own started (by kernel_rfl) Tryd.func19
    (ChangeSpec.witness_shaped (enc := enc) (C := Tryd.checked) (os := os) (X := fun w _ => laidMetH Tryd.prog laidT w) false (World.doorLaid Tryd.prog 19 os) #[.slice none 0 0, .slice none 0 0, .slice none 0 0] 8 rfl (World.shaped_of_RefB (by kernel_rfl) (by kernel_rfl)) (by kernel_rfl) (by kernel_rfl) (by kernel_rfl) (door_met os _)) ?_
  intro W base args ds gs before hval0 hW _ _ hL _
  have hval : ∀ (j : Nat) t v, Tryd.f19.params[j]? = some t → args[j]? = some v → Value.okWide Tryd.prog W .any base t v := hval0
  have hW' := hW
  obtain ⟨p, q, hA0, hV, rfl, hfz, hnd⟩ := hW
  have hA : DataW.TrodAll enc Tryd.prog W 0 (fun _ => true) true Tryd.f19.params.toList args.toList ds p := hA0
  have hT := tabs_of_laid hL
  rw [Tryd.params19] at hA hval
  obtain ⟨v0, vs0, d0, ds0, p0, q0, hargs, rfl, rfl, h0, r0⟩ := trodAll_cons hA
  obtain ⟨v1, vs1, d1, ds1, p1, q1, rfl, rfl, rfl, h1, r1⟩ := trodAll_cons r0
  obtain ⟨v2, vs2, d2, ds2, p2, q2, rfl, rfl, rfl, h2, r2⟩ := trodAll_cons r1
  obtain ⟨rfl, rfl, rfl⟩ := trodAll_nil r2
  obtain rfl : args = #[v0, v1, v2] := by cases args; simp_all
  obtain ⟨A0, L0, c0, rfl, hlm0, hok0, hrow0⟩ := open_atts (hval 0 64 v0 rfl rfl) h0
  obtain ⟨A1, L1, c1, rfl, hlm1, hok1, hrow1⟩ := open_atts (hval 1 64 v1 rfl rfl) h1
  obtain ⟨p2, hp2, rfl, hpm2⟩ := open_bytes (hval 2 22 v2 rfl rfl) h2
  refine (sums_law A0 L0 c0 A1 L1 c1 p2 W hrow0 hlm0 hrow1 hlm1 hp2 hpm2 hT).mono fun e W' ⟨he, hg⟩ => ?_
  subst he
  exact ⟨_, rfl, law_post Tryd.laidOut (by decide +kernel) (by kernel_rfl) Tryd.underlying4 rfl hW' rfl (hg.belowNone (Nat.le_refl _))⟩

theorem advertsSums_row : Rows.AdvertsSumsSaid :=
  OpenClaim.holds_of_wide 19 Tryd.f19 rfl rfl rfl rfl rfl rfl rfl ⟨rfl, rfl, rfl, rfl, rfl⟩ rfl rfl rfl rfl rfl (by kernel_rfl) Tryd.func19 advertsSums_joined
    (of_decide_eq_true (by kernel_rfl)) (by unfold Func.isWrapper; first | (rw [if_pos (by decide +kernel)]; kernel_rfl) | (rw [if_neg (by decide +kernel)]; exact ⟨rfl, rfl⟩))
    (fun os started H enc _ => advertsSums_lifted os started H enc)

theorem advertsSums_holds : Rows.AdvertsSumsCardSaid :=
  Claim7.holds_tied_plain_at .later [] [.data, .data] true (true, "68a5d775ff901897768111386c9f939cac63446331190ee960e3ff2414119937") false
    advertsSums_row (fun _ h => by cases h) (by kernel_rfl) (fun _ h => by cases h) advertsSums_row_tie rfl ⟨rfl, rfl⟩ io_main rfl
    (fun f fn hf hfn => by
      obtain rfl : f = 19 := Option.some.inj ((show Tryd.prog.funcNamed "murmuration/murmurationlaw20.AdvertsSums" = some 19 by kernel_rfl).symm.trans hf) |>.symm
      obtain rfl : fn = Tryd.f19 := (Option.some.inj (Tryd.func19.symm.trans hfn)).symm
      exact ⟨by kernel_rfl, fun j t ht => by
        rw [Tryd.params19] at ht
        have hm : t ∈ [64, 64, 22] := by simpa using Array.mem_of_getElem? ht
        have hall : ([64, 64, 22].all fun u => !Tryd.prog.wantsStandIn u) = true := by kernel_rfl
        exact (show Tryd.prog.wantsStandIn t = false by simpa using List.all_eq_true.1 hall t hm)⟩)
    (by kernel_rfl)

end Go.Proofs.YtkcammaccgkflaaDoor
