/-
  The law MemberGrows: it answers true at every input.
  No condition narrows it.
-/
import Derived.Test.YtiehbbbncmdchaaGrows
import Derived.Test.YtiehbbbncmdchaaV
namespace Go.Proofs.Ytiehbbbncmdchaa
open Go.ChangeShapes Go.WideShapes Go.ChangeAt Go.RowKit
open Go.WideMaps Go.WideElems

set_option maxHeartbeats 1000000 in
theorem grows_short (s c inc : Int) (A : Option Addr) (n ca : Nat) (w : World) (hi : 0 ≤ inc) (hx : (0 ≤ s ∧ s < c ∧ c ≤ 16 ∧ inc ≤ 1099511627776) → 100 < n) :
    Calls Try.prog 5 #[.int .i64 s, .int .i64 c, .int .u64 inc, .slice A n ca] w fun e w' => e = .returned (.bool true) ∧ Chg none w w' := by
  by_cases hok : 0 ≤ s ∧ s < c ∧ c ≤ 16 ∧ inc ≤ 1099511627776
  · have hy := hx hok
    obtain ⟨s', rfl⟩ := Int.eq_ofNat_of_zero_le hok.1
    obtain ⟨c', rfl⟩ := Int.eq_ofNat_of_zero_le (show 0 ≤ c by omega)
    have hN := fun W => new_yes s' c' inc W (by omega) (by omega) (by omega)
    have HN := Lib.hid hN
    clear hN hx hok hi
    go_enter Try.func5, Try.ntmps5
    go_wp2_with fail
    refine (HN.out _).mono ?_
    rintro e w1 ⟨rfl, h1, g1⟩
    go_wp2_with fail
    refine (known_any _).mono ?_
    rintro e w3 ⟨rfl, g3⟩
    go_wp2_with fail
    go_ret
    exact ⟨rfl, g1.trans g3⟩
  · have hN := fun W => new_no s c inc W hok
    have HN := Lib.hid hN
    clear hN hx hok hi
    go_enter Try.func5, Try.ntmps5
    go_wp2_with fail
    refine (HN.out _).mono ?_
    rintro e w1 ⟨rfl, rfl⟩
    go_wp2_with fail
    refine (known_any _).mono ?_
    rintro e w3 ⟨rfl, g3⟩
    go_wp2_with fail
    go_ret
    exact ⟨rfl, g3⟩

theorem grows_all (s c inc : Int) (A : Option Addr) (L : List Opn) (ca : Nat) (w : World) (hi : 0 ≤ inc) (hA : RowsAt w 4 A Opn.cells L) (hL : ∀ o ∈ L, o.u.wide) :
    Calls Try.prog 5 #[.int .i64 s, .int .i64 c, .int .u64 inc, .slice A L.length ca] w fun e w' => e = .returned (.bool true) ∧ Chg none w w' := by
  by_cases h : (0 ≤ s ∧ s < c ∧ c ≤ 16 ∧ inc ≤ 1099511627776) ∧ ¬ 100 < L.length
  · obtain ⟨s', rfl⟩ := Int.eq_ofNat_of_zero_le h.1.1
    obtain ⟨c', rfl⟩ := Int.eq_ofNat_of_zero_le (show 0 ≤ c by omega)
    exact grows_main s' c' inc A L ca w (by omega) (by omega) (by omega) (by omega) hA (fun u hu => (hL u hu).2.2.1)
  · exact grows_short s c inc A L.length ca w hi (fun hok => by omega)

theorem two_parts {cs d : List Value} {v : Value} (hl : cs.length = 4) (h0 : (cs.drop 0).take 1 = [v]) (h1 : (cs.drop 1).take 3 = d) : cs = v :: d := by
  cases cs with
  | nil => cases hl
  | cons c cs' =>
    rw [List.length_cons] at hl
    rw [List.drop_zero, List.take_succ_cons, List.take_zero] at h0
    rw [List.drop_succ_cons, List.drop_zero, List.take_of_length_le (by omega)] at h1
    rw [h1]
    cases h0
    rfl

theorem open_op {H : Type} {enc : TypeId × Value → H} {w : World} {base : Nat} {spare : Nat → Bool} {held : Bool} (n : Nat) (cs : List Value) (x) (h : DataW.trod enc Try.prog w base spare held n 33 cs = some x) :
    ∃ o : Opn, o.u.wide ∧ cs = o.cells := by
  obtain ⟨xs, m, _, _, hlen, hxl, hf⟩ := DataW.trod_struct Try.underlying33 h
  have h33 : Try.prog.cellsOf 33 = 4 := by kernel_rfl
  have h31 : Try.prog.cellsOf 31 = 3 := by kernel_rfl
  have h3 : Try.prog.cellsOf 3 = 1 := by kernel_rfl
  rw [h33] at hlen
  have hxl : xs.length = 2 := hxl
  have e0 := hf 0 _ rfl
  have e1 := hf 1 _ rfl
  rw [List.getElem?_eq_getElem (by omega)] at e0 e1
  change DataW.trod enc Try.prog w base spare held m 3 ((cs.drop 0).take (Try.prog.cellsOf 3)) = _ at e0
  change DataW.trod enc Try.prog w base spare held m 31 ((cs.drop 1).take (Try.prog.cellsOf 31)) = _ at e1
  rw [h3] at e0
  rw [h31] at e1
  obtain ⟨a, hc0, _⟩ := DataW.trod_int Try.underlying3 e0
  obtain ⟨u, hu, hc1⟩ := open_upd _ _ _ e1
  refine ⟨⟨a, u⟩, hu, ?_⟩
  exact two_parts hlen hc0 hc1

set_option maxRecDepth 100000 in
theorem grows_lifted (os : Os) (started : os.Started) (H : Type) (enc : TypeId × Value → H) :
    ReturnsInHanded {} Try.checked os 5 .any (Rows.memberGrowsSpec.pre6 enc Try.prog Try.f5 Rows.memberGrowsRow.domain false) (Rows.memberGrowsSpec.post enc Try.prog Try.f5 false true false false) := by
  refine returnsInHanded_of_change (C := Try.checked) Try.own started (by kernel_rfl) Try.func5
    (ChangeSpec.witness6 (enc := enc) (C := Try.checked) false ⟨#[], #[.int .i64 0, .int .i64 0, .int .u64 0, .slice none 0 0], []⟩ 8 (by kernel_rfl) (by kernel_rfl) (by kernel_rfl) (by kernel_rfl)) ?_
  intro W base args ds gs before hval0 hW _ _
  have hval : ∀ (j : Nat) t v, Try.f5.params[j]? = some t → args[j]? = some v → Value.okWide Try.prog W .any base t v := hval0
  have hW' := hW
  obtain ⟨p, q, hA0, hV, rfl, hfz, hnd⟩ := hW
  have hA : DataW.TrodAll enc Try.prog W 0 (fun _ => true) true Try.f5.params.toList args.toList ds p := hA0
  rw [Try.params5] at hA hval
  obtain ⟨v0, vs0, d0, ds0, p0, q0, hargs, rfl, rfl, h0, r0⟩ := trodAll_cons hA
  obtain ⟨v1, vs1, d1, ds1, p1, q1, rfl, rfl, rfl, h1, r1⟩ := trodAll_cons r0
  obtain ⟨v2, vs2, d2, ds2, p2, q2, rfl, rfl, rfl, h2, r2⟩ := trodAll_cons r1
  obtain ⟨v3, vs3, d3, ds3, p3, q3, rfl, rfl, rfl, h3, r3⟩ := trodAll_cons r2
  obtain ⟨rfl, rfl, rfl⟩ := trodAll_nil r3
  obtain rfl : args = #[v0, v1, v2, v3] := by cases args; simp_all
  obtain ⟨s, rfl, rfl, rfl, _⟩ := open_int Try.underlying3 (hval 0 3 v0 rfl rfl) h0
  obtain ⟨c, rfl, rfl, rfl, _⟩ := open_int Try.underlying3 (hval 1 3 v1 rfl rfl) h1
  obtain ⟨inc, rfl, rfl, rfl, wi⟩ := open_int Try.underlying22 (hval 2 22 v2 rfl rfl) h2
  obtain ⟨A, L, ca, rfl, _, _, hLw, hL⟩ := open_rows Opn.cells (fun o => o.u.wide) Try.underlying23 (k := 4) (by kernel_rfl) (by omega) open_op (hval 3 23 v3 rfl rfl) h3
  refine (grows_all s c inc A L ca W (wf_u64 wi).1 hL hLw).mono fun e W' ⟨he, hg⟩ => ?_
  subst he
  exact ⟨_, rfl, law_post Try.laidOut (by decide +kernel) (by kernel_rfl) Try.underlying4 rfl hW' rfl (hg.belowNone (Nat.le_refl _))⟩

theorem grows_holds : Rows.MemberGrowsSaid :=
  OpenClaim.holds_of_wide 5 Try.f5 rfl rfl rfl rfl rfl rfl rfl ⟨rfl, rfl, rfl, rfl, rfl⟩ rfl rfl rfl rfl rfl (by kernel_rfl) Try.func5 (by kernel_rfl)
    (of_decide_eq_true (by kernel_rfl)) (by unfold Func.isWrapper; rw [if_neg (of_decide_eq_false (by kernel_rfl))]; exact ⟨rfl, rfl⟩)
    (fun os started H enc _ => grows_lifted os started H enc)

end Go.Proofs.Ytiehbbbncmdchaa
