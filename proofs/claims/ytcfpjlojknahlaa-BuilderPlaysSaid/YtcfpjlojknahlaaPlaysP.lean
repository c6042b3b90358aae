/-
  The law BuilderPlays: it answers true at every input.
  No condition narrows it.
-/
import Derived.Test.YtcfpjlojknahlaaPlays
namespace Go.Proofs.Ytcfpjlojknahlaa
open Go.ChangeShapes Go.WideShapes Go.ChangeAt Go.RowKit
open Go.WideMaps Go.WideElems

set_option maxRecDepth 100000 in
set_option maxHeartbeats 4000000 in
theorem plays_not (c u : Int) (A : Option Addr) (n ca : Nat) (w : World) (hok : ¬ ((0 ≤ c ∧ c ≤ 1000000) ∧ (0 ≤ u ∧ u ≤ 1000000))) :
    Calls Try.prog 3 #[.int .i64 c, .int .i64 u, .slice A n ca] w fun e w' => e = .returned (.bool true) ∧ Chg none w w' := by
  have hN := fun W => new_no c u W hok
  have HN := Lib.hid hN
  clear hN
  by_cases h1 : 0 ≤ c
  · have p1 : decide (0 ≤ c) = true := by simpa using h1
    by_cases h2 : 0 ≤ u
    · have p2 : decide (0 ≤ u) = true := by simpa using h2
      by_cases h3 : c ≤ 1000000
      · have p3 : decide (c ≤ 1000000) = true := by simpa using h3
        have p4 : decide (u ≤ 1000000) = false := by simp; omega
        clear h1 h2 h3
        by_cases hn : n ≤ 200
        · have e2 : decide ((200 : Int) < (n : Int)) = false := by simp; omega
          clear hok hn
          go_enter Try.func3, Try.ntmps3
          go_wp2_with fail
          refine (HN.out _).mono ?_
          rintro e w1 ⟨rfl, rfl⟩
          go_wp2_with fail
          refine (known_any _).mono ?_
          rintro e w2 ⟨rfl, g2⟩
          go_wp2_with fail
          go_ret
          exact ⟨rfl, g2⟩
        · have e2 : decide ((200 : Int) < (n : Int)) = true := by simp; omega
          clear hok hn
          go_enter Try.func3, Try.ntmps3
          go_wp2_with fail
          refine (HN.out _).mono ?_
          rintro e w1 ⟨rfl, rfl⟩
          go_wp2_with fail
          refine (known_any _).mono ?_
          rintro e w2 ⟨rfl, g2⟩
          go_wp2_with fail
          go_ret
          exact ⟨rfl, g2⟩
      · have p3 : decide (c ≤ 1000000) = false := by simpa using h3
        clear h1 h2 h3
        by_cases hn : n ≤ 200
        · have e2 : decide ((200 : Int) < (n : Int)) = false := by simp; omega
          clear hok hn
          go_enter Try.func3, Try.ntmps3
          go_wp2_with fail
          refine (HN.out _).mono ?_
          rintro e w1 ⟨rfl, rfl⟩
          go_wp2_with fail
          refine (known_any _).mono ?_
          rintro e w2 ⟨rfl, g2⟩
          go_wp2_with fail
          go_ret
          exact ⟨rfl, g2⟩
        · have e2 : decide ((200 : Int) < (n : Int)) = true := by simp; omega
          clear hok hn
          go_enter Try.func3, Try.ntmps3
          go_wp2_with fail
          refine (HN.out _).mono ?_
          rintro e w1 ⟨rfl, rfl⟩
          go_wp2_with fail
          refine (known_any _).mono ?_
          rintro e w2 ⟨rfl, g2⟩
          go_wp2_with fail
          go_ret
          exact ⟨rfl, g2⟩
    · have p2 : decide (0 ≤ u) = false := by simpa using h2
      clear h1 h2
      by_cases hn : n ≤ 200
      · have e2 : decide ((200 : Int) < (n : Int)) = false := by simp; omega
        clear hok hn
        go_enter Try.func3, Try.ntmps3
        go_wp2_with fail
        refine (HN.out _).mono ?_
        rintro e w1 ⟨rfl, rfl⟩
        go_wp2_with fail
        refine (known_any _).mono ?_
        rintro e w2 ⟨rfl, g2⟩
        go_wp2_with fail
        go_ret
        exact ⟨rfl, g2⟩
      · have e2 : decide ((200 : Int) < (n : Int)) = true := by simp; omega
        clear hok hn
        go_enter Try.func3, Try.ntmps3
        go_wp2_with fail
        refine (HN.out _).mono ?_
        rintro e w1 ⟨rfl, rfl⟩
        go_wp2_with fail
        refine (known_any _).mono ?_
        rintro e w2 ⟨rfl, g2⟩
        go_wp2_with fail
        go_ret
        exact ⟨rfl, g2⟩
  · have p1 : decide (0 ≤ c) = false := by simpa using h1
    clear h1
    by_cases hn : n ≤ 200
    · have e2 : decide ((200 : Int) < (n : Int)) = false := by simp; omega
      clear hok hn
      go_enter Try.func3, Try.ntmps3
      go_wp2_with fail
      refine (HN.out _).mono ?_
      rintro e w1 ⟨rfl, rfl⟩
      go_wp2_with fail
      refine (known_any _).mono ?_
      rintro e w2 ⟨rfl, g2⟩
      go_wp2_with fail
      go_ret
      exact ⟨rfl, g2⟩
    · have e2 : decide ((200 : Int) < (n : Int)) = true := by simp; omega
      clear hok hn
      go_enter Try.func3, Try.ntmps3
      go_wp2_with fail
      refine (HN.out _).mono ?_
      rintro e w1 ⟨rfl, rfl⟩
      go_wp2_with fail
      refine (known_any _).mono ?_
      rintro e w2 ⟨rfl, g2⟩
      go_wp2_with fail
      go_ret
      exact ⟨rfl, g2⟩

set_option maxRecDepth 100000 in
set_option maxHeartbeats 4000000 in
theorem plays_long (c u : Int) (A : Option Addr) (n ca : Nat) (w : World) (hc : 0 ≤ c ∧ c ≤ 1000000) (hu : 0 ≤ u ∧ u ≤ 1000000) (hn : 200 < n) :
    Calls Try.prog 3 #[.int .i64 c, .int .i64 u, .slice A n ca] w fun e w' => e = .returned (.bool true) ∧ Chg none w w' := by
  have hN := new_yes c u w hc hu
  obtain ⟨q1, q2⟩ := hc
  obtain ⟨q3, q4⟩ := hu
  have p1 : decide (0 ≤ c) = true := by simpa using q1
  have p2 : decide (c ≤ 1000000) = true := by simpa using q2
  have p3 : decide (0 ≤ u) = true := by simpa using q3
  have p4 : decide (u ≤ 1000000) = true := by simpa using q4
  have e2 : decide ((200 : Int) < (n : Int)) = true := by simp; omega
  have HN := Lib.hid hN
  clear hN hn
  go_enter Try.func3, Try.ntmps3
  go_wp2_with fail
  refine HN.out.mono ?_
  rintro e w1 ⟨rfl, h1, g1⟩
  go_wp2_with fail
  refine (known_any _).mono ?_
  rintro e w2 ⟨rfl, g2⟩
  go_wp2_with fail
  go_ret
  exact ⟨rfl, g1.trans g2⟩

theorem plays_all (c u : Int) (A : Option Addr) (L : List (Int × F)) (ca : Nat) (w : World) (hA : RowsAt w 9 A toldCells L) :
    Calls Try.prog 3 #[.int .i64 c, .int .i64 u, .slice A L.length ca] w fun e w' => e = .returned (.bool true) ∧ Chg none w w' := by
  by_cases hok : (0 ≤ c ∧ c ≤ 1000000) ∧ (0 ≤ u ∧ u ≤ 1000000)
  · by_cases hn : L.length ≤ 200
    · exact plays_main c u A L ca w hok.1 hok.2 hn hA
    · exact plays_long c u A L.length ca w hok.1 hok.2 (by omega)
  · exact plays_not c u A L.length ca w hok

theorem open_told {H : Type} {enc : TypeId × Value → H} {w : World} {base : Nat} {spare : Nat → Bool} {held : Bool} (n : Nat) (cs : List Value) (x) (h : DataW.trod enc Try.prog w base spare held n 30 cs = some x) :
    ∃ o : Int × F, True ∧ cs = toldCells o := by
  obtain ⟨o, _, h2⟩ := open_opn n cs x h
  exact ⟨o, trivial, h2⟩

set_option maxRecDepth 100000 in
theorem plays_lifted (os : Os) (started : os.Started) (H : Type) (enc : TypeId × Value → H) :
    ReturnsInHanded {} Try.checked os 3 .any (Rows.builderPlaysSpec.pre6 enc Try.prog Try.f3 Rows.builderPlaysRow.domain false) (Rows.builderPlaysSpec.post enc Try.prog Try.f3 false true false false) := by
  refine returnsInHanded_of_change (C := Try.checked) Try.own started (by kernel_rfl) Try.func3
    (ChangeSpec.witness6 (enc := enc) (C := Try.checked) false ⟨#[], #[.int .i64 0, .int .i64 0, .slice none 0 0], []⟩ 8 (by kernel_rfl) (by kernel_rfl) (by kernel_rfl) (by kernel_rfl)) ?_
  intro W base args ds gs before hval0 hW _ _
  have hval : ∀ (j : Nat) t v, Try.f3.params[j]? = some t → args[j]? = some v → Value.okWide Try.prog W .any base t v := hval0
  have hW' := hW
  obtain ⟨p, q, hA0, hV, rfl, hfz, hnd⟩ := hW
  have hA : DataW.TrodAll enc Try.prog W 0 (fun _ => true) true Try.f3.params.toList args.toList ds p := hA0
  rw [Try.params3] at hA hval
  obtain ⟨v0, vs0, d0, ds0, p0, q0, hargs, rfl, rfl, h0, r0⟩ := trodAll_cons hA
  obtain ⟨v1, vs1, d1, ds1, p1, q1, rfl, rfl, rfl, h1, r1⟩ := trodAll_cons r0
  obtain ⟨v2, vs2, d2, ds2, p2, q2, rfl, rfl, rfl, h2, r2⟩ := trodAll_cons r1
  obtain ⟨rfl, rfl, rfl⟩ := trodAll_nil r2
  obtain rfl : args = #[v0, v1, v2] := by cases args; simp_all
  obtain ⟨c, rfl, rfl, rfl, _⟩ := open_int Try.underlying3 (hval 0 3 v0 rfl rfl) h0
  obtain ⟨u, rfl, rfl, rfl, _⟩ := open_int Try.underlying3 (hval 1 3 v1 rfl rfl) h1
  obtain ⟨A, L, ca, rfl, _, _, _, hL⟩ := open_rows toldCells (fun _ => True) Try.underlying22 (k := 9) (by kernel_rfl) (by omega) open_told (hval 2 22 v2 rfl rfl) h2
  refine (plays_all c u A L ca W hL).mono fun e W' ⟨he, hg⟩ => ?_
  subst he
  exact ⟨_, rfl, law_post Try.laidOut (by decide +kernel) (by kernel_rfl) Try.underlying4 rfl hW' rfl (hg.belowNone (Nat.le_refl _))⟩

theorem plays_holds : Rows.BuilderPlaysSaid :=
  OpenClaim.holds_of_wide 3 Try.f3 rfl rfl rfl rfl rfl rfl rfl ⟨rfl, rfl, rfl, rfl, rfl⟩ rfl rfl rfl rfl rfl (by kernel_rfl) Try.func3 (by kernel_rfl)
    (of_decide_eq_true (by kernel_rfl)) (by unfold Func.isWrapper; rw [if_neg (of_decide_eq_false (by kernel_rfl))]; exact ⟨rfl, rfl⟩)
    (fun os started H enc _ => plays_lifted os started H enc)

end Go.Proofs.Ytcfpjlojknahlaa
