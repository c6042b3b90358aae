/-
  The law BuilderWaits: its walk.
-/
import Derived.Test.YtcfpjlojknahlaaG
import Derived.Test.YtcfpjlojknahlaaW
namespace Go.Proofs.Ytcfpjlojknahlaa
open Go.RowKit

def intCells (x : Int) : List Value := [.int .i64 x]
def boolCells (x : Bool) : List Value := [.bool x]

theorem RowsAt.one {α : Type} {w : World} {A : Option Addr} {cells : α → List Value} {L : List α} (h : RowsAt w 1 A cells L) (hne : L ≠ []) :
    ∃ b off, A = some ⟨b, off, none⟩ ∧ b < w.heap.size ∧ ∀ i a, L[i]? = some a → w.cell? ⟨b, off + i, none⟩ = (cells a)[0]? := by
  obtain ⟨b, off, hA, hb, hc⟩ := h hne
  exact ⟨b, off, hA, hb, fun i a hi => by have := hc i a hi 0 (by omega); simpa using this⟩

def waitT (c u : Int) (k : Nat) : T := if k = 0 then T.fresh c u else ⟨c, u, 1, true, 0, false, 0, 0⟩

theorem waitT_made (c u : Int) (k : Nat) : (waitT c u k).made := by
  unfold waitT; split <;> exact Or.inl rfl
theorem waitT_ok (c u : Int) (k : Nat) (hc : 0 ≤ c ∧ c ≤ 1000) (hu : 0 ≤ u ∧ u ≤ 1000000) : (waitT c u k).ok := by
  unfold waitT; split
  · exact ok_small _ _ _ _ (by omega) _ _ _ _
  · exact ok_small _ _ _ _ (by omega) _ _ _ _
theorem waitT_st (c u : Int) (k : Nat) : (waitT c u k).st = 1 := by
  unfold waitT; split <;> rfl

/-- The turn behind a step whose time is not up. -/
theorem waitStep_go (c u : Int) (k : Nat) (now : Int) (y : Bool) (h : now < c) (h0 : k = 0 → now = 0) (hn : 0 ≤ now) :
    stepM (waitT c u k) now ⟨false, false, y, false, false, false, false, false⟩ = (waitT c u (k + 1), if y then 0 else 1) := by
  have hp : pastB now 0 c = false := by unfold pastB; rw [decide_eq_false_iff_not]; omega
  rcases Nat.eq_zero_or_pos k with rfl | hk
  · obtain rfl := h0 rfl
    cases y <;> simp [stepM, stepB, T.begin, waitT, T.fresh, look, hp]
  · have : k ≠ 0 := by omega
    cases y <;> simp [stepM, stepB, T.begin, waitT, look, hp, this]

/-- The turn behind a step whose time is up. -/
theorem waitStep_run (c u : Int) (k : Nat) (now : Int) (y : Bool) (h : c ≤ now) (h0 : k = 0 → now = 0) (hn : 0 ≤ now) :
    stepM (waitT c u k) now ⟨false, false, y, false, false, false, false, false⟩ = (⟨c, u, 3, true, 0, false, 0, 0⟩, 3) := by
  have hp : pastB now 0 c = true := by unfold pastB; rw [decide_eq_true_eq]; omega
  rcases Nat.eq_zero_or_pos k with rfl | hk
  · obtain rfl := h0 rfl
    cases y <;> simp [stepM, stepB, T.begin, waitT, T.fresh, look, hp]
  · have : k ≠ 0 := by omega
    cases y <;> simp [stepM, stepB, T.begin, waitT, look, hp, this]

theorem waitStep_done (c u : Int) (k : Nat) (now : Int) :
    stepM (waitT c u k) now ⟨true, false, true, false, false, false, false, false⟩ = ({ (waitT c u k).begin now with st := 4, ans := 4 }, 4) :=
  stepM_stored _ _ _ (by rw [waitT_st]; omega) rfl

theorem over_false (b : Nat) (t : T) (w : World) (ht : TurnAt w b t) (hm : t.made) (h : t.st ≠ 4) :
    Calls Try.prog 11 #[.pointer (some ⟨b, 0, none⟩)] w fun e w' => e = .returned (.bool false) ∧ w = w' :=
  (over_any b t w ht hm).mono fun _ _ ⟨h1, h2⟩ => ⟨by rw [h1, beq_false_of_ne h], h2⟩
theorem over_true (b : Nat) (t : T) (w : World) (ht : TurnAt w b t) (h : t.st = 4) :
    Calls Try.prog 11 #[.pointer (some ⟨b, 0, none⟩)] w fun e w' => e = .returned (.bool true) ∧ w = w' :=
  (over_any b t w ht (Or.inr (Or.inr (Or.inr h)))).mono fun _ _ ⟨h1, h2⟩ => ⟨by rw [h1, h]; rfl, h2⟩

set_option maxHeartbeats 1000000 in
theorem waits_main (c u : Int) (A : Option Addr) (xs : List Int) (ca : Nat) (D : Option Addr) (ys : List Bool) (cd : Nat) (w : World)
    (hc : 0 ≤ c ∧ c ≤ 1000) (hu : 0 ≤ u ∧ u ≤ 1000000) (hn : xs.length ≤ 200) (hm : xs.length ≤ ys.length) (hA : RowsAt w 1 A intCells xs) (hD : RowsAt w 1 D boolCells ys) :
    Calls Try.prog 6 #[.int .i64 c, .int .i64 u, .slice A xs.length ca, .slice D ys.length cd] w fun e w' => e = .returned (.bool true) ∧ Chg none w w' := by
  obtain ⟨hc0, hc1⟩ := hc
  have e1 : decide (1000 < c) = false := by simp; omega
  have e2 : decide ((200 : Int) < (xs.length : Int)) = false := by simp; omega
  have e3 : decide (ys.length < xs.length) = false := by simp; omega
  go_enter Try.func6, Try.ntmps6
  go_wp2_with fail
  refine (new_yes c u _ (by omega) hu).mono ?_
  rintro e w1 ⟨rfl, h1, g1⟩
  go_wp2_with fail
  have hz := Nat.le_refl w.heap.size
  have hzl := h1.lt
  go_loopw [10, 37] (fun s10 s37 wr => ∃ (k : Nat) (now : Int), k ≤ xs.length ∧ 0 ≤ now ∧ now ≤ 5 * k ∧ now ≤ 1000 ∧ s37 = .int .i64 k ∧ s10 = .int .i64 now ∧
      TurnAt wr w.heap.size (waitT c u k) ∧ Chg none w wr) (fun _ s37 _ => xs.length - (intOf s37).toNat)
  case atStart => exact ⟨0, 0, by omega, by omega, by omega, by omega, rfl, rfl, h1, g1⟩
  case round =>
    obtain ⟨k, now, hk, hn0, hn1, hn2, rfl, rfl, ht, hg⟩ := hrel
    by_cases hlt : k < xs.length
    · have hx : xs[k]? = some xs[k] := List.getElem?_eq_getElem hlt
      have hy : ys[k]? = some ys[k] := List.getElem?_eq_getElem (by omega)
      obtain ⟨ba, oa, hAe, hba, hca⟩ := hA.one (by intro h; simp [h] at hlt)
      obtain ⟨bd, od, hDe, hbd, hcd⟩ := hD.one (by intro h; rw [h, List.length_nil] at hm; omega)
      have ha := (hg.belowNone (Nat.le_refl _)).cell (p := ⟨ba, oa + k, none⟩) hba
      have hd := (hg.belowNone (Nat.le_refl _)).cell (p := ⟨bd, od + k, none⟩) hbd
      rw [hca k _ hx] at ha
      rw [hcd k _ hy] at hd
      simp only [intCells, boolCells, List.getElem?_cons_zero] at ha hd
      generalize xs[k] = x at *
      generalize ys[k] = y at *
      clear hx hy hca hcd hA hD
      subst hAe hDe
      have hz' : w.heap.size ≤ w.heap.size := Nat.le_refl _
      have hko : k = 0 → now = 0 := by omega
      have HK := Lib.hid (show c = c from rfl)
      have hxx : x < 0 ∨ (0 ≤ x ∧ x ≤ 5) ∨ 5 < x := by omega
      rcases hxx with hx | ⟨hx, hx'⟩ | hx
      all_goals
        cases y
        all_goals
          go_wp2_with fail
          all_goals first
            | (refine (step_lit _ _ _ _ _ _ _ _ _ _ _ wr ht (waitT_made c u k) (waitT_ok c u k (by omega) hu) (.mk (by omega) (by omega)) _ (waitStep_run c u k _ _ (by assumption) (by intro h; simp [h] at *; try omega) (by omega))).mono ?_
               rintro e w2 ⟨rfl, h2, g2⟩
               go_wp2_with fail
               refine (known_any _).mono ?_
               rintro e w3 ⟨rfl, g3⟩
               go_wp2_with fail
               go_ret
               exact ⟨rfl, (hg.own g2 hz).trans g3⟩)
            | (refine (step_lit _ _ _ _ _ _ _ _ _ _ _ wr ht (waitT_made c u k) (waitT_ok c u k (by omega) hu) (.mk (by omega) (by omega)) _ (waitStep_go c u k _ _ (by assumption) (by intro h; simp [h] at *; try omega) (by omega))).mono ?_
               rintro e w2 ⟨rfl, h2, g2⟩
               go_wp2_with fail
               refine (over_false _ _ _ h2 (waitT_made _ _ _) (by rw [waitT_st]; omega)).mono ?_
               rintro e w3 ⟨rfl, rfl⟩
               go_wp2_with fail
               go_roundw
               case rel => exact ⟨k + 1, _, by omega, by omega, by omega, by omega, by go_num, rfl, h2, hg.own g2 hz⟩
               case measure => simp [intOf]; omega)
    · go_wp2_with fail
      refine (step_lit _ _ _ _ _ _ _ _ _ _ _ wr ht (waitT_made c u k) (waitT_ok c u k (by omega) hu) (.mk (by omega) (by omega)) _ (waitStep_done c u k _)).mono ?_
      rintro e w2 ⟨rfl, h2, g2⟩
      go_wp2_with fail
      refine (over_true _ _ _ h2 rfl).mono ?_
      rintro e w3 ⟨rfl, rfl⟩
      go_wp2_with fail
      refine (known_any _).mono ?_
      rintro e w3 ⟨rfl, g3⟩
      go_wp2_with fail
      go_ret
      exact ⟨rfl, (hg.own g2 hz).trans g3⟩

end Go.Proofs.Ytcfpjlojknahlaa
