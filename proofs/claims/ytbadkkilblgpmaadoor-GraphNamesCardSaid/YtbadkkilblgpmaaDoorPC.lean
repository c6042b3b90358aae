/-
  Package program: what a text and a number of an instruction may be.
-/
import Derived.Test.YtbadkkilblgpmaaDoorPB
namespace Go.Proofs.YtbadkkilblgpmaaDoor
open Go.RowKit

/-- May the text s stand where a text of the kind k is asked? -/
def textB (k : Nat) (s : List UInt8) : Bool := if k = 112 then pathB s else if k = 119 then decide (0 < s.length) && decide (s.length ≤ 40) else if k = 118 then decide (s.length ≤ 40) else s.isEmpty
/-- May the number n stand where a number of the kind k is asked, in a program of so many instructions? -/
def numB (k : Nat) (n places : Int) : Bool := if k = 110 then decide (0 ≤ n) && decide (n ≤ 2000) else if k = 108 then decide (0 ≤ n) && decide (n ≤ places) else n == 0

set_option maxHeartbeats 4000000 in
theorem text_any (k : Nat) (s : List UInt8) (w : World) (hl : s.length ≤ 9223372036854775807) : Calls Tryd.prog 134 #[.int .i32 k, .string ⟨s.toArray⟩] w fun e w' => e = .returned (.bool (textB k s)) ∧ Chg none w w' := by
  have hsz : (⟨s.toArray⟩ : ByteArray).size = s.length := List.size_toArray
  have hem : ((⟨s.toArray⟩ : ByteArray) == ByteArray.empty) = s.isEmpty := by
    cases s with
    | nil => rfl
    | cons a l => rfl
  by_cases h1 : k = 112
  · subst h1
    have HR := Lib.hid (fun v => ispath_any s v hl)
    have hr : textB 112 s = pathB s := rfl
    rw [hr]
    go_enter Tryd.func134, Tryd.ntmps134
    go_wp2_with fail
    refine (HR.out _).mono ?_
    rintro e w2 ⟨rfl, hc⟩
    go_wp2_with fail
    go_ret
    exact ⟨rfl, hc⟩
  have d1 : ((k : Int) == 112) = false := by rw [beq_eq_false_iff_ne]; omega
  by_cases h2 : k = 119
  · subst h2
    by_cases h3 : 0 < s.length
    · have e1 : decide (0 < s.length) = true := decide_eq_true h3
      by_cases h4 : s.length ≤ 40
      · have e2 : decide ((s.length : Int) ≤ 40) = true := by rw [decide_eq_true_eq]; omega
        have hr : textB 119 s = true := by unfold textB; simp [h3, h4]
        rw [hr]
        clear hr h3 h4
        go_enter Tryd.func134, Tryd.ntmps134
        go_wp2_with fail
        go_ret
        exact ⟨rfl, Chg.refl _ _⟩
      · have e2 : decide ((s.length : Int) ≤ 40) = false := by rw [decide_eq_false_iff_not]; omega
        have hr : textB 119 s = false := by unfold textB; simp [h3, h4]
        rw [hr]
        clear hr h3 h4
        go_enter Tryd.func134, Tryd.ntmps134
        go_wp2_with fail
        go_ret
        exact ⟨rfl, Chg.refl _ _⟩
    · have e1 : decide (0 < s.length) = false := decide_eq_false h3
      have hr : textB 119 s = false := by unfold textB; simp [h3]
      rw [hr]
      clear hr h3
      go_enter Tryd.func134, Tryd.ntmps134
      go_wp2_with fail
      go_ret
      exact ⟨rfl, Chg.refl _ _⟩
  have d2 : ((k : Int) == 119) = false := by rw [beq_eq_false_iff_ne]; omega
  by_cases h3 : k = 118
  · subst h3
    by_cases h4 : s.length ≤ 40
    · have e2 : decide ((s.length : Int) ≤ 40) = true := by rw [decide_eq_true_eq]; omega
      have hr : textB 118 s = true := by unfold textB; simp [h4]
      rw [hr]
      clear hr h4
      go_enter Tryd.func134, Tryd.ntmps134
      go_wp2_with fail
      go_ret
      exact ⟨rfl, Chg.refl _ _⟩
    · have e2 : decide ((s.length : Int) ≤ 40) = false := by rw [decide_eq_false_iff_not]; omega
      have hr : textB 118 s = false := by unfold textB; simp [h4]
      rw [hr]
      clear hr h4
      go_enter Tryd.func134, Tryd.ntmps134
      go_wp2_with fail
      go_ret
      exact ⟨rfl, Chg.refl _ _⟩
  have d3 : ((k : Int) == 118) = false := by rw [beq_eq_false_iff_ne]; omega
  have hr : textB k s = s.isEmpty := by unfold textB; simp [h1, h2, h3]
  rw [hr]
  clear hr h1 h2 h3
  go_enter Tryd.func134, Tryd.ntmps134
  go_wp2_with fail
  go_ret
  exact ⟨by first | rfl | simp, Chg.refl _ _⟩

set_option maxHeartbeats 4000000 in
theorem num_any (k : Nat) (n places : Int) (w : World) : Calls Tryd.prog 135 #[.int .i32 k, .int .i64 n, .int .i64 places] w fun e w' => e = .returned (.bool (numB k n places)) ∧ w' = w := by
  by_cases h1 : k = 110
  · subst h1
    by_cases h3 : 0 ≤ n
    · have e1 : decide (0 ≤ n) = true := decide_eq_true h3
      by_cases h4 : n ≤ 2000
      · have e2 : decide (n ≤ 2000) = true := decide_eq_true h4
        have hr : numB 110 n places = true := by unfold numB; simp [h3, h4]
        rw [hr]
        clear hr h3 h4
        go_enter Tryd.func135, Tryd.ntmps135
        go_wp2_with fail
        go_ret
        exact ⟨rfl, rfl⟩
      · have e2 : decide (n ≤ 2000) = false := decide_eq_false h4
        have hr : numB 110 n places = false := by unfold numB; simp [h3, h4]
        rw [hr]
        clear hr h3 h4
        go_enter Tryd.func135, Tryd.ntmps135
        go_wp2_with fail
        go_ret
        exact ⟨rfl, rfl⟩
    · have e1 : decide (0 ≤ n) = false := decide_eq_false h3
      have hr : numB 110 n places = false := by unfold numB; simp [h3]
      rw [hr]
      clear hr h3
      go_enter Tryd.func135, Tryd.ntmps135
      go_wp2_with fail
      go_ret
      exact ⟨rfl, rfl⟩
  have d1 : ((k : Int) == 110) = false := by rw [beq_eq_false_iff_ne]; omega
  by_cases h2 : k = 108
  · subst h2
    by_cases h3 : 0 ≤ n
    · have e1 : decide (0 ≤ n) = true := decide_eq_true h3
      by_cases h4 : n ≤ places
      · have e2 : decide (n ≤ places) = true := decide_eq_true h4
        have hr : numB 108 n places = true := by unfold numB; simp [h3, h4]
        rw [hr]
        clear hr h3 h4
        go_enter Tryd.func135, Tryd.ntmps135
        go_wp2_with fail
        go_ret
        exact ⟨rfl, rfl⟩
      · have e2 : decide (n ≤ places) = false := decide_eq_false h4
        have hr : numB 108 n places = false := by unfold numB; simp [h3, h4]
        rw [hr]
        clear hr h3 h4
        go_enter Tryd.func135, Tryd.ntmps135
        go_wp2_with fail
        go_ret
        exact ⟨rfl, rfl⟩
    · have e1 : decide (0 ≤ n) = false := decide_eq_false h3
      have hr : numB 108 n places = false := by unfold numB; simp [h3]
      rw [hr]
      clear hr h3
      go_enter Tryd.func135, Tryd.ntmps135
      go_wp2_with fail
      go_ret
      exact ⟨rfl, rfl⟩
  have d2 : ((k : Int) == 108) = false := by rw [beq_eq_false_iff_ne]; omega
  have hr : numB k n places = (n == 0) := by unfold numB; simp [h1, h2]
  rw [hr]
  clear hr h1 h2
  go_enter Tryd.func135, Tryd.ntmps135
  go_wp2_with fail
  go_ret
  exact ⟨rfl, rfl⟩

end Go.Proofs.YtbadkkilblgpmaaDoor
