/-
  TreePaths, walked.
-/
import Derived.Test.YtglfakglcoffkaaTK
namespace Go.Proofs.Ytglfakglcoffkaa
open Go.RowKit

/-- Does the text end behind a / (or, being empty, begin behind one)? -/
def lastB : Bool → List UInt8 → Bool
  | c, [] => c
  | _, x :: l => lastB (x.toNat == 47) l
def preB : Bool → List UInt8 → Bool
  | _, [] => true
  | c, x :: l => okC x.toNat && !(x.toNat == 47 && c) && preB (x.toNat == 47) l
theorem pathFrom_app : ∀ (c : Bool) (a t : List UInt8), pathFrom c (a ++ t) = (preB c a && pathFrom (lastB c a) t)
  | c, [], t => by simp [preB, lastB]
  | c, x :: l, t => by
    rw [List.cons_append, pathFrom, preB, lastB, pathFrom_app (x.toNat == 47) l t, Bool.and_assoc, Bool.and_assoc, Bool.and_assoc]
theorem pathFrom_parts (c : Bool) (a : List UInt8) : pathFrom c a = (preB c a && !lastB c a) := by
  have h := pathFrom_app c a []
  rw [List.append_nil] at h
  exact h
theorem pathB_join (a b : List UInt8) : pathB (a ++ [47] ++ b) = (pathB a && pathB b && decide (a.length + b.length + 1 ≤ 40)) := by
  have h1 : pathFrom true (a ++ [47] ++ b) = (pathFrom true a && pathFrom true b) := by
    rw [List.append_assoc, pathFrom_app, pathFrom_parts true a]
    show (preB true a && (okC 47 && !(true && lastB true a) && pathFrom true b)) = _
    rw [show okC 47 = true from rfl, Bool.true_and, Bool.true_and, Bool.and_assoc]
  have n1 : pathFrom true a = true → 1 ≤ a.length := fun h => by
    cases a with
    | nil => exact absurd h (by decide)
    | cons x l => simp
  have n2 : pathFrom true b = true → 1 ≤ b.length := fun h => by
    cases b with
    | nil => exact absurd h (by decide)
    | cons x l => simp
  unfold pathB
  rw [h1]
  cases h2 : pathFrom true a with
  | false => simp
  | true =>
    cases h3 : pathFrom true b with
    | false => simp
    | true =>
      have := n1 h2
      have := n2 h3
      have e1 : (a ++ [47] ++ b).length = a.length + b.length + 1 := by simp; omega
      rw [e1]
      by_cases h4 : a.length + b.length + 1 ≤ 40
      · rw [decide_eq_true h4, decide_eq_true (show 1 ≤ a.length + b.length + 1 by omega), decide_eq_true (n1 h2), decide_eq_true (n2 h3), decide_eq_true (show a.length ≤ 40 by omega), decide_eq_true (show b.length ≤ 40 by omega)]; rfl
      · rw [decide_eq_false h4, Bool.and_false, Bool.and_false, Bool.false_and]
theorem pathB_two (a b : List UInt8) : pathB (a ++ [47, 47] ++ b) = false := by
  have h1 : pathFrom true (a ++ [47, 47] ++ b) = false := by
    rw [List.append_assoc, pathFrom_app]
    show (preB true a && (okC 47 && !(true && lastB true a) && (okC 47 && false && pathFrom true b))) = false
    simp
  unfold pathB
  rw [h1, Bool.and_false]
theorem pathB_first (a : List UInt8) : pathB ([47] ++ a) = false := by
  have h1 : pathFrom true ([47] ++ a) = false := by
    show (okC 47 && false && pathFrom true a) = false
    simp
  unfold pathB
  rw [h1, Bool.and_false]

def IsB (w : World) (B : Bool) (s : Value) (w' : World) : Prop := s = .bool B ∧ Chg none w w'

set_option maxHeartbeats 16000000 in
set_option maxRecDepth 100000 in
theorem paths_law (a b : List UInt8) (w : World) (ha : a.length ≤ 9223372036854775807) (hb : b.length ≤ 9223372036854775807) :
    Calls Try.prog 8 #[.string ⟨a.toArray⟩, .string ⟨b.toArray⟩] w fun e w' => e = .returned (.bool true) ∧ Chg none w w' := by
  have HK := Lib.hid (fun v => known5_any v)
  by_cases hA : a.length ≤ 100
  rotate_left
  · have d1 : decide ((100 : Int) < (a.length : Int)) = true := by rw [decide_eq_true_eq]; omega
    clear hA ha hb
    go_enter Try.func8, Try.ntmps8
    go_wp2_with fail
    refine (HK.out _).mono ?_
    rintro e w2 ⟨rfl, g2⟩
    go_wp2_with fail
    go_ret
    exact ⟨rfl, g2⟩
  have d1 : decide ((100 : Int) < (a.length : Int)) = false := by rw [decide_eq_false_iff_not]; omega
  by_cases hB : b.length ≤ 100
  rotate_left
  · have d2 : decide ((100 : Int) < (b.length : Int)) = true := by rw [decide_eq_true_eq]; omega
    clear hA ha hb hB
    go_enter Try.func8, Try.ntmps8
    go_wp2_with fail
    refine (HK.out _).mono ?_
    rintro e w2 ⟨rfl, g2⟩
    go_wp2_with fail
    go_ret
    exact ⟨rfl, g2⟩
  have d2 : decide ((100 : Int) < (b.length : Int)) = false := by rw [decide_eq_false_iff_not]; omega
  have HPA := Lib.hid (fun v => ispath_any a v ha)
  have HPB := Lib.hid (fun v => ispath_any b v hb)
  have HAL := Lib.hid hA
  have HBL := Lib.hid hB
  have HJ : Hid (∀ v, Calls Try.prog 14 #[.string ⟨(a ++ [47] ++ b).toArray⟩] v fun e w' => e = .returned (.bool (pathB a && pathB b && decide (a.length + b.length + 1 ≤ 40))) ∧ Chg none v w') := fun v => by
    have h := ispath_any (a ++ [47] ++ b) v (by simp; omega)
    rwa [pathB_join] at h
  have HD : Hid (∀ v, Calls Try.prog 14 #[.string ⟨(a ++ [47, 47] ++ b).toArray⟩] v fun e w' => e = .returned (.bool false) ∧ Chg none v w') := fun v => by
    have h := ispath_any (a ++ [47, 47] ++ b) v (by simp; omega)
    rwa [pathB_two] at h
  have HF : Hid (∀ v, Calls Try.prog 14 #[.string ⟨([47] ++ a).toArray⟩] v fun e w' => e = .returned (.bool false) ∧ Chg none v w') := fun v => by
    have h := ispath_any ([47] ++ a) v (by simp; omega)
    rwa [pathB_first] at h
  obtain ⟨B, HB⟩ : ∃ B : Bool, Hid ((pathB a && pathB b && decide (a.length + b.length + 1 ≤ 40)) = B) := ⟨_, Lib.hid rfl⟩
  rw [HB.out] at HJ
  clear ha hb hA hB
  go_enter Try.func8, Try.ntmps8
  go_upto_region 3 with fail
  go_cut [5] from 15 to 29 (fun s5 wx => IsB w B s5 wx)
  case first =>
    cases hpa : pathB a with
    | false =>
      have hBF : B = false := by rw [← HB.out, hpa]; rfl
      rw [hpa] at HPA
      clear HJ HD HF HK HPB HB hpa
      go_wp2_with fail
      refine (HPA.out _).mono ?_
      rintro e w2 ⟨rfl, g2⟩
      go_wp2_with fail
      go_meet
      case rel => exact ⟨by rw [hBF], g2⟩
    | true =>
      cases hpb : pathB b with
      | false =>
        have hBF : B = false := by rw [← HB.out, hpa, hpb]; rfl
        rw [hpa] at HPA
        rw [hpb] at HPB
        clear HJ HD HF HK HB hpa hpb
        go_wp2_with fail
        refine (HPA.out _).mono ?_
        rintro e w2 ⟨rfl, g2⟩
        have G2 := Lib.hid g2
        clear g2
        go_wp2_with fail
        refine (HPB.out _).mono ?_
        rintro e w3 ⟨rfl, g3⟩
        have G3 := Lib.hid (G2.out.trans g3)
        clear g3
        go_wp2_with fail
        go_meet
        case rel => exact ⟨by rw [hBF], G3.out⟩
      | true =>
        have hBF : decide (a.length + b.length + 1 ≤ 40) = B := by rw [← HB.out, hpa, hpb]; rfl
        have HBF := Lib.hid hBF
        rw [hpa] at HPA
        rw [hpb] at HPB
        have h1 := HAL.out
        have h2 := HBL.out
        have e5 : decide (wrap64 (wrap64 ((a.length : Int) + (b.length : Int)) + 1) ≤ 40) = B := by
          rw [show wrap64 (wrap64 ((a.length : Int) + (b.length : Int)) + 1) = (a.length : Int) + (b.length : Int) + 1 from by unfold wrap64; omega, ← hBF]
          congr 1
          apply propext
          omega
        have E5 := Lib.hid e5
        clear e5
        clear HJ HD HF HK HB hpa hpb h1 h2 hBF
        go_wp2_with fail
        refine (HPA.out _).mono ?_
        rintro e w2 ⟨rfl, g2⟩
        have G2 := Lib.hid g2
        clear g2
        go_wp2_with fail
        refine (HPB.out _).mono ?_
        rintro e w3 ⟨rfl, g3⟩
        have G3 := Lib.hid (G2.out.trans g3)
        clear g3
        go_wp2_with fail
        go_meet
        case rel => exact ⟨by rw [E5.out], G3.out⟩
  case rest =>
    obtain ⟨rfl, g3⟩ := hcut
    have G3 := Lib.hid g3
    have h1 := HAL.out
    have h2 := HBL.out
    obtain ⟨j1, hj1⟩ : ∃ j1, j1 = a ++ [47] := ⟨_, rfl⟩
    obtain ⟨j2, hj2⟩ : ∃ j2, j2 = a ++ [47] ++ b := ⟨_, rfl⟩
    obtain ⟨j3, hj3⟩ : ∃ j3, j3 = a ++ [47, 47] := ⟨_, rfl⟩
    obtain ⟨j4, hj4⟩ : ∃ j4, j4 = a ++ [47, 47] ++ b := ⟨_, rfl⟩
    obtain ⟨j5, hj5⟩ : ∃ j5, j5 = [47] ++ a := ⟨_, rfl⟩
    have hs1 : ¬ 9223372036854775807 < a.length + 1 := by omega
    have hs2 : ¬ 9223372036854775807 < j1.length + b.length := by rw [hj1]; simp; omega
    have hs3 : ¬ 9223372036854775807 < a.length + 2 := by omega
    have hs4 : ¬ 9223372036854775807 < j3.length + b.length := by rw [hj3]; simp; omega
    have hs5 : ¬ 9223372036854775807 < 1 + a.length := by omega
    have hc1 : (⟨a.toArray⟩ : ByteArray) ++ (⟨#[47]⟩ : ByteArray) = ⟨j1.toArray⟩ := by rw [hj1]; exact ba_append a [47]
    have hc2 : (⟨j1.toArray⟩ : ByteArray) ++ (⟨b.toArray⟩ : ByteArray) = ⟨j2.toArray⟩ := by rw [hj1, hj2]; exact ba_append _ _
    have hc3 : (⟨a.toArray⟩ : ByteArray) ++ (⟨#[47, 47]⟩ : ByteArray) = ⟨j3.toArray⟩ := by rw [hj3]; exact ba_append a [47, 47]
    have hc4 : (⟨j3.toArray⟩ : ByteArray) ++ (⟨b.toArray⟩ : ByteArray) = ⟨j4.toArray⟩ := by rw [hj3, hj4]; exact ba_append _ _
    have hc5 : (⟨#[47]⟩ : ByteArray) ++ (⟨a.toArray⟩ : ByteArray) = ⟨j5.toArray⟩ := by rw [hj5]; exact ba_append [47] a
    rw [← hj2] at HJ
    rw [← hj4] at HD
    rw [← hj5] at HF
    clear hj1 hj2 hj3 hj4 hj5
    have hbb : (B == B) = true := by cases B <;> rfl
    clear g3 h1 h2 HPA HPB HB
    go_wp2_with fail
    refine (HJ.out _).mono ?_
    rintro e w2 ⟨rfl, g2⟩
    have G2 := Lib.hid (G3.out.trans g2)
    clear g2
    go_wp2_with fail
    refine (HD.out _).mono ?_
    rintro e w4 ⟨rfl, g4⟩
    have G4 := Lib.hid (G2.out.trans g4)
    clear g4
    go_wp2_with fail
    refine (HF.out _).mono ?_
    rintro e w5 ⟨rfl, g5⟩
    have G5 := Lib.hid (G4.out.trans g5)
    clear g5
    go_wp2_with fail
    refine (HK.out _).mono ?_
    rintro e w6 ⟨rfl, g6⟩
    have G6 := Lib.hid (G5.out.trans g6)
    clear g6
    go_wp2_with fail
    go_ret
    exact ⟨rfl, G6.out⟩

end Go.Proofs.Ytglfakglcoffkaa
