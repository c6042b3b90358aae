/-
  The law MemberMerges where one is not made, or a row is too long.
-/
import Derived.Test.YtiehbbbncmdchaaX
import Derived.Test.YtiehbbbncmdchaaV
namespace Go.Proofs.Ytiehbbbncmdchaa
open Go.ChangeShapes Go.WideShapes Go.ChangeAt Go.RowKit
open Go.WideMaps Go.WideElems

set_option maxRecDepth 100000 in
set_option maxHeartbeats 1000000 in
theorem merges_short (c : Int) (A : Option Addr) (n ca : Nat) (D : Option Addr) (m cd : Nat) (w : World) (hx : (1 < c ∧ c ≤ 16) → 60 < n ∨ 60 < m) :
    Calls Try.prog 7 #[.int .i64 c, .slice A n ca, .slice D m cd] w fun e w' => e = .returned (.bool true) ∧ Chg none w w' := by
  by_cases h2 : 1 < c ∧ c ≤ 16
  · have hy := hx h2
    obtain ⟨c', rfl⟩ := Int.eq_ofNat_of_zero_le (show 0 ≤ c by omega)
    have hN := fun W => new_yes 0 c' 0 W (by omega) (by omega) (by omega)
    have hM := fun W => new_yes 1 c' 0 W (by omega) (by omega) (by omega)
    have HN := Lib.hid hN
    have HM := Lib.hid hM
    by_cases h60 : 60 < n
    · have e1 : decide ((60 : Int) < (n : Int)) = true := by simp; omega
      clear hN hM hx
      go_enter Try.func7, Try.ntmps7
      go_wp2_with fail
      refine (HN.out _).mono ?_
      rintro e w1 ⟨rfl, h1, g1⟩
      go_wp2_with fail
      refine (HM.out _).mono ?_
      rintro e w2 ⟨rfl, h2, g2⟩
      go_wp2_with fail
      refine (known_any _).mono ?_
      rintro e w3 ⟨rfl, g3⟩
      go_wp2_with fail
      go_ret
      exact ⟨rfl, (g1.trans g2).trans g3⟩
    · have e1 : decide ((60 : Int) < (n : Int)) = false := by simp; omega
      have e2 : decide ((60 : Int) < (m : Int)) = true := by simp; omega
      clear hN hM hx
      go_enter Try.func7, Try.ntmps7
      go_wp2_with fail
      refine (HN.out _).mono ?_
      rintro e w1 ⟨rfl, h1, g1⟩
      go_wp2_with fail
      refine (HM.out _).mono ?_
      rintro e w2 ⟨rfl, h2, g2⟩
      go_wp2_with fail
      refine (known_any _).mono ?_
      rintro e w3 ⟨rfl, g3⟩
      go_wp2_with fail
      go_ret
      exact ⟨rfl, (g1.trans g2).trans g3⟩
  · have hM := fun W => new_no 1 c 0 W (by omega)
    have HM := Lib.hid hM
    by_cases h1 : 0 < c ∧ c ≤ 16
    · obtain ⟨c', rfl⟩ := Int.eq_ofNat_of_zero_le (show 0 ≤ c by omega)
      have hN := fun W => new_yes 0 c' 0 W (by omega) (by omega) (by omega)
      have HN := Lib.hid hN
      clear hN hM hx
      go_enter Try.func7, Try.ntmps7
      go_wp2_with fail
      refine (HN.out _).mono ?_
      rintro e w1 ⟨rfl, h1, g1⟩
      go_wp2_with fail
      refine (HM.out _).mono ?_
      rintro e w2 ⟨rfl, rfl⟩
      go_wp2_with fail
      refine (known_any _).mono ?_
      rintro e w3 ⟨rfl, g3⟩
      go_wp2_with fail
      go_ret
      exact ⟨rfl, g1.trans g3⟩
    · have hN := fun W => new_no 0 c 0 W (by omega)
      have HN := Lib.hid hN
      clear hN hM hx
      go_enter Try.func7, Try.ntmps7
      go_wp2_with fail
      refine (HN.out _).mono ?_
      rintro e w1 ⟨rfl, rfl⟩
      go_wp2_with fail
      refine (HM.out _).mono ?_
      rintro e w2 ⟨rfl, rfl⟩
      go_wp2_with fail
      refine (known_any _).mono ?_
      rintro e w3 ⟨rfl, g3⟩
      go_wp2_with fail
      go_ret
      exact ⟨rfl, g3⟩

end Go.Proofs.Ytiehbbbncmdchaa
