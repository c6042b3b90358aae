/-
  Package tree: Get; the document's Great.
-/
import Derived.Test.YtbadkkilblgpmaaDoorTN
import Derived.Test.YtbadkkilblgpmaaDoorTW
namespace Go.Proofs.YtbadkkilblgpmaaDoor
open Go.RowKit

set_option maxHeartbeats 8000000 in
set_option maxRecDepth 100000 in
/-- Great tells something, and changes nothing. -/
theorem t_great_any (L : List Fil) (A : Option Addr) (c : Nat) (w : World) (hT : TreeAt w A L) (hl : L.length ≤ 9223372036854775807) :
    Calls Tryd.prog 26 #[.slice A L.length c] w fun e w' => ∃ b : Bool, e = .returned (.bool b) ∧ Chg none w w' := by
  have HT : Hid (∀ v, Chg none w v → TreeAt v A L) := fun v g => hT.chg g
  clear hT
  go_enter Tryd.func26, Tryd.ntmps26
  go_wp2_with fail
  go_loopw [3, 4] (fun s3 s4 wr => ∃ (z : Int) (k : Nat), s3 = .int .i64 z ∧ s4 = .int .i64 k ∧ Hid (k ≤ L.length) ∧ Hid (Chg none w wr)) (fun _ s4 _ => L.length - (intOf s4).toNat)
  case atStart => exact ⟨0, 0, rfl, rfl, Lib.hid (Nat.zero_le _), Lib.hid (Chg.refl _ _)⟩
  case round =>
    obtain ⟨z, k, rfl, rfl, H1, H2⟩ := hrel
    by_cases hlt : k < L.length
    · have hd : decide ((k : Int) < (L.length : Int)) = true := by rw [decide_eq_true_eq]; omega
      obtain ⟨x, hkx⟩ : ∃ x, L[k]? = some x := ⟨_, List.getElem?_eq_getElem hlt⟩
      have hne : L ≠ [] := by intro e; subst e; simp at hlt
      have HRW := Lib.hid (HT.out wr H2.out)
      obtain ⟨b, off, rfl, -, -⟩ := HRW.out.1 hne
      obtain ⟨hb, x0, x1⟩ := HRW.out.1.two hkx
      have HLT := Lib.hid hlt
      have hkl : (k : Int) < (L.length : Int) := by omega
      clear hkx hne HRW HT
      obtain ⟨fp, fA, fx, fc⟩ := x
      dsimp only at x0 x1
      go_wp2_with fail
      go_region
      all_goals
        go_wp2_with fail
        go_roundw
        case rel => exact ⟨_, k + 1, rfl, by first | rfl | (simp; done), Lib.hid HLT.out, Lib.hid H2.out.drew⟩
        case measure =>
          have := HLT.out
          first | omega | (simp only [intOf]; omega) | (simp [intOf]; omega)
    · have hd : decide (k < L.length) = false := by rw [decide_eq_false_iff_not]; exact hlt
      have hd2 : decide ((k : Int) < (L.length : Int)) = false := by rw [decide_eq_false_iff_not]; omega
      clear hlt HT
      go_wp2_with fail
      go_ret
      exact ⟨_, rfl, H2.out⟩

end Go.Proofs.YtbadkkilblgpmaaDoor
