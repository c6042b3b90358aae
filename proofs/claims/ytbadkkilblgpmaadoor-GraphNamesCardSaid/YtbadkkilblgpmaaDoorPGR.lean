/-
  The document's program: Great.
-/
import Derived.Test.YtbadkkilblgpmaaDoorPF
import Derived.Handy
import Derived.Deep.Cut
import Derived.Deep.CutBlock
import Derived.Deep.DeepCutAuto
import Derived.Deep.RegionHeld3
namespace Go.Proofs.YtbadkkilblgpmaaDoor
open Go.RowKit

def SomeB (w : World) (s : Value) (w' : World) : Prop := ∃ b : Bool, s = .bool b ∧ Chg none w w'

set_option maxHeartbeats 16000000 in
set_option maxRecDepth 100000 in
theorem great_any (L : List Ins) (A : Option Addr) (c : Nat) (w : World) (hr : RowsAt w 6 A insCells L) (hl : L.length ≤ 9223372036854775807) :
    Calls Tryd.prog 38 #[.slice A L.length c] w fun e w' => (∃ G : Bool, e = .returned (.bool G) ∧ (G = false → L.length ≤ 60)) ∧ Chg none w w' := by
  by_cases h60 : 60 < L.length
  · have d1 : decide ((60 : Int) < (L.length : Int)) = true := by rw [decide_eq_true_eq]; omega
    go_enter Tryd.func38, Tryd.ntmps38
    go_wp2_with fail
    go_ret
    exact ⟨⟨true, rfl, fun h => by cases h⟩, Chg.refl _ _⟩
  have d1 : decide ((60 : Int) < (L.length : Int)) = false := by rw [decide_eq_false_iff_not]; omega
  have HR : Hid (∀ v, Chg none w v → RowsAt v 6 A insCells L) := fun v g => hr.chg g
  have HL6 : Hid (L.length ≤ 60) := by show _ ≤ _; omega
  clear hr h60
  go_enter Tryd.func38, Tryd.ntmps38
  go_wp2_with fail
  go_loopw [3] (fun s10 wr => ∃ k : Nat, s10 = .int .i64 k ∧ Hid (k ≤ L.length) ∧ Hid (Chg none w wr)) (fun s10 _ => L.length - (intOf s10).toNat)
  case atStart => exact ⟨0, rfl, Lib.hid (Nat.zero_le _), Lib.hid (Chg.refl _ _)⟩
  case round =>
    obtain ⟨k, rfl, H1, H2⟩ := hrel
    by_cases hlt : k < L.length
    · have hd : decide ((k : Int) < (L.length : Int)) = true := by rw [decide_eq_true_eq]; omega
      obtain ⟨x, hkx⟩ : ∃ x, L[k]? = some x := ⟨_, List.getElem?_eq_getElem hlt⟩
      have hne : L ≠ [] := by intro e; subst e; simp at hlt
      have HRW := Lib.hid (HR.out wr H2.out)
      obtain ⟨b, off, rfl, -, -⟩ := HRW.out hne
      obtain ⟨hb, x0, x1, x2, x3, x4, x5⟩ := HRW.out.six hkx
      have HLT := Lib.hid hlt
      clear hkx hne HRW HR
      go_upto_region 6 with fail
      go_cut [33] from 34 (fun s33 wx => SomeB wr s33 wx)
      case first =>
        go_region
        all_goals
          go_wp2_with fail
          go_meet
          case rel => exact ⟨_, rfl, (Chg.refl _ _).drew⟩
      case rest =>
        obtain ⟨B, rfl, g⟩ := hcut
        have G := Lib.hid (H2.out.trans g)
        clear g
        cases B
        · go_wp2_with fail
          go_roundw
          case rel => exact ⟨k + 1, by first | rfl | (simp; done), Lib.hid HLT.out, G⟩
          case measure =>
            have := HLT.out
            first | omega | (simp only [intOf]; omega) | (simp [intOf]; omega)
        · go_wp2_with fail
          go_ret
          exact ⟨⟨true, rfl, fun h => by cases h⟩, G.out⟩
    · have hd : decide (k < L.length) = false := by rw [decide_eq_false_iff_not]; exact hlt
      clear hlt
      go_wp2_with fail
      go_ret
      exact ⟨⟨false, rfl, fun _ => HL6.out⟩, H2.out⟩

end Go.Proofs.YtbadkkilblgpmaaDoor
