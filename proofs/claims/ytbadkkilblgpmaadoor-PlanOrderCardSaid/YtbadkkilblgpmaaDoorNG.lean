/-
  The document's Great of a target, sources and outs: some bool.
-/
import Derived.Test.YtbadkkilblgpmaaDoorNF
namespace Go.Proofs.YtbadkkilblgpmaaDoor
open Go.RowKit

set_option maxHeartbeats 8000000 in
set_option maxRecDepth 100000 in
theorem great16_any (t : Tgt) (L : List Fil) (A : Option Addr) (c : Nat) (O : List Tr) (OA : Option Addr) (oc : Nat) (w : World) (ht : TgtAt w t) (hT : TreeAt w A L) (hO : OutsAt w OA O)
    (hl : L.length ≤ 9223372036854775807) (hol : O.length ≤ 4611686018427387904) :
    Calls Tryd.prog 57 #[.agg (tgtCells t).toArray, .slice A L.length c, .slice OA O.length oc] w fun e w' => ∃ g : Bool, e = .returned (.bool g) ∧ Chg none w w' := by
  obtain ⟨W1, hW1⟩ : ∃ W1, W1 = w.alloc (.cells (tgtCells t).toArray 77) := ⟨_, rfl⟩
  obtain ⟨W2, hW2⟩ : ∃ W2, W2 = W1.alloc (.cells (tgtCells t).toArray 77) := ⟨_, rfl⟩
  have g1 : Chg none w W1 := by rw [hW1]; exact (Chg.refl _ _).alloc _
  have g2 : Chg none W1 W2 := by rw [hW2]; exact (Chg.refl _ _).alloc _
  have hb1 : Blk W1 w.heap.size (tgtCells t).toArray 77 := by rw [hW1]; exact Blk.new _ _ _
  have hb2 : Blk W2 W1.heap.size (tgtCells t).toArray 77 := by rw [hW2]; exact Blk.new _ _ _
  have HG := Lib.hid (tgt_great t W1.heap.size W2 (ht.chg (g1.trans g2)) hb2)
  have HT := Lib.hid (fun v (g : Chg none w v) => t_great_any L A c v (hT.chg g) hl)
  have HO : Hid (∀ v, Chg none w v → OutsAt v OA O) := Lib.hid fun v g => hO.chg g
  have HL : Hid (∀ o ∈ O, ∀ v, Chg none w v → Calls Tryd.prog 26 #[.slice o.A o.L.length o.c] v fun e w' => ∃ b : Bool, e = .returned (.bool b) ∧ Chg none v w') := Lib.hid fun o ho v g => t_great_any o.L o.A o.c v ((hO.chg g).2 o ho).1 (by have := (hO.2 o ho).2; omega)
  have x0 := hb1.cell 0
  have x1 := hb1.cell 1
  have x2 := hb1.cell 2
  have x3 := hb1.cell 3
  have HG2 := Lib.hid (g1.trans g2)
  obtain ⟨n, DA, D, dc, fuel, B, P, d⟩ := t
  unfold tgtCells at *
  dsimp only at *
  have HW1 := Lib.hid hW1
  have HW2 := Lib.hid hW2
  clear hW1 hW2 g1 g2 hb1 hb2 ht hT hO
  go_enter Tryd.func57, Tryd.ntmps57
  go_upto_region 1 with fail
  rw [← HW1.out]
  generalize w.heap.size = px at *
  go_wp2_with fail
  rw [← HW2.out]
  refine HG.out.mono ?_
  rintro e w3 ⟨g, rfl, g3⟩
  have G3 := Lib.hid (HG2.out.trans g3)
  clear g3 HW1 HW2 HG HG2 x0 x1 x2 x3
  cases g with
  | true =>
    go_wp2_with fail
    first | exact ⟨_, rfl, G3.out⟩ | (go_ret; exact ⟨_, rfl, G3.out⟩)
  | false =>
    go_wp2_with fail
    refine (HT.out _ G3.out).mono ?_
    rintro e w4 ⟨g, rfl, g4⟩
    have G4 := Lib.hid (G3.out.trans g4)
    clear g4 G3
    cases g with
    | true =>
      go_wp2_with fail
      first | exact ⟨_, rfl, G4.out⟩ | (go_ret; exact ⟨_, rfl, G4.out⟩)
    | false =>
      by_cases h10 : 10 < O.length
      · have d1 : decide ((10 : Int) < (O.length : Int)) = true := by rw [decide_eq_true_eq]; omega
        go_wp2_with fail
        first | exact ⟨_, rfl, G4.out⟩ | (go_ret; exact ⟨_, rfl, G4.out⟩)
      · have d1 : decide ((10 : Int) < (O.length : Int)) = false := by rw [decide_eq_false_iff_not]; omega
        go_wp2_with fail
        go_loopw [7] (fun s7 wr => ∃ k : Nat, s7 = .int .i64 k ∧ Hid (k ≤ O.length) ∧ Hid (Chg none w wr)) (fun i _ => O.length - (intOf i).toNat)
        case atStart => exact ⟨0, rfl, Lib.hid (Nat.zero_le _), G4⟩
        case round =>
          obtain ⟨k, rfl, HK, H3⟩ := hrel
          by_cases hlt : k < O.length
          · have hdd : decide ((k : Int) < (O.length : Int)) = true := by rw [decide_eq_true_eq]; omega
            obtain ⟨o, hks⟩ : ∃ o, O[k]? = some o := ⟨_, List.getElem?_eq_getElem hlt⟩
            obtain ⟨b', off', rfl, hb', x1⟩ := (HO.out wr H3.out).one hks
            have HLT := Lib.hid hlt
            have HC := Lib.hid (HL.out o (List.mem_of_getElem? hks))
            clear hks HK
            obtain ⟨oA, oL, ocap⟩ := o
            dsimp only at x1 HC
            go_wp2_with fail
            refine (HC.out _ H3.out).mono ?_
            rintro e w5 ⟨g, rfl, g5⟩
            have G5 := Lib.hid (H3.out.trans g5)
            clear g5
            cases g with
            | true =>
              go_wp2_with fail
              first | exact ⟨_, rfl, G5.out⟩ | (go_ret; exact ⟨_, rfl, G5.out⟩)
            | false =>
              go_wp2_with fail
              go_roundw
              case rel => exact ⟨k + 1, by first | rfl | go_num, Lib.hid HLT.out, G5⟩
              case measure => have := HLT.out; first | omega | (simp only [intOf]; omega) | (simp [intOf]; omega)
          · have hdd : decide ((k : Int) < (O.length : Int)) = false := by rw [decide_eq_false_iff_not]; omega
            go_wp2_with fail
            first | exact ⟨_, rfl, H3.out⟩ | (go_ret; exact ⟨_, rfl, H3.out⟩)

end Go.Proofs.YtbadkkilblgpmaaDoor
