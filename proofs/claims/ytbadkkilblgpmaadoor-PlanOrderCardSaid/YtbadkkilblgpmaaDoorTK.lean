/-
  Layer 5's known.
-/
import Derived.Test.YtbadkkilblgpmaaDoorTW
import Derived.Test.YtbadkkilblgpmaaDoorTQ
import Derived.Lib.SlBytesConst
namespace Go.Proofs.YtbadkkilblgpmaaDoor
open Go.RowKit

/-- A tree of one file, typed out: its bytes in one block, its row in the next. -/
theorem lit_tree (p x : List UInt8) (fl : Nat × Nat) (v : World) (hp : p.length ≤ 9223372036854775807) (hx : x.length ≤ 9223372036854775807) :
    TreeAt ((v.alloc (.cells (byteVals x).toArray 5 fl)).alloc (.cells #[.string ⟨p.toArray⟩, .slice (some ⟨v.heap.size, 0, none⟩) x.length x.length] 91 (0, 0))) (some ⟨v.heap.size + 1, 0, none⟩) [⟨p, some ⟨v.heap.size, 0, none⟩, x, x.length⟩] := by
  have hb : Blk ((v.alloc (.cells (byteVals x).toArray 5 fl)).alloc (.cells #[.string ⟨p.toArray⟩, .slice (some ⟨v.heap.size, 0, none⟩) x.length x.length] 91 (0, 0))) (v.heap.size + 1) #[.string ⟨p.toArray⟩, .slice (some ⟨v.heap.size, 0, none⟩) x.length x.length] 91 := by
    have h := Blk.new (v.alloc (.cells (byteVals x).toArray 5 fl)) #[.string ⟨p.toArray⟩, .slice (some ⟨v.heap.size, 0, none⟩) x.length x.length] 91
    rwa [show (v.alloc (.cells (byteVals x).toArray 5 fl)).heap.size = v.heap.size + 1 by simp] at h
  refine ⟨fun _ => ⟨_, 0, rfl, hb.lt, fun i a hi j hj => ?_⟩, fun f hf => ?_⟩
  · have hi0 : i = 0 := by
      have := (List.getElem?_eq_some_iff.1 hi).1
      simp at this; exact this
    subst hi0
    obtain rfl : (⟨p, some ⟨v.heap.size, 0, none⟩, x, x.length⟩ : Fil) = a := by simpa using hi
    rw [hb.cell]
    rcases (show j = 0 ∨ j = 1 by omega) with rfl | rfl <;> rfl
  · rw [List.mem_singleton.1 hf]
    refine ⟨fun _ => ⟨v.heap.size, 0, rfl, by simp; omega, fun j c hj => ?_⟩, Nat.le_refl _, hp, hx, fun h => by cases h⟩
    rw [World.cell?_alloc_lt _ _ _ (by simp)]
    unfold World.cell?
    rw [heap_alloc_new v (.cells (byteVals x).toArray 5 fl)]
    have h := byteVals_get hj
    simp [h]
theorem k_bytes (A : Option Addr) (c : Nat) : treeB [⟨[97], A, [120, 121], c⟩] = [1, 1, 1, 1, 97, 1, 2, 120, 121] := by
  show form 1 ++ ((row [97] ++ row [120, 121]) ++ []) = _
  decide +kernel
theorem k_may (A : Option Addr) (c : Nat) : mayT [⟨[97], A, [120, 121], c⟩] = true := by rfl
theorem k_may2 (A : Option Addr) (c : Nat) : mayT [⟨[100, 47, 101, 47, 97], A, [120, 121], c⟩] = true := by rfl
theorem k_below : belowK [100] [([100, 47, 101, 47, 97], [120, 121])] = [([101, 47, 97], [120, 121])] := by rfl

theorem under_one {w w' : World} {A : Option Addr} {c : Nat} {e : Ending} (h : ToldU w [⟨[97], A, [120, 121], c⟩] [100, 47, 101] e w') :
    ∃ g fA fc, e = .returned (.tuple #[.slice (some ⟨g, 0, none⟩) 1 1, .int .i64 0]) ∧ TreeAt w' (some ⟨g, 0, none⟩) [⟨[100, 47, 101, 47, 97], fA, [120, 121], fc⟩] ∧ Chg none w w' := by
  obtain ⟨g, M, hml, hsame, M', hpm, -, htr, -, hch, hend⟩ := h
  match M, hml with
  | [m], _ =>
    obtain ⟨h1, h2⟩ := hsame 0 m ⟨[97], A, [120, 121], c⟩ rfl rfl
    obtain ⟨mp, mA, mx, mc⟩ := m
    dsimp only at h1 h2
    subst h1 h2
    have hM : M' = [⟨[100, 47, 101, 47, 97], mA, [120, 121], mc⟩] := List.perm_singleton.1 hpm
    subst hM
    refine ⟨g, mA, mc, ?_, htr, hch⟩
    rcases hend with ⟨-, he⟩ | ⟨hf, -⟩
    · exact he
    · rw [k_may2] at hf; cases hf

set_option maxHeartbeats 16000000 in
set_option maxRecDepth 100000 in
theorem known5_any (w : World) : Calls Tryd.prog 27 #[] w fun e w' => e = .returned (.bool true) ∧ Chg none w w' := by
  have kc := fun (w : World) (C : Array Value) (n c : Nat) => Lib.run_convert_bytes_const (P := Tryd.prog) w 22 5 C n c Tryd.underlying22 Tryd.underlying5
  go_enter Tryd.func27, Tryd.ntmps27
  go_wp2_with fail
  have hT1 : TreeAt ((w.alloc (.cells #[.int .u8 120, .int .u8 121] 5 (2, 3))).alloc (.cells #[.string ⟨#[97]⟩, .slice (some ⟨w.heap.size, 0, none⟩) 2 2] 91)) (some ⟨w.heap.size + 1, 0, none⟩) [⟨[97], some ⟨w.heap.size, 0, none⟩, [120, 121], 2⟩] := lit_tree [97] [120, 121] (2, 3) w (by decide) (by decide)
  have hG1 : Chg none w ((w.alloc (.cells #[.int .u8 120, .int .u8 121] 5 (2, 3))).alloc (.cells #[.string ⟨#[97]⟩, .slice (some ⟨w.heap.size, 0, none⟩) 2 2] 91)) := ((Chg.refl _ _).alloc _).alloc _
  generalize (w.alloc (.cells #[.int .u8 120, .int .u8 121] 5 (2, 3))).alloc (.cells #[.string ⟨#[97]⟩, .slice (some ⟨w.heap.size, 0, none⟩) 2 2] 91) = W1 at *
  generalize w.heap.size = PB at *
  have HT1 := Lib.hid hT1
  have G1 := Lib.hid hG1
  have HB1 : Hid (Calls Tryd.prog 29 #[.slice (some ⟨PB + 1, 0, none⟩) 1 1] W1 fun e w' => ∃ A' n c', e = .returned (.tuple #[.slice A' n c', .int .i64 0]) ∧ ByAt W1 w' A' n c' (treeB [⟨[97], some ⟨PB, 0, none⟩, [120, 121], 2⟩])) := tbytes_yes [⟨[97], some ⟨PB, 0, none⟩, [120, 121], 2⟩] (some ⟨PB + 1, 0, none⟩) 1 W1 hT1 (k_may _ _)
  rw [k_bytes] at HB1
  clear hT1 hG1
  refine HB1.out.mono ?_
  rintro e w2 ⟨A2, n2, c2, rfl, hb2⟩
  have HB2 := Lib.hid hb2
  have G2 := Lib.hid (G1.out.trans hb2.2.2)
  have HU2 : Hid (Calls Tryd.prog 72 #[.slice (some ⟨PB + 1, 0, none⟩) 1 1, .string ⟨#[100, 47, 101]⟩] w2 (ToldU w2 [⟨[97], some ⟨PB, 0, none⟩, [120, 121], 2⟩] [100, 47, 101])) := under_yes [⟨[97], some ⟨PB, 0, none⟩, [120, 121], 2⟩] (some ⟨PB + 1, 0, none⟩) 1 [100, 47, 101] w2 (HT1.out.chg hb2.2.2) (k_may _ _) (by rfl)
  clear hb2 HB1 HT1
  go_wp2_with fail
  refine HU2.out.mono ?_
  rintro e w3 hu
  obtain ⟨g, fA, fc, rfl, htr, hch⟩ := under_one hu
  have HTR := Lib.hid htr
  have G3 := Lib.hid (G2.out.trans hch)
  have hcv := conv_reads (c := c2) w3 (Reads.of_own (own_chgW HB2.out.2.1 hch))
  have x0 : w3.cell? ⟨g, 0, none⟩ = some (.string ⟨#[100, 47, 101, 47, 97]⟩) := (htr.1.two (i := 0) rfl).2.1
  have HBL : Hid (Calls Tryd.prog 64 #[.slice (some ⟨g, 0, none⟩) 1 1, .string ⟨#[100]⟩] w3 fun e w' => ∃ A' c' M, e = .returned (.slice A' M.length c') ∧ OwnL w3 w' A' c' M ∧ M.map (fun m => (m.p, m.x)) = belowK [100] [([100, 47, 101, 47, 97], [120, 121])] ∧ M.length ≤ 1 ∧ ∀ m ∈ M, m.p.length ≤ 40) :=
    below_yes [⟨[100, 47, 101, 47, 97], fA, [120, 121], fc⟩] (some ⟨g, 0, none⟩) 1 [100] w3 htr (k_may2 _ _) (by rfl)
  rw [k_below] at HBL
  clear hu htr hch HU2 HB2
  go_wp2_with fail
  refine HBL.out.mono ?_
  rintro e w4 ⟨A4, c4, M, rfl, hol, hmk, hml, hmp⟩
  have G4 := Lib.hid (G3.out.trans hol.chg)
  have HTM := Lib.hid (hol.tree (fun m hm => by have := hmp m hm; omega))
  have HMK : Hid (keys M = [([101, 47, 97], [120, 121])]) := hmk
  have HML := Lib.hid hml
  clear hol hmk hml hmp hcv x0 HBL HTR
  go_wp2_with fail
  have hT5 : TreeAt ((w4.alloc (.cells #[.int .u8 120, .int .u8 121] 5 (2, 3))).alloc (.cells #[.string ⟨#[101, 47, 97]⟩, .slice (some ⟨w4.heap.size, 0, none⟩) 2 2] 91)) (some ⟨w4.heap.size + 1, 0, none⟩) [⟨[101, 47, 97], some ⟨w4.heap.size, 0, none⟩, [120, 121], 2⟩] := lit_tree [101, 47, 97] [120, 121] (2, 3) w4 (by decide) (by decide)
  have k5 : Chg none w4 ((w4.alloc (.cells #[.int .u8 120, .int .u8 121] 5 (2, 3))).alloc (.cells #[.string ⟨#[101, 47, 97]⟩, .slice (some ⟨w4.heap.size, 0, none⟩) 2 2] 91)) := ((Chg.refl _ _).alloc _).alloc _
  generalize (w4.alloc (.cells #[.int .u8 120, .int .u8 121] 5 (2, 3))).alloc (.cells #[.string ⟨#[101, 47, 97]⟩, .slice (some ⟨w4.heap.size, 0, none⟩) 2 2] 91) = W5 at *
  have HSA : Hid (Calls Tryd.prog 37 #[.slice A4 M.length c4, .slice (some ⟨w4.heap.size + 1, 0, none⟩) 1 1] W5 fun e w' => e = .returned (.bool true) ∧ Chg none W5 w') := by
    have h := tsame_any M [⟨[101, 47, 97], some ⟨w4.heap.size, 0, none⟩, [120, 121], 2⟩] A4 (some ⟨w4.heap.size + 1, 0, none⟩) c4 1 W5 (HTM.out.chg k5) hT5 (by have := HML.out; omega)
    rw [decide_eq_true (show keys M = keys [⟨[101, 47, 97], some ⟨w4.heap.size, 0, none⟩, [120, 121], 2⟩] from HMK.out)] at h
    exact h
  have G5 := Lib.hid (G4.out.trans k5)
  clear hT5 k5 HTM
  refine HSA.out.mono ?_
  rintro e w6 ⟨rfl, g6⟩
  have G6 := Lib.hid (G5.out.trans g6)
  have HI1 : Hid (Calls Tryd.prog 73 #[.string ⟨#[97, 47, 47, 98]⟩] w6 fun e w' => e = .returned (.bool false) ∧ Chg none w6 w') := ispath_any [97, 47, 47, 98] w6 (by decide)
  clear g6 HSA
  go_wp2_with fail
  refine HI1.out.mono ?_
  rintro e w7 ⟨rfl, g7⟩
  have G7 := Lib.hid (G6.out.trans g7)
  have HI2 : Hid (Calls Tryd.prog 73 #[.string ⟨#[65]⟩] w7 fun e w' => e = .returned (.bool false) ∧ Chg none w7 w') := ispath_any [65] w7 (by decide)
  clear g7 HI1
  go_wp2_with fail
  refine HI2.out.mono ?_
  rintro e w8 ⟨rfl, g8⟩
  have G8 := Lib.hid (G7.out.trans g8)
  clear g8 HI2
  go_wp2_with fail
  go_ret
  exact ⟨rfl, G8.out⟩

end Go.Proofs.YtbadkkilblgpmaaDoor
