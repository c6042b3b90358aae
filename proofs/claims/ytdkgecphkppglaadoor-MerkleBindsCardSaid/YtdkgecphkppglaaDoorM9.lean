/-
  How many chunks, and how long proofs are: known of the laws of layer 4.
-/
import Derived.Test.YtdkgecphkppglaaDoorM8
namespace Go.Proofs.YtdkgecphkppglaaDoor
open Go.RowKit

theorem proof3_2 (L : List Dg) (h : L.length = 3) : (proofB L 2).length = 1 := by
  have h1 : (nextB L).length = 2 := by rw [nextB_len, h]
  have h2 : (nextB (nextB L)).length = 1 := by rw [nextB_len, h1]
  rw [proofB_step L 2 (by omega), proofB_step (nextB L) (2 / 2) (by omega), proofB_end _ _ (by omega), h, h1]
  simp [aloneB]
theorem proof3_0 (L : List Dg) (h : L.length = 3) : (proofB L 0).length = 2 := by
  have h1 : (nextB L).length = 2 := by rw [nextB_len, h]
  have h2 : (nextB (nextB L)).length = 1 := by rw [nextB_len, h1]
  rw [proofB_step L 0 (by omega), proofB_step (nextB L) (0 / 2) (by omega), proofB_end _ _ (by omega), h, h1]
  simp [aloneB]

def LenPost (w : World) (n : Nat) (e : Ending) (w' : World) : Prop := ∃ A c, e = .returned (.tuple #[.slice A n c, .int .i64 0]) ∧ Chg none w w'

theorem proof150 (i n : Nat) (hi : i < 3) (hn : ∀ L : List Dg, L.length = 3 → (proofB L i).length = n) (w : World) (b : Nat) (hb : BlkL w b (byteVals (zeros 150)) 5) (hT : Tabs w) :
    Calls Tryd.prog 31 #[.slice (some ⟨b, 0, none⟩) 150 150, .int .i64 i] w (LenPost w n) := by
  have hl : (⟨some ⟨b, 0, none⟩, zeros 150, 150⟩ : Prt).x.length = 150 := by simp [zeros]
  have h := proof_yes ⟨some ⟨b, 0, none⟩, zeros 150, 150⟩ i w (prt_of_row hb (by simp [zeros])) (by rw [hl]; show i < 3; exact hi) (by rw [hl]; omega) hT
  rw [hl] at h
  refine h.mono fun e w' ⟨A, c, he, _, g⟩ => ⟨A, c, ?_, g⟩
  have h3 : (leavesB (⟨some ⟨b, 0, none⟩, zeros 150, 150⟩ : Prt).x).length = 3 := by rw [leavesB_len, hl]; rfl
  rw [he, hn _ h3]

set_option maxRecDepth 100000 in
set_option maxHeartbeats 4000000 in
theorem known4_any (w : World) (hT : Tabs w) : Calls Tryd.prog 24 #[] w fun e w' => e = .returned (.bool true) ∧ Chg none w w' := by
  obtain ⟨Z, hZ⟩ : ∃ Z, Z = (byteVals (zeros 150)).toArray := ⟨_, rfl⟩
  have hmk : ∀ W : World, (Instr.makeSlice 22 (.int .i64 150) (.int .i64 150)).run Tryd.prog W = .ok (.slice (some ⟨W.heap.size, 0, none⟩) 150 150) (W.alloc (.cells Z 5)) := fun W => by
    rw [hZ]; exact make_n 150 (by decide) W
  have hB : ∀ W : World, BlkL (W.alloc (.cells Z 5)) W.heap.size (byteVals (zeros 150)) 5 := fun W => by rw [hZ]; exact Blk.new _ _ _
  have HP2 : Hid (∀ W : World, Tabs W → Calls Tryd.prog 31 #[.slice (some ⟨W.heap.size, 0, none⟩) 150 150, .int .i64 2] (W.alloc (.cells Z 5)) (LenPost (W.alloc (.cells Z 5)) 1)) :=
    fun W h => proof150 2 1 (by omega) proof3_2 _ _ (hB W) (h.chg ((Chg.refl none W).alloc _) (by simp))
  have HP0 : Hid (∀ W : World, Tabs W → Calls Tryd.prog 31 #[.slice (some ⟨W.heap.size, 0, none⟩) 150 150, .int .i64 0] (W.alloc (.cells Z 5)) (LenPost (W.alloc (.cells Z 5)) 2)) :=
    fun W h => proof150 0 2 (by omega) proof3_0 _ _ (hB W) (h.chg ((Chg.refl none W).alloc _) (by simp))
  have HPN : Hid (∀ W : World, Calls Tryd.prog 31 #[.slice none 0 0, .int .i64 1] W fun e w' => e = .returned (.tuple #[.slice none 0 0, .int .i64 6]) ∧ W = w') :=
    fun W => proof_no ⟨none, [], 0⟩ 1 W (Or.inr (by show ((cntN 0 : Nat) : Int) ≤ 1; decide)) (by simp)
  have HC0 : Hid (∀ W : World, Calls Tryd.prog 26 #[.int .i64 0] W fun e w' => e = .returned (.int .i64 1) ∧ W = w') := fun W => count_nat 0 (by decide) W
  have HC64 : Hid (∀ W : World, Calls Tryd.prog 26 #[.int .i64 64] W fun e w' => e = .returned (.int .i64 1) ∧ W = w') := fun W => count_nat 64 (by decide) W
  have HC65 : Hid (∀ W : World, Calls Tryd.prog 26 #[.int .i64 65] W fun e w' => e = .returned (.int .i64 2) ∧ W = w') := fun W => count_nat 65 (by decide) W
  have HCN : Hid (∀ W : World, Calls Tryd.prog 26 #[.int .i64 (-1)] W fun e w' => e = .returned (.int .i64 0) ∧ W = w') := fun W => count_neg (-1) (by decide) W
  clear hB hZ
  go_enter Tryd.func24, Tryd.ntmps24
  go_wp2_with fail
  refine (HP2.out w hT).mono ?_
  rintro e w1 ⟨A1, c1, rfl, g1⟩
  have g01 : Chg none w w1 := ((Chg.refl none w).alloc _).trans g1
  have hT1 := hT.chg g01 (by simp)
  clear g1
  go_wp2_with fail
  refine (HP0.out w1 hT1).mono ?_
  rintro e w2 ⟨A2, c2, rfl, g2⟩
  have g02 : Chg none w w2 := (g01.alloc _).trans g2
  clear g2 g01 hT1
  go_wp2_with fail
  refine (HPN.out w2).mono ?_
  rintro e w' ⟨rfl, rfl⟩
  go_wp2_with fail
  refine (HC0.out w2).mono ?_
  rintro e w' ⟨rfl, rfl⟩
  go_wp2_with fail
  refine (HC64.out w2).mono ?_
  rintro e w' ⟨rfl, rfl⟩
  go_wp2_with fail
  refine (HC65.out w2).mono ?_
  rintro e w' ⟨rfl, rfl⟩
  go_wp2_with fail
  refine (HCN.out w2).mono ?_
  rintro e w' ⟨rfl, rfl⟩
  go_wp2_with fail
  go_ret
  exact ⟨rfl, g02⟩

end Go.Proofs.YtdkgecphkppglaaDoor
