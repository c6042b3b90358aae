/-
  Layer 6's known; Great.
-/
import Derived.Test.YtglfakglcoffkaaDoorPS
namespace Go.Proofs.YtglfakglcoffkaaDoor
open Go.RowKit

/-- A list of one instruction, in a block of its own. -/
theorem lit_row (x : Ins) (v : World) (fl : Nat × Nat) : RowsAt (v.alloc (.cells (insCells x).toArray 61 fl)) 6 (some ⟨v.heap.size, 0, none⟩) insCells [x] := by
  intro _
  refine ⟨v.heap.size, 0, rfl, by simp, fun i a hi j hj => ?_⟩
  have hi0 : i = 0 := by
    have := (List.getElem?_eq_some_iff.1 hi).1
    simp at this; exact this
  subst hi0
  obtain rfl : x = a := by simpa using hi
  unfold World.cell?
  rw [heap_alloc_new v (.cells (insCells x).toArray 61 fl)]
  simp
theorem may_lit (x : Ins) (hx : x.fits) (w : World) (hF : Flds w) (r : Bool) (hr : mayB [x] = r) (v : World) (g : Chg none w v) (fl : Nat × Nat) :
    Calls Tryd.prog 35 #[.slice (some ⟨v.heap.size, 0, none⟩) 1 1] (v.alloc (.cells (insCells x).toArray 61 fl)) fun e w' => e = .returned (.bool r) ∧ Chg none w w' := by
  have g1 : Chg none w (v.alloc (.cells (insCells x).toArray 61 fl)) := g.alloc _
  refine (may_any [x] _ 1 _ (lit_row x v fl) (fun y hy => by rw [List.mem_singleton.1 hy]; exact hx) (by simp) (hF.chg g1)).mono ?_
  rintro e w2 ⟨rfl, g2⟩
  rw [hr]
  exact ⟨rfl, g1.trans g2⟩

def k1 : Ins := ⟨8, [], [], [], 1, 0⟩
def k2 : Ins := ⟨8, [], [], [], 2, 0⟩
def k3 : Ins := ⟨1, [97], [65], [], 0, 0⟩
def k4 : Ins := ⟨4, [97], [], [], 0, 0⟩
theorem k_fits : k1.fits ∧ k2.fits ∧ k3.fits ∧ k4.fits := by
  refine ⟨⟨?_, ?_, ?_, ?_, ?_, ?_⟩, ⟨?_, ?_, ?_, ?_, ?_, ?_⟩, ⟨?_, ?_, ?_, ?_, ?_, ?_⟩, ⟨?_, ?_, ?_, ?_, ?_, ?_⟩⟩ <;> decide
theorem k_may : mayB [k1] = true ∧ mayB [k2] = false ∧ mayB [k3] = false ∧ mayB [k4] = false := ⟨rfl, rfl, rfl, rfl⟩

set_option maxHeartbeats 16000000 in
set_option maxRecDepth 100000 in
theorem known_any (w : World) (hF : Flds w) : Calls Tryd.prog 33 #[] w fun e w' => e = .returned (.bool true) ∧ Chg none w w' := by
  have HM0 : Hid (∀ v, Chg none w v → Calls Tryd.prog 35 #[.slice none 0 0] v fun e w' => e = .returned (.bool true) ∧ Chg none w w') := fun v g =>
    (may_any [] none 0 v (fun h => absurd rfl h) (fun _ h => (by cases h)) (by simp) (hF.chg g)).mono fun e w' h => ⟨h.1, g.trans h.2⟩
  have HM1 := Lib.hid (may_lit k1 k_fits.1 w hF _ k_may.1)
  have HM2 := Lib.hid (may_lit k2 k_fits.2.1 w hF _ k_may.2.1)
  have HM3 := Lib.hid (may_lit k3 k_fits.2.2.1 w hF _ k_may.2.2.1)
  have HM4 := Lib.hid (may_lit k4 k_fits.2.2.2 w hF _ k_may.2.2.2)
  unfold insCells k1 at HM1
  unfold insCells k2 at HM2
  unfold insCells k3 at HM3
  unfold insCells k4 at HM4
  dsimp only at HM1 HM2 HM3 HM4
  go_enter Tryd.func33, Tryd.ntmps33
  go_wp2_with fail
  refine (HM0.out _ (Chg.refl _ _)).mono ?_
  rintro e w1 ⟨rfl, g1⟩
  go_wp2_with fail
  refine (HM1.out _ g1 _).mono ?_
  rintro e w2 ⟨rfl, g2⟩
  clear g1
  go_wp2_with fail
  refine (HM2.out _ g2 _).mono ?_
  rintro e w3 ⟨rfl, g3⟩
  clear g2
  go_wp2_with fail
  refine (HM3.out _ g3 _).mono ?_
  rintro e w4 ⟨rfl, g4⟩
  clear g3
  go_wp2_with fail
  refine (HM4.out _ g4 _).mono ?_
  rintro e w5 ⟨rfl, g5⟩
  clear g4
  go_wp2_with fail
  go_ret
  exact ⟨rfl, g5⟩

end Go.Proofs.YtglfakglcoffkaaDoor
