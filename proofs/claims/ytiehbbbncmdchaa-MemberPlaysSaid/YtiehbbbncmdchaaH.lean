/-
  The known case of layer 18.
-/
import Derived.Test.YtiehbbbncmdchaaG
namespace Go.Proofs.Ytiehbbbncmdchaa
open Go.RowKit

theorem hear_lit (b : Nat) (m : M) (n s i : Int) (w : World) (hm : MemAt w b m) (ho : m.ok) (hi : 0 ≤ i) (c : Bool) (e : Int) (hr : (hear m ⟨n, s, i⟩).2 = (c, e)) :
    Calls Try.prog 20 #[.pointer (some ⟨b, 0, none⟩), .agg #[.int .i64 n, .int .u8 s, .int .u64 i]] w
      fun en w' => en = .returned (.tuple #[.bool c, .int .i64 e]) ∧ MemAt w' b (hear m ⟨n, s, i⟩).1 ∧ Chg (some b) w w' :=
  (hear_any b m ⟨n, s, i⟩ w hm ho hi).mono fun _ _ ⟨h1, h2, h3⟩ => ⟨by rw [h1, hr], h2, h3⟩

def K0 : M := M.fresh 0 3 2
def K1 : M := (hear K0 ⟨1, 2, 0⟩).1
def K2 : M := (hear K1 ⟨1, 1, 0⟩).1
def K3 : M := (hear K2 ⟨0, 3, 2⟩).1
def K4 : M := (K3.turn 1 2 3).1

theorem K0.ok_ : K0.ok := M.fresh_ok 0 3 2 (by omega) (by omega) (by omega)
theorem K1.ok_ : K1.ok := hear_ok _ _ K0.ok_ (by decide)
theorem K2.ok_ : K2.ok := hear_ok _ _ K1.ok_ (by decide)
theorem K3.ok_ : K3.ok := hear_ok _ _ K2.ok_ (by decide)
theorem K4.ok_ : K4.ok := turn_ok _ _ _ _ K3.ok_ (by omega)
theorem K1.r : (hear K0 ⟨1, 2, 0⟩).2 = (true, 0) := by decide +kernel
theorem K2.r : (hear K1 ⟨1, 1, 0⟩).2 = (false, 0) := by decide +kernel
theorem K3.r : (hear K2 ⟨0, 3, 2⟩).2 = (true, 0) := by decide +kernel
theorem K4.r : (K3.turn 1 2 3).2 = true := by decide +kernel
theorem K3.me : K3.stand[K3.self]? = some ⟨0, 1, 3⟩ := by decide +kernel
theorem K3.alive : (aliveOf (K3.stand.take K3.count)).length = 3 := by decide +kernel
theorem K4.alive : (aliveOf (K4.stand.take K4.count)).length = 2 := by decide +kernel

/-- The value of a row of so many: a slice of that length. -/
theorem own_slice {w : World} {b : Nat} {e : TypeId} {size : Nat} {v : Value} {n : Nat} {xs : List Value} (h : w.ownsRow b e size v n xs) : ∃ A c, v = .slice A n c := by
  rcases h.2 with ⟨h1, h2⟩ | ⟨g, cap, cur, h1, _⟩
  · exact ⟨none, 0, by rw [h1, h2]⟩
  · exact ⟨_, cap, h1⟩

set_option maxRecDepth 100000 in
set_option maxHeartbeats 1000000 in
theorem known_any (w : World) : Calls Try.prog 15 #[] w fun e w' => e = .returned (.bool true) ∧ Chg none w w' := by
  have e31 := eql31
  have gd31 := Try.guard31
  have hz := Nat.le_refl w.heap.size
  go_enter Try.func15, Try.ntmps15
  go_wp2_with fail
  refine (new_yes 0 3 2 _ (by omega) (by omega) (by omega)).mono ?_
  rintro e w1 ⟨rfl, h1, g1⟩
  go_wp2_with fail
  refine (hear_lit _ K0 _ _ _ _ h1 K0.ok_ (by omega) _ _ K1.r).mono ?_
  rintro e w2 ⟨rfl, h2, g2⟩
  go_wp2_with fail
  refine (hear_lit _ K1 _ _ _ _ h2 K1.ok_ (by omega) _ _ K2.r).mono ?_
  rintro e w3 ⟨rfl, h3, g3⟩
  go_wp2_with fail
  refine (hear_lit _ K2 _ _ _ _ h3 K2.ok_ (by omega) _ _ K3.r).mono ?_
  rintro e w4 ⟨rfl, h4, g4⟩
  go_wp2_with fail
  refine (self_made _ K3 _ _ h4 K3.ok_ K3.me).mono ?_
  rintro e w5 ⟨rfl, g5⟩
  have h5 : MemAt w5 w.heap.size K3 := MemAt.chg h4 g5 (by simp)
  go_wp2_with fail
  refine (alive_made _ K3 _ h5 K3.ok_).mono ?_
  rintro e w6 ⟨v, rfl, hv, g6⟩
  have h6 : MemAt w6 w.heap.size K3 := MemAt.chg h5 g6 (by simp)
  obtain ⟨A, c, rfl⟩ := own_slice hv
  rw [K3.alive]
  go_wp2_with fail
  refine (kill_made _ K3 1 _ h6 K3.ok_).mono ?_
  rintro e w7 ⟨rfl, h7, g7⟩
  rw [K4.r]
  go_wp2_with fail
  refine (alive_made _ K4 _ h7 K4.ok_).mono ?_
  rintro e w8 ⟨v, rfl, hv, g8⟩
  obtain ⟨A, c, rfl⟩ := own_slice hv
  rw [K4.alive]
  go_wp2_with fail
  go_ret
  exact ⟨rfl, (((((((g1.own g2 hz).own g3 hz).own g4 hz).trans g5).trans g6).own g7 hz).trans g8)⟩

end Go.Proofs.Ytiehbbbncmdchaa
