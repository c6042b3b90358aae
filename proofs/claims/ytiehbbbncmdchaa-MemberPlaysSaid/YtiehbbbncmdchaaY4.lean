/-
  The document's own members (package ref): Hear.
-/
import Derived.Test.YtiehbbbncmdchaaY2
namespace Go.Proofs.Ytiehbbbncmdchaa
open Go.RowKit

def RHearPost (B G cap : Nat) (w : World) (r : M × Bool × Int) (e : Ending) (w' : World) : Prop :=
  e = .returned (.tuple #[.bool r.2.1, .int .i64 r.2.2]) ∧ RefAt w' B G cap r.1 ∧ Chg (some G) w w'

set_option maxHeartbeats 1000000 in
theorem rhear_wrong (B G cap : Nat) (m : M) (u : U) (w : World) (hm : RefAt w B G cap m) (ho : m.ok) (hf : ¬ U.fine m u) :
    Calls Try.prog 21 #[.pointer (some ⟨B, 0, none⟩), u.val] w (RHearPost B G cap w (hear m u)) := by
  have hma := hm.alloc (.cells u.parts 31)
  have hM := rmay B G cap m u _ hma ho
  have hd : decide (U.fine m u) = false := by simpa using hf
  rw [hd] at hM
  have hfin : hear m u = (m, false, 2) := by unfold hear; rw [if_neg hf]
  rw [hfin]
  obtain ⟨un, us, ui⟩ := u
  unfold U.val U.parts at *
  dsimp only at *
  clear hd ho hf hfin hm
  go_enter Try.func21, Try.ntmps21
  go_wp2_with fail
  refine hM.mono ?_
  rintro e w1 ⟨rfl, g1⟩
  go_wp2_with fail
  go_ret2
  exact ⟨rfl, hma.chg g1 (by simp) (by simp), (((Chg.refl _ _).alloc _).trans g1).weaken⟩

theorem tup_eq {a b : Bool} (h : a = b) {e : Int} : Ending.returned (.tuple #[.bool a, .int .i64 e]) = .returned (.tuple #[.bool b, .int .i64 e]) := by rw [h]

set_option maxRecDepth 100000 in
set_option maxHeartbeats 2000000 in
theorem rhear_other (B G cap : Nat) (m : M) (n : Nat) (u v : U) (w : World) (hm : RefAt w B G cap m) (ho : m.ok) (hn : u.node = n) (hf : U.fine m u) (hs : u.node ≠ m.self) (hv : m.stand[n]? = some v) :
    Calls Try.prog 21 #[.pointer (some ⟨B, 0, none⟩), u.val] w (RHearPost B G cap w (if greater u v then m.put n u else m, greater u v && !(u.node == v.node && (u.st == v.st && u.inc == v.inc)), 0)) := by
  have hma := hm.alloc (.cells u.parts 31)
  have hM := rmay B G cap m u _ hma ho
  have hd : decide (U.fine m u) = true := by simpa using hf
  rw [hd] at hM
  have hnc : n < m.count := by have := hf.1.2; omega
  have hrow := M.row_at hnc hv
  have hGr := Lib.hid (fun W => refGreater_any u v W)
  obtain ⟨hBl, hGl⟩ := hm.lt
  have hle := hm.le
  have hne : ((n : Int) != (m.self : Int)) = true := by simp; omega
  have hBu := Blk.new w u.parts 31
  have hvv : m.put n v = m := M.put_same m n v hv
  have htop := ho.top
  obtain ⟨un, us, ui⟩ := u
  obtain ⟨vn, vs, vi⟩ := v
  unfold U.val U.parts at *
  dsimp only at *
  subst hn
  generalize greater ⟨n, us, ui⟩ ⟨vn, vs, vi⟩ = gr at *
  have n31 := neq31
  have gd31 := Try.guard31
  clear hd ho hf hm hs hv
  cases gr
  · rw [if_neg (by simp), Bool.false_and]
    go_enter Try.func21, Try.ntmps21
    go_wp2_with fail
    refine hM.mono ?_
    rintro e w1 ⟨rfl, g1⟩
    have hm1 := hma.chg g1 (by simp) (by simp)
    have hb1 := Blk.chg hBu g1 (by simp)
    obtain ⟨b0, b1, b2⟩ := Blk.three hb1
    obtain ⟨h0, h1⟩ := hm1.head
    obtain ⟨c0, c1, c2⟩ := hm1.at hrow
    have hfz := hm1.frozen
    obtain ⟨hB1, hG1⟩ := hm1.lt
    have hU1 := Blk.lt hb1
    have hput := hm1.put3 hrow ⟨vn, vs, vi⟩
    have hgw : Chg none w w1 := ((Chg.refl _ _).alloc _).trans g1
    have z1 : B < w1.heap.size + 1 := by omega
    have z2 : B < w1.heap.size + 1 + 1 := by omega
    have z3 : B < w1.heap.size + 2 := by omega
    have z4 : B < w1.heap.size + 1 + 1 + 1 := by omega
    have z5 : B < w1.heap.size + 3 := by omega
    have z6 : B < w1.heap.size + 1 + 1 + 1 + 1 := by omega
    have z7 : B < w1.heap.size + 4 := by omega
    have z8 : G < w1.heap.size + 1 := by omega
    have z9 : G < w1.heap.size + 1 + 1 := by omega
    have z10 : G < w1.heap.size + 2 := by omega
    have z11 : G < w1.heap.size + 1 + 1 + 1 := by omega
    have z12 : G < w1.heap.size + 3 := by omega
    have z13 : G < w1.heap.size + 1 + 1 + 1 + 1 := by omega
    have z14 : G < w1.heap.size + 4 := by omega
    have z15 : w.heap.size < w1.heap.size + 1 := by omega
    have z16 : w.heap.size < w1.heap.size + 1 + 1 := by omega
    have z17 : w.heap.size < w1.heap.size + 2 := by omega
    have z18 : w.heap.size < w1.heap.size + 1 + 1 + 1 := by omega
    have z19 : w.heap.size < w1.heap.size + 3 := by omega
    have z20 : w.heap.size < w1.heap.size + 1 + 1 + 1 + 1 := by omega
    have z21 : w.heap.size < w1.heap.size + 4 := by omega
    clear hM hma hBu hb1 hrow
    go_wp2_with fail
    go_region
    go_wp2_with fail
    go_region
    go_wp2_with fail
    refine (hGr.out _).mono ?_
    rintro e w' ⟨rfl, rfl⟩
    clear hGr
    go_wp2_with fail
    go_region
    go_wp2_with fail
    go_ret2
    rw [hvv] at hput
    exact ⟨rfl, by repeat (first | (with_reducible exact hput) | (with_reducible refine RefAt.drew ?_) | (with_reducible refine RefAt.alloc ?_ _)), by repeat (first | (with_reducible exact hgw.weaken) | (with_reducible refine Chg.drew ?_) | (with_reducible refine Chg.alloc ?_ _) | (with_reducible refine Chg.setCell ?_ _ _))⟩
  · rw [if_pos rfl, Bool.true_and]
    go_enter Try.func21, Try.ntmps21
    go_wp2_with fail
    refine hM.mono ?_
    rintro e w1 ⟨rfl, g1⟩
    have hm1 := hma.chg g1 (by simp) (by simp)
    have hb1 := Blk.chg hBu g1 (by simp)
    obtain ⟨b0, b1, b2⟩ := Blk.three hb1
    obtain ⟨h0, h1⟩ := hm1.head
    obtain ⟨c0, c1, c2⟩ := hm1.at hrow
    have hfz := hm1.frozen
    obtain ⟨hB1, hG1⟩ := hm1.lt
    have hU1 := Blk.lt hb1
    have hput := hm1.put3 hrow ⟨n, us, ui⟩
    have hgw : Chg none w w1 := ((Chg.refl _ _).alloc _).trans g1
    have z1 : B < w1.heap.size + 1 := by omega
    have z2 : B < w1.heap.size + 1 + 1 := by omega
    have z3 : B < w1.heap.size + 2 := by omega
    have z4 : B < w1.heap.size + 1 + 1 + 1 := by omega
    have z5 : B < w1.heap.size + 3 := by omega
    have z6 : B < w1.heap.size + 1 + 1 + 1 + 1 := by omega
    have z7 : B < w1.heap.size + 4 := by omega
    have z8 : G < w1.heap.size + 1 := by omega
    have z9 : G < w1.heap.size + 1 + 1 := by omega
    have z10 : G < w1.heap.size + 2 := by omega
    have z11 : G < w1.heap.size + 1 + 1 + 1 := by omega
    have z12 : G < w1.heap.size + 3 := by omega
    have z13 : G < w1.heap.size + 1 + 1 + 1 + 1 := by omega
    have z14 : G < w1.heap.size + 4 := by omega
    have z15 : w.heap.size < w1.heap.size + 1 := by omega
    have z16 : w.heap.size < w1.heap.size + 1 + 1 := by omega
    have z17 : w.heap.size < w1.heap.size + 2 := by omega
    have z18 : w.heap.size < w1.heap.size + 1 + 1 + 1 := by omega
    have z19 : w.heap.size < w1.heap.size + 3 := by omega
    have z20 : w.heap.size < w1.heap.size + 1 + 1 + 1 + 1 := by omega
    have z21 : w.heap.size < w1.heap.size + 4 := by omega
    clear hM hma hBu hb1 hrow
    go_wp2_with fail
    go_region
    go_wp2_with fail
    go_region
    go_wp2_with fail
    refine (hGr.out _).mono ?_
    rintro e w' ⟨rfl, rfl⟩
    clear hGr
    go_wp2_with fail
    go_region
    go_wp2_with fail
    go_ret2
    exact ⟨tup_eq (a := (!((n : Int) == vn) || (!(us == vs) || !(ui == vi)))) (by rw [Bool.not_and, Bool.not_and]), by repeat (first | (with_reducible exact hput) | (with_reducible refine RefAt.drew ?_) | (with_reducible refine RefAt.alloc ?_ _)), by repeat (first | (with_reducible exact hgw.weaken) | (with_reducible refine Chg.drew ?_) | (with_reducible refine Chg.alloc ?_ _) | (with_reducible refine Chg.setCell ?_ _ _))⟩


set_option maxRecDepth 100000 in
set_option maxHeartbeats 4000000 in
theorem rhear_self (B G cap : Nat) (m : M) (u v : U) (w : World) (hm : RefAt w B G cap m) (ho : m.ok) (hi : 0 ≤ u.inc) (hf : U.fine m u) (hs : u.node = m.self) (hv : m.stand[m.self]? = some v) :
    Calls Try.prog 21 #[.pointer (some ⟨B, 0, none⟩), u.val] w (RHearPost B G cap w (m.put m.self { v with inc := answered v.inc u }, decide (answered v.inc u ≠ v.inc), 0)) := by
  have hma := hm.alloc (.cells u.parts 31)
  have hM := rmay B G cap m u _ hma ho
  have hd : decide (U.fine m u) = true := by simpa using hf
  rw [hd] at hM
  have hown := ho.own
  have hrow := M.row_at hown hv
  obtain ⟨hBl, hGl⟩ := hm.lt
  have hle := hm.le
  have hne : ((m.self : Int) != (m.self : Int)) = false := by simp
  have hBu := Blk.new w u.parts 31
  have htop := ho.top
  obtain ⟨hf1, hf2, hf3⟩ := hf
  obtain ⟨un, us, ui⟩ := u
  obtain ⟨vn, vs, vi⟩ := v
  unfold U.val U.parts at *
  dsimp only at *
  subst hs
  have n31 := neq31
  have gd31 := Try.guard31
  clear hd ho hm hv hf1
  by_cases a1 : us = 1
  · have hb : (us == 1) = true := by simp [a1]
    by_cases a2 : vi < ui
    · have hz : answered vi ⟨m.self, us, ui⟩ = ui := by simp [answered, a1]; omega
      rw [hz]
      clear hz a1
      go_enter Try.func21, Try.ntmps21
      go_wp2_with fail
      refine hM.mono ?_
      rintro e w1 ⟨rfl, g1⟩
      have hm1 := hma.chg g1 (by simp) (by simp)
      have hb1 := Blk.chg hBu g1 (by simp)
      obtain ⟨b0, b1, b2⟩ := Blk.three hb1
      obtain ⟨h0, h1⟩ := hm1.head
      obtain ⟨c0, c1, c2⟩ := hm1.at hrow
      have hfz := hm1.frozen
      obtain ⟨hB1, hG1⟩ := hm1.lt
      have hU1 := Blk.lt hb1
      have hput := hm1.put3 hrow ⟨vn, vs, ui⟩
      have hgw : Chg none w w1 := ((Chg.refl _ _).alloc _).trans g1
      have z1 : B < w1.heap.size + 1 := by omega
      have z2 : B < w1.heap.size + 1 + 1 := by omega
      have z3 : B < w1.heap.size + 2 := by omega
      have z8 : G < w1.heap.size + 1 := by omega
      have z9 : G < w1.heap.size + 1 + 1 := by omega
      have z10 : G < w1.heap.size + 2 := by omega
      have z15 : w.heap.size < w1.heap.size + 1 := by omega
      have z16 : w.heap.size < w1.heap.size + 1 + 1 := by omega
      have z17 : w.heap.size < w1.heap.size + 2 := by omega
      clear hM hma hBu hb1 hrow
      go_wp2_with fail
      go_region
      go_wp2_with fail
      go_region
      go_wp2_with fail
      go_region
      go_wp2_with fail
      go_ret2
      exact ⟨tup_eq (by by_cases h : ui = vi <;> simp [h]), by repeat (first | (with_reducible exact hput) | (with_reducible refine RefAt.drew ?_) | (with_reducible refine RefAt.alloc ?_ _)), by repeat (first | (with_reducible exact hgw.weaken) | (with_reducible refine Chg.drew ?_) | (with_reducible refine Chg.alloc ?_ _) | (with_reducible refine Chg.setCell ?_ _ _))⟩
    · have hz : answered vi ⟨m.self, us, ui⟩ = vi := by simp [answered, a1]; omega
      rw [hz]
      clear hz a1
      go_enter Try.func21, Try.ntmps21
      go_wp2_with fail
      refine hM.mono ?_
      rintro e w1 ⟨rfl, g1⟩
      have hm1 := hma.chg g1 (by simp) (by simp)
      have hb1 := Blk.chg hBu g1 (by simp)
      obtain ⟨b0, b1, b2⟩ := Blk.three hb1
      obtain ⟨h0, h1⟩ := hm1.head
      obtain ⟨c0, c1, c2⟩ := hm1.at hrow
      have hfz := hm1.frozen
      obtain ⟨hB1, hG1⟩ := hm1.lt
      have hU1 := Blk.lt hb1
      have hput := hm1.put3 hrow ⟨vn, vs, vi⟩
      have hgw : Chg none w w1 := ((Chg.refl _ _).alloc _).trans g1
      have z1 : B < w1.heap.size + 1 := by omega
      have z2 : B < w1.heap.size + 1 + 1 := by omega
      have z3 : B < w1.heap.size + 2 := by omega
      have z8 : G < w1.heap.size + 1 := by omega
      have z9 : G < w1.heap.size + 1 + 1 := by omega
      have z10 : G < w1.heap.size + 2 := by omega
      have z15 : w.heap.size < w1.heap.size + 1 := by omega
      have z16 : w.heap.size < w1.heap.size + 1 + 1 := by omega
      have z17 : w.heap.size < w1.heap.size + 2 := by omega
      clear hM hma hBu hb1 hrow
      go_wp2_with fail
      go_region
      go_wp2_with fail
      go_region
      go_wp2_with fail
      go_region
      go_wp2_with fail
      go_ret2
      exact ⟨tup_eq (by simp), by repeat (first | (with_reducible exact hput) | (with_reducible refine RefAt.drew ?_) | (with_reducible refine RefAt.alloc ?_ _)), by repeat (first | (with_reducible exact hgw.weaken) | (with_reducible refine Chg.drew ?_) | (with_reducible refine Chg.alloc ?_ _) | (with_reducible refine Chg.setCell ?_ _ _))⟩
  · have hb : (us == 1) = false := beq_false_of_ne a1
    by_cases a2 : vi ≤ ui
    · by_cases a3 : ui < 1099511627776
      · have hz : answered vi ⟨m.self, us, ui⟩ = ui + 1 := by simp [answered, a1]; omega
        rw [hz]
        clear hz a1
        go_enter Try.func21, Try.ntmps21
        go_wp2_with fail
        refine hM.mono ?_
        rintro e w1 ⟨rfl, g1⟩
        have hm1 := hma.chg g1 (by simp) (by simp)
        have hb1 := Blk.chg hBu g1 (by simp)
        obtain ⟨b0, b1, b2⟩ := Blk.three hb1
        obtain ⟨h0, h1⟩ := hm1.head
        obtain ⟨c0, c1, c2⟩ := hm1.at hrow
        have hfz := hm1.frozen
        obtain ⟨hB1, hG1⟩ := hm1.lt
        have hU1 := Blk.lt hb1
        have hput := hm1.put3 hrow ⟨vn, vs, ui + 1⟩
        have hgw : Chg none w w1 := ((Chg.refl _ _).alloc _).trans g1
        have z1 : B < w1.heap.size + 1 := by omega
        have z2 : B < w1.heap.size + 1 + 1 := by omega
        have z3 : B < w1.heap.size + 2 := by omega
        have z8 : G < w1.heap.size + 1 := by omega
        have z9 : G < w1.heap.size + 1 + 1 := by omega
        have z10 : G < w1.heap.size + 2 := by omega
        have z15 : w.heap.size < w1.heap.size + 1 := by omega
        have z16 : w.heap.size < w1.heap.size + 1 + 1 := by omega
        have z17 : w.heap.size < w1.heap.size + 2 := by omega
        clear hM hma hBu hb1 hrow
        go_wp2_with fail
        go_region
        go_wp2_with fail
        go_region
        go_wp2_with fail
        go_region
        go_wp2_with fail
        go_ret2
        exact ⟨tup_eq (by by_cases h : ui + 1 = vi <;> simp [h]), by repeat (first | (with_reducible exact hput) | (with_reducible refine RefAt.drew ?_) | (with_reducible refine RefAt.alloc ?_ _)), by repeat (first | (with_reducible exact hgw.weaken) | (with_reducible refine Chg.drew ?_) | (with_reducible refine Chg.alloc ?_ _) | (with_reducible refine Chg.setCell ?_ _ _))⟩
      · have hz : answered vi ⟨m.self, us, ui⟩ = 1099511627776 := by simp [answered, a1]; omega
        rw [hz]
        obtain rfl : ui = 1099511627776 := by omega
        clear hz a1
        go_enter Try.func21, Try.ntmps21
        go_wp2_with fail
        refine hM.mono ?_
        rintro e w1 ⟨rfl, g1⟩
        have hm1 := hma.chg g1 (by simp) (by simp)
        have hb1 := Blk.chg hBu g1 (by simp)
        obtain ⟨b0, b1, b2⟩ := Blk.three hb1
        obtain ⟨h0, h1⟩ := hm1.head
        obtain ⟨c0, c1, c2⟩ := hm1.at hrow
        have hfz := hm1.frozen
        obtain ⟨hB1, hG1⟩ := hm1.lt
        have hU1 := Blk.lt hb1
        have hput := hm1.put3 hrow ⟨vn, vs, 1099511627776⟩
        have hgw : Chg none w w1 := ((Chg.refl _ _).alloc _).trans g1
        have z1 : B < w1.heap.size + 1 := by omega
        have z2 : B < w1.heap.size + 1 + 1 := by omega
        have z3 : B < w1.heap.size + 2 := by omega
        have z8 : G < w1.heap.size + 1 := by omega
        have z9 : G < w1.heap.size + 1 + 1 := by omega
        have z10 : G < w1.heap.size + 2 := by omega
        have z15 : w.heap.size < w1.heap.size + 1 := by omega
        have z16 : w.heap.size < w1.heap.size + 1 + 1 := by omega
        have z17 : w.heap.size < w1.heap.size + 2 := by omega
        clear hM hma hBu hb1 hrow
        go_wp2_with fail
        go_region
        go_wp2_with fail
        go_region
        go_wp2_with fail
        go_region
        go_wp2_with fail
        go_ret2
        exact ⟨tup_eq (by by_cases h : 1099511627776 = vi <;> simp [h]), by repeat (first | (with_reducible exact hput) | (with_reducible refine RefAt.drew ?_) | (with_reducible refine RefAt.alloc ?_ _)), by repeat (first | (with_reducible exact hgw.weaken) | (with_reducible refine Chg.drew ?_) | (with_reducible refine Chg.alloc ?_ _) | (with_reducible refine Chg.setCell ?_ _ _))⟩
    · have hz : answered vi ⟨m.self, us, ui⟩ = vi := by simp [answered, a1]; omega
      rw [hz]
      clear hz a1
      go_enter Try.func21, Try.ntmps21
      go_wp2_with fail
      refine hM.mono ?_
      rintro e w1 ⟨rfl, g1⟩
      have hm1 := hma.chg g1 (by simp) (by simp)
      have hb1 := Blk.chg hBu g1 (by simp)
      obtain ⟨b0, b1, b2⟩ := Blk.three hb1
      obtain ⟨h0, h1⟩ := hm1.head
      obtain ⟨c0, c1, c2⟩ := hm1.at hrow
      have hfz := hm1.frozen
      obtain ⟨hB1, hG1⟩ := hm1.lt
      have hU1 := Blk.lt hb1
      have hput := hm1.put3 hrow ⟨vn, vs, vi⟩
      have hgw : Chg none w w1 := ((Chg.refl _ _).alloc _).trans g1
      have z1 : B < w1.heap.size + 1 := by omega
      have z2 : B < w1.heap.size + 1 + 1 := by omega
      have z3 : B < w1.heap.size + 2 := by omega
      have z8 : G < w1.heap.size + 1 := by omega
      have z9 : G < w1.heap.size + 1 + 1 := by omega
      have z10 : G < w1.heap.size + 2 := by omega
      have z15 : w.heap.size < w1.heap.size + 1 := by omega
      have z16 : w.heap.size < w1.heap.size + 1 + 1 := by omega
      have z17 : w.heap.size < w1.heap.size + 2 := by omega
      clear hM hma hBu hb1 hrow
      go_wp2_with fail
      go_region
      go_wp2_with fail
      go_region
      go_wp2_with fail
      go_region
      go_wp2_with fail
      go_ret2
      exact ⟨tup_eq (by simp), by repeat (first | (with_reducible exact hput) | (with_reducible refine RefAt.drew ?_) | (with_reducible refine RefAt.alloc ?_ _)), by repeat (first | (with_reducible exact hgw.weaken) | (with_reducible refine Chg.drew ?_) | (with_reducible refine Chg.alloc ?_ _) | (with_reducible refine Chg.setCell ?_ _ _))⟩

theorem rhear (B G cap : Nat) (m : M) (u : U) (w : World) (hm : RefAt w B G cap m) (ho : m.ok) (hi : 0 ≤ u.inc) :
    Calls Try.prog 21 #[.pointer (some ⟨B, 0, none⟩), u.val] w (RHearPost B G cap w (hear m u)) := by
  by_cases hf : U.fine m u
  · obtain ⟨n, hn⟩ := Int.eq_ofNat_of_zero_le hf.1.1
    obtain ⟨v, hv⟩ := ho.get (n := n) (by have := hf.1.2; omega)
    have hg : m.stand.getD u.node.toNat default = v := by rw [hn, Int.toNat_natCast, List.getD_eq_getElem?_getD, hv]; rfl
    unfold hear
    rw [if_pos hf]
    dsimp only
    rw [hg]
    unfold hearU
    have hnode : v.node = n := (ho.node n v hv (by have := hf.1.2; omega)).1
    by_cases hs : u.node = m.self
    · have hnm : n = m.self := by omega
      subst hnm
      rw [if_pos hs, hs, Int.toNat_natCast]
      have := rhear_self B G cap m u v w hm ho hi hf hs hv
      rw [show decide (({ v with inc := answered v.inc u } : U) ≠ v) = decide (answered v.inc u ≠ v.inc) by
        obtain ⟨a, b, c⟩ := v
        simp]
      exact this
    · rw [if_neg hs, hn, Int.toNat_natCast]
      have := rhear_other B G cap m n u v w hm ho hn hf hs hv
      cases hgr : greater u v
      · rw [hgr] at this
        rw [if_neg (by simp), M.put_same m n v hv, show decide (v ≠ v) = false by simp]
        exact this
      · rw [hgr] at this
        rw [if_pos rfl, ne_fields]
        exact this
  · exact rhear_wrong B G cap m u w hm ho hf

end Go.Proofs.Ytiehbbbncmdchaa
