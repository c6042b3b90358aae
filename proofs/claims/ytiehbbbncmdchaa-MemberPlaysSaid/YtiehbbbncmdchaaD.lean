/-
  Walks over package member: Hear.
-/
import Derived.Test.YtiehbbbncmdchaaB
import Derived.Test.YtiehbbbncmdchaaQ
import Derived.Deep.RegionHeld3
import Derived.Deep.DeepCutAuto
namespace Go.Proofs.Ytiehbbbncmdchaa
open Go.RowKit

theorem MemAt.put3 {w : World} {b : Nat} {m : M} (h : MemAt w b m) {n : Nat} {u : U} (hn : m.stand[n]? = some u) (u' : U) :
    MemAt (((w.setCell ⟨b, 2 + n * 3, none⟩ (.int .i64 u'.node)).setCell ⟨b, 2 + n * 3 + 1, none⟩ (.int .u8 u'.st)).setCell ⟨b, 2 + n * 3 + 2, none⟩ (.int .u64 u'.inc)) b (m.put n u') := by
  have hl : n < m.stand.length := (List.getElem?_eq_some_iff.1 hn).1
  have h1 := h.put1 hn 0 (by omega) ⟨u'.node, u.st, u.inc⟩ (.int .i64 u'.node) rfl
  have h2 := h1.put1 (n := n) (u := ⟨u'.node, u.st, u.inc⟩) (by simp [M.put, hl]) 1 (by omega) ⟨u'.node, u'.st, u.inc⟩ (.int .u8 u'.st) rfl
  have h3 := h2.put1 (n := n) (u := ⟨u'.node, u'.st, u.inc⟩) (by simp [M.put, hl]) 2 (by omega) u' (.int .u64 u'.inc) rfl
  have e : ((m.put n ⟨u'.node, u.st, u.inc⟩).put n ⟨u'.node, u'.st, u.inc⟩).put n u' = m.put n u' := by simp [M.put]
  rw [e] at h3
  exact h3

def U.fine (m : M) (u : U) : Prop := (0 ≤ u.node ∧ u.node < m.count) ∧ (1 ≤ u.st ∧ u.st ≤ 3) ∧ u.inc ≤ 1099511627776
instance (m : M) (u : U) : Decidable (U.fine m u) := by unfold U.fine; exact inferInstance

/-- What stands of the member that is told of, when it is heard. -/
def hearU (m : M) (u v : U) : U :=
  if u.node = m.self then { v with inc := answered v.inc u } else if greater u v then u else v

def hear (m : M) (u : U) : M × Bool × Int :=
  if U.fine m u then
    let v := m.stand.getD u.node.toNat default
    (m.put u.node.toNat (hearU m u v), decide (hearU m u v ≠ v), 0)
  else (m, false, 2)

def HearPost (b : Nat) (w : World) (r : M × Bool × Int) (e : Ending) (w' : World) : Prop :=
  e = .returned (.tuple #[.bool r.2.1, .int .i64 r.2.2]) ∧ MemAt w' b r.1 ∧ Chg (some b) w w'

theorem Blk.newAt {w : World} {n : Nat} (cs : Array Value) (T : TypeId) (h : n = w.heap.size) : Blk (w.alloc (.cells cs T)) n cs T := by
  rw [h]; exact Blk.new w cs T
theorem Blk.three {w : World} {b : Nat} {x y z : Value} {T : TypeId} (h : Blk w b #[x, y, z] T) :
    w.cell? ⟨b, 0, none⟩ = some x ∧ w.cell? ⟨b, 1, none⟩ = some y ∧ w.cell? ⟨b, 2, none⟩ = some z := by
  refine ⟨?_, ?_, ?_⟩ <;> (rw [Blk.cell h]; rfl)

/-- The middle of Hear: what is merged stands there; what was told, and what stood there before, are kept. -/
def HearMid (b : Nat) (m' : M) (w : World) (u v : U) (wx : World) : Prop :=
  MemAt wx b m' ∧ Chg (some b) w wx ∧ Blk wx w.heap.size u.parts 31 ∧ Blk wx (w.heap.size + 1) v.parts 31

theorem bne_dec (a b : Int) : (!(a == b)) = decide (a ≠ b) := by
  by_cases h : a = b <;> simp [h]

def U.val (u : U) : Value := .agg #[.int .i64 u.node, .int .u8 u.st, .int .u64 u.inc]

set_option maxHeartbeats 400000 in
theorem hear_wrong (b : Nat) (m : M) (u : U) (w : World) (hm : MemAt w b m) (ho : m.ok) (hi : 0 ≤ u.inc) (hf : ¬ U.fine m u) :
    Calls Try.prog 20 #[.pointer (some ⟨b, 0, none⟩), u.val] w (HearPost b w (hear m u)) := by
  obtain ⟨h0, h1⟩ := hm.head
  have hb := Blk.lt hm
  have hma := hm.alloc (.cells u.parts 31)
  have hN := isNone_some b m.count _ hma.head.2
  have hz : ((m.count : Int) == 0) = false := beq_false_of_ne (by have := ho.one; omega)
  rw [hz] at hN
  have hH := has_some b m.count u.node _ hma.head.2 (by have := ho.one; omega)
  have hfin : hear m u = (m, false, 2) := by unfold hear; rw [if_neg hf]
  rw [hfin]
  obtain ⟨un, us, ui⟩ := u
  unfold U.val U.parts U.fine at *
  dsimp only at *
  by_cases hr : 0 ≤ un ∧ un < m.count
  · have hd : decide (0 ≤ un ∧ un < (m.count : Int)) = true := by simpa using hr
    rw [hd] at hH
    by_cases hs : us < 1
    · clear hd hz ho hf hfin
      go_enter Try.func20, Try.ntmps20
      go_wp2_with fail
      refine hN.mono ?_
      rintro e w' ⟨rfl, rfl⟩
      go_wp2_with fail
      refine hH.mono ?_
      rintro e w' ⟨rfl, rfl⟩
      go_wp2_with fail
      go_ret2
      exact ⟨rfl, hma, (Chg.refl _ _).alloc _⟩
    · by_cases hs' : 3 < us
      · clear hd hz ho hf hfin
        go_enter Try.func20, Try.ntmps20
        go_wp2_with fail
        refine hN.mono ?_
        rintro e w' ⟨rfl, rfl⟩
        go_wp2_with fail
        refine hH.mono ?_
        rintro e w' ⟨rfl, rfl⟩
        go_wp2_with fail
        go_ret2
        exact ⟨rfl, hma, (Chg.refl _ _).alloc _⟩
      · have hs3 : 1099511627776 < ui := by omega
        clear hd hz ho hf hfin
        go_enter Try.func20, Try.ntmps20
        go_wp2_with fail
        refine hN.mono ?_
        rintro e w' ⟨rfl, rfl⟩
        go_wp2_with fail
        refine hH.mono ?_
        rintro e w' ⟨rfl, rfl⟩
        go_wp2_with fail
        go_ret2
        exact ⟨rfl, hma, (Chg.refl _ _).alloc _⟩
  · have hd : decide (0 ≤ un ∧ un < (m.count : Int)) = false := by simpa using hr
    rw [hd] at hH
    clear hd hz ho hf hfin hr
    go_enter Try.func20, Try.ntmps20
    go_wp2_with fail
    refine hN.mono ?_
    rintro e w' ⟨rfl, rfl⟩
    go_wp2_with fail
    refine hH.mono ?_
    rintro e w' ⟨rfl, rfl⟩
    go_wp2_with fail
    go_ret2
    exact ⟨rfl, hma, (Chg.refl _ _).alloc _⟩

set_option maxRecDepth 100000 in
set_option maxHeartbeats 1000000 in
theorem hear_self (b : Nat) (m : M) (u v : U) (w : World) (hm : MemAt w b m) (ho : m.ok) (hi : 0 ≤ u.inc) (hf : U.fine m u) (hs : u.node = m.self) (hv : m.stand[m.self]? = some v) :
    Calls Try.prog 20 #[.pointer (some ⟨b, 0, none⟩), u.val] w (HearPost b w (m.put m.self { v with inc := answered v.inc u }, decide (answered v.inc u ≠ v.inc), 0)) := by
  obtain ⟨h0, h1⟩ := hm.head
  have hb := Blk.lt hm
  have hfz := Blk.frozen hm
  have hma := hm.alloc (.cells u.parts 31)
  have hN := isNone_some b m.count _ hma.head.2
  have hz : ((m.count : Int) == 0) = false := beq_false_of_ne (by have := ho.one; omega)
  rw [hz] at hN
  have hH := has_some b m.count u.node _ hma.head.2 (by have := ho.one; omega)
  obtain ⟨c0, c1, c2⟩ := hm.at hv
  have hA := fun W => answered_any v.inc u W ⟨hi, hf.2.2⟩
  have hown := ho.own
  have htop := ho.top
  obtain ⟨un, us, ui⟩ := u
  obtain ⟨vn, vs, vi⟩ := v
  unfold U.val U.parts U.fine at *
  dsimp only at *
  subst hs
  have hd : decide ((0 : Int) ≤ (m.self : Int) ∧ (m.self : Int) < (m.count : Int)) = true := by simp; omega
  rw [hd] at hH
  generalize answered vi ⟨m.self, us, ui⟩ = z at *
  have HA := Lib.hid hA
  obtain ⟨hf1, hf2, hf3⟩ := hf
  clear hd hz ho hA
  go_enter Try.func20, Try.ntmps20
  go_wp2_with fail
  refine hN.mono ?_
  rintro e w' ⟨rfl, rfl⟩
  go_wp2_with fail
  refine hH.mono ?_
  rintro e w' ⟨rfl, rfl⟩
  go_wp2_with fail
  go_region
  go_wp2_with fail
  go_region
  go_wp2_with fail
  have hb1 : b < w.heap.size + 1 := by omega
  have hb2 : b < w.heap.size + 1 + 1 := by omega
  have hb3 : b < w.heap.size + 2 := by omega
  have hput := hm.put1 hv 2 (by omega) ⟨vn, vs, z⟩ (.int .u64 z) rfl
  have hsz : (w.setCell ⟨b, 2 + m.self * 3 + 2, none⟩ (.int .u64 z)).heap.size = w.heap.size := by simp [World.setCell]
  have hpu : (m.put m.self ⟨vn, vs, z⟩).stand[m.self]? = some ⟨vn, vs, z⟩ := by
    have := (List.getElem?_eq_some_iff.1 hv).1
    simp [M.put, this]
  have HSZ := Lib.hid hsz
  clear hsz
  go_cut [55] (fun _ wx => HearMid b (m.put m.self ⟨vn, vs, z⟩) w ⟨m.self, us, ui⟩ ⟨vn, vs, vi⟩ wx)
  case first =>
    go_region_with ((go_at_call 37; refine (HA.out _).mono ?_; rintro e w1 ⟨rfl, rfl⟩))
    all_goals
      go_wp2_with fail
      go_meet
      refine ⟨?_, ?_, ?_, ?_⟩
      · exact (((hput.alloc _).alloc _).alloc _)
      · exact (by repeat (first | (with_reducible exact Chg.refl _ _) | (with_reducible refine Chg.drew ?_) | (with_reducible refine Chg.alloc ?_ _) | (with_reducible refine Chg.setCell ?_ _ _)))
      · exact (((Blk.newAt _ _ HSZ.out.symm).alloc _).alloc _)
      · exact ((Blk.newAt (w := (w.setCell ⟨b, 2 + m.self * 3 + 2, none⟩ (.int .u64 z)).alloc _) _ _ (by simp [HSZ.out])).alloc _)
  case rest =>
    obtain ⟨h2, g2, k2, k3⟩ := hcut
    obtain ⟨p0, p1, p2⟩ := h2.at hpu
    obtain ⟨q0, -, -⟩ := Blk.three k2
    obtain ⟨r0, r1, r2⟩ := Blk.three k3
    clear c0 c1 c2 h0 h1 hput hpu
    have n31 := neq31
    have gd31 := Try.guard31
    go_wp2_with fail
    go_region
    all_goals go_wp2_with fail
    all_goals go_ret2
    all_goals exact ⟨by rw [bne_dec]; rfl, h2, by repeat (first | (with_reducible exact g2) | (with_reducible refine Chg.drew ?_))⟩

set_option maxRecDepth 100000 in
set_option maxHeartbeats 1000000 in
theorem hear_other (b : Nat) (m : M) (n : Nat) (u v : U) (w : World) (hm : MemAt w b m) (ho : m.ok) (hn : u.node = n) (hf : U.fine m u) (hs : u.node ≠ m.self) (hv : m.stand[n]? = some v) :
    Calls Try.prog 20 #[.pointer (some ⟨b, 0, none⟩), u.val] w (HearPost b w (if greater u v then m.put n u else m, greater u v && !(u.node == v.node && (u.st == v.st && u.inc == v.inc)), 0)) := by
  obtain ⟨h0, h1⟩ := hm.head
  have hb := Blk.lt hm
  have hfz := Blk.frozen hm
  have hma := hm.alloc (.cells u.parts 31)
  have hN := isNone_some b m.count _ hma.head.2
  have hz : ((m.count : Int) == 0) = false := beq_false_of_ne (by have := ho.one; omega)
  rw [hz] at hN
  have hH := has_some b m.count u.node _ hma.head.2 (by have := ho.one; omega)
  obtain ⟨c0, c1, c2⟩ := hm.at hv
  have hG := fun W => greater_any u v W
  have hown := ho.own
  have htop := ho.top
  have hpu : (m.put n u).stand[n]? = some u := by
    have := (List.getElem?_eq_some_iff.1 hv).1
    simp [M.put, this]
  have hput := hm.put3 hv u
  obtain ⟨un, us, ui⟩ := u
  obtain ⟨vn, vs, vi⟩ := v
  unfold U.val U.parts U.fine at *
  dsimp only at *
  subst hn
  have hd : decide ((0 : Int) ≤ (n : Int) ∧ (n : Int) < (m.count : Int)) = true := by simp; omega
  rw [hd] at hH
  generalize hgr : greater ⟨n, us, ui⟩ ⟨vn, vs, vi⟩ = gr at *
  have HG := Lib.hid hG
  obtain ⟨hf1, hf2, hf3⟩ := hf
  have hne : ((n : Int) == (m.self : Int)) = false := beq_false_of_ne hs
  have hnc : n < m.count := by omega
  have hb1 : b < w.heap.size + 1 := by omega
  have hb2 : b < w.heap.size + 1 + 1 := by omega
  have hb3 : b < w.heap.size + 2 := by omega
  have hb4 : b < w.heap.size + 1 + 1 + 1 := by omega
  have hb5 : b < w.heap.size + 3 := by omega
  have n31 := neq31
  have gd31 := Try.guard31
  clear hd hz ho hG hs hgr hf1
  cases gr
  · go_enter Try.func20, Try.ntmps20
    go_wp2_with fail
    refine hN.mono ?_
    rintro e w' ⟨rfl, rfl⟩
    go_wp2_with fail
    refine hH.mono ?_
    rintro e w' ⟨rfl, rfl⟩
    go_wp2_with fail
    go_region
    go_wp2_with fail
    go_region
    go_wp2_with fail
    refine (HG.out _).mono ?_
    rintro e w' ⟨rfl, rfl⟩
    go_wp2_with fail
    go_region
    go_wp2_with fail
    go_ret2
    exact ⟨rfl, by repeat (first | (with_reducible exact hm) | (with_reducible refine MemAt.drew ?_) | (with_reducible refine MemAt.alloc ?_ _)), by repeat (first | (with_reducible exact Chg.refl _ _) | (with_reducible refine Chg.drew ?_) | (with_reducible refine Chg.alloc ?_ _))⟩
  · have e1 : (n : Int) == (n : Int) := by simp
    go_enter Try.func20, Try.ntmps20
    go_wp2_with fail
    refine hN.mono ?_
    rintro e w' ⟨rfl, rfl⟩
    go_wp2_with fail
    refine hH.mono ?_
    rintro e w' ⟨rfl, rfl⟩
    go_wp2_with fail
    go_region
    go_wp2_with fail
    go_region
    go_wp2_with fail
    refine (HG.out _).mono ?_
    rintro e w' ⟨rfl, rfl⟩
    go_wp2_with fail
    go_region
    go_wp2_with fail
    go_region
    go_wp2_with fail
    go_ret2
    exact ⟨rfl, by repeat (first | (with_reducible exact hput) | (with_reducible refine MemAt.drew ?_) | (with_reducible refine MemAt.alloc ?_ _)), by repeat (first | (with_reducible exact Chg.refl _ _) | (with_reducible refine Chg.drew ?_) | (with_reducible refine Chg.alloc ?_ _) | (with_reducible refine Chg.setCell ?_ _ _))⟩

end Go.Proofs.Ytiehbbbncmdchaa
