/-
  The document's own members (package ref): May, Alive.
-/
import Derived.Test.YtiehbbbncmdchaaY
namespace Go.Proofs.Ytiehbbbncmdchaa
open Go.RowKit

def RMayPost (w : World) (b : Bool) (e : Ending) (w' : World) : Prop := e = .returned (.bool b) ∧ Chg none w w'

set_option maxHeartbeats 1000000 in
theorem rmay (B G cap : Nat) (m : M) (u : U) (w : World) (hm : RefAt w B G cap m) (ho : m.ok) :
    Calls Try.prog 39 #[.pointer (some ⟨B, 0, none⟩), u.val] w (RMayPost w (decide (U.fine m u))) := by
  have hma := hm.alloc (.cells u.parts 31)
  obtain ⟨h0, h1⟩ := hma.head
  obtain ⟨hBl, hGl⟩ := hma.lt
  have htop := ho.top
  obtain ⟨un, us, ui⟩ := u
  unfold U.val U.parts U.fine at *
  dsimp only at *
  by_cases a1 : 0 ≤ un
  · by_cases a2 : un < m.count
    · by_cases a3 : 1 ≤ us
      · by_cases a4 : us ≤ 3
        · by_cases a5 : ui ≤ 1099511627776
          · have hr : decide ((0 ≤ un ∧ un < (m.count : Int)) ∧ (1 ≤ us ∧ us ≤ 3) ∧ ui ≤ 1099511627776) = true := by simp; omega
            rw [hr]
            clear hr ho
            go_enter Try.func39, Try.ntmps39
            go_wp2_with fail
            go_region
            all_goals go_wp2_with fail
            all_goals go_ret
            all_goals exact ⟨rfl, by repeat (first | (with_reducible exact Chg.refl _ _) | (with_reducible refine Chg.drew ?_) | (with_reducible refine Chg.alloc ?_ _))⟩
          · have hr : decide ((0 ≤ un ∧ un < (m.count : Int)) ∧ (1 ≤ us ∧ us ≤ 3) ∧ ui ≤ 1099511627776) = false := by simp; omega
            rw [hr]
            have a5' : decide (ui ≤ 1099511627776) = false := by simp; omega
            clear hr ho
            go_enter Try.func39, Try.ntmps39
            go_wp2_with fail
            go_region
            all_goals go_wp2_with fail
            all_goals go_ret
            all_goals exact ⟨rfl, by repeat (first | (with_reducible exact Chg.refl _ _) | (with_reducible refine Chg.drew ?_) | (with_reducible refine Chg.alloc ?_ _))⟩
        · have hr : decide ((0 ≤ un ∧ un < (m.count : Int)) ∧ (1 ≤ us ∧ us ≤ 3) ∧ ui ≤ 1099511627776) = false := by simp; omega
          rw [hr]
          have a4' : decide (us ≤ 3) = false := by simp; omega
          clear hr ho
          go_enter Try.func39, Try.ntmps39
          go_wp2_with fail
          go_region
          all_goals go_wp2_with fail
          all_goals go_ret
          all_goals exact ⟨rfl, by repeat (first | (with_reducible exact Chg.refl _ _) | (with_reducible refine Chg.drew ?_) | (with_reducible refine Chg.alloc ?_ _))⟩
      · have hr : decide ((0 ≤ un ∧ un < (m.count : Int)) ∧ (1 ≤ us ∧ us ≤ 3) ∧ ui ≤ 1099511627776) = false := by simp; omega
        rw [hr]
        have a3' : decide (1 ≤ us) = false := by simp; omega
        clear hr ho
        go_enter Try.func39, Try.ntmps39
        go_wp2_with fail
        go_region
        all_goals go_wp2_with fail
        all_goals go_ret
        all_goals exact ⟨rfl, by repeat (first | (with_reducible exact Chg.refl _ _) | (with_reducible refine Chg.drew ?_) | (with_reducible refine Chg.alloc ?_ _))⟩
    · have hr : decide ((0 ≤ un ∧ un < (m.count : Int)) ∧ (1 ≤ us ∧ us ≤ 3) ∧ ui ≤ 1099511627776) = false := by simp; omega
      rw [hr]
      have a2' : decide (un < (m.count : Int)) = false := by simp; omega
      clear hr ho
      go_enter Try.func39, Try.ntmps39
      go_wp2_with fail
      go_region
      all_goals go_wp2_with fail
      all_goals go_ret
      all_goals exact ⟨rfl, by repeat (first | (with_reducible exact Chg.refl _ _) | (with_reducible refine Chg.drew ?_) | (with_reducible refine Chg.alloc ?_ _))⟩
  · have hr : decide ((0 ≤ un ∧ un < (m.count : Int)) ∧ (1 ≤ us ∧ us ≤ 3) ∧ ui ≤ 1099511627776) = false := by simp; omega
    rw [hr]
    have a1' : decide (0 ≤ un) = false := by simp; omega
    clear hr ho
    go_enter Try.func39, Try.ntmps39
    go_wp2_with fail
    go_region
    all_goals go_wp2_with fail
    all_goals go_ret
    all_goals exact ⟨rfl, by repeat (first | (with_reducible exact Chg.refl _ _) | (with_reducible refine Chg.drew ?_) | (with_reducible refine Chg.alloc ?_ _))⟩

set_option maxRecDepth 100000 in
set_option maxHeartbeats 1000000 in
theorem ralive (B G cap : Nat) (m : M) (w : World) (hm : RefAt w B G cap m) (ho : m.ok) :
    Calls Try.prog 40 #[.pointer (some ⟨B, 0, none⟩)] w (AlivePost w m) := by
  obtain ⟨h0, h1⟩ := hm.head
  obtain ⟨hBl, hGl⟩ := hm.lt
  obtain ⟨i0, hi, hz0, hz1, hz2⟩ := info_parts Try.info3
  have hle := hm.le
  have htop := ho.top
  have HH := Lib.hid (fun W (g : Chg none w W) => (hm.chg g (by simp) (by simp)).head)
  have HA := Lib.hid (fun W (g : Chg none w W) n u (hn : m.row[n]? = some u) => (hm.chg g (by simp) (by simp)).at hn)
  have HLL := Lib.hid (M.row_len ho)
  have HN := Lib.hid (fun j u (h : m.row[j]? = some u) => (M.row_node ho j u h).2.2)
  clear ho
  have hrow : m.stand.take m.count = m.row := rfl
  unfold AlivePost
  rw [hrow]
  generalize m.row = L at *
  go_enter Try.func40, Try.ntmps40
  go_wp2_with fail
  go_loopw [3, 4] (fun s3 s9 wr => ∃ (k : Nat), k ≤ m.count ∧ s9 = .int .i64 k ∧ wr.ownsRow w.heap.size 3 1 s3 (aliveOf (L.take k)).length ((aliveOf (L.take k)).map (Value.int .i64)) ∧ Chg none w wr)
    (fun _ s9 _ => m.count - (intOf s9).toNat)
  case atStart => exact ⟨0, by omega, rfl, World.ownsRow_nil _ _ _ _, Chg.refl _ _⟩
  case round =>
    obtain ⟨k, hk, rfl, hown, hg⟩ := hrel
    obtain ⟨q0, q1⟩ := HH.out _ hg
    by_cases hlt : k < m.count
    · have hx : L[k]? = some (L[k]'(by rw [HLL.out]; omega)) := List.getElem?_eq_getElem _
      have htk : L.take (k + 1) = L.take k ++ [L[k]'(by rw [HLL.out]; omega)] := List.take_succ_eq_append_getElem _
      generalize L[k]'(by rw [HLL.out]; omega) = u at *
      obtain ⟨c0, c1, c2⟩ := HA.out _ hg _ _ hx
      have hnode := HN.out _ _ hx
      have hs := aliveOf_snoc (L.take k) u
      rw [← htk] at hs
      have HS := Lib.hid hs
      have hal := aliveOf_len (L.take k)
      have htl : (L.take k).length ≤ k := List.length_take_le _ _
      obtain ⟨un, us, ui⟩ := u
      dsimp only at c0 c1 c2 hnode
      subst hnode
      have hwz : G < wr.heap.size := Nat.lt_of_lt_of_le hGl hg.size
      have hwz2 : B < wr.heap.size := Nat.lt_of_lt_of_le hBl hg.size
      clear hx htk hs
      by_cases h3 : us = 3
      · have hb3 : (us != 3) = false := by simp [h3]
        have H3 := Lib.hid h3
        clear h3
        go_wp2_with fail
        go_roundw
        case rel => exact ⟨k + 1, by omega, by go_num, by rw [HS.out, if_pos H3.out, List.append_nil]; exact hown, hg⟩
        case measure => simp [intOf]; omega
      · have hb3 : (us != 3) = true := by simp [h3]
        have H3 := Lib.hid h3
        clear h3
        go_wp2_with (at_builtin; refine wpList_append_own _ rfl _ _ 43 rfl w.heap.size 3 i0 (.int .i64 0) 1 8 Try.underlying43 hi hz0 hz1 hz2 rfl (by decide) _ _ _ rfl (hown.alloc _) ⟨wr.heap.size, 0, none⟩ 1 1 [.int .i64 k] rfl rfl ?c1 ?c2 ?c3 ?c4 ?c5 ?_)
        case c2 => rfl
        case c3 => unfold maxLen; omega
        case c4 => omega
        case c5 => have := hg.size; omega
        intro v' w2 hown' hgrow _
        go_wp2_with fail
        go_roundw
        case rel =>
          refine ⟨k + 1, by omega, by go_num, ?_, ?_⟩
          · rw [HS.out, if_neg H3.out, List.map_append, List.length_append]
            exact hown'
          · exact Chg.ownRow (hg.alloc _) hgrow (fun g hg' => (hown.lt g hg').1)
        case measure => simp [intOf]; omega
    · obtain rfl : k = m.count := by omega
      go_wp2_with fail
      go_ret
      rw [List.take_of_length_le (by rw [HLL.out]; exact Nat.le_refl _)] at hown
      exact ⟨_, rfl, hown, hg⟩

end Go.Proofs.Ytiehbbbncmdchaa
