/-
  The document's own members (package ref): New.
-/
import Derived.Test.YtiehbbbncmdchaaY
import Derived.Deep.RegionLaw
namespace Go.Proofs.Ytiehbbbncmdchaa
open Go.RowKit

def freshU (s : Nat) (inc : Int) (i : Nat) : U := ⟨i, 1, if i = s then inc else 0⟩
def freshRow (s c : Nat) (inc : Int) : List U := (List.range c).map (freshU s inc)

theorem fresh_row (s c : Nat) (inc : Int) (hs : s < c) (hc : c ≤ 16) : (M.fresh s c inc).row = freshRow s c inc := by
  have hcount : (M.fresh s c inc).count = c := rfl
  apply List.ext_getElem?
  intro i
  by_cases hi : i < c
  · rw [M.row_get _ _ (by rw [hcount]; exact hi)]
    unfold M.fresh M.put freshRow
    rw [List.getElem?_map, List.getElem?_range hi]
    by_cases h : s = i
    · subst h
      rw [List.getElem?_set_self (by simp [M.making]; omega)]
      simp [freshU]
    · rw [List.getElem?_set_ne h, M.making_get _ _ _ _ (by omega), if_pos hi]
      simp [freshU, Ne.symm h]
  · rw [List.getElem?_eq_none (by unfold M.row; rw [List.length_take, hcount]; omega), List.getElem?_eq_none (by simp [freshRow]; omega)]

theorem freshRow_take (s c : Nat) (inc : Int) (k : Nat) (hk : k < c) : (freshRow s c inc).take (k + 1) = (freshRow s c inc).take k ++ [freshU s inc k] := by
  unfold freshRow
  rw [← List.map_take, ← List.map_take, List.take_range, List.take_range, Nat.min_eq_left (by omega), Nat.min_eq_left (by omega), List.range_succ, List.map_append]
  rfl

theorem own_tail {w : World} {base g n c : Nat} {L : List U} (h : w.ownsRow base 31 3 (.slice (some ⟨g, 0, none⟩) n c) n (L.flatMap U.cells)) :
    (∃ tail : List Value, BlkL w g (L.flatMap U.cells ++ tail) 31) ∧ n ≤ c ∧ base ≤ g := by
  obtain ⟨_, h⟩ := h
  rcases h with ⟨h, _⟩ | ⟨g', cap, cur, hv, hb, hg, hnc, _, _, ht⟩
  · cases h
  · injection hv with e1 e2 e3
    injection e1 with e1
    injection e1 with e1
    subst e1 e3
    refine ⟨⟨cur.toList.drop (n * 3), ?_⟩, hnc, hb⟩
    rw [← ht, List.take_append_drop]
    exact hg

set_option maxHeartbeats 1000000 in
theorem rnew_no (s c inc : Int) (w : World) (h : ¬ (0 ≤ s ∧ s < c ∧ c ≤ 16 ∧ inc ≤ 1099511627776)) :
    Calls Try.prog 14 #[.int .i64 s, .int .i64 c, .int .u64 inc] w fun e w' => e = .returned (.tuple #[.pointer none, .bool false]) ∧ w = w' := by
  by_cases h1 : c < 1
  · clear h
    go_enter Try.func14, Try.ntmps14
    go_wp2_with fail
    go_ret2
    exact ⟨rfl, rfl⟩
  · by_cases h2 : 16 < c
    · clear h
      go_enter Try.func14, Try.ntmps14
      go_wp2_with fail
      go_ret2
      exact ⟨rfl, rfl⟩
    · by_cases h3 : s < 0
      · clear h
        go_enter Try.func14, Try.ntmps14
        go_wp2_with fail
        go_ret2
        exact ⟨rfl, rfl⟩
      · by_cases h4 : c ≤ s
        · clear h
          go_enter Try.func14, Try.ntmps14
          go_wp2_with fail
          go_ret2
          exact ⟨rfl, rfl⟩
        · have h5 : 1099511627776 < inc := by omega
          clear h
          go_enter Try.func14, Try.ntmps14
          go_wp2_with fail
          go_ret2
          exact ⟨rfl, rfl⟩

set_option maxRecDepth 100000 in
set_option maxHeartbeats 2000000 in
theorem rnew_yes (s c : Nat) (inc : Int) (w : World) (hs : s < c) (hc : c ≤ 16) (hi : 0 ≤ inc ∧ inc ≤ 1099511627776) :
    Calls Try.prog 14 #[.int .i64 s, .int .i64 c, .int .u64 inc] w fun e w' =>
      e = .returned (.tuple #[.pointer (some ⟨w.heap.size, 0, none⟩), .bool true]) ∧ (∃ G cap, RefAt w' w.heap.size G cap (M.fresh s c inc) ∧ w.heap.size < G) ∧ Chg none w w' := by
  obtain ⟨hi0, hi1⟩ := hi
  have e1 : decide ((c : Int) < 1) = false := by simp; omega
  have e2 : decide ((16 : Int) < (c : Int)) = false := by simp; omega
  have e3 : decide ((s : Int) < 0) = false := by simp
  have e4 : decide (c ≤ s) = false := by simp; omega
  have e5 : decide (1099511627776 < inc) = false := by simp; omega
  obtain ⟨i0, hii, hz0, hz1, hz2⟩ := info_parts Try.info31
  have HT := Lib.hid (freshRow_take s c inc)
  have hfr := fresh_row s c inc hs hc
  have hfl : (freshRow s c inc).length = c := by simp [freshRow]
  have HF := Lib.hid hfr
  have HFL := Lib.hid hfl
  clear hfr hfl
  go_enter Try.func14, Try.ntmps14
  go_wp2_with fail
  go_loopw [9] (fun s9 wr => ∃ (k : Nat) (v : Value), k ≤ c ∧ s9 = .int .i64 k ∧ Blk wr w.heap.size #[.int .i64 s, v] 84 ∧ wr.ownsRow (w.heap.size + 1) 31 3 v k (((freshRow s c inc).take k).flatMap U.cells) ∧ Chg none w wr) (fun s9 _ => c - (intOf s9).toNat)
  case atStart => exact ⟨0, .slice none 0 0, by omega, rfl, Blk.new w _ _, World.ownsRow_nil _ _ _ _, (Chg.refl _ _).alloc _⟩
  case round =>
    obtain ⟨k, v, hk, rfl, hB, hown, hg⟩ := hrel
    obtain ⟨A, cc, rfl⟩ := own_slice hown
    by_cases hlt : k < c
    · have hbz := Blk.lt hB
      by_cases hks : k = s
      · subst hks
        have hbe : ((k : Int) == (k : Int)) = true := by simp
        go_wp2_with fail
        obtain ⟨wu, hwu⟩ : ∃ wu : World, wu = wr.alloc (.cells #[.int .i64 k, .int .u8 1, .int .u64 inc] 31) := ⟨_, rfl⟩
        rw [← hwu]
        have hBu : Blk wu w.heap.size #[.int .i64 k, .slice A k cc] 84 := by rw [hwu]; exact hB.alloc _
        have hUu : Blk wu wr.heap.size #[.int .i64 k, .int .u8 1, .int .u64 inc] 31 := by rw [hwu]; exact Blk.new wr _ _
        have hownu : wu.ownsRow (w.heap.size + 1) 31 3 (.slice A k cc) k (((freshRow k c inc).take k).flatMap U.cells) := by rw [hwu]; exact hown.alloc _
        have hgu : Chg none w wu := by rw [hwu]; exact hg.alloc _
        have hfu : freshU k inc k = ⟨k, 1, inc⟩ := by simp [freshU]
        clear hwu
        obtain ⟨p0, p1⟩ : wu.cell? ⟨w.heap.size, 0, none⟩ = some (.int .i64 k) ∧ wu.cell? ⟨w.heap.size, 1, none⟩ = some (.slice A k cc) := by constructor <;> (rw [Blk.cell hBu]; rfl)
        obtain ⟨q0, q1, q2⟩ := blk_three hUu
        have hbu := Blk.lt hBu
        have huu := Blk.lt hUu
        have HR := Lib.hid (fun (W : World) => (show Reads (W.alloc (.cells #[.int .i64 k, .int .u8 1, .int .u64 inc] 31)) (W.heap.size + 1) 3 (some ⟨W.heap.size, 0, none⟩) 1 [.int .i64 k, .int .u8 1, .int .u64 inc] from ⟨rfl, fun _ => ⟨_, rfl, Nat.lt_succ_self _, fun j u hu => by
          rw [Go.WideShapes.add_plain, Blk.cell (Blk.new W _ _)]
          simpa using hu⟩⟩))
        have HO := Lib.hid (show ∀ u ∈ [Value.int .i64 k, .int .u8 1, .int .u64 inc], u.oneCell' = true by intro u hu; simp at hu; rcases hu with rfl | rfl | rfl <;> rfl)
        have hs1 : k + 1 ≤ maxLen := by unfold maxLen; omega
        have hs2 : (k + 1) * 24 ≤ 140737488355328 := by omega
        have hbw : w.heap.size + 1 ≤ wu.heap.size + 1 := by omega
        have HK := Lib.hid (fun (W : World) (g : (wu.alloc (.cells #[.int .i64 k, .int .u8 1, .int .u64 inc] 31)).drew.grownBy W (Value.ownBlock (.slice A k cc))) => (show Blk W w.heap.size #[.int .i64 k, .slice A k cc] 84 from ((hBu.alloc _).drew).chg g (fun e => by have := (hownu.lt _ e.symm).1; omega)))
        go_region_law (first
          | (refine step_append_any _ rfl (.tmp 49) (.tmp 51) 42 rfl (w.heap.size + 1) 31 i0 (.agg #[.int .i64 0, .int .u8 0, .int .u64 0]) 3 24 Try.underlying42 hii hz0 hz1 hz2 rfl (by decide) (.slice A k cc) k _ rfl (hownu.alloc _) (wu.heap.size + 1) (some ⟨wu.heap.size, 0, none⟩) 1 1 [.int .i64 k, .int .u8 1, .int .u64 inc] rfl (HR.out wu) HO.out hs1 hs2 (by simp; omega) ?_
             intro v6 w6 hown6 hgr6' hat6
             have hgr6 : (wu.alloc (.cells #[.int .i64 k, .int .u8 1, .int .u64 inc] 31)).drew.grownBy w6 (Value.ownBlock (.slice A k cc)) := hgr6'
             clear hgr6' hat6
             have hB6 := HK.out _ hgr6
             have hf6 := Blk.frozen hB6 1
             have hc6 : w6.cell? ⟨w.heap.size, 1, none⟩ = some (.slice A k cc) := by rw [Blk.cell hB6]; rfl
             have hg6 : Chg none w w6 := Chg.ownRow (Chg.drew (hgu.alloc _)) hgr6 (fun x hx => by have := (hownu.lt x hx).1; omega)
             obtain ⟨A6, c6, rfl⟩ := own_slice hown6))
        all_goals
          have hflat : (((freshRow k c inc).take k).flatMap U.cells) ++ [.int .i64 k, .int .u8 1, .int .u64 inc] = ((freshRow k c inc).take (k + 1)).flatMap U.cells := by
            rw [HT.out k hlt, List.flatMap_append, hfu]; rfl
          rw [hflat] at hown6
          go_wp2_with fail
          go_roundw
          case rel => exact ⟨k + 1, _, by omega, by go_num, Blk.set hB6 1 _, ownsRow_setCell_below hown6 (Nat.lt_succ_self _) _, hg6.setNew _ (Nat.le_refl _) _⟩
          case measure => simp [intOf]; omega
      · have hbe : ((k : Int) == (s : Int)) = false := beq_false_of_ne (by omega)
        go_wp2_with fail
        obtain ⟨wu, hwu⟩ : ∃ wu : World, wu = wr.alloc (.cells #[.int .i64 k, .int .u8 1, .int .u64 0] 31) := ⟨_, rfl⟩
        rw [← hwu]
        have hBu : Blk wu w.heap.size #[.int .i64 s, .slice A k cc] 84 := by rw [hwu]; exact hB.alloc _
        have hUu : Blk wu wr.heap.size #[.int .i64 k, .int .u8 1, .int .u64 0] 31 := by rw [hwu]; exact Blk.new wr _ _
        have hownu : wu.ownsRow (w.heap.size + 1) 31 3 (.slice A k cc) k (((freshRow s c inc).take k).flatMap U.cells) := by rw [hwu]; exact hown.alloc _
        have hgu : Chg none w wu := by rw [hwu]; exact hg.alloc _
        have hfu : freshU s inc k = ⟨k, 1, 0⟩ := by simp [freshU, hks]
        clear hwu
        obtain ⟨p0, p1⟩ : wu.cell? ⟨w.heap.size, 0, none⟩ = some (.int .i64 s) ∧ wu.cell? ⟨w.heap.size, 1, none⟩ = some (.slice A k cc) := by constructor <;> (rw [Blk.cell hBu]; rfl)
        obtain ⟨q0, q1, q2⟩ := blk_three hUu
        have hbu := Blk.lt hBu
        have huu := Blk.lt hUu
        have HR := Lib.hid (fun (W : World) => (show Reads (W.alloc (.cells #[.int .i64 k, .int .u8 1, .int .u64 0] 31)) (W.heap.size + 1) 3 (some ⟨W.heap.size, 0, none⟩) 1 [.int .i64 k, .int .u8 1, .int .u64 0] from ⟨rfl, fun _ => ⟨_, rfl, Nat.lt_succ_self _, fun j u hu => by
          rw [Go.WideShapes.add_plain, Blk.cell (Blk.new W _ _)]
          simpa using hu⟩⟩))
        have HO := Lib.hid (show ∀ u ∈ [Value.int .i64 k, .int .u8 1, .int .u64 0], u.oneCell' = true by intro u hu; simp at hu; rcases hu with rfl | rfl | rfl <;> rfl)
        have hs1 : k + 1 ≤ maxLen := by unfold maxLen; omega
        have hs2 : (k + 1) * 24 ≤ 140737488355328 := by omega
        have hbw : w.heap.size + 1 ≤ wu.heap.size + 1 := by omega
        have HK := Lib.hid (fun (W : World) (g : (wu.alloc (.cells #[.int .i64 k, .int .u8 1, .int .u64 0] 31)).drew.grownBy W (Value.ownBlock (.slice A k cc))) => (show Blk W w.heap.size #[.int .i64 s, .slice A k cc] 84 from ((hBu.alloc _).drew).chg g (fun e => by have := (hownu.lt _ e.symm).1; omega)))
        go_region_law (first
          | (refine step_append_any _ rfl (.tmp 49) (.tmp 51) 42 rfl (w.heap.size + 1) 31 i0 (.agg #[.int .i64 0, .int .u8 0, .int .u64 0]) 3 24 Try.underlying42 hii hz0 hz1 hz2 rfl (by decide) (.slice A k cc) k _ rfl (hownu.alloc _) (wu.heap.size + 1) (some ⟨wu.heap.size, 0, none⟩) 1 1 [.int .i64 k, .int .u8 1, .int .u64 0] rfl (HR.out wu) HO.out hs1 hs2 (by simp; omega) ?_
             intro v6 w6 hown6 hgr6' hat6
             have hgr6 : (wu.alloc (.cells #[.int .i64 k, .int .u8 1, .int .u64 0] 31)).drew.grownBy w6 (Value.ownBlock (.slice A k cc)) := hgr6'
             clear hgr6' hat6
             have hB6 := HK.out _ hgr6
             have hf6 := Blk.frozen hB6 1
             have hc6 : w6.cell? ⟨w.heap.size, 1, none⟩ = some (.slice A k cc) := by rw [Blk.cell hB6]; rfl
             have hg6 : Chg none w w6 := Chg.ownRow (Chg.drew (hgu.alloc _)) hgr6 (fun x hx => by have := (hownu.lt x hx).1; omega)
             obtain ⟨A6, c6, rfl⟩ := own_slice hown6))
        all_goals
          have hflat : (((freshRow s c inc).take k).flatMap U.cells) ++ [.int .i64 k, .int .u8 1, .int .u64 0] = ((freshRow s c inc).take (k + 1)).flatMap U.cells := by
            rw [HT.out k hlt, List.flatMap_append, hfu]; rfl
          rw [hflat] at hown6
          go_wp2_with fail
          go_roundw
          case rel => exact ⟨k + 1, _, by omega, by go_num, Blk.set hB6 1 _, ownsRow_setCell_below hown6 (Nat.lt_succ_self _) _, hg6.setNew _ (Nat.le_refl _) _⟩
          case measure => simp [intOf]; omega
    · obtain rfl : k = c := by omega
      go_wp2_with fail
      go_ret2
      rw [List.take_of_length_le (by rw [HFL.out]; exact Nat.le_refl _), ← HF.out] at hown
      obtain ⟨g, cap, hv, hbg, hlt⟩ := hown.form (by omega)
      injection hv with ea eb ec
      subst ea ec
      obtain ⟨h1, h2, h3⟩ := own_tail hown
      exact ⟨rfl, ⟨g, cc, ⟨hB, h1, h2, by omega⟩, by omega⟩, hg⟩

end Go.Proofs.Ytiehbbbncmdchaa
