/-
  Walks over package member: Alive.
-/
import Derived.Test.YtiehbbbncmdchaaE
namespace Go.Proofs.Ytiehbbbncmdchaa
open Go.RowKit

theorem Try.info3 : (Try.prog.info? 3).map (fun i => (i.zero, i.size, i.bytes)) = some (some (.int .i64 0), 1, 8) := by kernel_rfl

theorem World.ownsRow.less {w : World} {b b' : Nat} {e : TypeId} {size : Nat} {v : Value} {n : Nat} {xs : List Value} (h : w.ownsRow b e size v n xs) (hb : b' ≤ b) : w.ownsRow b' e size v n xs := by
  refine ⟨h.1, ?_⟩
  rcases h.2 with hn | ⟨g, cap, cur, hv, hbg, rest⟩
  · exact .inl hn
  · exact .inr ⟨g, cap, cur, hv, by omega, rest⟩

def aliveOf (L : List U) : List Int := (L.filter fun u => decide (u.st ≠ 3)).map (·.node)

theorem aliveOf_snoc (L : List U) (u : U) : aliveOf (L ++ [u]) = aliveOf L ++ if u.st = 3 then [] else [u.node] := by
  unfold aliveOf
  rw [List.filter_append, List.map_append]
  by_cases h : u.st = 3 <;> simp [h]

theorem aliveOf_len (L : List U) : (aliveOf L).length ≤ L.length := by
  unfold aliveOf; rw [List.length_map]; exact List.length_filter_le _ _

/-- What is written to a row that is new since u is no change of what was there. -/
theorem Chg.ownRow {c row : Option Nat} {u v w : World} (h : Chg c u v) (k : v.grownBy w row) (hb : ∀ g, row = some g → u.heap.size ≤ g) : Chg c u w :=
  ⟨k.os.trans h.os, k.tape.trans h.tape, k.output.trans h.output, Nat.le_trans h.size k.size,
    fun i hi hn => (k.block i (Nat.lt_of_lt_of_le hi h.size) (fun e => by have := hb i e.symm; omega)).trans (h.block i hi hn)⟩

def AlivePost (w : World) (m : M) (e : Ending) (w' : World) : Prop :=
  ∃ v, e = .returned v ∧ w'.ownsRow w.heap.size 3 1 v (aliveOf (m.stand.take m.count)).length ((aliveOf (m.stand.take m.count)).map (Value.int .i64)) ∧ Chg none w w'

set_option maxRecDepth 100000 in
set_option maxHeartbeats 1000000 in
theorem alive_made (b : Nat) (m : M) (w : World) (hm : MemAt w b m) (ho : m.ok) :
    Calls Try.prog 27 #[.pointer (some ⟨b, 0, none⟩)] w (AlivePost w m) := by
  have hA := all_made b m w hm ho
  obtain ⟨i0, hi, hz0, hz1, hz2⟩ := info_parts Try.info3
  have hlen := ho.len
  have htop := ho.top
  have hone := ho.one
  go_enter Try.func27, Try.ntmps27
  go_wp2_with fail
  refine hA.mono ?_
  rintro e w1 ⟨rfl, h1, g1⟩
  have hz := Blk.lt h1
  generalize hL : m.stand.take m.count = L at *
  have hLl : L.length = m.count := by rw [← hL, List.length_take]; omega
  have HL := Lib.hid hL
  have HLL := Lib.hid hLl
  clear hL hLl hlen hA ho
  go_wp2_with fail
  go_loopw [3, 9] (fun s3 s9 wr => ∃ (k : Nat), k ≤ m.count ∧ s9 = .int .i64 k ∧ wr.ownsRow w1.heap.size 3 1 s3 (aliveOf (L.take k)).length ((aliveOf (L.take k)).map (Value.int .i64)) ∧ Chg none w1 wr)
    (fun _ s9 _ => m.count - (intOf s9).toNat)
  case atStart => exact ⟨0, by omega, rfl, World.ownsRow_nil _ _ _ _, Chg.refl _ _⟩
  case round =>
    obtain ⟨k, hk, rfl, hown, hg⟩ := hrel
    by_cases hlt : k < m.count
    · have hx : L[k]? = some (L[k]'(by rw [HLL.out]; omega)) := List.getElem?_eq_getElem _
      have htk : L.take (k + 1) = L.take k ++ [L[k]'(by rw [HLL.out]; omega)] := List.take_succ_eq_append_getElem _
      generalize L[k]'(by rw [HLL.out]; omega) = u at *
      have hcell : ∀ j, j < 3 → wr.cell? ⟨w.heap.size, k * 3 + j, none⟩ = u.cells[j]? := fun j hj => by
        rw [BlkL.cell (Blk.chg h1 hg (by simp))]
        exact flat_get U.cells 3 U.cells_len L k j u hx hj
      have c0 := hcell 0 (by omega)
      have c1 := hcell 1 (by omega)
      have c2 := hcell 2 (by omega)
      simp only [U.cells, List.getElem?_cons_zero, List.getElem?_cons_succ, Nat.add_zero] at c0 c1 c2
      have hs := aliveOf_snoc (L.take k) u
      rw [← htk] at hs
      have HS := Lib.hid hs
      have hal := aliveOf_len (L.take k)
      have htl : (L.take k).length ≤ k := List.length_take_le _ _
      obtain ⟨un, us, ui⟩ := u
      dsimp only at c0 c1 c2
      have hwz : w.heap.size < wr.heap.size := Nat.lt_of_lt_of_le hz hg.size
      clear hx htk hcell hs
      by_cases h3 : us = 3
      · have hb3 : (us == 3) = true := by simp [h3]
        have H3 := Lib.hid h3
        clear h3
        go_wp2_with fail
        go_roundw
        case rel => exact ⟨k + 1, by omega, by go_num, by rw [HS.out, if_pos H3.out, List.append_nil]; exact (hown.alloc _), hg.alloc _⟩
        case measure => simp [intOf]; omega
      · have hb3 : (us == 3) = false := by simp [h3]
        have H3 := Lib.hid h3
        clear h3
        go_wp2_with (at_builtin; refine wpList_append_own _ rfl _ _ 43 rfl w1.heap.size 3 i0 (.int .i64 0) 1 8 Try.underlying43 hi hz0 hz1 hz2 rfl (by decide) _ _ _ rfl ((hown.alloc _).alloc _) ⟨wr.heap.size + 1, 0, none⟩ 1 1 [.int .i64 un] rfl rfl ?c1 ?c2 ?c3 ?c4 ?c5 ?_)
        case c2 => rfl
        case c3 => unfold maxLen; omega
        case c4 => omega
        case c5 => have := hg.size; omega
        intro v' w2 hown' hgrow _
        go_wp2_with fail
        go_roundw
        case rel =>
          refine ⟨k + 1, by omega, by go_num, ?_, ?_⟩
          · rw [HS.out, if_neg H3.out, List.map_append, List.length_append]
            exact hown'
          · exact Chg.ownRow ((hg.alloc _).alloc _) hgrow (fun g hg' => (hown.lt g hg').1)
        case measure => simp [intOf]; omega
    · obtain rfl : k = m.count := by omega
      go_wp2_with fail
      go_ret
      rw [List.take_of_length_le (by rw [HLL.out]; exact Nat.le_refl _)] at hown
      refine ⟨_, rfl, ?_, g1.trans hg⟩
      rw [HL.out]
      exact World.ownsRow.less hown g1.size

end Go.Proofs.Ytiehbbbncmdchaa
