/-
  Walks over package member: All, Copy.
-/
import Derived.Test.YtiehbbbncmdchaaB
namespace Go.Proofs.Ytiehbbbncmdchaa
open Go.RowKit

theorem Try.info31 : (Try.prog.info? 31).map (fun i => (i.zero, i.size, i.bytes)) = some (some (.agg #[.int .i64 0, .int .u8 0, .int .u64 0]), 3, 24) := by kernel_rfl

theorem take_flat {α : Type} (cells : α → List Value) (k : Nat) (hk : ∀ a, (cells a).length = k) (L : List α) (n : Nat) : (L.take n).flatMap cells = (L.flatMap cells).take (n * k) := by
  induction n generalizing L with
  | zero => simp
  | succ n ih =>
    cases L with
    | nil => simp
    | cons x L =>
      rw [List.take_succ_cons, List.flatMap_cons, List.flatMap_cons, ih, Nat.succ_mul, List.take_append, hk, List.take_of_length_le (l := cells x) (by rw [hk]; omega), show n * k + k - k = n * k by omega]

def AllPost (w : World) (m : M) (e : Ending) (w' : World) : Prop :=
  e = .returned (.slice (some ⟨w.heap.size, 0, none⟩) m.count m.count) ∧ BlkL w' w.heap.size ((m.stand.take m.count).flatMap U.cells) 31 ∧ Chg none w w'

theorem oneCell_flat (L : List U) : ∀ v ∈ L.flatMap U.cells, v.oneCell' = true := by
  intro v hv
  obtain ⟨u, _, hu⟩ := List.mem_flatMap.1 hv
  simp [U.cells] at hu
  rcases hu with rfl | rfl | rfl <;> rfl

set_option maxRecDepth 100000 in
set_option maxHeartbeats 1000000 in
theorem all_made (b : Nat) (m : M) (w : World) (hm : MemAt w b m) (ho : m.ok) :
    Calls Try.prog 23 #[.pointer (some ⟨b, 0, none⟩)] w (AllPost w m) := by
  obtain ⟨h0, h1⟩ := hm.head
  have hb := Blk.lt hm
  have hN := isNone_some b m.count _ h1
  have hz : ((m.count : Int) == 0) = false := beq_false_of_ne (by have := ho.one; omega)
  rw [hz] at hN
  have htop := ho.top
  obtain ⟨i0, hi, hz0, hz1, hz2⟩ := info_parts Try.info31
  have hlen : ((m.stand.take m.count).flatMap U.cells).length = m.count * 3 := by
    rw [flat_len U.cells 3 U.cells_len, List.length_take, ho.len]
    rw [Nat.min_eq_left htop]
  have hsrc : ∀ j v, ((m.stand.take m.count).flatMap U.cells)[j]? = some v → w.cell? ⟨b, 2 + j, none⟩ = some v := by
    intro j v hj
    rw [take_flat U.cells 3 U.cells_len, List.getElem?_take] at hj
    split at hj
    · rw [BlkL.cell hm, Nat.add_comm]; exact hj
    · cases hj
  have hone := oneCell_flat (m.stand.take m.count)
  have HL := Lib.hid hlen
  have HS := Lib.hid hsrc
  have HO := Lib.hid hone
  generalize hcs : (m.stand.take m.count).flatMap U.cells = cs at *
  have HC := Lib.hid hcs
  clear hz ho hlen hsrc hone hcs
  go_enter Try.func23, Try.ntmps23
  go_wp2_with fail
  refine hN.mono ?_
  rintro e w' ⟨rfl, rfl⟩
  go_wp2_with (at_make; refine wpList_make_full _ rfl (.tmp 9) (.tmp 9) 42 rfl w.heap.size 31 i0 (.agg #[.int .i64 0, .int .u8 0, .int .u64 0]) 3 Try.underlying42 hi hz0 hz1 .i64 .i64 _ _ m.count rfl rfl rfl rfl ?c2 ?c3 (Nat.le_refl _) ?_)
  case c2 => rw [hz2]; omega
  case c3 => unfold maxLen; omega
  intro w1 hown hg
  obtain ⟨hcl, hcur⟩ := hown
  obtain ⟨cur, hcur, hcsz⟩ : ∃ cur : Array Value, w1.heap[w.heap.size]? = some (.cells cur 31 (0, 0)) ∧ cur.size = m.count * 3 := by
    rcases hcur with ⟨h, _⟩ | ⟨g, cap, cur, hv, _, hgg, _, _, hsz, _⟩
    · cases h
    · injection hv with e1 e2 e3
      injection e1 with e1
      injection e1 with e1
      subst e1 e3
      exact ⟨cur, hgg, hsz⟩
  have hmin : Nat.min 16 m.count = m.count := Nat.min_eq_right htop
  have HCUR := Lib.hid hcur
  have HM := Lib.hid hmin
  have hcell : ∀ a v, a.block < w.heap.size → w.cell? a = some v → w1.cell? a = some v := fun a v _ h => World.grownBy.cell hg h (by simp)
  have HCE := Lib.hid hcell
  clear hcl hcur hmin hcell
  go_wp2_with (with_reducible refine wpList_copy_sized (o := ⟨some 16, _, _, _, _, _⟩) rfl (.tmp 11) (.tmp 15) 42 42 rfl 31 3 Try.underlying42 ?d1 w.heap.size m.count m.count ⟨b, 2, none⟩ 16 16 rfl rfl cur 31 HCUR.out cs ?d2 ?d3 ?d4 HO.out ?_)
  case d1 => kernel_rfl
  case d2 => rw [HL.out, HM.out]
  case d3 =>
    intro j v hj
    rw [Go.WideShapes.add_plain]
    exact HCE.out _ _ hb (HS.out j v hj)
  case d4 => rw [HL.out, hcsz]; exact Nat.le_refl _
  intro w2 h2 g2
  go_wp2_with fail
  go_ret
  have hdr : cur.toList.drop cs.length = [] := by rw [HL.out]; exact List.drop_eq_nil_of_le (by simp [hcsz])
  rw [hdr, List.append_nil] at h2
  refine ⟨rfl, ?_, Chg.own hg g2 (Nat.le_refl _)⟩
  rw [HC.out]
  exact h2

end Go.Proofs.Ytiehbbbncmdchaa
