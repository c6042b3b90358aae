/-
  Walks over package member: Copy.
-/
import Derived.Test.YtiehbbbncmdchaaY
import Derived.Laws.Tables
namespace Go.Proofs.Ytiehbbbncmdchaa
open Go.RowKit

set_option maxRecDepth 100000 in
set_option maxHeartbeats 1000000 in
theorem copy_made (b : Nat) (m : M) (w : World) (hm : MemAt w b m) (ho : m.ok) :
    Calls Try.prog 19 #[.pointer (some ⟨b, 0, none⟩)] w fun e w' => e = .returned (.pointer (some ⟨w.heap.size, 0, none⟩)) ∧ MemAt w' w.heap.size m ∧ Chg none w w' := by
  obtain ⟨h0, h1⟩ := hm.head
  have hb := Blk.lt hm
  have hN := isNone_some b m.count _ h1
  have hz : ((m.count : Int) == 0) = false := beq_false_of_ne (by have := ho.one; omega)
  rw [hz] at hN
  have hlen : m.cells.length = 50 := by
    unfold M.cells
    rw [List.length_cons, List.length_cons, flat_len U.cells 3 U.cells_len, ho.len]
  go_enter Try.func19, Try.ntmps19
  go_wp2_with fail
  refine hN.mono ?_
  rintro e w' ⟨rfl, rfl⟩
  clear hN h0 h1 hz
  have hone : ∀ v ∈ m.cells, v.oneCell' = true := by
    intro v hv
    unfold M.cells at hv
    simp only [List.mem_cons] at hv
    rcases hv with rfl | rfl | hv
    · rfl
    · rfl
    · exact oneCell_flat _ v hv
  have hall : m.cells.toArray.all (·.oneCell') = true := by simpa using hone
  have hsz : (Try.prog.info? 50).map (·.size) = some m.cells.toArray.size := by
    rw [List.size_toArray, hlen]; kernel_rfl
  have HS := Lib.hid hsz
  have HA := Lib.hid hall
  have HL := Lib.hid hlen
  have HM := Lib.hid hm
  have HBB := Lib.hid hb
  clear hsz hall hone hlen hm ho hb
  have hg : w.heap[b]? = some (.cells m.cells.toArray 50 (0, 0)) := HM.out
  have hcs : m.cells.toArray.size = 50 := by rw [List.size_toArray, HL.out]
  go_wp2_with (first | (refine wpList_load_row rfl 50 _ rfl b rfl 50 _ (0, 0) _ hg Try.underlying50 rfl HS.out ?_) | (refine wpList_store_row rfl 50 _ _ rfl w.heap.size m.cells.toArray rfl rfl 50 _ (heap_alloc_new _ _) HS.out (by rw [hcs]; rfl) HA.out ?_))
  go_ret
  refine ⟨rfl, setRow_heap _ _ _ _ _ _ (heap_alloc_new _ _), ?_⟩
  exact Chg.own (b := w.heap.size) ((Chg.refl none w).alloc _) ⟨rfl, rfl, rfl, by simp [World.setRow], fun i _ hn => setRow_other _ _ i _ (by simpa using hn)⟩ (Nat.le_refl _)

end Go.Proofs.Ytiehbbbncmdchaa
