/-
  Two rows of words, kept in new blocks.
-/
import Derived.Test.YtehpigmcmgfkoaaDoorRS
namespace Go.Proofs.YtehpigmcmgfkoaaDoor
open Go.RowKit

/-- The two rows of words, kept in new blocks. -/
def keptA (w : World) : World := (w.alloc (.cells noW8.toArray 25)).alloc (.cells (List.replicate 64 (Value.int .u32 0)).toArray 26)
def keptB (w : World) : World := ((keptA w).setRow w.heap.size (H0.map u32v).toArray).setRow (w.heap.size + 1) (K0.map u32v).toArray
theorem kept_4 (w : World) : (keptA w).heap[w.heap.size]? = some (.cells noW8.toArray 25 (0, 0)) :=
  Blk.alloc (Blk.new w noW8.toArray 25) _
theorem kept_5 (w : World) : ((keptA w).setRow w.heap.size (H0.map u32v).toArray).heap[w.heap.size + 1]? = some (.cells (List.replicate 64 (Value.int .u32 0)).toArray 26 (0, 0)) := by
  have h : Blk (keptA w) (w.heap.size + 1) (List.replicate 64 (Value.int .u32 0)).toArray 26 := Blk.newAt _ _ (by simp)
  exact Blk.chg h (chg_setRow _ w.heap.size _) (by simp)
theorem kept_H (w : World) : BlkL (keptB w) w.heap.size (H0.map u32v) 25 := by
  have h : Blk ((keptA w).setRow w.heap.size (H0.map u32v).toArray) w.heap.size (H0.map u32v).toArray 25 := setRow_heap _ _ _ _ _ _ (kept_4 w)
  exact Blk.chg h (chg_setRow _ (w.heap.size + 1) _) (by simp)
theorem kept_K (w : World) : BlkL (keptB w) (w.heap.size + 1) (K0.map u32v) 26 := setRow_heap _ _ _ _ _ _ (kept_5 w)
theorem kept_chg (w : World) : Chg none w (keptB w) := by
  have h1 : Chg none w (keptA w) := ((Chg.refl _ _).alloc _).alloc _
  have h2 : Chg none w ((keptA w).setRow w.heap.size (H0.map u32v).toArray) := Chg.own h1 (chg_setRow _ _ _) (Nat.le_refl _)
  exact Chg.own h2 (chg_setRow _ _ _) (by omega)


end Go.Proofs.YtehpigmcmgfkoaaDoor
