/-
  Small facts: rows, ranges, a walk over fewer worlds.
-/
import Derived.Test.YtglfakglcoffkaaDoorQ
import Derived.Deep.MidRow
import Derived.Deep.RegionHeld3
import Derived.Lib.SlBytesConst
import Derived.Laws.BitsAllLaws
import Derived.Laws.BitsLemmas
import Derived.BigRegion
namespace Go.Proofs.YtglfakglcoffkaaDoor
open Go.RowKit

theorem row_facts (bs : List UInt8) (n : Nat) (h : bs.length = n) : (byteVals bs).toArray.size = n ∧ (byteVals bs).toArray.all (·.oneCell') = true :=
  ⟨by rw [List.size_toArray, byteVals_len, h], Array.all_eq_true_iff_forall_mem.2 (fun v hv => byteVals_one _ v (by simpa using hv))⟩
theorem wpAnyH_to {P : Program} {md : Region.Mode} {ops : Array Oper} {Q : Exit → Act → World → Prop} {S S2 : World → Prop} (hs : ∀ w, S2 w → S w) :
    ∀ {fuel : Nat} {listed : Array Bool} {a : Act} {w : World}, wpAnyH P md ops Q S2 fuel listed a w → wpAnyH P md ops Q S fuel listed a w
  | 0, _, _, _, h => h
  | _ + 1, _, _, _, h => ⟨h.1, fun i hi => wpOp_mono (fun _ _ h' => ⟨hs _ h'.1, wpAnyH_to hs h'.2⟩) (h.2 i hi)⟩
theorem range_chg {w w' : World} {b : Nat} {cs : List Value} (h : w.rangeAt b 0 cs) (g : Chg none w w') : w'.rangeAt b 0 cs :=
  fun j v hv => World.grownBy.cell g (h j v hv) (by simp)
theorem Blk.range {w : World} {b : Nat} {cs : List Value} {T : TypeId} (h : BlkL w b cs T) : w.rangeAt b 0 cs := fun j v hv => by rw [Nat.zero_add, BlkL.cell h]; exact hv
theorem new_row (w : World) (cs : Array Value) : Chg none w ((w.alloc (.cells zero32 30)).setRow w.heap.size cs) ∧ Blk ((w.alloc (.cells zero32 30)).setRow w.heap.size cs) w.heap.size cs 30 :=
  ⟨Chg.own (b := w.heap.size) ((Chg.refl none w).alloc _) (chg_setRow _ _ _) (Nat.le_refl _), setRow_heap _ _ _ _ _ _ (heap_alloc_new w _)⟩

end Go.Proofs.YtglfakglcoffkaaDoor
