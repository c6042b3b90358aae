/-
  Small things that many texts want: ranges kept, bytes of the call's own, bytes as a string, noughts made.
-/
import Derived.Test.YtglfakglcoffkaaDoorP0
import Derived.Laws.IdiomStrings
import Derived.Laws.BytesArg
namespace Go.Proofs.YtglfakglcoffkaaDoor
open Go.RowKit

def zeros (n : Nat) : List UInt8 := List.replicate n 0

theorem rangeAt_chg {w w' : World} {b o : Nat} {cs : List Value} {c : Option Nat} (h : w.rangeAt b o cs) (g : Chg c w w') (hc : some b ≠ c) : w'.rangeAt b o cs :=
  fun j v hv => World.grownBy.cell g (h j v hv) hc

/-- Bytes in memory of the call's own. -/
def OwnPost (w : World) (bs : List UInt8) (e : Ending) (w' : World) : Prop :=
  ∃ A c, e = .returned (.slice A bs.length c) ∧ w'.ownsRow w.heap.size 5 1 (.slice A bs.length c) bs.length (byteVals bs) ∧ Chg none w w'

theorem conv_reads (w : World) {A : Option Addr} {n c B : Nat} {bs : List UInt8} (h : Reads w B 1 A n (byteVals bs)) :
    (convert 22 9 (.slice A n c)).run Tryd.prog w = .ok (.string ⟨bs.toArray⟩) w := by
  obtain rfl : n = bs.length := by have := h.1; rw [byteVals_len] at this; omega
  rcases Nat.eq_zero_or_pos bs.length with h0 | h0
  · have : bs = [] := List.eq_nil_of_length_eq_zero h0
    subst this
    rcases A with _ | ad
    · exact run_convert_bytes_nil (P := Tryd.prog) w 22 5 Tryd.underlying22 Tryd.underlying5 _ _ 9 Tryd.underlying9
    · exact run_convert_bytes_back w 22 9 5 ad c [] Tryd.underlying22 Tryd.underlying5 Tryd.underlying9 (fun j hj => by simp at hj)
  · obtain ⟨ad, rfl, hb, hc⟩ := h.2 h0
    refine run_convert_bytes_back w 22 9 5 ad c bs Tryd.underlying22 Tryd.underlying5 Tryd.underlying9 (fun j hj => ?_)
    refine hc j _ ?_
    simp [byteVals, List.getElem?_eq_getElem hj]

theorem make_n (n : Nat) (hn : n ≤ 1000000) (w : World) : (Instr.makeSlice 22 (.int .i64 n) (.int .i64 n)).run Tryd.prog w = .ok (.slice (some ⟨w.heap.size, 0, none⟩) n n) (w.alloc (.cells (byteVals (zeros n)).toArray 5)) := by
  obtain ⟨i0, hi, hz0, hz1, hz2⟩ := info_parts Tryd.info5
  have hr := run_make (P := Tryd.prog) w 22 5 i0 (.int .u8 0) Tryd.underlying22 hi hz0 .i64 .i64 (n : Int) (n : Int) (by omega) (Int.le_refl _) (by rw [hz2]; omega) (by omega)
  have hz : byteVals (zeros n) = List.replicate n (Value.int .u8 0) := by simp [byteVals, zeros]
  rw [hr, Int.toNat_natCast, hz1, Nat.mul_one, made_zero, hz]

theorem prt_of_row {w : World} {b : Nat} {bs : List UInt8} {T : TypeId} {n : Nat} (h : BlkL w b (byteVals bs) T) (hn : bs.length ≤ n) : (⟨some ⟨b, 0, none⟩, bs, n⟩ : Prt).ok w :=
  ⟨fun _ => ⟨b, 0, rfl, h.lt, fun j c hj => by rw [Nat.zero_add, BlkL.cell h]; exact byteVals_get hj⟩, hn⟩

end Go.Proofs.YtglfakglcoffkaaDoor
