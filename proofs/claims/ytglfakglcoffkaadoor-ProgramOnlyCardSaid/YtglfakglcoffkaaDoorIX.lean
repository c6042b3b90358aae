/-
  Small arrays, indexed as values.
-/
import Derived.Test.YtglfakglcoffkaaDoorPB1
import Derived.Lib.ConvBytes
namespace Go.Proofs.YtglfakglcoffkaaDoor
open Go.RowKit

theorem index100_0 (w : World) (a b c : ByteArray) : (Instr.index 100 (.agg #[.string a, .string b, .string c]) (.int .i64 0)).run Tryd.prog w = .ok (.string a) w := by
  have u := Tryd.underlying100
  have a1 := Tryd.isAgg9
  have z1 := Tryd.sizeOf9
  unfold Instr.index part
  go_simp
theorem index100_1 (w : World) (a b c : ByteArray) : (Instr.index 100 (.agg #[.string a, .string b, .string c]) (.int .i64 1)).run Tryd.prog w = .ok (.string b) w := by
  have u := Tryd.underlying100
  have a1 := Tryd.isAgg9
  have z1 := Tryd.sizeOf9
  unfold Instr.index part
  go_simp
theorem index100_2 (w : World) (a b c : ByteArray) : (Instr.index 100 (.agg #[.string a, .string b, .string c]) (.int .i64 2)).run Tryd.prog w = .ok (.string c) w := by
  have u := Tryd.underlying100
  have a1 := Tryd.isAgg9
  have z1 := Tryd.sizeOf9
  unfold Instr.index part
  go_simp
theorem index101_0 (w : World) (a b : Int) : (Instr.index 101 (.agg #[.int .i64 a, .int .i64 b]) (.int .i64 0)).run Tryd.prog w = .ok (.int .i64 a) w := by
  have u := Tryd.underlying101
  have a1 := Tryd.isAgg3
  have z1 := Tryd.sizeOf3
  unfold Instr.index part
  go_simp
theorem index101_1 (w : World) (a b : Int) : (Instr.index 101 (.agg #[.int .i64 a, .int .i64 b]) (.int .i64 1)).run Tryd.prog w = .ok (.int .i64 b) w := by
  have u := Tryd.underlying101
  have a1 := Tryd.isAgg3
  have z1 := Tryd.sizeOf3
  unfold Instr.index part
  go_simp

/-- A text, made a row of bytes. -/
theorem conv_sb (x : List UInt8) (w : World) : (convert 9 22 (.string ⟨x.toArray⟩)).run Tryd.prog w = .ok (.slice (some ⟨w.heap.size, 0, none⟩) x.length (grownCap w x.length 0 5)) (Lib.bytesWorld w 5 ⟨x.toArray⟩) := by
  have e : (⟨x.toArray⟩ : ByteArray).size = x.length := List.size_toArray
  have h := Lib.run_convert_string_bytes (P := Tryd.prog) w 9 22 5 ⟨x.toArray⟩ Tryd.underlying9 Tryd.underlying22 Tryd.underlying5
  rw [e] at h
  exact h
theorem sb_chg (x : ByteArray) (w : World) : Chg none w (Lib.bytesWorld w 5 x) :=
  ⟨rfl, rfl, rfl, by rw [Lib.bytesWorld_size]; omega, fun i hi _ => Lib.bytesWorld_at_old w 5 x i hi⟩
theorem sb_reads (x : List UInt8) (w : World) : Reads (Lib.bytesWorld w 5 ⟨x.toArray⟩) (Lib.bytesWorld w 5 ⟨x.toArray⟩).heap.size 1 (some ⟨w.heap.size, 0, none⟩) x.length (byteVals x) :=
  ⟨by rw [byteVals_len, Nat.mul_one], fun _ => ⟨_, rfl, by rw [Lib.bytesWorld_size]; exact Nat.lt_succ_self _, fun j u hu => by
    unfold byteVals at hu
    rw [List.getElem?_map, Option.map_eq_some_iff] at hu
    obtain ⟨c, h1, rfl⟩ := hu
    have hj : j < x.length := (List.getElem?_eq_some_iff.1 h1).1
    have e : (⟨x.toArray⟩ : ByteArray).size = x.length := List.size_toArray
    rw [Go.WideShapes.add_plain, Nat.zero_add, Lib.bytesWorld_cell w 5 ⟨x.toArray⟩ j (by rw [e]; exact hj)]
    have : x.getD j 0 = c := by rw [List.getD_eq_getElem?_getD, h1]; rfl
    rw [show (⟨x.toArray⟩ : ByteArray).data.toList.getD j 0 = c from this]⟩⟩

end Go.Proofs.YtglfakglcoffkaaDoor
