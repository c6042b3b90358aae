/-
  Bytes taken in, block by block: plain facts; the digest of nothing.
-/
import Derived.Test.YtglfakglcoffkaaDoorC
namespace Go.Proofs.YtglfakglcoffkaaDoor
open Go.RowKit

theorem tail_len (m : List UInt8) : (m.drop (64 * (m.length / 64))).length = m.length % 64 := by
  rw [List.length_drop]; omega

/-- What does not fill the block that is begun. -/
theorem small_step (m x : List UInt8) (h : m.length % 64 + x.length < 64) :
    (m ++ x).length / 64 = m.length / 64 ∧ (m ++ x).length % 64 = m.length % 64 + x.length ∧
      (m ++ x).drop (64 * (m.length / 64)) = m.drop (64 * (m.length / 64)) ++ x ∧ hashB (m ++ x) (m.length / 64) = hashB m (m.length / 64) := by
  rw [List.length_append]
  refine ⟨by omega, by omega, List.drop_append_of_le_length (by omega), hashB_append m x _ (by omega)⟩

/-- What fills the block that is begun. -/
theorem fill_step (m y : List UInt8) (h : m.length % 64 + y.length = 64) :
    (m ++ y).length / 64 = m.length / 64 + 1 ∧ (m ++ y).length % 64 = 0 ∧
      hashB (m ++ y) (m.length / 64 + 1) = compress (hashB m (m.length / 64)) (m.drop (64 * (m.length / 64)) ++ y) := by
  rw [List.length_append]
  refine ⟨by omega, by omega, ?_⟩
  rw [hashB, hashB_append m y _ (by omega), List.drop_append_of_le_length (by omega), List.take_of_length_le (by rw [List.length_append, tail_len]; omega)]

theorem empty_known : hashB (128 :: List.replicate 63 0) 1 = [0xe3b0c442, 0x98fc1c14, 0x9afbf4c8, 0x996fb924, 0x27ae41e4, 0x649b934c, 0xa495991b, 0x7852b855] := by decide +kernel

end Go.Proofs.YtglfakglcoffkaaDoor
