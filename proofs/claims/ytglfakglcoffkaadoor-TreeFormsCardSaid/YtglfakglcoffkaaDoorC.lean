/-
  Package sha: what a hasher holds.
-/
import Derived.Test.YtglfakglcoffkaaDoorB
import Derived.Laws.CopyRow
import Derived.Laws.CopyOwn
namespace Go.Proofs.YtglfakglcoffkaaDoor
open Go.RowKit

def byteVals (bs : List UInt8) : List Value := bs.map fun x => .int .u8 x.toNat
theorem byteVals_len (bs : List UInt8) : (byteVals bs).length = bs.length := by simp [byteVals]
theorem byteVals_append (a b : List UInt8) : byteVals a ++ byteVals b = byteVals (a ++ b) := by simp [byteVals]
theorem byteVals_take (a : List UInt8) (n : Nat) : (byteVals a).take n = byteVals (a.take n) := by simp [byteVals]
theorem byteVals_drop (a : List UInt8) (n : Nat) : (byteVals a).drop n = byteVals (a.drop n) := by simp [byteVals]
theorem byteVals_one (bs : List UInt8) : ∀ v ∈ byteVals bs, v.oneCell' = true := by
  intro v hv
  simp only [byteVals, List.mem_map] at hv
  obtain ⟨x, _, rfl⟩ := hv
  rfl
theorem byteVals_get {bs : List UInt8} {k : Nat} {c : UInt8} (h : bs[k]? = some c) : (byteVals bs)[k]? = some (.int .u8 c.toNat) := by
  simp [byteVals, h]

/-- The eight words behind the first n blocks of m. -/
def hashB (m : List UInt8) : Nat → List Int
  | 0 => H0
  | n + 1 => compress (hashB m n) ((m.drop (64 * n)).take 64)

theorem compress_len (ws : List Int) (bs : List UInt8) : (compress ws bs).length = 8 := rfl
theorem hashB_len (m : List UInt8) : ∀ n, (hashB m n).length = 8
  | 0 => rfl
  | _ + 1 => compress_len _ _

theorem hashB_append (m x : List UInt8) : ∀ n, 64 * n ≤ m.length → hashB (m ++ x) n = hashB m n
  | 0, _ => rfl
  | n + 1, h => by
    rw [hashB, hashB, hashB_append m x n (by omega), List.drop_append_of_le_length (by omega), List.take_append_of_le_length (by rw [List.length_drop]; omega)]

/-- The hasher in block b has taken in m. -/
structure HsAt (w : World) (b : Nat) (m : List UInt8) : Prop where
  cells : ∃ rest : List Value, rest.length = 64 ∧ (∀ v ∈ rest, v.oneCell' = true) ∧ rest.take (m.length % 64) = byteVals (m.drop (64 * (m.length / 64))) ∧
    BlkL w b ((hashB m (m.length / 64)).map u32v ++ (rest ++ [.int .i64 ((m.length % 64 : Nat) : Int), .int .u64 (m.length : Int)])) 79

theorem HsAt.lt {w : World} {b : Nat} {m : List UInt8} (h : HsAt w b m) : b < w.heap.size := by
  obtain ⟨_, _, _, _, hb⟩ := h.cells
  exact Blk.lt hb
theorem HsAt.chg {w w' : World} {b : Nat} {c : Option Nat} {m : List UInt8} (h : HsAt w b m) (g : Chg c w w') (hne : some b ≠ c) : HsAt w' b m := by
  obtain ⟨r, h1, h2, h3, hb⟩ := h.cells
  exact ⟨r, h1, h2, h3, Blk.chg hb g hne⟩

end Go.Proofs.YtglfakglcoffkaaDoor
