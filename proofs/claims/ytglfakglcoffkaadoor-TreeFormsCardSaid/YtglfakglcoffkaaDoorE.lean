/-
  The padding of a text, and a digest as bytes.
-/
import Derived.Test.YtglfakglcoffkaaDoorD6
import Derived.Outline
namespace Go.Proofs.YtglfakglcoffkaaDoor
open Go.RowKit

theorem Tryd.info5 : (Tryd.prog.info? 5).map (fun i => (i.zero, i.size, i.bytes)) = some (some (.int .u8 0), 1, 1) := by kernel_rfl

/-- The last k bytes of n, the highest first. -/
def be : Nat → Nat → List UInt8
  | 0, _ => []
  | k + 1, n => UInt8.ofNat (n / 2 ^ (8 * k)) :: be k n
theorem be_len : ∀ k n, (be k n).length = k
  | 0, _ => rfl
  | k + 1, n => by rw [be, List.length_cons, be_len k n]
theorem be_get : ∀ (k n j : Nat), j < k → (be k n)[j]? = some (UInt8.ofNat (n / 2 ^ (8 * (k - 1 - j))))
  | 0, _, _, h => by omega
  | k + 1, n, 0, _ => by rw [be]; simp
  | k + 1, n, j + 1, h => by
    rw [be, List.getElem?_cons_succ, be_get k n j (by omega)]
    congr 5
    omega
theorem be_take_succ (k n j : Nat) (h : j < k) : (be k n).take (j + 1) = (be k n).take j ++ [UInt8.ofNat (n / 2 ^ (8 * (k - 1 - j)))] := by
  rw [List.take_succ_eq_append_getElem (by rw [be_len]; exact h)]
  congr 2
  have := be_get k n j h
  rw [List.getElem?_eq_getElem (by rw [be_len]; exact h)] at this
  simpa using this
theorem byte_shr (n k : Nat) : ((UInt8.ofNat (n / 2 ^ k)).toNat : Int) = (n : Int) / 2 ^ k % 256 := by
  simp [UInt8.toNat_ofNat']

def noughts (n : Nat) : Nat := (119 - n % 64) % 64
def padHead (n : Nat) : List UInt8 := 128 :: List.replicate (noughts n) 0
def padOf (n : Nat) : List UInt8 := padHead n ++ be 8 (n * 8)
def padded (m : List UInt8) : List UInt8 := m ++ padOf m.length
theorem padHead_len (n : Nat) : (padHead n).length = noughts n + 1 := by simp [padHead]
theorem padOf_len (n : Nat) : (padOf n).length = noughts n + 9 := by rw [padOf, List.length_append, padHead_len, be_len]
theorem padded_mod (m : List UInt8) : (padded m).length % 64 = 0 := by
  rw [padded, List.length_append, padOf_len, noughts]; omega

def byteOf (x : Int) : UInt8 := UInt8.ofNat (x % 256).toNat
theorem byteOf_val (x : Int) : ((byteOf x).toNat : Int) = x % 256 := by
  unfold byteOf
  have h1 : 0 ≤ x % 256 := Int.emod_nonneg _ (by omega)
  have h2 : x % 256 < 256 := Int.emod_lt_of_pos _ (by omega)
  rw [UInt8.toNat_ofNat', Nat.mod_eq_of_lt (by omega)]
  omega
def wordBytes (x : Int) : List UInt8 := [byteOf (x / 16777216), byteOf (x / 65536), byteOf (x / 256), byteOf x]
def wordsBytes (ws : List Int) : List UInt8 := ws.flatMap wordBytes
/-- The digest of m. -/
def dig (m : List UInt8) : List UInt8 := wordsBytes (hashB (padded m) ((padded m).length / 64))
theorem wordsBytes_len : ∀ ws : List Int, (wordsBytes ws).length = 4 * ws.length
  | [] => rfl
  | x :: ws => by
    have := wordsBytes_len ws
    unfold wordsBytes at *
    rw [List.flatMap_cons, List.length_append, this]; simp [wordBytes]; omega
theorem dig_len (m : List UInt8) : (dig m).length = 32 := by rw [dig, wordsBytes_len, hashB_len]

theorem dig_empty : dig [] = [0xe3, 0xb0, 0xc4, 0x42, 0x98, 0xfc, 0x1c, 0x14, 0x9a, 0xfb, 0xf4, 0xc8, 0x99, 0x6f, 0xb9, 0x24, 0x27, 0xae, 0x41, 0xe4, 0x64, 0x9b, 0x93, 0x4c, 0xa4, 0x95, 0x99, 0x1b, 0x78, 0x52, 0xb8, 0x55] := by decide +kernel
theorem dig_abc : dig [97, 98, 99] = [0xba, 0x78, 0x16, 0xbf, 0x8f, 0x01, 0xcf, 0xea, 0x41, 0x41, 0x40, 0xde, 0x5d, 0xae, 0x22, 0x23, 0xb0, 0x03, 0x61, 0xa3, 0x96, 0x17, 0x7a, 0x9c, 0xb4, 0x10, 0xff, 0x61, 0xf2, 0x00, 0x15, 0xad] := by decide +kernel

section
variable {w : World} {b : Nat} {m : List UInt8}
theorem HsAt.held (h : HsAt w b m) : w.cell? ⟨b, 72, none⟩ = some (.int .i64 ((m.length % 64 : Nat) : Int)) := by
  obtain ⟨rest, hr, _, _, hb⟩ := h.cells
  have h8 : ((hashB m (m.length / 64)).map u32v).length = 8 := by rw [List.length_map, hashB_len]
  rw [BlkL.cell hb, List.getElem?_append_right (by omega), h8, List.getElem?_append_right (by omega), hr]; rfl
theorem HsAt.taken (h : HsAt w b m) : w.cell? ⟨b, 73, none⟩ = some (.int .u64 (m.length : Int)) := by
  obtain ⟨rest, hr, _, _, hb⟩ := h.cells
  have h8 : ((hashB m (m.length / 64)).map u32v).length = 8 := by rw [List.length_map, hashB_len]
  rw [BlkL.cell hb, List.getElem?_append_right (by omega), h8, List.getElem?_append_right (by omega), hr]; rfl
theorem HsAt.word (h : HsAt w b m) {i : Nat} (hi : i < 8) : w.cell? ⟨b, i, none⟩ = some (u32v ((hashB m (m.length / 64)).getD i 0)) := by
  obtain ⟨rest, hr, _, _, hb⟩ := h.cells
  have h8 := hashB_len m (m.length / 64)
  rw [BlkL.cell hb, List.getElem?_append_left (by rw [List.length_map]; omega), List.getElem?_map, List.getElem?_eq_getElem (by omega), List.getD_eq_getElem?_getD, List.getElem?_eq_getElem (by omega)]
  rfl
end

/-- The value of a row of so many: a slice of that length. -/
theorem own_slice {w : World} {b : Nat} {e : TypeId} {size : Nat} {v : Value} {n : Nat} {xs : List Value} (h : w.ownsRow b e size v n xs) : ∃ A c, v = .slice A n c := by
  rcases h.2 with ⟨h1, h2⟩ | ⟨g, cap, cur, h1, _⟩
  · exact ⟨none, 0, by rw [h1, h2]⟩
  · exact ⟨_, cap, h1⟩

theorem reads_one (w : World) (x : UInt8) : Reads (w.alloc (.cells #[.int .u8 x.toNat] 5 (0, 0))) (w.alloc (.cells #[.int .u8 x.toNat] 5 (0, 0))).heap.size 1 (some ⟨w.heap.size, 0, none⟩) 1 (byteVals [x]) :=
  ⟨rfl, fun _ => ⟨_, rfl, by simp, fun j u hu => by
    match j, hu with
    | 0, hu =>
      simp only [byteVals, List.map_cons, List.map_nil, List.getElem?_cons_zero, Option.some.injEq] at hu
      subst hu
      rw [Go.WideShapes.add_plain, Nat.zero_add, (Blk.new w _ 5).cell]; rfl⟩⟩

end Go.Proofs.YtglfakglcoffkaaDoor
