/-
  The document's digest: words of bytes, plainly.
-/
import Derived.Test.YtdkgecphkppglaaDoorB
namespace Go.Proofs.YtdkgecphkppglaaDoor
open Go.RowKit

theorem ofInt_u32 (a : Nat) (ha : a < 4294967296) : (BitVec.ofInt 32 (a : Int)).toNat = a := by
  rw [BitVec.ofInt_natCast, BitVec.toNat_ofNat]; exact Nat.mod_eq_of_lt (by omega)
theorem or_nat (a b : Nat) (ha : a < 4294967296) (hb : b < 4294967296) : bits .or .u32 (a : Int) (b : Int) = ((a ||| b : Nat) : Int) := by
  show IntKind.u32.wrap ((BitVec.ofInt 32 (a : Int) ||| BitVec.ofInt 32 (b : Int)).toNat : Int) = _
  rw [BitVec.toNat_or, ofInt_u32 a ha, ofInt_u32 b hb, IntKind.wrap_u32]
  have : a ||| b < 2 ^ 32 := Nat.or_lt_two_pow (by omega) (by omega)
  omega
theorem or_add (a b k : Nat) (hb : b < 2 ^ k) : a * 2 ^ k ||| b = a * 2 ^ k + b := by
  have := Nat.shiftLeft_add_eq_or_of_lt hb a
  rw [Nat.shiftLeft_eq] at this
  exact this.symm
theorem word_of (b0 b1 b2 b3 : Nat) (h0 : b0 < 256) (h1 : b1 < 256) (h2 : b2 < 256) (h3 : b3 < 256) :
    bits .or .u32 (bits .or .u32 (bits .or .u32 ((b0 : Int) % 4294967296 * 16777216 % 4294967296) ((b1 : Int) % 4294967296 * 65536 % 4294967296)) ((b2 : Int) % 4294967296 * 256 % 4294967296)) ((b3 : Int) % 4294967296) = ((((b0 * 256 + b1) * 256 + b2) * 256 + b3 : Nat) : Int) := by
  have e0 : (b0 : Int) % 4294967296 * 16777216 % 4294967296 = ((b0 * 16777216 : Nat) : Int) := by omega
  have e1 : (b1 : Int) % 4294967296 * 65536 % 4294967296 = ((b1 * 65536 : Nat) : Int) := by omega
  have e2 : (b2 : Int) % 4294967296 * 256 % 4294967296 = ((b2 * 256 : Nat) : Int) := by omega
  have e3 : (b3 : Int) % 4294967296 = ((b3 : Nat) : Int) := by omega
  rw [e0, e1, e2, e3, or_nat _ _ (by omega) (by omega)]
  have o1 : b0 * 16777216 ||| b1 * 65536 = b0 * 16777216 + b1 * 65536 := or_add b0 (b1 * 65536) 24 (by omega)
  rw [o1, or_nat _ _ (by omega) (by omega)]
  have o2 : (b0 * 16777216 + b1 * 65536) ||| b2 * 256 = b0 * 16777216 + b1 * 65536 + b2 * 256 := by
    have := or_add (b0 * 256 + b1) (b2 * 256) 16 (by omega)
    rw [show (b0 * 256 + b1) * 2 ^ 16 = b0 * 16777216 + b1 * 65536 by omega] at this
    exact this
  rw [o2, or_nat _ _ (by omega) (by omega)]
  have o3 : (b0 * 16777216 + b1 * 65536 + b2 * 256) ||| b3 = b0 * 16777216 + b1 * 65536 + b2 * 256 + b3 := by
    have := or_add ((b0 * 256 + b1) * 256 + b2) b3 8 (by omega)
    rw [show ((b0 * 256 + b1) * 256 + b2) * 2 ^ 8 = b0 * 16777216 + b1 * 65536 + b2 * 256 by omega] at this
    exact this
  rw [o3]
  omega
theorem not_max (e : Nat) (he : e < 4294967296) : bits .xor .u32 IntKind.u32.max (e : Int) = 4294967295 - (e : Int) := by
  have hm : IntKind.u32.max = ((4294967295 : Nat) : Int) := by decide
  rw [hm]
  show IntKind.u32.wrap ((BitVec.ofInt 32 ((4294967295 : Nat) : Int) ^^^ BitVec.ofInt 32 (e : Int)).toNat : Int) = _
  have h1 : BitVec.ofInt 32 ((4294967295 : Nat) : Int) = BitVec.allOnes 32 := by decide
  rw [h1, BitVec.allOnes_xor, BitVec.toNat_not, ofInt_u32 e he, IntKind.wrap_u32]
  omega

/-- The first k bytes of the word t, to the base 256. -/
def partW (bs : List UInt8) (t : Nat) : Nat → Nat
  | 0 => 0
  | k + 1 => partW bs t k * 256 + (bs.getD (4 * t + k) 0).toNat
theorem partW_lt (bs : List UInt8) (t : Nat) : ∀ k, partW bs t k < 256 ^ k
  | 0 => by simp [partW]
  | k + 1 => by
    have h1 := partW_lt bs t k
    have h2 : (bs.getD (4 * t + k) 0).toNat < 256 := UInt8.toNat_lt _
    rw [partW, Nat.pow_succ]; omega
theorem partW_word (bs : List UInt8) (t : Nat) : wordAt bs t = (partW bs t 4 : Nat) := by
  unfold wordAt byteAt
  rw [word_of _ _ _ _ (UInt8.toNat_lt _) (UInt8.toNat_lt _) (UInt8.toNat_lt _) (UInt8.toNat_lt _)]
  simp [partW]

end Go.Proofs.YtdkgecphkppglaaDoor
