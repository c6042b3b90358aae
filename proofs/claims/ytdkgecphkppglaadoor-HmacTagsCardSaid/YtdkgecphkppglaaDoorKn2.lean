/-
  A tag, as the standard has it: known of the laws of layer 2.
-/
import Derived.Test.YtdkgecphkppglaaDoorSt
import Derived.Test.YtdkgecphkppglaaDoorH4
namespace Go.Proofs.YtdkgecphkppglaaDoor
open Go.RowKit

def tagW : List UInt8 := [0x5b, 0xdc, 0xc1, 0x46, 0xbf, 0x60, 0x75, 0x4e, 0x6a, 0x04, 0x24, 0x26, 0x08, 0x95, 0x75, 0xc7, 0x5a, 0x00, 0x3f, 0x08, 0x9d, 0x27, 0x39, 0x83, 0x9d, 0xec, 0x58, 0xb9, 0x64, 0xec, 0x38, 0x43]
def sA : List UInt8 := [74, 101, 102, 101]
def sB : List UInt8 := [119, 104, 97, 116, 32, 100, 111, 32, 121, 97, 32, 119, 97, 110, 116, 32]
def sC : List UInt8 := [102, 111, 114, 32, 110, 111, 116, 104, 105, 110, 103, 63]
def cA : Array Value := (byteVals sA).toArray
def cB : Array Value := (byteVals sB).toArray
def cC : Array Value := (byteVals sC).toArray
theorem tag_known : tagB sA (sB ++ sC) = tagW := by decide +kernel
theorem built_tag : Tryd.prog.built 30 [(0, .int .u8 91), (1, .int .u8 220), (2, .int .u8 193), (3, .int .u8 70), (4, .int .u8 191), (5, .int .u8 96), (6, .int .u8 117), (7, .int .u8 78), (8, .int .u8 106), (9, .int .u8 4), (10, .int .u8 36), (11, .int .u8 38), (12, .int .u8 8), (13, .int .u8 149), (14, .int .u8 117), (15, .int .u8 199), (16, .int .u8 90), (17, .int .u8 0), (18, .int .u8 63), (19, .int .u8 8), (20, .int .u8 157), (21, .int .u8 39), (22, .int .u8 57), (23, .int .u8 131), (24, .int .u8 157), (25, .int .u8 236), (26, .int .u8 88), (27, .int .u8 185), (28, .int .u8 100), (29, .int .u8 236), (30, .int .u8 56), (31, .int .u8 67)] = some (byteVals tagW).toArray := by kernel_rfl

theorem txt_of_cells {w : World} {p : Nat} {bs : List UInt8} {T : TypeId} {fr : Nat × Nat} (h : w.heap[p]? = some (.cells (byteVals bs).toArray T fr)) : Txt w (some ⟨p, 0, none⟩) bs :=
  fun _ => ⟨p, 0, rfl, hp_lt h, fun j c hj => by
    rw [Nat.zero_add]
    simp only [World.cell?, h]
    have := byteVals_get hj
    simpa using this⟩

def known2L : List (Array Bool) := [#[false, false, false, false, false, false, false, false, true, false, false], #[false, false, false, false, true, false, false, false, true, false, false], #[false, false, false, false, true, true, false, false, true, false, false], #[false, false, true, false, false, false, false, false, true, false, false], #[false, false, true, false, true, false, false, false, true, false, false], #[false, false, true, false, true, true, false, false, true, false, false], #[false, false, true, true, false, false, false, false, true, false, false], #[false, false, true, true, true, false, false, false, true, false, false], #[false, false, true, true, true, true, false, false, true, false, false], #[false, false, true, true, true, true, true, false, true, false, false], #[true, false, false, false, false, false, false, false, true, false, false], #[true, false, false, false, true, false, false, false, true, false, false], #[true, false, false, false, true, true, false, false, true, false, false], #[true, false, true, false, false, false, false, false, true, false, false], #[true, false, true, false, true, false, false, false, true, false, false], #[true, false, true, false, true, true, false, false, true, false, false], #[true, false, true, true, false, false, false, false, true, false, false], #[true, false, true, true, true, false, false, false, true, false, false], #[true, false, true, true, true, true, false, false, true, false, false], #[true, false, true, true, true, true, true, false, true, false, false], #[true, true, false, false, false, false, false, false, true, false, false], #[true, true, false, false, true, false, false, false, true, false, false], #[true, true, false, false, true, true, false, false, true, false, false], #[true, true, true, false, false, false, false, false, true, false, false], #[true, true, true, false, true, false, false, false, true, false, false], #[true, true, true, false, true, true, false, false, true, false, false], #[true, true, true, true, false, false, false, false, true, false, false], #[true, true, true, true, true, false, false, false, true, false, false], #[true, true, true, true, true, true, false, false, true, false, false], #[true, true, true, true, true, true, true, false, true, false, false]]
def known2M : List Nat := [10, 9, 8, 9, 8, 7, 8, 7, 6, 5, 9, 8, 7, 8, 7, 6, 7, 6, 5, 4, 8, 7, 6, 7, 6, 5, 6, 5, 4, 3]
def known2A (v0 : World) (n1 : Nat) (WA : Array Value) (WL : List Value) : Nat → Act → World → Prop
  | 0, a, w => ∃ _p0 _p2 _p4 _p6 : Nat, a = { tmps := #[.bool false, .pointer (some ⟨n1, 0, none⟩), .agg WA, undef, undef, undef, undef, undef, undef, undef, undef, .agg WA, undef], defers := [] } ∧ Chg none v0 w ∧ w.rangeAt n1 0 WL
  | 1, a, w => ∃ _p0 _p2 p4 _p6 : Nat, a = { tmps := #[.bool false, .pointer (some ⟨n1, 0, none⟩), .agg WA, undef, undef, undef, undef, .slice (some ⟨p4, 0, none⟩) 12 12, undef, undef, undef, .agg WA, undef], defers := [] } ∧ Chg none v0 w ∧ w.rangeAt n1 0 WL ∧ w.heap[p4]? = some (.cells cC 5 (0, 0)) ∧ v0.heap.size ≤ p4
  | 2, a, w => ∃ _p0 _p2 p4 _p6 : Nat, a = { tmps := #[.bool false, .pointer (some ⟨n1, 0, none⟩), .agg WA, undef, undef, undef, undef, .slice (some ⟨p4, 0, none⟩) 12 12, .slice (some ⟨p4, 0, none⟩) 12 12, undef, undef, .agg WA, undef], defers := [] } ∧ Chg none v0 w ∧ w.rangeAt n1 0 WL ∧ (∃ fr, w.heap[p4]? = some (.cells cC 5 fr)) ∧ v0.heap.size ≤ p4
  | 3, a, w => ∃ _p0 p2 _p4 _p6 : Nat, a = { tmps := #[.bool false, .pointer (some ⟨n1, 0, none⟩), .agg WA, undef, undef, .slice (some ⟨p2, 0, none⟩) 16 16, undef, undef, undef, undef, undef, .agg WA, undef], defers := [] } ∧ Chg none v0 w ∧ w.rangeAt n1 0 WL ∧ w.heap[p2]? = some (.cells cB 5 (0, 0)) ∧ v0.heap.size ≤ p2
  | 4, a, w => ∃ _p0 p2 p4 _p6 : Nat, a = { tmps := #[.bool false, .pointer (some ⟨n1, 0, none⟩), .agg WA, undef, undef, .slice (some ⟨p2, 0, none⟩) 16 16, undef, .slice (some ⟨p4, 0, none⟩) 12 12, undef, undef, undef, .agg WA, undef], defers := [] } ∧ Chg none v0 w ∧ w.rangeAt n1 0 WL ∧ w.heap[p2]? = some (.cells cB 5 (0, 0)) ∧ v0.heap.size ≤ p2 ∧ w.heap[p4]? = some (.cells cC 5 (0, 0)) ∧ v0.heap.size ≤ p4 ∧ p2 ≠ p4
  | 5, a, w => ∃ _p0 p2 p4 _p6 : Nat, a = { tmps := #[.bool false, .pointer (some ⟨n1, 0, none⟩), .agg WA, undef, undef, .slice (some ⟨p2, 0, none⟩) 16 16, undef, .slice (some ⟨p4, 0, none⟩) 12 12, .slice (some ⟨p4, 0, none⟩) 12 12, undef, undef, .agg WA, undef], defers := [] } ∧ Chg none v0 w ∧ w.rangeAt n1 0 WL ∧ w.heap[p2]? = some (.cells cB 5 (0, 0)) ∧ v0.heap.size ≤ p2 ∧ (∃ fr, w.heap[p4]? = some (.cells cC 5 fr)) ∧ v0.heap.size ≤ p4 ∧ p2 ≠ p4
  | 6, a, w => ∃ _p0 p2 _p4 _p6 : Nat, a = { tmps := #[.bool false, .pointer (some ⟨n1, 0, none⟩), .agg WA, undef, undef, .slice (some ⟨p2, 0, none⟩) 16 16, .slice (some ⟨p2, 0, none⟩) 16 16, undef, undef, undef, undef, .agg WA, undef], defers := [] } ∧ Chg none v0 w ∧ w.rangeAt n1 0 WL ∧ (∃ fr, w.heap[p2]? = some (.cells cB 5 fr)) ∧ v0.heap.size ≤ p2
  | 7, a, w => ∃ _p0 p2 p4 _p6 : Nat, a = { tmps := #[.bool false, .pointer (some ⟨n1, 0, none⟩), .agg WA, undef, undef, .slice (some ⟨p2, 0, none⟩) 16 16, .slice (some ⟨p2, 0, none⟩) 16 16, .slice (some ⟨p4, 0, none⟩) 12 12, undef, undef, undef, .agg WA, undef], defers := [] } ∧ Chg none v0 w ∧ w.rangeAt n1 0 WL ∧ (∃ fr, w.heap[p2]? = some (.cells cB 5 fr)) ∧ v0.heap.size ≤ p2 ∧ w.heap[p4]? = some (.cells cC 5 (0, 0)) ∧ v0.heap.size ≤ p4 ∧ p2 ≠ p4
  | 8, a, w => ∃ _p0 p2 p4 _p6 : Nat, a = { tmps := #[.bool false, .pointer (some ⟨n1, 0, none⟩), .agg WA, undef, undef, .slice (some ⟨p2, 0, none⟩) 16 16, .slice (some ⟨p2, 0, none⟩) 16 16, .slice (some ⟨p4, 0, none⟩) 12 12, .slice (some ⟨p4, 0, none⟩) 12 12, undef, undef, .agg WA, undef], defers := [] } ∧ Chg none v0 w ∧ w.rangeAt n1 0 WL ∧ (∃ fr, w.heap[p2]? = some (.cells cB 5 fr)) ∧ v0.heap.size ≤ p2 ∧ (∃ fr, w.heap[p4]? = some (.cells cC 5 fr)) ∧ v0.heap.size ≤ p4 ∧ p2 ≠ p4
  | 9, a, w => ∃ _p0 p2 p4 p6 : Nat, a = { tmps := #[.bool false, .pointer (some ⟨n1, 0, none⟩), .agg WA, undef, undef, .slice (some ⟨p2, 0, none⟩) 16 16, .slice (some ⟨p2, 0, none⟩) 16 16, .slice (some ⟨p4, 0, none⟩) 12 12, .slice (some ⟨p4, 0, none⟩) 12 12, .slice (some ⟨p6, 0, none⟩) 2 2, undef, .agg WA, undef], defers := [] } ∧ Chg none v0 w ∧ w.rangeAt n1 0 WL ∧ (∃ fr, w.heap[p2]? = some (.cells cB 5 fr)) ∧ v0.heap.size ≤ p2 ∧ (∃ fr, w.heap[p4]? = some (.cells cC 5 fr)) ∧ v0.heap.size ≤ p4 ∧ w.heap[p6]? = some (.cells #[.slice (some ⟨p2, 0, none⟩) 16 16, .slice (some ⟨p4, 0, none⟩) 12 12] 22 (0, 0)) ∧ v0.heap.size ≤ p6 ∧ p2 ≠ p4 ∧ p2 ≠ p6 ∧ p4 ≠ p6
  | 10, a, w => ∃ p0 _p2 _p4 _p6 : Nat, a = { tmps := #[.bool false, .pointer (some ⟨n1, 0, none⟩), .agg WA, .slice (some ⟨p0, 0, none⟩) 4 4, undef, undef, undef, undef, undef, undef, undef, .agg WA, undef], defers := [] } ∧ Chg none v0 w ∧ w.rangeAt n1 0 WL ∧ w.heap[p0]? = some (.cells cA 5 (0, 0)) ∧ v0.heap.size ≤ p0
  | 11, a, w => ∃ p0 _p2 p4 _p6 : Nat, a = { tmps := #[.bool false, .pointer (some ⟨n1, 0, none⟩), .agg WA, .slice (some ⟨p0, 0, none⟩) 4 4, undef, undef, undef, .slice (some ⟨p4, 0, none⟩) 12 12, undef, undef, undef, .agg WA, undef], defers := [] } ∧ Chg none v0 w ∧ w.rangeAt n1 0 WL ∧ w.heap[p0]? = some (.cells cA 5 (0, 0)) ∧ v0.heap.size ≤ p0 ∧ w.heap[p4]? = some (.cells cC 5 (0, 0)) ∧ v0.heap.size ≤ p4 ∧ p0 ≠ p4
  | 12, a, w => ∃ p0 _p2 p4 _p6 : Nat, a = { tmps := #[.bool false, .pointer (some ⟨n1, 0, none⟩), .agg WA, .slice (some ⟨p0, 0, none⟩) 4 4, undef, undef, undef, .slice (some ⟨p4, 0, none⟩) 12 12, .slice (some ⟨p4, 0, none⟩) 12 12, undef, undef, .agg WA, undef], defers := [] } ∧ Chg none v0 w ∧ w.rangeAt n1 0 WL ∧ w.heap[p0]? = some (.cells cA 5 (0, 0)) ∧ v0.heap.size ≤ p0 ∧ (∃ fr, w.heap[p4]? = some (.cells cC 5 fr)) ∧ v0.heap.size ≤ p4 ∧ p0 ≠ p4
  | 13, a, w => ∃ p0 p2 _p4 _p6 : Nat, a = { tmps := #[.bool false, .pointer (some ⟨n1, 0, none⟩), .agg WA, .slice (some ⟨p0, 0, none⟩) 4 4, undef, .slice (some ⟨p2, 0, none⟩) 16 16, undef, undef, undef, undef, undef, .agg WA, undef], defers := [] } ∧ Chg none v0 w ∧ w.rangeAt n1 0 WL ∧ w.heap[p0]? = some (.cells cA 5 (0, 0)) ∧ v0.heap.size ≤ p0 ∧ w.heap[p2]? = some (.cells cB 5 (0, 0)) ∧ v0.heap.size ≤ p2 ∧ p0 ≠ p2
  | 14, a, w => ∃ p0 p2 p4 _p6 : Nat, a = { tmps := #[.bool false, .pointer (some ⟨n1, 0, none⟩), .agg WA, .slice (some ⟨p0, 0, none⟩) 4 4, undef, .slice (some ⟨p2, 0, none⟩) 16 16, undef, .slice (some ⟨p4, 0, none⟩) 12 12, undef, undef, undef, .agg WA, undef], defers := [] } ∧ Chg none v0 w ∧ w.rangeAt n1 0 WL ∧ w.heap[p0]? = some (.cells cA 5 (0, 0)) ∧ v0.heap.size ≤ p0 ∧ w.heap[p2]? = some (.cells cB 5 (0, 0)) ∧ v0.heap.size ≤ p2 ∧ w.heap[p4]? = some (.cells cC 5 (0, 0)) ∧ v0.heap.size ≤ p4 ∧ p0 ≠ p2 ∧ p0 ≠ p4 ∧ p2 ≠ p4
  | 15, a, w => ∃ p0 p2 p4 _p6 : Nat, a = { tmps := #[.bool false, .pointer (some ⟨n1, 0, none⟩), .agg WA, .slice (some ⟨p0, 0, none⟩) 4 4, undef, .slice (some ⟨p2, 0, none⟩) 16 16, undef, .slice (some ⟨p4, 0, none⟩) 12 12, .slice (some ⟨p4, 0, none⟩) 12 12, undef, undef, .agg WA, undef], defers := [] } ∧ Chg none v0 w ∧ w.rangeAt n1 0 WL ∧ w.heap[p0]? = some (.cells cA 5 (0, 0)) ∧ v0.heap.size ≤ p0 ∧ w.heap[p2]? = some (.cells cB 5 (0, 0)) ∧ v0.heap.size ≤ p2 ∧ (∃ fr, w.heap[p4]? = some (.cells cC 5 fr)) ∧ v0.heap.size ≤ p4 ∧ p0 ≠ p2 ∧ p0 ≠ p4 ∧ p2 ≠ p4
  | 16, a, w => ∃ p0 p2 _p4 _p6 : Nat, a = { tmps := #[.bool false, .pointer (some ⟨n1, 0, none⟩), .agg WA, .slice (some ⟨p0, 0, none⟩) 4 4, undef, .slice (some ⟨p2, 0, none⟩) 16 16, .slice (some ⟨p2, 0, none⟩) 16 16, undef, undef, undef, undef, .agg WA, undef], defers := [] } ∧ Chg none v0 w ∧ w.rangeAt n1 0 WL ∧ w.heap[p0]? = some (.cells cA 5 (0, 0)) ∧ v0.heap.size ≤ p0 ∧ (∃ fr, w.heap[p2]? = some (.cells cB 5 fr)) ∧ v0.heap.size ≤ p2 ∧ p0 ≠ p2
  | 17, a, w => ∃ p0 p2 p4 _p6 : Nat, a = { tmps := #[.bool false, .pointer (some ⟨n1, 0, none⟩), .agg WA, .slice (some ⟨p0, 0, none⟩) 4 4, undef, .slice (some ⟨p2, 0, none⟩) 16 16, .slice (some ⟨p2, 0, none⟩) 16 16, .slice (some ⟨p4, 0, none⟩) 12 12, undef, undef, undef, .agg WA, undef], defers := [] } ∧ Chg none v0 w ∧ w.rangeAt n1 0 WL ∧ w.heap[p0]? = some (.cells cA 5 (0, 0)) ∧ v0.heap.size ≤ p0 ∧ (∃ fr, w.heap[p2]? = some (.cells cB 5 fr)) ∧ v0.heap.size ≤ p2 ∧ w.heap[p4]? = some (.cells cC 5 (0, 0)) ∧ v0.heap.size ≤ p4 ∧ p0 ≠ p2 ∧ p0 ≠ p4 ∧ p2 ≠ p4
  | 18, a, w => ∃ p0 p2 p4 _p6 : Nat, a = { tmps := #[.bool false, .pointer (some ⟨n1, 0, none⟩), .agg WA, .slice (some ⟨p0, 0, none⟩) 4 4, undef, .slice (some ⟨p2, 0, none⟩) 16 16, .slice (some ⟨p2, 0, none⟩) 16 16, .slice (some ⟨p4, 0, none⟩) 12 12, .slice (some ⟨p4, 0, none⟩) 12 12, undef, undef, .agg WA, undef], defers := [] } ∧ Chg none v0 w ∧ w.rangeAt n1 0 WL ∧ w.heap[p0]? = some (.cells cA 5 (0, 0)) ∧ v0.heap.size ≤ p0 ∧ (∃ fr, w.heap[p2]? = some (.cells cB 5 fr)) ∧ v0.heap.size ≤ p2 ∧ (∃ fr, w.heap[p4]? = some (.cells cC 5 fr)) ∧ v0.heap.size ≤ p4 ∧ p0 ≠ p2 ∧ p0 ≠ p4 ∧ p2 ≠ p4
  | 19, a, w => ∃ p0 p2 p4 p6 : Nat, a = { tmps := #[.bool false, .pointer (some ⟨n1, 0, none⟩), .agg WA, .slice (some ⟨p0, 0, none⟩) 4 4, undef, .slice (some ⟨p2, 0, none⟩) 16 16, .slice (some ⟨p2, 0, none⟩) 16 16, .slice (some ⟨p4, 0, none⟩) 12 12, .slice (some ⟨p4, 0, none⟩) 12 12, .slice (some ⟨p6, 0, none⟩) 2 2, undef, .agg WA, undef], defers := [] } ∧ Chg none v0 w ∧ w.rangeAt n1 0 WL ∧ w.heap[p0]? = some (.cells cA 5 (0, 0)) ∧ v0.heap.size ≤ p0 ∧ (∃ fr, w.heap[p2]? = some (.cells cB 5 fr)) ∧ v0.heap.size ≤ p2 ∧ (∃ fr, w.heap[p4]? = some (.cells cC 5 fr)) ∧ v0.heap.size ≤ p4 ∧ w.heap[p6]? = some (.cells #[.slice (some ⟨p2, 0, none⟩) 16 16, .slice (some ⟨p4, 0, none⟩) 12 12] 22 (0, 0)) ∧ v0.heap.size ≤ p6 ∧ p0 ≠ p2 ∧ p0 ≠ p4 ∧ p0 ≠ p6 ∧ p2 ≠ p4 ∧ p2 ≠ p6 ∧ p4 ≠ p6
  | 20, a, w => ∃ p0 _p2 _p4 _p6 : Nat, a = { tmps := #[.bool false, .pointer (some ⟨n1, 0, none⟩), .agg WA, .slice (some ⟨p0, 0, none⟩) 4 4, .slice (some ⟨p0, 0, none⟩) 4 4, undef, undef, undef, undef, undef, undef, .agg WA, undef], defers := [] } ∧ Chg none v0 w ∧ w.rangeAt n1 0 WL ∧ (∃ fr, w.heap[p0]? = some (.cells cA 5 fr)) ∧ v0.heap.size ≤ p0
  | 21, a, w => ∃ p0 _p2 p4 _p6 : Nat, a = { tmps := #[.bool false, .pointer (some ⟨n1, 0, none⟩), .agg WA, .slice (some ⟨p0, 0, none⟩) 4 4, .slice (some ⟨p0, 0, none⟩) 4 4, undef, undef, .slice (some ⟨p4, 0, none⟩) 12 12, undef, undef, undef, .agg WA, undef], defers := [] } ∧ Chg none v0 w ∧ w.rangeAt n1 0 WL ∧ (∃ fr, w.heap[p0]? = some (.cells cA 5 fr)) ∧ v0.heap.size ≤ p0 ∧ w.heap[p4]? = some (.cells cC 5 (0, 0)) ∧ v0.heap.size ≤ p4 ∧ p0 ≠ p4
  | 22, a, w => ∃ p0 _p2 p4 _p6 : Nat, a = { tmps := #[.bool false, .pointer (some ⟨n1, 0, none⟩), .agg WA, .slice (some ⟨p0, 0, none⟩) 4 4, .slice (some ⟨p0, 0, none⟩) 4 4, undef, undef, .slice (some ⟨p4, 0, none⟩) 12 12, .slice (some ⟨p4, 0, none⟩) 12 12, undef, undef, .agg WA, undef], defers := [] } ∧ Chg none v0 w ∧ w.rangeAt n1 0 WL ∧ (∃ fr, w.heap[p0]? = some (.cells cA 5 fr)) ∧ v0.heap.size ≤ p0 ∧ (∃ fr, w.heap[p4]? = some (.cells cC 5 fr)) ∧ v0.heap.size ≤ p4 ∧ p0 ≠ p4
  | 23, a, w => ∃ p0 p2 _p4 _p6 : Nat, a = { tmps := #[.bool false, .pointer (some ⟨n1, 0, none⟩), .agg WA, .slice (some ⟨p0, 0, none⟩) 4 4, .slice (some ⟨p0, 0, none⟩) 4 4, .slice (some ⟨p2, 0, none⟩) 16 16, undef, undef, undef, undef, undef, .agg WA, undef], defers := [] } ∧ Chg none v0 w ∧ w.rangeAt n1 0 WL ∧ (∃ fr, w.heap[p0]? = some (.cells cA 5 fr)) ∧ v0.heap.size ≤ p0 ∧ w.heap[p2]? = some (.cells cB 5 (0, 0)) ∧ v0.heap.size ≤ p2 ∧ p0 ≠ p2
  | 24, a, w => ∃ p0 p2 p4 _p6 : Nat, a = { tmps := #[.bool false, .pointer (some ⟨n1, 0, none⟩), .agg WA, .slice (some ⟨p0, 0, none⟩) 4 4, .slice (some ⟨p0, 0, none⟩) 4 4, .slice (some ⟨p2, 0, none⟩) 16 16, undef, .slice (some ⟨p4, 0, none⟩) 12 12, undef, undef, undef, .agg WA, undef], defers := [] } ∧ Chg none v0 w ∧ w.rangeAt n1 0 WL ∧ (∃ fr, w.heap[p0]? = some (.cells cA 5 fr)) ∧ v0.heap.size ≤ p0 ∧ w.heap[p2]? = some (.cells cB 5 (0, 0)) ∧ v0.heap.size ≤ p2 ∧ w.heap[p4]? = some (.cells cC 5 (0, 0)) ∧ v0.heap.size ≤ p4 ∧ p0 ≠ p2 ∧ p0 ≠ p4 ∧ p2 ≠ p4
  | 25, a, w => ∃ p0 p2 p4 _p6 : Nat, a = { tmps := #[.bool false, .pointer (some ⟨n1, 0, none⟩), .agg WA, .slice (some ⟨p0, 0, none⟩) 4 4, .slice (some ⟨p0, 0, none⟩) 4 4, .slice (some ⟨p2, 0, none⟩) 16 16, undef, .slice (some ⟨p4, 0, none⟩) 12 12, .slice (some ⟨p4, 0, none⟩) 12 12, undef, undef, .agg WA, undef], defers := [] } ∧ Chg none v0 w ∧ w.rangeAt n1 0 WL ∧ (∃ fr, w.heap[p0]? = some (.cells cA 5 fr)) ∧ v0.heap.size ≤ p0 ∧ w.heap[p2]? = some (.cells cB 5 (0, 0)) ∧ v0.heap.size ≤ p2 ∧ (∃ fr, w.heap[p4]? = some (.cells cC 5 fr)) ∧ v0.heap.size ≤ p4 ∧ p0 ≠ p2 ∧ p0 ≠ p4 ∧ p2 ≠ p4
  | 26, a, w => ∃ p0 p2 _p4 _p6 : Nat, a = { tmps := #[.bool false, .pointer (some ⟨n1, 0, none⟩), .agg WA, .slice (some ⟨p0, 0, none⟩) 4 4, .slice (some ⟨p0, 0, none⟩) 4 4, .slice (some ⟨p2, 0, none⟩) 16 16, .slice (some ⟨p2, 0, none⟩) 16 16, undef, undef, undef, undef, .agg WA, undef], defers := [] } ∧ Chg none v0 w ∧ w.rangeAt n1 0 WL ∧ (∃ fr, w.heap[p0]? = some (.cells cA 5 fr)) ∧ v0.heap.size ≤ p0 ∧ (∃ fr, w.heap[p2]? = some (.cells cB 5 fr)) ∧ v0.heap.size ≤ p2 ∧ p0 ≠ p2
  | 27, a, w => ∃ p0 p2 p4 _p6 : Nat, a = { tmps := #[.bool false, .pointer (some ⟨n1, 0, none⟩), .agg WA, .slice (some ⟨p0, 0, none⟩) 4 4, .slice (some ⟨p0, 0, none⟩) 4 4, .slice (some ⟨p2, 0, none⟩) 16 16, .slice (some ⟨p2, 0, none⟩) 16 16, .slice (some ⟨p4, 0, none⟩) 12 12, undef, undef, undef, .agg WA, undef], defers := [] } ∧ Chg none v0 w ∧ w.rangeAt n1 0 WL ∧ (∃ fr, w.heap[p0]? = some (.cells cA 5 fr)) ∧ v0.heap.size ≤ p0 ∧ (∃ fr, w.heap[p2]? = some (.cells cB 5 fr)) ∧ v0.heap.size ≤ p2 ∧ w.heap[p4]? = some (.cells cC 5 (0, 0)) ∧ v0.heap.size ≤ p4 ∧ p0 ≠ p2 ∧ p0 ≠ p4 ∧ p2 ≠ p4
  | 28, a, w => ∃ p0 p2 p4 _p6 : Nat, a = { tmps := #[.bool false, .pointer (some ⟨n1, 0, none⟩), .agg WA, .slice (some ⟨p0, 0, none⟩) 4 4, .slice (some ⟨p0, 0, none⟩) 4 4, .slice (some ⟨p2, 0, none⟩) 16 16, .slice (some ⟨p2, 0, none⟩) 16 16, .slice (some ⟨p4, 0, none⟩) 12 12, .slice (some ⟨p4, 0, none⟩) 12 12, undef, undef, .agg WA, undef], defers := [] } ∧ Chg none v0 w ∧ w.rangeAt n1 0 WL ∧ (∃ fr, w.heap[p0]? = some (.cells cA 5 fr)) ∧ v0.heap.size ≤ p0 ∧ (∃ fr, w.heap[p2]? = some (.cells cB 5 fr)) ∧ v0.heap.size ≤ p2 ∧ (∃ fr, w.heap[p4]? = some (.cells cC 5 fr)) ∧ v0.heap.size ≤ p4 ∧ p0 ≠ p2 ∧ p0 ≠ p4 ∧ p2 ≠ p4
  | 29, a, w => ∃ p0 p2 p4 p6 : Nat, a = { tmps := #[.bool false, .pointer (some ⟨n1, 0, none⟩), .agg WA, .slice (some ⟨p0, 0, none⟩) 4 4, .slice (some ⟨p0, 0, none⟩) 4 4, .slice (some ⟨p2, 0, none⟩) 16 16, .slice (some ⟨p2, 0, none⟩) 16 16, .slice (some ⟨p4, 0, none⟩) 12 12, .slice (some ⟨p4, 0, none⟩) 12 12, .slice (some ⟨p6, 0, none⟩) 2 2, undef, .agg WA, undef], defers := [] } ∧ Chg none v0 w ∧ w.rangeAt n1 0 WL ∧ (∃ fr, w.heap[p0]? = some (.cells cA 5 fr)) ∧ v0.heap.size ≤ p0 ∧ (∃ fr, w.heap[p2]? = some (.cells cB 5 fr)) ∧ v0.heap.size ≤ p2 ∧ (∃ fr, w.heap[p4]? = some (.cells cC 5 fr)) ∧ v0.heap.size ≤ p4 ∧ w.heap[p6]? = some (.cells #[.slice (some ⟨p2, 0, none⟩) 16 16, .slice (some ⟨p4, 0, none⟩) 12 12] 22 (0, 0)) ∧ v0.heap.size ≤ p6 ∧ p0 ≠ p2 ∧ p0 ≠ p4 ∧ p0 ≠ p6 ∧ p2 ≠ p4 ∧ p2 ≠ p6 ∧ p4 ≠ p6
  | _, _, _ => False

set_option maxRecDepth 100000 in
set_option maxHeartbeats 8000000 in
theorem known2_any (w : World) (hT : Tabs w) : Calls Tryd.prog 20 #[] w fun e w' => e = .returned (.bool true) ∧ Chg none w w' := by
  have HBa := Lib.hid built_tag
  obtain ⟨hws, hwo⟩ := row_facts tagW 32 rfl
  have HIa : Hid ((Tryd.prog.info? 30).map (·.size) = some (byteVals tagW).toArray.size) := by rw [hws]; show _ = _; kernel_rfl
  have HOa := Lib.hid hwo
  have HNW := Lib.hid (fun (W : World) => heap_alloc_new W (.cells zero32 30))
  obtain ⟨ga, ha⟩ := new_row w (byteVals tagW).toArray
  obtain ⟨W1, hW1⟩ : ∃ W1, W1 = (w.alloc (.cells zero32 30)).setRow w.heap.size (byteVals tagW).toArray := ⟨_, rfl⟩
  have HSR : Hid ((w.alloc (.cells #[Value.int IntKind.u8 0, Value.int IntKind.u8 0, Value.int IntKind.u8 0, Value.int IntKind.u8 0, Value.int IntKind.u8 0, Value.int IntKind.u8 0, Value.int IntKind.u8 0, Value.int IntKind.u8 0, Value.int IntKind.u8 0, Value.int IntKind.u8 0, Value.int IntKind.u8 0, Value.int IntKind.u8 0, Value.int IntKind.u8 0, Value.int IntKind.u8 0, Value.int IntKind.u8 0, Value.int IntKind.u8 0, Value.int IntKind.u8 0, Value.int IntKind.u8 0, Value.int IntKind.u8 0, Value.int IntKind.u8 0, Value.int IntKind.u8 0, Value.int IntKind.u8 0, Value.int IntKind.u8 0, Value.int IntKind.u8 0, Value.int IntKind.u8 0, Value.int IntKind.u8 0, Value.int IntKind.u8 0, Value.int IntKind.u8 0, Value.int IntKind.u8 0, Value.int IntKind.u8 0, Value.int IntKind.u8 0, Value.int IntKind.u8 0] 30)).setRow w.heap.size (byteVals tagW).toArray = W1) := hW1.symm
  rw [← hW1] at ga ha
  clear hW1 hws hwo
  have q1 : ∀ W : World, (binOp .eql 30 (.agg (byteVals tagW).toArray) (.agg (byteVals tagW).toArray)).run Tryd.prog W = .ok (.bool true) W := fun W => by
    rw [eql30 tagW tagW rfl rfl W]; simp
  have hg30 := guard30
  go_enter Tryd.func20, Tryd.ntmps20
  go_upto_region 2 with (first
    | (refine wpList_buildTo rfl 30 _ rfl (some 2) rfl (byteVals tagW).toArray (by simp only [List.map_toArray, List.map_cons, List.map_nil]; exact HBa.out) ?_)
    | (refine wpList_store_row rfl 30 _ _ rfl w.heap.size (byteVals tagW).toArray rfl rfl 30 _ (HNW.out w) HIa.out rfl HOa.out ?_))
  have e1 := HSR.out
  rw [e1]
  clear e1
  generalize hn1 : w.heap.size = n1 at *
  have HN1 := Lib.hid hn1
  clear hn1
  have gw : Chg none w W1.drew := ga.drew
  have hT1 := hT.chg gw (by simp)
  have hlt0 : n1 < W1.drew.heap.size := ha.lt
  have hS0 : W1.drew.rangeAt n1 0 (byteVals tagW) := Blk.range (show BlkL W1 n1 (byteVals tagW) 30 from ha)
  have HIL : Hid ((Tryd.prog.info? 30).map (·.size) = some (byteVals tagW).length) := by rw [byteVals_len]; show _ = _; kernel_rfl
  have HTG : Hid (∀ (v : World) (p0 p2 p4 p6 : Nat) , Chg none W1.drew v → ∀ {f0 f2 f4 f6}, v.heap[p0]? = some (.cells cA 5 f0) → v.heap[p2]? = some (.cells cB 5 f2) → v.heap[p4]? = some (.cells cC 5 f4) →
      v.heap[p6]? = some (.cells #[.slice (some ⟨p2, 0, none⟩) 16 16, .slice (some ⟨p4, 0, none⟩) 12 12] 22 f6) →
      Calls Tryd.prog 21 #[.slice (some ⟨p0, 0, none⟩) 4 4, .slice (some ⟨p6, 0, none⟩) 2 2] v fun e w' => e = .returned (.agg (byteVals tagW).toArray) ∧ Chg none v w') := fun v p0 p2 p4 p6 g {f0 f2 f4 f6} h0 h2 h4 h6 => by
    have hP : PartsAt v (some ⟨p6, 0, none⟩) [⟨some ⟨p2, 0, none⟩, sB, 16⟩, ⟨some ⟨p4, 0, none⟩, sC, 12⟩] :=
      ⟨fun _ => ⟨p6, 0, rfl, hp_lt h6, fun i r hi => by
        rw [Nat.zero_add]
        simp only [World.cell?, h6]
        match i, hi with
        | 0, hi => simp at hi; subst hi; rfl
        | 1, hi => simp at hi; subst hi; rfl⟩, fun r hr => by
        rcases List.mem_cons.1 hr with rfl | hr
        · exact ⟨txt_of_cells h2, Nat.le_refl _⟩
        · rcases List.mem_cons.1 hr with rfl | hr
          · exact ⟨txt_of_cells h4, Nat.le_refl _⟩
          · cases hr⟩
    have hj : joined [(⟨some ⟨p2, 0, none⟩, sB, 16⟩ : Prt), ⟨some ⟨p4, 0, none⟩, sC, 12⟩] = sB ++ sC := by
      show sB ++ (sC ++ []) = sB ++ sC
      rw [List.append_nil]
    have htg := (tag_any (some ⟨p0, 0, none⟩) sA 4 (some ⟨p6, 0, none⟩) [⟨some ⟨p2, 0, none⟩, sB, 16⟩, ⟨some ⟨p4, 0, none⟩, sC, 12⟩] 2 v (txt_of_cells h0) (Nat.le_refl _) (by decide) hP (by rw [hj]; decide) (by show 2 ≤ 1000000; decide) (hT1.chg g (by simp)))
    rw [hj, tag_known] at htg
    exact htg
  have E0 : Chg none W1.drew W1.drew := Chg.refl _ _
  clear HBa HIa HOa HNW hT hT1 ga ha
  refine wp_region_held_drew (S := fun w' => w'.rangeAt n1 0 (byteVals tagW)) (by kernel_rfl) hS0 (fun _ => ?_)
  generalize W1.drew = v0 at *
  refine wpAnyH_take (i := 8) (oi := ⟨some 11, _, _, _, _, _⟩) (v := .agg (byteVals tagW).toArray) rfl (by kernel_rfl) (by kernel_rfl) (by kernel_rfl) (fun _ _ _ h => h) (yieldsIf_load_mid (by rfl) 30 _ rfl n1 0 rfl (byteVals tagW) _ (fun _ h => h) Tryd.underlying30 rfl HIL.out) (by assumption) ?_
  try simp only [Act.put, List.setIfInBounds_toArray, List.set_cons_zero, List.set_cons_succ]
  have hWL : byteVals tagW = byteVals tagW := rfl
  clear hWL
  refine wpAnyH_states (fun s => known2L.getD s #[]) (fun s => known2M.getD s 0) (known2A v0 n1 (byteVals tagW).toArray (byteVals tagW)) ?_ _ 0 _ _ (by decide) ⟨0, 0, 0, 0, rfl, E0, hS0⟩
  intro s a w h
  match s, h with
  | 0, h =>
    all_goals
      obtain ⟨p0, p2, p4, p6, rfl, E, hS⟩ := h
      right
      refine ⟨by decide, [0, 2, 4], by kernel_rfl, by simp, ?_⟩
      refine AllSt.cons (o := ⟨some 3, _, _, _, _, _⟩) rfl (fun K hK => ?_) (AllSt.cons (o := ⟨some 5, _, _, _, _, _⟩) rfl (fun K hK => ?_) (AllSt.cons (o := ⟨some 7, _, _, _, _, _⟩) rfl (fun K hK => ?_) (AllSt.nil)))
      · have g : Chg none w (w.alloc (.cells #[Value.int IntKind.u8 74, Value.int IntKind.u8 101, Value.int IntKind.u8 102, Value.int IntKind.u8 101] 5)) := (Chg.refl _ _).alloc _
        have nb : (w.alloc (.cells #[Value.int IntKind.u8 74, Value.int IntKind.u8 101, Value.int IntKind.u8 102, Value.int IntKind.u8 101] 5)).heap[w.heap.size]? = some (.cells cA 5 (0, 0)) := heap_alloc_new w _
        have hS' := range_chg hS g
        have E' := E.trans g
        go_simp
        refine hK.out _ _ ⟨hS', 10, rfl, rfl, w.heap.size, p2, p4, p6, rfl, E', hS', nb, E.size⟩
      · have g : Chg none w (w.alloc (.cells #[Value.int IntKind.u8 119, Value.int IntKind.u8 104, Value.int IntKind.u8 97, Value.int IntKind.u8 116, Value.int IntKind.u8 32, Value.int IntKind.u8 100, Value.int IntKind.u8 111, Value.int IntKind.u8 32, Value.int IntKind.u8 121, Value.int IntKind.u8 97, Value.int IntKind.u8 32, Value.int IntKind.u8 119, Value.int IntKind.u8 97, Value.int IntKind.u8 110, Value.int IntKind.u8 116, Value.int IntKind.u8 32] 5)) := (Chg.refl _ _).alloc _
        have nb : (w.alloc (.cells #[Value.int IntKind.u8 119, Value.int IntKind.u8 104, Value.int IntKind.u8 97, Value.int IntKind.u8 116, Value.int IntKind.u8 32, Value.int IntKind.u8 100, Value.int IntKind.u8 111, Value.int IntKind.u8 32, Value.int IntKind.u8 121, Value.int IntKind.u8 97, Value.int IntKind.u8 32, Value.int IntKind.u8 119, Value.int IntKind.u8 97, Value.int IntKind.u8 110, Value.int IntKind.u8 116, Value.int IntKind.u8 32] 5)).heap[w.heap.size]? = some (.cells cB 5 (0, 0)) := heap_alloc_new w _
        have hS' := range_chg hS g
        have E' := E.trans g
        go_simp
        refine hK.out _ _ ⟨hS', 3, rfl, rfl, p0, w.heap.size, p4, p6, rfl, E', hS', nb, E.size⟩
      · have g : Chg none w (w.alloc (.cells #[Value.int IntKind.u8 102, Value.int IntKind.u8 111, Value.int IntKind.u8 114, Value.int IntKind.u8 32, Value.int IntKind.u8 110, Value.int IntKind.u8 111, Value.int IntKind.u8 116, Value.int IntKind.u8 104, Value.int IntKind.u8 105, Value.int IntKind.u8 110, Value.int IntKind.u8 103, Value.int IntKind.u8 63] 5)) := (Chg.refl _ _).alloc _
        have nb : (w.alloc (.cells #[Value.int IntKind.u8 102, Value.int IntKind.u8 111, Value.int IntKind.u8 114, Value.int IntKind.u8 32, Value.int IntKind.u8 110, Value.int IntKind.u8 111, Value.int IntKind.u8 116, Value.int IntKind.u8 104, Value.int IntKind.u8 105, Value.int IntKind.u8 110, Value.int IntKind.u8 103, Value.int IntKind.u8 63] 5)).heap[w.heap.size]? = some (.cells cC 5 (0, 0)) := heap_alloc_new w _
        have hS' := range_chg hS g
        have E' := E.trans g
        go_simp
        refine hK.out _ _ ⟨hS', 1, rfl, rfl, p0, p2, w.heap.size, p6, rfl, E', hS', nb, E.size⟩
  | 1, h =>
    all_goals
      obtain ⟨p0, p2, p4, p6, rfl, E, hS, b4, z4⟩ := h
      right
      refine ⟨by decide, [0, 2, 5], by kernel_rfl, by simp, ?_⟩
      refine AllSt.cons (o := ⟨some 3, _, _, _, _, _⟩) rfl (fun K hK => ?_) (AllSt.cons (o := ⟨some 5, _, _, _, _, _⟩) rfl (fun K hK => ?_) (AllSt.cons (o := ⟨some 8, _, _, _, _, _⟩) rfl (fun K hK => ?_) (AllSt.nil)))
      · have g : Chg none w (w.alloc (.cells #[Value.int IntKind.u8 74, Value.int IntKind.u8 101, Value.int IntKind.u8 102, Value.int IntKind.u8 101] 5)) := (Chg.refl _ _).alloc _
        have nb : (w.alloc (.cells #[Value.int IntKind.u8 74, Value.int IntKind.u8 101, Value.int IntKind.u8 102, Value.int IntKind.u8 101] 5)).heap[w.heap.size]? = some (.cells cA 5 (0, 0)) := heap_alloc_new w _
        have hS' := range_chg hS g
        have E' := E.trans g
        go_simp
        refine hK.out _ _ ⟨hS', 11, rfl, rfl, w.heap.size, p2, p4, p6, rfl, E', hS', nb, E.size, hp_chg b4 g (by simp), z4, (by have := hp_lt b4; omega)⟩
      · have g : Chg none w (w.alloc (.cells #[Value.int IntKind.u8 119, Value.int IntKind.u8 104, Value.int IntKind.u8 97, Value.int IntKind.u8 116, Value.int IntKind.u8 32, Value.int IntKind.u8 100, Value.int IntKind.u8 111, Value.int IntKind.u8 32, Value.int IntKind.u8 121, Value.int IntKind.u8 97, Value.int IntKind.u8 32, Value.int IntKind.u8 119, Value.int IntKind.u8 97, Value.int IntKind.u8 110, Value.int IntKind.u8 116, Value.int IntKind.u8 32] 5)) := (Chg.refl _ _).alloc _
        have nb : (w.alloc (.cells #[Value.int IntKind.u8 119, Value.int IntKind.u8 104, Value.int IntKind.u8 97, Value.int IntKind.u8 116, Value.int IntKind.u8 32, Value.int IntKind.u8 100, Value.int IntKind.u8 111, Value.int IntKind.u8 32, Value.int IntKind.u8 121, Value.int IntKind.u8 97, Value.int IntKind.u8 32, Value.int IntKind.u8 119, Value.int IntKind.u8 97, Value.int IntKind.u8 110, Value.int IntKind.u8 116, Value.int IntKind.u8 32] 5)).heap[w.heap.size]? = some (.cells cB 5 (0, 0)) := heap_alloc_new w _
        have hS' := range_chg hS g
        have E' := E.trans g
        go_simp
        refine hK.out _ _ ⟨hS', 4, rfl, rfl, p0, w.heap.size, p4, p6, rfl, E', hS', nb, E.size, hp_chg b4 g (by simp), z4, (by have := hp_lt b4; omega)⟩
      · obtain ⟨w2, kc, g, fr, nb⟩ := conv_mark (P := Tryd.prog) (t := 22) 12 12 Tryd.underlying22 Tryd.underlying5 b4
        have hS' : w2.rangeAt n1 0 (byteVals tagW) := fun j x hx => World.grownBy.cell g (hS j x hx) (by simpa using (show n1 ≠ p4 by omega))
        have E' := Chg.own (b := p4) E g z4
        go_simp
        refine hK.out _ _ ⟨hS', 2, rfl, rfl, p0, p2, p4, p6, rfl, E', hS', ⟨_, nb⟩, z4⟩
  | 2, h =>
    all_goals
      obtain ⟨p0, p2, p4, p6, rfl, E, hS, ⟨fr4, b4⟩, z4⟩ := h
      right
      refine ⟨by decide, [0, 2], by kernel_rfl, by simp, ?_⟩
      refine AllSt.cons (o := ⟨some 3, _, _, _, _, _⟩) rfl (fun K hK => ?_) (AllSt.cons (o := ⟨some 5, _, _, _, _, _⟩) rfl (fun K hK => ?_) (AllSt.nil))
      · have g : Chg none w (w.alloc (.cells #[Value.int IntKind.u8 74, Value.int IntKind.u8 101, Value.int IntKind.u8 102, Value.int IntKind.u8 101] 5)) := (Chg.refl _ _).alloc _
        have nb : (w.alloc (.cells #[Value.int IntKind.u8 74, Value.int IntKind.u8 101, Value.int IntKind.u8 102, Value.int IntKind.u8 101] 5)).heap[w.heap.size]? = some (.cells cA 5 (0, 0)) := heap_alloc_new w _
        have hS' := range_chg hS g
        have E' := E.trans g
        go_simp
        refine hK.out _ _ ⟨hS', 12, rfl, rfl, w.heap.size, p2, p4, p6, rfl, E', hS', nb, E.size, ⟨_, hp_chg b4 g (by simp)⟩, z4, (by have := hp_lt b4; omega)⟩
      · have g : Chg none w (w.alloc (.cells #[Value.int IntKind.u8 119, Value.int IntKind.u8 104, Value.int IntKind.u8 97, Value.int IntKind.u8 116, Value.int IntKind.u8 32, Value.int IntKind.u8 100, Value.int IntKind.u8 111, Value.int IntKind.u8 32, Value.int IntKind.u8 121, Value.int IntKind.u8 97, Value.int IntKind.u8 32, Value.int IntKind.u8 119, Value.int IntKind.u8 97, Value.int IntKind.u8 110, Value.int IntKind.u8 116, Value.int IntKind.u8 32] 5)) := (Chg.refl _ _).alloc _
        have nb : (w.alloc (.cells #[Value.int IntKind.u8 119, Value.int IntKind.u8 104, Value.int IntKind.u8 97, Value.int IntKind.u8 116, Value.int IntKind.u8 32, Value.int IntKind.u8 100, Value.int IntKind.u8 111, Value.int IntKind.u8 32, Value.int IntKind.u8 121, Value.int IntKind.u8 97, Value.int IntKind.u8 32, Value.int IntKind.u8 119, Value.int IntKind.u8 97, Value.int IntKind.u8 110, Value.int IntKind.u8 116, Value.int IntKind.u8 32] 5)).heap[w.heap.size]? = some (.cells cB 5 (0, 0)) := heap_alloc_new w _
        have hS' := range_chg hS g
        have E' := E.trans g
        go_simp
        refine hK.out _ _ ⟨hS', 5, rfl, rfl, p0, w.heap.size, p4, p6, rfl, E', hS', nb, E.size, ⟨_, hp_chg b4 g (by simp)⟩, z4, (by have := hp_lt b4; omega)⟩
  | 3, h =>
    all_goals
      obtain ⟨p0, p2, p4, p6, rfl, E, hS, b2, z2⟩ := h
      right
      refine ⟨by decide, [0, 3, 4], by kernel_rfl, by simp, ?_⟩
      refine AllSt.cons (o := ⟨some 3, _, _, _, _, _⟩) rfl (fun K hK => ?_) (AllSt.cons (o := ⟨some 6, _, _, _, _, _⟩) rfl (fun K hK => ?_) (AllSt.cons (o := ⟨some 7, _, _, _, _, _⟩) rfl (fun K hK => ?_) (AllSt.nil)))
      · have g : Chg none w (w.alloc (.cells #[Value.int IntKind.u8 74, Value.int IntKind.u8 101, Value.int IntKind.u8 102, Value.int IntKind.u8 101] 5)) := (Chg.refl _ _).alloc _
        have nb : (w.alloc (.cells #[Value.int IntKind.u8 74, Value.int IntKind.u8 101, Value.int IntKind.u8 102, Value.int IntKind.u8 101] 5)).heap[w.heap.size]? = some (.cells cA 5 (0, 0)) := heap_alloc_new w _
        have hS' := range_chg hS g
        have E' := E.trans g
        go_simp
        refine hK.out _ _ ⟨hS', 13, rfl, rfl, w.heap.size, p2, p4, p6, rfl, E', hS', nb, E.size, hp_chg b2 g (by simp), z2, (by have := hp_lt b2; omega)⟩
      · obtain ⟨w2, kc, g, fr, nb⟩ := conv_mark (P := Tryd.prog) (t := 22) 16 16 Tryd.underlying22 Tryd.underlying5 b2
        have hS' : w2.rangeAt n1 0 (byteVals tagW) := fun j x hx => World.grownBy.cell g (hS j x hx) (by simpa using (show n1 ≠ p2 by omega))
        have E' := Chg.own (b := p2) E g z2
        go_simp
        refine hK.out _ _ ⟨hS', 6, rfl, rfl, p0, p2, p4, p6, rfl, E', hS', ⟨_, nb⟩, z2⟩
      · have g : Chg none w (w.alloc (.cells #[Value.int IntKind.u8 102, Value.int IntKind.u8 111, Value.int IntKind.u8 114, Value.int IntKind.u8 32, Value.int IntKind.u8 110, Value.int IntKind.u8 111, Value.int IntKind.u8 116, Value.int IntKind.u8 104, Value.int IntKind.u8 105, Value.int IntKind.u8 110, Value.int IntKind.u8 103, Value.int IntKind.u8 63] 5)) := (Chg.refl _ _).alloc _
        have nb : (w.alloc (.cells #[Value.int IntKind.u8 102, Value.int IntKind.u8 111, Value.int IntKind.u8 114, Value.int IntKind.u8 32, Value.int IntKind.u8 110, Value.int IntKind.u8 111, Value.int IntKind.u8 116, Value.int IntKind.u8 104, Value.int IntKind.u8 105, Value.int IntKind.u8 110, Value.int IntKind.u8 103, Value.int IntKind.u8 63] 5)).heap[w.heap.size]? = some (.cells cC 5 (0, 0)) := heap_alloc_new w _
        have hS' := range_chg hS g
        have E' := E.trans g
        go_simp
        refine hK.out _ _ ⟨hS', 4, rfl, rfl, p0, p2, w.heap.size, p6, rfl, E', hS', hp_chg b2 g (by simp), z2, nb, E.size, (by have := hp_lt b2; omega)⟩
  | 4, h =>
    all_goals
      obtain ⟨p0, p2, p4, p6, rfl, E, hS, b2, z2, b4, z4, ne24⟩ := h
      right
      refine ⟨by decide, [0, 3, 5], by kernel_rfl, by simp, ?_⟩
      refine AllSt.cons (o := ⟨some 3, _, _, _, _, _⟩) rfl (fun K hK => ?_) (AllSt.cons (o := ⟨some 6, _, _, _, _, _⟩) rfl (fun K hK => ?_) (AllSt.cons (o := ⟨some 8, _, _, _, _, _⟩) rfl (fun K hK => ?_) (AllSt.nil)))
      · have g : Chg none w (w.alloc (.cells #[Value.int IntKind.u8 74, Value.int IntKind.u8 101, Value.int IntKind.u8 102, Value.int IntKind.u8 101] 5)) := (Chg.refl _ _).alloc _
        have nb : (w.alloc (.cells #[Value.int IntKind.u8 74, Value.int IntKind.u8 101, Value.int IntKind.u8 102, Value.int IntKind.u8 101] 5)).heap[w.heap.size]? = some (.cells cA 5 (0, 0)) := heap_alloc_new w _
        have hS' := range_chg hS g
        have E' := E.trans g
        go_simp
        refine hK.out _ _ ⟨hS', 14, rfl, rfl, w.heap.size, p2, p4, p6, rfl, E', hS', nb, E.size, hp_chg b2 g (by simp), z2, hp_chg b4 g (by simp), z4, (by have := hp_lt b2; omega), (by have := hp_lt b4; omega), ne24⟩
      · obtain ⟨w2, kc, g, fr, nb⟩ := conv_mark (P := Tryd.prog) (t := 22) 16 16 Tryd.underlying22 Tryd.underlying5 b2
        have hS' : w2.rangeAt n1 0 (byteVals tagW) := fun j x hx => World.grownBy.cell g (hS j x hx) (by simpa using (show n1 ≠ p2 by omega))
        have E' := Chg.own (b := p2) E g z2
        go_simp
        refine hK.out _ _ ⟨hS', 7, rfl, rfl, p0, p2, p4, p6, rfl, E', hS', ⟨_, nb⟩, z2, hp_chg b4 g (by simpa using (Ne.symm ne24)), z4, ne24⟩
      · obtain ⟨w2, kc, g, fr, nb⟩ := conv_mark (P := Tryd.prog) (t := 22) 12 12 Tryd.underlying22 Tryd.underlying5 b4
        have hS' : w2.rangeAt n1 0 (byteVals tagW) := fun j x hx => World.grownBy.cell g (hS j x hx) (by simpa using (show n1 ≠ p4 by omega))
        have E' := Chg.own (b := p4) E g z4
        go_simp
        refine hK.out _ _ ⟨hS', 5, rfl, rfl, p0, p2, p4, p6, rfl, E', hS', hp_chg b2 g (by simpa using ne24), z2, ⟨_, nb⟩, z4, ne24⟩
  | 5, h =>
    all_goals
      obtain ⟨p0, p2, p4, p6, rfl, E, hS, b2, z2, ⟨fr4, b4⟩, z4, ne24⟩ := h
      right
      refine ⟨by decide, [0, 3], by kernel_rfl, by simp, ?_⟩
      refine AllSt.cons (o := ⟨some 3, _, _, _, _, _⟩) rfl (fun K hK => ?_) (AllSt.cons (o := ⟨some 6, _, _, _, _, _⟩) rfl (fun K hK => ?_) (AllSt.nil))
      · have g : Chg none w (w.alloc (.cells #[Value.int IntKind.u8 74, Value.int IntKind.u8 101, Value.int IntKind.u8 102, Value.int IntKind.u8 101] 5)) := (Chg.refl _ _).alloc _
        have nb : (w.alloc (.cells #[Value.int IntKind.u8 74, Value.int IntKind.u8 101, Value.int IntKind.u8 102, Value.int IntKind.u8 101] 5)).heap[w.heap.size]? = some (.cells cA 5 (0, 0)) := heap_alloc_new w _
        have hS' := range_chg hS g
        have E' := E.trans g
        go_simp
        refine hK.out _ _ ⟨hS', 15, rfl, rfl, w.heap.size, p2, p4, p6, rfl, E', hS', nb, E.size, hp_chg b2 g (by simp), z2, ⟨_, hp_chg b4 g (by simp)⟩, z4, (by have := hp_lt b2; omega), (by have := hp_lt b4; omega), ne24⟩
      · obtain ⟨w2, kc, g, fr, nb⟩ := conv_mark (P := Tryd.prog) (t := 22) 16 16 Tryd.underlying22 Tryd.underlying5 b2
        have hS' : w2.rangeAt n1 0 (byteVals tagW) := fun j x hx => World.grownBy.cell g (hS j x hx) (by simpa using (show n1 ≠ p2 by omega))
        have E' := Chg.own (b := p2) E g z2
        go_simp
        refine hK.out _ _ ⟨hS', 8, rfl, rfl, p0, p2, p4, p6, rfl, E', hS', ⟨_, nb⟩, z2, ⟨_, hp_chg b4 g (by simpa using (Ne.symm ne24))⟩, z4, ne24⟩
  | 6, h =>
    all_goals
      obtain ⟨p0, p2, p4, p6, rfl, E, hS, ⟨fr2, b2⟩, z2⟩ := h
      right
      refine ⟨by decide, [0, 4], by kernel_rfl, by simp, ?_⟩
      refine AllSt.cons (o := ⟨some 3, _, _, _, _, _⟩) rfl (fun K hK => ?_) (AllSt.cons (o := ⟨some 7, _, _, _, _, _⟩) rfl (fun K hK => ?_) (AllSt.nil))
      · have g : Chg none w (w.alloc (.cells #[Value.int IntKind.u8 74, Value.int IntKind.u8 101, Value.int IntKind.u8 102, Value.int IntKind.u8 101] 5)) := (Chg.refl _ _).alloc _
        have nb : (w.alloc (.cells #[Value.int IntKind.u8 74, Value.int IntKind.u8 101, Value.int IntKind.u8 102, Value.int IntKind.u8 101] 5)).heap[w.heap.size]? = some (.cells cA 5 (0, 0)) := heap_alloc_new w _
        have hS' := range_chg hS g
        have E' := E.trans g
        go_simp
        refine hK.out _ _ ⟨hS', 16, rfl, rfl, w.heap.size, p2, p4, p6, rfl, E', hS', nb, E.size, ⟨_, hp_chg b2 g (by simp)⟩, z2, (by have := hp_lt b2; omega)⟩
      · have g : Chg none w (w.alloc (.cells #[Value.int IntKind.u8 102, Value.int IntKind.u8 111, Value.int IntKind.u8 114, Value.int IntKind.u8 32, Value.int IntKind.u8 110, Value.int IntKind.u8 111, Value.int IntKind.u8 116, Value.int IntKind.u8 104, Value.int IntKind.u8 105, Value.int IntKind.u8 110, Value.int IntKind.u8 103, Value.int IntKind.u8 63] 5)) := (Chg.refl _ _).alloc _
        have nb : (w.alloc (.cells #[Value.int IntKind.u8 102, Value.int IntKind.u8 111, Value.int IntKind.u8 114, Value.int IntKind.u8 32, Value.int IntKind.u8 110, Value.int IntKind.u8 111, Value.int IntKind.u8 116, Value.int IntKind.u8 104, Value.int IntKind.u8 105, Value.int IntKind.u8 110, Value.int IntKind.u8 103, Value.int IntKind.u8 63] 5)).heap[w.heap.size]? = some (.cells cC 5 (0, 0)) := heap_alloc_new w _
        have hS' := range_chg hS g
        have E' := E.trans g
        go_simp
        refine hK.out _ _ ⟨hS', 7, rfl, rfl, p0, p2, w.heap.size, p6, rfl, E', hS', ⟨_, hp_chg b2 g (by simp)⟩, z2, nb, E.size, (by have := hp_lt b2; omega)⟩
  | 7, h =>
    all_goals
      obtain ⟨p0, p2, p4, p6, rfl, E, hS, ⟨fr2, b2⟩, z2, b4, z4, ne24⟩ := h
      right
      refine ⟨by decide, [0, 5], by kernel_rfl, by simp, ?_⟩
      refine AllSt.cons (o := ⟨some 3, _, _, _, _, _⟩) rfl (fun K hK => ?_) (AllSt.cons (o := ⟨some 8, _, _, _, _, _⟩) rfl (fun K hK => ?_) (AllSt.nil))
      · have g : Chg none w (w.alloc (.cells #[Value.int IntKind.u8 74, Value.int IntKind.u8 101, Value.int IntKind.u8 102, Value.int IntKind.u8 101] 5)) := (Chg.refl _ _).alloc _
        have nb : (w.alloc (.cells #[Value.int IntKind.u8 74, Value.int IntKind.u8 101, Value.int IntKind.u8 102, Value.int IntKind.u8 101] 5)).heap[w.heap.size]? = some (.cells cA 5 (0, 0)) := heap_alloc_new w _
        have hS' := range_chg hS g
        have E' := E.trans g
        go_simp
        refine hK.out _ _ ⟨hS', 17, rfl, rfl, w.heap.size, p2, p4, p6, rfl, E', hS', nb, E.size, ⟨_, hp_chg b2 g (by simp)⟩, z2, hp_chg b4 g (by simp), z4, (by have := hp_lt b2; omega), (by have := hp_lt b4; omega), ne24⟩
      · obtain ⟨w2, kc, g, fr, nb⟩ := conv_mark (P := Tryd.prog) (t := 22) 12 12 Tryd.underlying22 Tryd.underlying5 b4
        have hS' : w2.rangeAt n1 0 (byteVals tagW) := fun j x hx => World.grownBy.cell g (hS j x hx) (by simpa using (show n1 ≠ p4 by omega))
        have E' := Chg.own (b := p4) E g z4
        go_simp
        refine hK.out _ _ ⟨hS', 8, rfl, rfl, p0, p2, p4, p6, rfl, E', hS', ⟨_, hp_chg b2 g (by simpa using ne24)⟩, z2, ⟨_, nb⟩, z4, ne24⟩
  | 8, h =>
    all_goals
      obtain ⟨p0, p2, p4, p6, rfl, E, hS, ⟨fr2, b2⟩, z2, ⟨fr4, b4⟩, z4, ne24⟩ := h
      right
      refine ⟨by decide, [0, 6], by kernel_rfl, by simp, ?_⟩
      refine AllSt.cons (o := ⟨some 3, _, _, _, _, _⟩) rfl (fun K hK => ?_) (AllSt.cons (o := ⟨some 9, _, _, _, _, _⟩) rfl (fun K hK => ?_) (AllSt.nil))
      · have g : Chg none w (w.alloc (.cells #[Value.int IntKind.u8 74, Value.int IntKind.u8 101, Value.int IntKind.u8 102, Value.int IntKind.u8 101] 5)) := (Chg.refl _ _).alloc _
        have nb : (w.alloc (.cells #[Value.int IntKind.u8 74, Value.int IntKind.u8 101, Value.int IntKind.u8 102, Value.int IntKind.u8 101] 5)).heap[w.heap.size]? = some (.cells cA 5 (0, 0)) := heap_alloc_new w _
        have hS' := range_chg hS g
        have E' := E.trans g
        go_simp
        refine hK.out _ _ ⟨hS', 18, rfl, rfl, w.heap.size, p2, p4, p6, rfl, E', hS', nb, E.size, ⟨_, hp_chg b2 g (by simp)⟩, z2, ⟨_, hp_chg b4 g (by simp)⟩, z4, (by have := hp_lt b2; omega), (by have := hp_lt b4; omega), ne24⟩
      · have g : Chg none w (w.alloc (.cells #[Value.slice (some ⟨p2, 0, none⟩) 16 16, Value.slice (some ⟨p4, 0, none⟩) 12 12] 22)) := (Chg.refl _ _).alloc _
        have nb : (w.alloc (.cells #[Value.slice (some ⟨p2, 0, none⟩) 16 16, Value.slice (some ⟨p4, 0, none⟩) 12 12] 22)).heap[w.heap.size]? = some (.cells #[.slice (some ⟨p2, 0, none⟩) 16 16, .slice (some ⟨p4, 0, none⟩) 12 12] 22 (0, 0)) := heap_alloc_new w _
        have hS' := range_chg hS g
        have E' := E.trans g
        go_simp
        refine hK.out _ _ ⟨hS', 9, rfl, rfl, p0, p2, p4, w.heap.size, rfl, E', hS', ⟨_, hp_chg b2 g (by simp)⟩, z2, ⟨_, hp_chg b4 g (by simp)⟩, z4, nb, E.size, ne24, (by have := hp_lt b2; omega), (by have := hp_lt b4; omega)⟩
  | 9, h =>
    all_goals
      obtain ⟨p0, p2, p4, p6, rfl, E, hS, ⟨fr2, b2⟩, z2, ⟨fr4, b4⟩, z4, b6, z6, ne24, ne26, ne46⟩ := h
      right
      refine ⟨by decide, [0], by kernel_rfl, by simp, ?_⟩
      refine AllSt.cons (o := ⟨some 3, _, _, _, _, _⟩) rfl (fun K hK => ?_) (AllSt.nil)
      · have g : Chg none w (w.alloc (.cells #[Value.int IntKind.u8 74, Value.int IntKind.u8 101, Value.int IntKind.u8 102, Value.int IntKind.u8 101] 5)) := (Chg.refl _ _).alloc _
        have nb : (w.alloc (.cells #[Value.int IntKind.u8 74, Value.int IntKind.u8 101, Value.int IntKind.u8 102, Value.int IntKind.u8 101] 5)).heap[w.heap.size]? = some (.cells cA 5 (0, 0)) := heap_alloc_new w _
        have hS' := range_chg hS g
        have E' := E.trans g
        go_simp
        refine hK.out _ _ ⟨hS', 19, rfl, rfl, w.heap.size, p2, p4, p6, rfl, E', hS', nb, E.size, ⟨_, hp_chg b2 g (by simp)⟩, z2, ⟨_, hp_chg b4 g (by simp)⟩, z4, hp_chg b6 g (by simp), z6, (by have := hp_lt b2; omega), (by have := hp_lt b4; omega), (by have := hp_lt b6; omega), ne24, ne26, ne46⟩
  | 10, h =>
    all_goals
      obtain ⟨p0, p2, p4, p6, rfl, E, hS, b0, z0⟩ := h
      right
      refine ⟨by decide, [1, 2, 4], by kernel_rfl, by simp, ?_⟩
      refine AllSt.cons (o := ⟨some 4, _, _, _, _, _⟩) rfl (fun K hK => ?_) (AllSt.cons (o := ⟨some 5, _, _, _, _, _⟩) rfl (fun K hK => ?_) (AllSt.cons (o := ⟨some 7, _, _, _, _, _⟩) rfl (fun K hK => ?_) (AllSt.nil)))
      · obtain ⟨w2, kc, g, fr, nb⟩ := conv_mark (P := Tryd.prog) (t := 22) 4 4 Tryd.underlying22 Tryd.underlying5 b0
        have hS' : w2.rangeAt n1 0 (byteVals tagW) := fun j x hx => World.grownBy.cell g (hS j x hx) (by simpa using (show n1 ≠ p0 by omega))
        have E' := Chg.own (b := p0) E g z0
        go_simp
        refine hK.out _ _ ⟨hS', 20, rfl, rfl, p0, p2, p4, p6, rfl, E', hS', ⟨_, nb⟩, z0⟩
      · have g : Chg none w (w.alloc (.cells #[Value.int IntKind.u8 119, Value.int IntKind.u8 104, Value.int IntKind.u8 97, Value.int IntKind.u8 116, Value.int IntKind.u8 32, Value.int IntKind.u8 100, Value.int IntKind.u8 111, Value.int IntKind.u8 32, Value.int IntKind.u8 121, Value.int IntKind.u8 97, Value.int IntKind.u8 32, Value.int IntKind.u8 119, Value.int IntKind.u8 97, Value.int IntKind.u8 110, Value.int IntKind.u8 116, Value.int IntKind.u8 32] 5)) := (Chg.refl _ _).alloc _
        have nb : (w.alloc (.cells #[Value.int IntKind.u8 119, Value.int IntKind.u8 104, Value.int IntKind.u8 97, Value.int IntKind.u8 116, Value.int IntKind.u8 32, Value.int IntKind.u8 100, Value.int IntKind.u8 111, Value.int IntKind.u8 32, Value.int IntKind.u8 121, Value.int IntKind.u8 97, Value.int IntKind.u8 32, Value.int IntKind.u8 119, Value.int IntKind.u8 97, Value.int IntKind.u8 110, Value.int IntKind.u8 116, Value.int IntKind.u8 32] 5)).heap[w.heap.size]? = some (.cells cB 5 (0, 0)) := heap_alloc_new w _
        have hS' := range_chg hS g
        have E' := E.trans g
        go_simp
        refine hK.out _ _ ⟨hS', 13, rfl, rfl, p0, w.heap.size, p4, p6, rfl, E', hS', hp_chg b0 g (by simp), z0, nb, E.size, (by have := hp_lt b0; omega)⟩
      · have g : Chg none w (w.alloc (.cells #[Value.int IntKind.u8 102, Value.int IntKind.u8 111, Value.int IntKind.u8 114, Value.int IntKind.u8 32, Value.int IntKind.u8 110, Value.int IntKind.u8 111, Value.int IntKind.u8 116, Value.int IntKind.u8 104, Value.int IntKind.u8 105, Value.int IntKind.u8 110, Value.int IntKind.u8 103, Value.int IntKind.u8 63] 5)) := (Chg.refl _ _).alloc _
        have nb : (w.alloc (.cells #[Value.int IntKind.u8 102, Value.int IntKind.u8 111, Value.int IntKind.u8 114, Value.int IntKind.u8 32, Value.int IntKind.u8 110, Value.int IntKind.u8 111, Value.int IntKind.u8 116, Value.int IntKind.u8 104, Value.int IntKind.u8 105, Value.int IntKind.u8 110, Value.int IntKind.u8 103, Value.int IntKind.u8 63] 5)).heap[w.heap.size]? = some (.cells cC 5 (0, 0)) := heap_alloc_new w _
        have hS' := range_chg hS g
        have E' := E.trans g
        go_simp
        refine hK.out _ _ ⟨hS', 11, rfl, rfl, p0, p2, w.heap.size, p6, rfl, E', hS', hp_chg b0 g (by simp), z0, nb, E.size, (by have := hp_lt b0; omega)⟩
  | 11, h =>
    all_goals
      obtain ⟨p0, p2, p4, p6, rfl, E, hS, b0, z0, b4, z4, ne04⟩ := h
      right
      refine ⟨by decide, [1, 2, 5], by kernel_rfl, by simp, ?_⟩
      refine AllSt.cons (o := ⟨some 4, _, _, _, _, _⟩) rfl (fun K hK => ?_) (AllSt.cons (o := ⟨some 5, _, _, _, _, _⟩) rfl (fun K hK => ?_) (AllSt.cons (o := ⟨some 8, _, _, _, _, _⟩) rfl (fun K hK => ?_) (AllSt.nil)))
      · obtain ⟨w2, kc, g, fr, nb⟩ := conv_mark (P := Tryd.prog) (t := 22) 4 4 Tryd.underlying22 Tryd.underlying5 b0
        have hS' : w2.rangeAt n1 0 (byteVals tagW) := fun j x hx => World.grownBy.cell g (hS j x hx) (by simpa using (show n1 ≠ p0 by omega))
        have E' := Chg.own (b := p0) E g z0
        go_simp
        refine hK.out _ _ ⟨hS', 21, rfl, rfl, p0, p2, p4, p6, rfl, E', hS', ⟨_, nb⟩, z0, hp_chg b4 g (by simpa using (Ne.symm ne04)), z4, ne04⟩
      · have g : Chg none w (w.alloc (.cells #[Value.int IntKind.u8 119, Value.int IntKind.u8 104, Value.int IntKind.u8 97, Value.int IntKind.u8 116, Value.int IntKind.u8 32, Value.int IntKind.u8 100, Value.int IntKind.u8 111, Value.int IntKind.u8 32, Value.int IntKind.u8 121, Value.int IntKind.u8 97, Value.int IntKind.u8 32, Value.int IntKind.u8 119, Value.int IntKind.u8 97, Value.int IntKind.u8 110, Value.int IntKind.u8 116, Value.int IntKind.u8 32] 5)) := (Chg.refl _ _).alloc _
        have nb : (w.alloc (.cells #[Value.int IntKind.u8 119, Value.int IntKind.u8 104, Value.int IntKind.u8 97, Value.int IntKind.u8 116, Value.int IntKind.u8 32, Value.int IntKind.u8 100, Value.int IntKind.u8 111, Value.int IntKind.u8 32, Value.int IntKind.u8 121, Value.int IntKind.u8 97, Value.int IntKind.u8 32, Value.int IntKind.u8 119, Value.int IntKind.u8 97, Value.int IntKind.u8 110, Value.int IntKind.u8 116, Value.int IntKind.u8 32] 5)).heap[w.heap.size]? = some (.cells cB 5 (0, 0)) := heap_alloc_new w _
        have hS' := range_chg hS g
        have E' := E.trans g
        go_simp
        refine hK.out _ _ ⟨hS', 14, rfl, rfl, p0, w.heap.size, p4, p6, rfl, E', hS', hp_chg b0 g (by simp), z0, nb, E.size, hp_chg b4 g (by simp), z4, (by have := hp_lt b0; omega), ne04, (by have := hp_lt b4; omega)⟩
      · obtain ⟨w2, kc, g, fr, nb⟩ := conv_mark (P := Tryd.prog) (t := 22) 12 12 Tryd.underlying22 Tryd.underlying5 b4
        have hS' : w2.rangeAt n1 0 (byteVals tagW) := fun j x hx => World.grownBy.cell g (hS j x hx) (by simpa using (show n1 ≠ p4 by omega))
        have E' := Chg.own (b := p4) E g z4
        go_simp
        refine hK.out _ _ ⟨hS', 12, rfl, rfl, p0, p2, p4, p6, rfl, E', hS', hp_chg b0 g (by simpa using ne04), z0, ⟨_, nb⟩, z4, ne04⟩
  | 12, h =>
    all_goals
      obtain ⟨p0, p2, p4, p6, rfl, E, hS, b0, z0, ⟨fr4, b4⟩, z4, ne04⟩ := h
      right
      refine ⟨by decide, [1, 2], by kernel_rfl, by simp, ?_⟩
      refine AllSt.cons (o := ⟨some 4, _, _, _, _, _⟩) rfl (fun K hK => ?_) (AllSt.cons (o := ⟨some 5, _, _, _, _, _⟩) rfl (fun K hK => ?_) (AllSt.nil))
      · obtain ⟨w2, kc, g, fr, nb⟩ := conv_mark (P := Tryd.prog) (t := 22) 4 4 Tryd.underlying22 Tryd.underlying5 b0
        have hS' : w2.rangeAt n1 0 (byteVals tagW) := fun j x hx => World.grownBy.cell g (hS j x hx) (by simpa using (show n1 ≠ p0 by omega))
        have E' := Chg.own (b := p0) E g z0
        go_simp
        refine hK.out _ _ ⟨hS', 22, rfl, rfl, p0, p2, p4, p6, rfl, E', hS', ⟨_, nb⟩, z0, ⟨_, hp_chg b4 g (by simpa using (Ne.symm ne04))⟩, z4, ne04⟩
      · have g : Chg none w (w.alloc (.cells #[Value.int IntKind.u8 119, Value.int IntKind.u8 104, Value.int IntKind.u8 97, Value.int IntKind.u8 116, Value.int IntKind.u8 32, Value.int IntKind.u8 100, Value.int IntKind.u8 111, Value.int IntKind.u8 32, Value.int IntKind.u8 121, Value.int IntKind.u8 97, Value.int IntKind.u8 32, Value.int IntKind.u8 119, Value.int IntKind.u8 97, Value.int IntKind.u8 110, Value.int IntKind.u8 116, Value.int IntKind.u8 32] 5)) := (Chg.refl _ _).alloc _
        have nb : (w.alloc (.cells #[Value.int IntKind.u8 119, Value.int IntKind.u8 104, Value.int IntKind.u8 97, Value.int IntKind.u8 116, Value.int IntKind.u8 32, Value.int IntKind.u8 100, Value.int IntKind.u8 111, Value.int IntKind.u8 32, Value.int IntKind.u8 121, Value.int IntKind.u8 97, Value.int IntKind.u8 32, Value.int IntKind.u8 119, Value.int IntKind.u8 97, Value.int IntKind.u8 110, Value.int IntKind.u8 116, Value.int IntKind.u8 32] 5)).heap[w.heap.size]? = some (.cells cB 5 (0, 0)) := heap_alloc_new w _
        have hS' := range_chg hS g
        have E' := E.trans g
        go_simp
        refine hK.out _ _ ⟨hS', 15, rfl, rfl, p0, w.heap.size, p4, p6, rfl, E', hS', hp_chg b0 g (by simp), z0, nb, E.size, ⟨_, hp_chg b4 g (by simp)⟩, z4, (by have := hp_lt b0; omega), ne04, (by have := hp_lt b4; omega)⟩
  | 13, h =>
    all_goals
      obtain ⟨p0, p2, p4, p6, rfl, E, hS, b0, z0, b2, z2, ne02⟩ := h
      right
      refine ⟨by decide, [1, 3, 4], by kernel_rfl, by simp, ?_⟩
      refine AllSt.cons (o := ⟨some 4, _, _, _, _, _⟩) rfl (fun K hK => ?_) (AllSt.cons (o := ⟨some 6, _, _, _, _, _⟩) rfl (fun K hK => ?_) (AllSt.cons (o := ⟨some 7, _, _, _, _, _⟩) rfl (fun K hK => ?_) (AllSt.nil)))
      · obtain ⟨w2, kc, g, fr, nb⟩ := conv_mark (P := Tryd.prog) (t := 22) 4 4 Tryd.underlying22 Tryd.underlying5 b0
        have hS' : w2.rangeAt n1 0 (byteVals tagW) := fun j x hx => World.grownBy.cell g (hS j x hx) (by simpa using (show n1 ≠ p0 by omega))
        have E' := Chg.own (b := p0) E g z0
        go_simp
        refine hK.out _ _ ⟨hS', 23, rfl, rfl, p0, p2, p4, p6, rfl, E', hS', ⟨_, nb⟩, z0, hp_chg b2 g (by simpa using (Ne.symm ne02)), z2, ne02⟩
      · obtain ⟨w2, kc, g, fr, nb⟩ := conv_mark (P := Tryd.prog) (t := 22) 16 16 Tryd.underlying22 Tryd.underlying5 b2
        have hS' : w2.rangeAt n1 0 (byteVals tagW) := fun j x hx => World.grownBy.cell g (hS j x hx) (by simpa using (show n1 ≠ p2 by omega))
        have E' := Chg.own (b := p2) E g z2
        go_simp
        refine hK.out _ _ ⟨hS', 16, rfl, rfl, p0, p2, p4, p6, rfl, E', hS', hp_chg b0 g (by simpa using ne02), z0, ⟨_, nb⟩, z2, ne02⟩
      · have g : Chg none w (w.alloc (.cells #[Value.int IntKind.u8 102, Value.int IntKind.u8 111, Value.int IntKind.u8 114, Value.int IntKind.u8 32, Value.int IntKind.u8 110, Value.int IntKind.u8 111, Value.int IntKind.u8 116, Value.int IntKind.u8 104, Value.int IntKind.u8 105, Value.int IntKind.u8 110, Value.int IntKind.u8 103, Value.int IntKind.u8 63] 5)) := (Chg.refl _ _).alloc _
        have nb : (w.alloc (.cells #[Value.int IntKind.u8 102, Value.int IntKind.u8 111, Value.int IntKind.u8 114, Value.int IntKind.u8 32, Value.int IntKind.u8 110, Value.int IntKind.u8 111, Value.int IntKind.u8 116, Value.int IntKind.u8 104, Value.int IntKind.u8 105, Value.int IntKind.u8 110, Value.int IntKind.u8 103, Value.int IntKind.u8 63] 5)).heap[w.heap.size]? = some (.cells cC 5 (0, 0)) := heap_alloc_new w _
        have hS' := range_chg hS g
        have E' := E.trans g
        go_simp
        refine hK.out _ _ ⟨hS', 14, rfl, rfl, p0, p2, w.heap.size, p6, rfl, E', hS', hp_chg b0 g (by simp), z0, hp_chg b2 g (by simp), z2, nb, E.size, ne02, (by have := hp_lt b0; omega), (by have := hp_lt b2; omega)⟩
  | 14, h =>
    all_goals
      obtain ⟨p0, p2, p4, p6, rfl, E, hS, b0, z0, b2, z2, b4, z4, ne02, ne04, ne24⟩ := h
      right
      refine ⟨by decide, [1, 3, 5], by kernel_rfl, by simp, ?_⟩
      refine AllSt.cons (o := ⟨some 4, _, _, _, _, _⟩) rfl (fun K hK => ?_) (AllSt.cons (o := ⟨some 6, _, _, _, _, _⟩) rfl (fun K hK => ?_) (AllSt.cons (o := ⟨some 8, _, _, _, _, _⟩) rfl (fun K hK => ?_) (AllSt.nil)))
      · obtain ⟨w2, kc, g, fr, nb⟩ := conv_mark (P := Tryd.prog) (t := 22) 4 4 Tryd.underlying22 Tryd.underlying5 b0
        have hS' : w2.rangeAt n1 0 (byteVals tagW) := fun j x hx => World.grownBy.cell g (hS j x hx) (by simpa using (show n1 ≠ p0 by omega))
        have E' := Chg.own (b := p0) E g z0
        go_simp
        refine hK.out _ _ ⟨hS', 24, rfl, rfl, p0, p2, p4, p6, rfl, E', hS', ⟨_, nb⟩, z0, hp_chg b2 g (by simpa using (Ne.symm ne02)), z2, hp_chg b4 g (by simpa using (Ne.symm ne04)), z4, ne02, ne04, ne24⟩
      · obtain ⟨w2, kc, g, fr, nb⟩ := conv_mark (P := Tryd.prog) (t := 22) 16 16 Tryd.underlying22 Tryd.underlying5 b2
        have hS' : w2.rangeAt n1 0 (byteVals tagW) := fun j x hx => World.grownBy.cell g (hS j x hx) (by simpa using (show n1 ≠ p2 by omega))
        have E' := Chg.own (b := p2) E g z2
        go_simp
        refine hK.out _ _ ⟨hS', 17, rfl, rfl, p0, p2, p4, p6, rfl, E', hS', hp_chg b0 g (by simpa using ne02), z0, ⟨_, nb⟩, z2, hp_chg b4 g (by simpa using (Ne.symm ne24)), z4, ne02, ne04, ne24⟩
      · obtain ⟨w2, kc, g, fr, nb⟩ := conv_mark (P := Tryd.prog) (t := 22) 12 12 Tryd.underlying22 Tryd.underlying5 b4
        have hS' : w2.rangeAt n1 0 (byteVals tagW) := fun j x hx => World.grownBy.cell g (hS j x hx) (by simpa using (show n1 ≠ p4 by omega))
        have E' := Chg.own (b := p4) E g z4
        go_simp
        refine hK.out _ _ ⟨hS', 15, rfl, rfl, p0, p2, p4, p6, rfl, E', hS', hp_chg b0 g (by simpa using ne04), z0, hp_chg b2 g (by simpa using ne24), z2, ⟨_, nb⟩, z4, ne02, ne04, ne24⟩
  | 15, h =>
    all_goals
      obtain ⟨p0, p2, p4, p6, rfl, E, hS, b0, z0, b2, z2, ⟨fr4, b4⟩, z4, ne02, ne04, ne24⟩ := h
      right
      refine ⟨by decide, [1, 3], by kernel_rfl, by simp, ?_⟩
      refine AllSt.cons (o := ⟨some 4, _, _, _, _, _⟩) rfl (fun K hK => ?_) (AllSt.cons (o := ⟨some 6, _, _, _, _, _⟩) rfl (fun K hK => ?_) (AllSt.nil))
      · obtain ⟨w2, kc, g, fr, nb⟩ := conv_mark (P := Tryd.prog) (t := 22) 4 4 Tryd.underlying22 Tryd.underlying5 b0
        have hS' : w2.rangeAt n1 0 (byteVals tagW) := fun j x hx => World.grownBy.cell g (hS j x hx) (by simpa using (show n1 ≠ p0 by omega))
        have E' := Chg.own (b := p0) E g z0
        go_simp
        refine hK.out _ _ ⟨hS', 25, rfl, rfl, p0, p2, p4, p6, rfl, E', hS', ⟨_, nb⟩, z0, hp_chg b2 g (by simpa using (Ne.symm ne02)), z2, ⟨_, hp_chg b4 g (by simpa using (Ne.symm ne04))⟩, z4, ne02, ne04, ne24⟩
      · obtain ⟨w2, kc, g, fr, nb⟩ := conv_mark (P := Tryd.prog) (t := 22) 16 16 Tryd.underlying22 Tryd.underlying5 b2
        have hS' : w2.rangeAt n1 0 (byteVals tagW) := fun j x hx => World.grownBy.cell g (hS j x hx) (by simpa using (show n1 ≠ p2 by omega))
        have E' := Chg.own (b := p2) E g z2
        go_simp
        refine hK.out _ _ ⟨hS', 18, rfl, rfl, p0, p2, p4, p6, rfl, E', hS', hp_chg b0 g (by simpa using ne02), z0, ⟨_, nb⟩, z2, ⟨_, hp_chg b4 g (by simpa using (Ne.symm ne24))⟩, z4, ne02, ne04, ne24⟩
  | 16, h =>
    all_goals
      obtain ⟨p0, p2, p4, p6, rfl, E, hS, b0, z0, ⟨fr2, b2⟩, z2, ne02⟩ := h
      right
      refine ⟨by decide, [1, 4], by kernel_rfl, by simp, ?_⟩
      refine AllSt.cons (o := ⟨some 4, _, _, _, _, _⟩) rfl (fun K hK => ?_) (AllSt.cons (o := ⟨some 7, _, _, _, _, _⟩) rfl (fun K hK => ?_) (AllSt.nil))
      · obtain ⟨w2, kc, g, fr, nb⟩ := conv_mark (P := Tryd.prog) (t := 22) 4 4 Tryd.underlying22 Tryd.underlying5 b0
        have hS' : w2.rangeAt n1 0 (byteVals tagW) := fun j x hx => World.grownBy.cell g (hS j x hx) (by simpa using (show n1 ≠ p0 by omega))
        have E' := Chg.own (b := p0) E g z0
        go_simp
        refine hK.out _ _ ⟨hS', 26, rfl, rfl, p0, p2, p4, p6, rfl, E', hS', ⟨_, nb⟩, z0, ⟨_, hp_chg b2 g (by simpa using (Ne.symm ne02))⟩, z2, ne02⟩
      · have g : Chg none w (w.alloc (.cells #[Value.int IntKind.u8 102, Value.int IntKind.u8 111, Value.int IntKind.u8 114, Value.int IntKind.u8 32, Value.int IntKind.u8 110, Value.int IntKind.u8 111, Value.int IntKind.u8 116, Value.int IntKind.u8 104, Value.int IntKind.u8 105, Value.int IntKind.u8 110, Value.int IntKind.u8 103, Value.int IntKind.u8 63] 5)) := (Chg.refl _ _).alloc _
        have nb : (w.alloc (.cells #[Value.int IntKind.u8 102, Value.int IntKind.u8 111, Value.int IntKind.u8 114, Value.int IntKind.u8 32, Value.int IntKind.u8 110, Value.int IntKind.u8 111, Value.int IntKind.u8 116, Value.int IntKind.u8 104, Value.int IntKind.u8 105, Value.int IntKind.u8 110, Value.int IntKind.u8 103, Value.int IntKind.u8 63] 5)).heap[w.heap.size]? = some (.cells cC 5 (0, 0)) := heap_alloc_new w _
        have hS' := range_chg hS g
        have E' := E.trans g
        go_simp
        refine hK.out _ _ ⟨hS', 17, rfl, rfl, p0, p2, w.heap.size, p6, rfl, E', hS', hp_chg b0 g (by simp), z0, ⟨_, hp_chg b2 g (by simp)⟩, z2, nb, E.size, ne02, (by have := hp_lt b0; omega), (by have := hp_lt b2; omega)⟩
  | 17, h =>
    all_goals
      obtain ⟨p0, p2, p4, p6, rfl, E, hS, b0, z0, ⟨fr2, b2⟩, z2, b4, z4, ne02, ne04, ne24⟩ := h
      right
      refine ⟨by decide, [1, 5], by kernel_rfl, by simp, ?_⟩
      refine AllSt.cons (o := ⟨some 4, _, _, _, _, _⟩) rfl (fun K hK => ?_) (AllSt.cons (o := ⟨some 8, _, _, _, _, _⟩) rfl (fun K hK => ?_) (AllSt.nil))
      · obtain ⟨w2, kc, g, fr, nb⟩ := conv_mark (P := Tryd.prog) (t := 22) 4 4 Tryd.underlying22 Tryd.underlying5 b0
        have hS' : w2.rangeAt n1 0 (byteVals tagW) := fun j x hx => World.grownBy.cell g (hS j x hx) (by simpa using (show n1 ≠ p0 by omega))
        have E' := Chg.own (b := p0) E g z0
        go_simp
        refine hK.out _ _ ⟨hS', 27, rfl, rfl, p0, p2, p4, p6, rfl, E', hS', ⟨_, nb⟩, z0, ⟨_, hp_chg b2 g (by simpa using (Ne.symm ne02))⟩, z2, hp_chg b4 g (by simpa using (Ne.symm ne04)), z4, ne02, ne04, ne24⟩
      · obtain ⟨w2, kc, g, fr, nb⟩ := conv_mark (P := Tryd.prog) (t := 22) 12 12 Tryd.underlying22 Tryd.underlying5 b4
        have hS' : w2.rangeAt n1 0 (byteVals tagW) := fun j x hx => World.grownBy.cell g (hS j x hx) (by simpa using (show n1 ≠ p4 by omega))
        have E' := Chg.own (b := p4) E g z4
        go_simp
        refine hK.out _ _ ⟨hS', 18, rfl, rfl, p0, p2, p4, p6, rfl, E', hS', hp_chg b0 g (by simpa using ne04), z0, ⟨_, hp_chg b2 g (by simpa using ne24)⟩, z2, ⟨_, nb⟩, z4, ne02, ne04, ne24⟩
  | 18, h =>
    all_goals
      obtain ⟨p0, p2, p4, p6, rfl, E, hS, b0, z0, ⟨fr2, b2⟩, z2, ⟨fr4, b4⟩, z4, ne02, ne04, ne24⟩ := h
      right
      refine ⟨by decide, [1, 6], by kernel_rfl, by simp, ?_⟩
      refine AllSt.cons (o := ⟨some 4, _, _, _, _, _⟩) rfl (fun K hK => ?_) (AllSt.cons (o := ⟨some 9, _, _, _, _, _⟩) rfl (fun K hK => ?_) (AllSt.nil))
      · obtain ⟨w2, kc, g, fr, nb⟩ := conv_mark (P := Tryd.prog) (t := 22) 4 4 Tryd.underlying22 Tryd.underlying5 b0
        have hS' : w2.rangeAt n1 0 (byteVals tagW) := fun j x hx => World.grownBy.cell g (hS j x hx) (by simpa using (show n1 ≠ p0 by omega))
        have E' := Chg.own (b := p0) E g z0
        go_simp
        refine hK.out _ _ ⟨hS', 28, rfl, rfl, p0, p2, p4, p6, rfl, E', hS', ⟨_, nb⟩, z0, ⟨_, hp_chg b2 g (by simpa using (Ne.symm ne02))⟩, z2, ⟨_, hp_chg b4 g (by simpa using (Ne.symm ne04))⟩, z4, ne02, ne04, ne24⟩
      · have g : Chg none w (w.alloc (.cells #[Value.slice (some ⟨p2, 0, none⟩) 16 16, Value.slice (some ⟨p4, 0, none⟩) 12 12] 22)) := (Chg.refl _ _).alloc _
        have nb : (w.alloc (.cells #[Value.slice (some ⟨p2, 0, none⟩) 16 16, Value.slice (some ⟨p4, 0, none⟩) 12 12] 22)).heap[w.heap.size]? = some (.cells #[.slice (some ⟨p2, 0, none⟩) 16 16, .slice (some ⟨p4, 0, none⟩) 12 12] 22 (0, 0)) := heap_alloc_new w _
        have hS' := range_chg hS g
        have E' := E.trans g
        go_simp
        refine hK.out _ _ ⟨hS', 19, rfl, rfl, p0, p2, p4, w.heap.size, rfl, E', hS', hp_chg b0 g (by simp), z0, ⟨_, hp_chg b2 g (by simp)⟩, z2, ⟨_, hp_chg b4 g (by simp)⟩, z4, nb, E.size, ne02, ne04, (by have := hp_lt b0; omega), ne24, (by have := hp_lt b2; omega), (by have := hp_lt b4; omega)⟩
  | 19, h =>
    all_goals
      obtain ⟨p0, p2, p4, p6, rfl, E, hS, b0, z0, ⟨fr2, b2⟩, z2, ⟨fr4, b4⟩, z4, b6, z6, ne02, ne04, ne06, ne24, ne26, ne46⟩ := h
      right
      refine ⟨by decide, [1], by kernel_rfl, by simp, ?_⟩
      refine AllSt.cons (o := ⟨some 4, _, _, _, _, _⟩) rfl (fun K hK => ?_) (AllSt.nil)
      · obtain ⟨w2, kc, g, fr, nb⟩ := conv_mark (P := Tryd.prog) (t := 22) 4 4 Tryd.underlying22 Tryd.underlying5 b0
        have hS' : w2.rangeAt n1 0 (byteVals tagW) := fun j x hx => World.grownBy.cell g (hS j x hx) (by simpa using (show n1 ≠ p0 by omega))
        have E' := Chg.own (b := p0) E g z0
        go_simp
        refine hK.out _ _ ⟨hS', 29, rfl, rfl, p0, p2, p4, p6, rfl, E', hS', ⟨_, nb⟩, z0, ⟨_, hp_chg b2 g (by simpa using (Ne.symm ne02))⟩, z2, ⟨_, hp_chg b4 g (by simpa using (Ne.symm ne04))⟩, z4, hp_chg b6 g (by simpa using (Ne.symm ne06)), z6, ne02, ne04, ne06, ne24, ne26, ne46⟩
  | 20, h =>
    all_goals
      obtain ⟨p0, p2, p4, p6, rfl, E, hS, ⟨fr0, b0⟩, z0⟩ := h
      right
      refine ⟨by decide, [2, 4], by kernel_rfl, by simp, ?_⟩
      refine AllSt.cons (o := ⟨some 5, _, _, _, _, _⟩) rfl (fun K hK => ?_) (AllSt.cons (o := ⟨some 7, _, _, _, _, _⟩) rfl (fun K hK => ?_) (AllSt.nil))
      · have g : Chg none w (w.alloc (.cells #[Value.int IntKind.u8 119, Value.int IntKind.u8 104, Value.int IntKind.u8 97, Value.int IntKind.u8 116, Value.int IntKind.u8 32, Value.int IntKind.u8 100, Value.int IntKind.u8 111, Value.int IntKind.u8 32, Value.int IntKind.u8 121, Value.int IntKind.u8 97, Value.int IntKind.u8 32, Value.int IntKind.u8 119, Value.int IntKind.u8 97, Value.int IntKind.u8 110, Value.int IntKind.u8 116, Value.int IntKind.u8 32] 5)) := (Chg.refl _ _).alloc _
        have nb : (w.alloc (.cells #[Value.int IntKind.u8 119, Value.int IntKind.u8 104, Value.int IntKind.u8 97, Value.int IntKind.u8 116, Value.int IntKind.u8 32, Value.int IntKind.u8 100, Value.int IntKind.u8 111, Value.int IntKind.u8 32, Value.int IntKind.u8 121, Value.int IntKind.u8 97, Value.int IntKind.u8 32, Value.int IntKind.u8 119, Value.int IntKind.u8 97, Value.int IntKind.u8 110, Value.int IntKind.u8 116, Value.int IntKind.u8 32] 5)).heap[w.heap.size]? = some (.cells cB 5 (0, 0)) := heap_alloc_new w _
        have hS' := range_chg hS g
        have E' := E.trans g
        go_simp
        refine hK.out _ _ ⟨hS', 23, rfl, rfl, p0, w.heap.size, p4, p6, rfl, E', hS', ⟨_, hp_chg b0 g (by simp)⟩, z0, nb, E.size, (by have := hp_lt b0; omega)⟩
      · have g : Chg none w (w.alloc (.cells #[Value.int IntKind.u8 102, Value.int IntKind.u8 111, Value.int IntKind.u8 114, Value.int IntKind.u8 32, Value.int IntKind.u8 110, Value.int IntKind.u8 111, Value.int IntKind.u8 116, Value.int IntKind.u8 104, Value.int IntKind.u8 105, Value.int IntKind.u8 110, Value.int IntKind.u8 103, Value.int IntKind.u8 63] 5)) := (Chg.refl _ _).alloc _
        have nb : (w.alloc (.cells #[Value.int IntKind.u8 102, Value.int IntKind.u8 111, Value.int IntKind.u8 114, Value.int IntKind.u8 32, Value.int IntKind.u8 110, Value.int IntKind.u8 111, Value.int IntKind.u8 116, Value.int IntKind.u8 104, Value.int IntKind.u8 105, Value.int IntKind.u8 110, Value.int IntKind.u8 103, Value.int IntKind.u8 63] 5)).heap[w.heap.size]? = some (.cells cC 5 (0, 0)) := heap_alloc_new w _
        have hS' := range_chg hS g
        have E' := E.trans g
        go_simp
        refine hK.out _ _ ⟨hS', 21, rfl, rfl, p0, p2, w.heap.size, p6, rfl, E', hS', ⟨_, hp_chg b0 g (by simp)⟩, z0, nb, E.size, (by have := hp_lt b0; omega)⟩
  | 21, h =>
    all_goals
      obtain ⟨p0, p2, p4, p6, rfl, E, hS, ⟨fr0, b0⟩, z0, b4, z4, ne04⟩ := h
      right
      refine ⟨by decide, [2, 5], by kernel_rfl, by simp, ?_⟩
      refine AllSt.cons (o := ⟨some 5, _, _, _, _, _⟩) rfl (fun K hK => ?_) (AllSt.cons (o := ⟨some 8, _, _, _, _, _⟩) rfl (fun K hK => ?_) (AllSt.nil))
      · have g : Chg none w (w.alloc (.cells #[Value.int IntKind.u8 119, Value.int IntKind.u8 104, Value.int IntKind.u8 97, Value.int IntKind.u8 116, Value.int IntKind.u8 32, Value.int IntKind.u8 100, Value.int IntKind.u8 111, Value.int IntKind.u8 32, Value.int IntKind.u8 121, Value.int IntKind.u8 97, Value.int IntKind.u8 32, Value.int IntKind.u8 119, Value.int IntKind.u8 97, Value.int IntKind.u8 110, Value.int IntKind.u8 116, Value.int IntKind.u8 32] 5)) := (Chg.refl _ _).alloc _
        have nb : (w.alloc (.cells #[Value.int IntKind.u8 119, Value.int IntKind.u8 104, Value.int IntKind.u8 97, Value.int IntKind.u8 116, Value.int IntKind.u8 32, Value.int IntKind.u8 100, Value.int IntKind.u8 111, Value.int IntKind.u8 32, Value.int IntKind.u8 121, Value.int IntKind.u8 97, Value.int IntKind.u8 32, Value.int IntKind.u8 119, Value.int IntKind.u8 97, Value.int IntKind.u8 110, Value.int IntKind.u8 116, Value.int IntKind.u8 32] 5)).heap[w.heap.size]? = some (.cells cB 5 (0, 0)) := heap_alloc_new w _
        have hS' := range_chg hS g
        have E' := E.trans g
        go_simp
        refine hK.out _ _ ⟨hS', 24, rfl, rfl, p0, w.heap.size, p4, p6, rfl, E', hS', ⟨_, hp_chg b0 g (by simp)⟩, z0, nb, E.size, hp_chg b4 g (by simp), z4, (by have := hp_lt b0; omega), ne04, (by have := hp_lt b4; omega)⟩
      · obtain ⟨w2, kc, g, fr, nb⟩ := conv_mark (P := Tryd.prog) (t := 22) 12 12 Tryd.underlying22 Tryd.underlying5 b4
        have hS' : w2.rangeAt n1 0 (byteVals tagW) := fun j x hx => World.grownBy.cell g (hS j x hx) (by simpa using (show n1 ≠ p4 by omega))
        have E' := Chg.own (b := p4) E g z4
        go_simp
        refine hK.out _ _ ⟨hS', 22, rfl, rfl, p0, p2, p4, p6, rfl, E', hS', ⟨_, hp_chg b0 g (by simpa using ne04)⟩, z0, ⟨_, nb⟩, z4, ne04⟩
  | 22, h =>
    all_goals
      obtain ⟨p0, p2, p4, p6, rfl, E, hS, ⟨fr0, b0⟩, z0, ⟨fr4, b4⟩, z4, ne04⟩ := h
      right
      refine ⟨by decide, [2], by kernel_rfl, by simp, ?_⟩
      refine AllSt.cons (o := ⟨some 5, _, _, _, _, _⟩) rfl (fun K hK => ?_) (AllSt.nil)
      · have g : Chg none w (w.alloc (.cells #[Value.int IntKind.u8 119, Value.int IntKind.u8 104, Value.int IntKind.u8 97, Value.int IntKind.u8 116, Value.int IntKind.u8 32, Value.int IntKind.u8 100, Value.int IntKind.u8 111, Value.int IntKind.u8 32, Value.int IntKind.u8 121, Value.int IntKind.u8 97, Value.int IntKind.u8 32, Value.int IntKind.u8 119, Value.int IntKind.u8 97, Value.int IntKind.u8 110, Value.int IntKind.u8 116, Value.int IntKind.u8 32] 5)) := (Chg.refl _ _).alloc _
        have nb : (w.alloc (.cells #[Value.int IntKind.u8 119, Value.int IntKind.u8 104, Value.int IntKind.u8 97, Value.int IntKind.u8 116, Value.int IntKind.u8 32, Value.int IntKind.u8 100, Value.int IntKind.u8 111, Value.int IntKind.u8 32, Value.int IntKind.u8 121, Value.int IntKind.u8 97, Value.int IntKind.u8 32, Value.int IntKind.u8 119, Value.int IntKind.u8 97, Value.int IntKind.u8 110, Value.int IntKind.u8 116, Value.int IntKind.u8 32] 5)).heap[w.heap.size]? = some (.cells cB 5 (0, 0)) := heap_alloc_new w _
        have hS' := range_chg hS g
        have E' := E.trans g
        go_simp
        refine hK.out _ _ ⟨hS', 25, rfl, rfl, p0, w.heap.size, p4, p6, rfl, E', hS', ⟨_, hp_chg b0 g (by simp)⟩, z0, nb, E.size, ⟨_, hp_chg b4 g (by simp)⟩, z4, (by have := hp_lt b0; omega), ne04, (by have := hp_lt b4; omega)⟩
  | 23, h =>
    all_goals
      obtain ⟨p0, p2, p4, p6, rfl, E, hS, ⟨fr0, b0⟩, z0, b2, z2, ne02⟩ := h
      right
      refine ⟨by decide, [3, 4], by kernel_rfl, by simp, ?_⟩
      refine AllSt.cons (o := ⟨some 6, _, _, _, _, _⟩) rfl (fun K hK => ?_) (AllSt.cons (o := ⟨some 7, _, _, _, _, _⟩) rfl (fun K hK => ?_) (AllSt.nil))
      · obtain ⟨w2, kc, g, fr, nb⟩ := conv_mark (P := Tryd.prog) (t := 22) 16 16 Tryd.underlying22 Tryd.underlying5 b2
        have hS' : w2.rangeAt n1 0 (byteVals tagW) := fun j x hx => World.grownBy.cell g (hS j x hx) (by simpa using (show n1 ≠ p2 by omega))
        have E' := Chg.own (b := p2) E g z2
        go_simp
        refine hK.out _ _ ⟨hS', 26, rfl, rfl, p0, p2, p4, p6, rfl, E', hS', ⟨_, hp_chg b0 g (by simpa using ne02)⟩, z0, ⟨_, nb⟩, z2, ne02⟩
      · have g : Chg none w (w.alloc (.cells #[Value.int IntKind.u8 102, Value.int IntKind.u8 111, Value.int IntKind.u8 114, Value.int IntKind.u8 32, Value.int IntKind.u8 110, Value.int IntKind.u8 111, Value.int IntKind.u8 116, Value.int IntKind.u8 104, Value.int IntKind.u8 105, Value.int IntKind.u8 110, Value.int IntKind.u8 103, Value.int IntKind.u8 63] 5)) := (Chg.refl _ _).alloc _
        have nb : (w.alloc (.cells #[Value.int IntKind.u8 102, Value.int IntKind.u8 111, Value.int IntKind.u8 114, Value.int IntKind.u8 32, Value.int IntKind.u8 110, Value.int IntKind.u8 111, Value.int IntKind.u8 116, Value.int IntKind.u8 104, Value.int IntKind.u8 105, Value.int IntKind.u8 110, Value.int IntKind.u8 103, Value.int IntKind.u8 63] 5)).heap[w.heap.size]? = some (.cells cC 5 (0, 0)) := heap_alloc_new w _
        have hS' := range_chg hS g
        have E' := E.trans g
        go_simp
        refine hK.out _ _ ⟨hS', 24, rfl, rfl, p0, p2, w.heap.size, p6, rfl, E', hS', ⟨_, hp_chg b0 g (by simp)⟩, z0, hp_chg b2 g (by simp), z2, nb, E.size, ne02, (by have := hp_lt b0; omega), (by have := hp_lt b2; omega)⟩
  | 24, h =>
    all_goals
      obtain ⟨p0, p2, p4, p6, rfl, E, hS, ⟨fr0, b0⟩, z0, b2, z2, b4, z4, ne02, ne04, ne24⟩ := h
      right
      refine ⟨by decide, [3, 5], by kernel_rfl, by simp, ?_⟩
      refine AllSt.cons (o := ⟨some 6, _, _, _, _, _⟩) rfl (fun K hK => ?_) (AllSt.cons (o := ⟨some 8, _, _, _, _, _⟩) rfl (fun K hK => ?_) (AllSt.nil))
      · obtain ⟨w2, kc, g, fr, nb⟩ := conv_mark (P := Tryd.prog) (t := 22) 16 16 Tryd.underlying22 Tryd.underlying5 b2
        have hS' : w2.rangeAt n1 0 (byteVals tagW) := fun j x hx => World.grownBy.cell g (hS j x hx) (by simpa using (show n1 ≠ p2 by omega))
        have E' := Chg.own (b := p2) E g z2
        go_simp
        refine hK.out _ _ ⟨hS', 27, rfl, rfl, p0, p2, p4, p6, rfl, E', hS', ⟨_, hp_chg b0 g (by simpa using ne02)⟩, z0, ⟨_, nb⟩, z2, hp_chg b4 g (by simpa using (Ne.symm ne24)), z4, ne02, ne04, ne24⟩
      · obtain ⟨w2, kc, g, fr, nb⟩ := conv_mark (P := Tryd.prog) (t := 22) 12 12 Tryd.underlying22 Tryd.underlying5 b4
        have hS' : w2.rangeAt n1 0 (byteVals tagW) := fun j x hx => World.grownBy.cell g (hS j x hx) (by simpa using (show n1 ≠ p4 by omega))
        have E' := Chg.own (b := p4) E g z4
        go_simp
        refine hK.out _ _ ⟨hS', 25, rfl, rfl, p0, p2, p4, p6, rfl, E', hS', ⟨_, hp_chg b0 g (by simpa using ne04)⟩, z0, hp_chg b2 g (by simpa using ne24), z2, ⟨_, nb⟩, z4, ne02, ne04, ne24⟩
  | 25, h =>
    all_goals
      obtain ⟨p0, p2, p4, p6, rfl, E, hS, ⟨fr0, b0⟩, z0, b2, z2, ⟨fr4, b4⟩, z4, ne02, ne04, ne24⟩ := h
      right
      refine ⟨by decide, [3], by kernel_rfl, by simp, ?_⟩
      refine AllSt.cons (o := ⟨some 6, _, _, _, _, _⟩) rfl (fun K hK => ?_) (AllSt.nil)
      · obtain ⟨w2, kc, g, fr, nb⟩ := conv_mark (P := Tryd.prog) (t := 22) 16 16 Tryd.underlying22 Tryd.underlying5 b2
        have hS' : w2.rangeAt n1 0 (byteVals tagW) := fun j x hx => World.grownBy.cell g (hS j x hx) (by simpa using (show n1 ≠ p2 by omega))
        have E' := Chg.own (b := p2) E g z2
        go_simp
        refine hK.out _ _ ⟨hS', 28, rfl, rfl, p0, p2, p4, p6, rfl, E', hS', ⟨_, hp_chg b0 g (by simpa using ne02)⟩, z0, ⟨_, nb⟩, z2, ⟨_, hp_chg b4 g (by simpa using (Ne.symm ne24))⟩, z4, ne02, ne04, ne24⟩
  | 26, h =>
    all_goals
      obtain ⟨p0, p2, p4, p6, rfl, E, hS, ⟨fr0, b0⟩, z0, ⟨fr2, b2⟩, z2, ne02⟩ := h
      right
      refine ⟨by decide, [4], by kernel_rfl, by simp, ?_⟩
      refine AllSt.cons (o := ⟨some 7, _, _, _, _, _⟩) rfl (fun K hK => ?_) (AllSt.nil)
      · have g : Chg none w (w.alloc (.cells #[Value.int IntKind.u8 102, Value.int IntKind.u8 111, Value.int IntKind.u8 114, Value.int IntKind.u8 32, Value.int IntKind.u8 110, Value.int IntKind.u8 111, Value.int IntKind.u8 116, Value.int IntKind.u8 104, Value.int IntKind.u8 105, Value.int IntKind.u8 110, Value.int IntKind.u8 103, Value.int IntKind.u8 63] 5)) := (Chg.refl _ _).alloc _
        have nb : (w.alloc (.cells #[Value.int IntKind.u8 102, Value.int IntKind.u8 111, Value.int IntKind.u8 114, Value.int IntKind.u8 32, Value.int IntKind.u8 110, Value.int IntKind.u8 111, Value.int IntKind.u8 116, Value.int IntKind.u8 104, Value.int IntKind.u8 105, Value.int IntKind.u8 110, Value.int IntKind.u8 103, Value.int IntKind.u8 63] 5)).heap[w.heap.size]? = some (.cells cC 5 (0, 0)) := heap_alloc_new w _
        have hS' := range_chg hS g
        have E' := E.trans g
        go_simp
        refine hK.out _ _ ⟨hS', 27, rfl, rfl, p0, p2, w.heap.size, p6, rfl, E', hS', ⟨_, hp_chg b0 g (by simp)⟩, z0, ⟨_, hp_chg b2 g (by simp)⟩, z2, nb, E.size, ne02, (by have := hp_lt b0; omega), (by have := hp_lt b2; omega)⟩
  | 27, h =>
    all_goals
      obtain ⟨p0, p2, p4, p6, rfl, E, hS, ⟨fr0, b0⟩, z0, ⟨fr2, b2⟩, z2, b4, z4, ne02, ne04, ne24⟩ := h
      right
      refine ⟨by decide, [5], by kernel_rfl, by simp, ?_⟩
      refine AllSt.cons (o := ⟨some 8, _, _, _, _, _⟩) rfl (fun K hK => ?_) (AllSt.nil)
      · obtain ⟨w2, kc, g, fr, nb⟩ := conv_mark (P := Tryd.prog) (t := 22) 12 12 Tryd.underlying22 Tryd.underlying5 b4
        have hS' : w2.rangeAt n1 0 (byteVals tagW) := fun j x hx => World.grownBy.cell g (hS j x hx) (by simpa using (show n1 ≠ p4 by omega))
        have E' := Chg.own (b := p4) E g z4
        go_simp
        refine hK.out _ _ ⟨hS', 28, rfl, rfl, p0, p2, p4, p6, rfl, E', hS', ⟨_, hp_chg b0 g (by simpa using ne04)⟩, z0, ⟨_, hp_chg b2 g (by simpa using ne24)⟩, z2, ⟨_, nb⟩, z4, ne02, ne04, ne24⟩
  | 28, h =>
    all_goals
      obtain ⟨p0, p2, p4, p6, rfl, E, hS, ⟨fr0, b0⟩, z0, ⟨fr2, b2⟩, z2, ⟨fr4, b4⟩, z4, ne02, ne04, ne24⟩ := h
      right
      refine ⟨by decide, [6], by kernel_rfl, by simp, ?_⟩
      refine AllSt.cons (o := ⟨some 9, _, _, _, _, _⟩) rfl (fun K hK => ?_) (AllSt.nil)
      · have g : Chg none w (w.alloc (.cells #[Value.slice (some ⟨p2, 0, none⟩) 16 16, Value.slice (some ⟨p4, 0, none⟩) 12 12] 22)) := (Chg.refl _ _).alloc _
        have nb : (w.alloc (.cells #[Value.slice (some ⟨p2, 0, none⟩) 16 16, Value.slice (some ⟨p4, 0, none⟩) 12 12] 22)).heap[w.heap.size]? = some (.cells #[.slice (some ⟨p2, 0, none⟩) 16 16, .slice (some ⟨p4, 0, none⟩) 12 12] 22 (0, 0)) := heap_alloc_new w _
        have hS' := range_chg hS g
        have E' := E.trans g
        go_simp
        refine hK.out _ _ ⟨hS', 29, rfl, rfl, p0, p2, p4, w.heap.size, rfl, E', hS', ⟨_, hp_chg b0 g (by simp)⟩, z0, ⟨_, hp_chg b2 g (by simp)⟩, z2, ⟨_, hp_chg b4 g (by simp)⟩, z4, nb, E.size, ne02, ne04, (by have := hp_lt b0; omega), ne24, (by have := hp_lt b2; omega), (by have := hp_lt b4; omega)⟩
  | 29, h =>
    all_goals
      obtain ⟨p0, p2, p4, p6, rfl, E, hS, ⟨fr0, b0⟩, z0, ⟨fr2, b2⟩, z2, ⟨fr4, b4⟩, z4, b6, z6, ne02, ne04, ne06, ne24, ne26, ne46⟩ := h
      left
      intro fuel hm
      obtain ⟨f3, rfl⟩ : ∃ f3, fuel = f3 + 3 := ⟨fuel - 3, by change 3 ≤ fuel at hm; omega⟩
      refine wpAnyH_ready (rs := [7]) (by kernel_rfl) (by simp) ?_
      refine AllReadyH.cons (o := ⟨some 10, _, _, _, _, _⟩) rfl (fun K hK => ?_) AllReadyH.nil
      go_simp
      go_at_call 21
      refine (HTG.out w p0 p2 p4 p6 E b0 b2 b4 b6).mono ?_
      rintro e w5 ⟨rfl, g5⟩
      have hS5 := range_chg hS g5
      go_wp2_with fail
      refine hK.out _ _ hS5 (fun _ => ?_)
      clear hK K
      try simp only [Act.put, List.setIfInBounds_toArray, List.set_cons_zero, List.set_cons_succ]
      refine wpAnyH_take (i := 9) (oi := ⟨some 12, _, _, _, _, _⟩) (v := ?_) rfl (by kernel_rfl) (by kernel_rfl) (by kernel_rfl) (fun _ _ _ h => h) (Or.inl ⟨by rfl, ?_⟩) (by assumption) ?_
      rotate_left
      · intro w hSw; (try dsimp only at hSw); go_simp; (try with_reducible rfl)
      try simp only [Act.put, List.setIfInBounds_toArray, List.set_cons_zero, List.set_cons_succ]
      refine wpAnyH_take (i := 10) (oi := ⟨some 0, _, _, _, _, _⟩) (v := ?_) rfl (by kernel_rfl) (by kernel_rfl) (by kernel_rfl) (fun _ _ _ h => h) (Or.inl ⟨by rfl, ?_⟩) (by assumption) ?_
      rotate_left
      · intro w hSw; (try dsimp only at hSw); go_simp; (try with_reducible rfl)
      try simp only [Act.put, List.setIfInBounds_toArray, List.set_cons_zero]
      refine wpAnyH_done (by kernel_rfl) ?_ _
      go_wp2_with fail
      go_ret
      exact ⟨rfl, gw.trans (E.trans g5)⟩
  | _ + 30, h => exact h.elim

end Go.Proofs.YtdkgecphkppglaaDoor
