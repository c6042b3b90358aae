/-
  Slices of bytes, cut; two parts as a slice.
-/
import Derived.Test.YtglfakglcoffkaaDoorE3
import Derived.Test.YtglfakglcoffkaaDoorR
namespace Go.Proofs.YtglfakglcoffkaaDoor
open Go.RowKit

theorem txt_reads {w : World} {A : Option Addr} {x : List UInt8} (h : Txt w A x) : Reads w w.heap.size 1 A x.length (byteVals x) :=
  ⟨by rw [byteVals_len, Nat.mul_one], fun h0 => by
    obtain ⟨sb, so, e, hlt, hc⟩ := h h0
    refine ⟨_, e, hlt, fun j u hu => ?_⟩
    rw [Go.WideShapes.add_plain]
    unfold byteVals at hu
    rw [List.getElem?_map, Option.map_eq_some_iff] at hu
    obtain ⟨c, h1, rfl⟩ := hu
    exact hc j c h1⟩

theorem Txt.cut {w : World} {A : Option Addr} {bs : List UInt8} (h : Txt w A bs) {k cap : Nat} (hc : bs.length ≤ cap) : Txt w (if cap = k then A else A.map (·.add k)) (bs.drop k) := fun h0 => by
  rw [List.length_drop] at h0
  obtain ⟨sb, so, rfl, hlt, hcell⟩ := h (by omega)
  rw [if_neg (by omega)]
  refine ⟨sb, so + k, by rw [Option.map_some, Go.WideShapes.add_plain], hlt, fun j c hj => ?_⟩
  rw [List.getElem?_drop] at hj
  have := hcell _ _ hj
  rwa [← Nat.add_assoc] at this
theorem Txt.first {w : World} {A : Option Addr} {bs : List UInt8} (h : Txt w A bs) (k : Nat) : Txt w A (bs.take k) := fun h0 => by
  rw [List.length_take] at h0
  obtain ⟨sb, so, e, hlt, hcell⟩ := h (by omega)
  refine ⟨sb, so, e, hlt, fun j c hj => hcell j c ?_⟩
  rw [List.getElem?_take] at hj
  split at hj
  · exact hj
  · cases hj
theorem own_txt {w : World} {base n c : Nat} {A : Option Addr} {bs : List UInt8} (h : w.ownsRow base 5 1 (.slice A n c) n (byteVals bs)) : Txt w A bs ∧ n = bs.length ∧ n ≤ c := by
  have hl := h.1
  rw [byteVals_len, Nat.mul_one] at hl
  rcases h.2 with ⟨h1, h2⟩ | ⟨g, cap, cur, h1, h2, h3, h4, h5, h6, h7⟩
  · exact ⟨fun h0 => by omega, hl.symm, by omega⟩
  · injection h1 with e1 e2 e3
    refine ⟨fun _ => ⟨g, 0, e1, (Array.getElem?_eq_some_iff.1 h3).1, fun j x hj => ?_⟩, hl.symm, by omega⟩
    have := h.cells (g := g) (by rw [e1]; rfl) j _ (byteVals_get hj)
    rwa [Go.WideShapes.add_plain] at this

theorem cut_lo_hi (A : Option Addr) (len cap lo hi : Nat) (h1 : lo ≤ hi) (h2 : hi ≤ cap) (w : World) :
    (Instr.sliceAt 22 (.slice A len cap) (some (.int .i64 lo)) (some (.int .i64 hi)) none).run Tryd.prog w = .ok (.slice (if cap = lo then A else A.map (·.add lo)) (hi - lo) (cap - lo)) w := by
  have u22 := Tryd.underlying22
  have z5 := Tryd.sizeOf5
  have h3 : (lo : Int) ≤ hi := by omega
  have h4 : (hi : Int) ≤ cap := by omega
  have h5 : (lo : Int) ≤ cap := by omega
  go_simp
theorem cut_lo (A : Option Addr) (len cap lo : Nat) (h1 : lo ≤ len) (h2 : len ≤ cap) (w : World) :
    (Instr.sliceAt 22 (.slice A len cap) (some (.int .i64 lo)) none none).run Tryd.prog w = .ok (.slice (if cap = lo then A else A.map (·.add lo)) (len - lo) (cap - lo)) w := by
  have u22 := Tryd.underlying22
  have z5 := Tryd.sizeOf5
  have h3 : (lo : Int) ≤ len := by omega
  have h4 : (len : Int) ≤ cap := by omega
  have h5 : (lo : Int) ≤ cap := by omega
  go_simp

theorem Prt.ok.chg {w w' : World} {p : Prt} (h : p.ok w) (g : Chg none w w') : p.ok w' := ⟨h.1.chg g, h.2⟩

/-- What a slice of a slice of bytes is. -/
def cutPrt (A : Option Addr) (m : List UInt8) (c lo hi : Nat) : Prt := ⟨if c = lo then A else A.map (·.add lo), (m.drop lo).take (hi - lo), c - lo⟩
theorem cutPrt_ok {w : World} {A : Option Addr} {m : List UInt8} {c : Nat} (h : Txt w A m) (hc : m.length ≤ c) (lo hi : Nat) (hhi : hi ≤ m.length) : (cutPrt A m c lo hi).ok w :=
  ⟨(h.cut hc).first _, by show ((m.drop lo).take (hi - lo)).length ≤ c - lo; rw [List.length_take, List.length_drop]; omega⟩
theorem cutPrt_len (A : Option Addr) (m : List UInt8) (c lo hi : Nat) (h1 : lo ≤ hi) (hhi : hi ≤ m.length) : (cutPrt A m c lo hi).x.length = hi - lo := by
  show ((m.drop lo).take (hi - lo)).length = _
  rw [List.length_take, List.length_drop]; omega

end Go.Proofs.YtglfakglcoffkaaDoor
