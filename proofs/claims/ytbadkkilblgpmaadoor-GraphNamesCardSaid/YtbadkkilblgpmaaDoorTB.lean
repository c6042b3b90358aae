/-
  Rows of bytes, carried over from the other seat.
-/
import Derived.Test.YtbadkkilblgpmaaDoorW
import Derived.Test.YtbadkkilblgpmaaDoorK
import Derived.Test.YtbadkkilblgpmaaDoorR
import Derived.Laws.IdiomStrings
import Derived.Laws.BytesArg
import Derived.Laws.Cover3
namespace Go.Proofs.YtbadkkilblgpmaaDoor
open Go.RowKit

def byteVals (bs : List UInt8) : List Value := bs.map fun x => .int .u8 x.toNat
theorem byteVals_len (bs : List UInt8) : (byteVals bs).length = bs.length := by simp [byteVals]
theorem byteVals_append (a b : List UInt8) : byteVals a ++ byteVals b = byteVals (a ++ b) := by simp [byteVals]
theorem byteVals_one (bs : List UInt8) : ∀ v ∈ byteVals bs, v.oneCell' = true := by
  intro v hv
  simp only [byteVals, List.mem_map] at hv
  obtain ⟨x, _, rfl⟩ := hv
  rfl
theorem byteVals_get {bs : List UInt8} {k : Nat} {c : UInt8} (h : bs[k]? = some c) : (byteVals bs)[k]? = some (.int .u8 c.toNat) := by
  simp [byteVals, h]
theorem Tryd.info5 : (Tryd.prog.info? 5).map (fun i => (i.zero, i.size, i.bytes)) = some (some (.int .u8 0), 1, 1) := by kernel_rfl
/-- The value of a row of so many: a slice of that length. -/
theorem own_slice {w : World} {b : Nat} {e : TypeId} {size : Nat} {v : Value} {n : Nat} {xs : List Value} (h : w.ownsRow b e size v n xs) : ∃ A c, v = .slice A n c := by
  rcases h.2 with ⟨h1, h2⟩ | ⟨g, cap, cur, h1, _⟩
  · exact ⟨none, 0, by rw [h1, h2]⟩
  · exact ⟨_, cap, h1⟩
theorem reads_one (w : World) (x : UInt8) : Reads (w.alloc (.cells #[.int .u8 x.toNat] 5 (0, 0))) (w.alloc (.cells #[.int .u8 x.toNat] 5 (0, 0))).heap.size 1 (some ⟨w.heap.size, 0, none⟩) 1 (byteVals [x]) :=
  ⟨rfl, fun _ => ⟨_, rfl, by simp, fun j u hu => by
    match j, hu with
    | 0, hu =>
      simp only [byteVals, List.map_cons, List.map_nil, List.getElem?_cons_zero, Option.some.injEq] at hu
      subst hu
      rw [Go.WideShapes.add_plain, Nat.zero_add, (Blk.new w _ 5).cell]; rfl⟩⟩
theorem own_chg {u w w' : World} {c : Option Nat} {base : Nat} {e : TypeId} {size : Nat} {v : Value} {n : Nat} {xs : List Value} (h : Chg c u w) (hown : w.ownsRow base e size v n xs) (hb : u.heap.size ≤ base) (g : w.grownBy w' v.ownBlock) : Chg c u w' := by
  cases hv : v.ownBlock with
  | none => rw [hv] at g; exact h.trans (Chg.weaken g)
  | some k => rw [hv] at g; exact Chg.own (b := k) h g (Nat.le_trans hb (hown.lt k hv).1)
/-- The bytes bs, as a slice of so many. -/
def Txt (w : World) (A : Option Addr) (bs : List UInt8) : Prop :=
  0 < bs.length → ∃ sb so, A = some ⟨sb, so, none⟩ ∧ sb < w.heap.size ∧ ∀ j c, bs[j]? = some c → w.cell? ⟨sb, so + j, none⟩ = some (.int .u8 c.toNat)
theorem Txt.chg {w w' : World} {A : Option Addr} {bs : List UInt8} (h : Txt w A bs) (g : Chg none w w') : Txt w' A bs := fun h0 => by
  obtain ⟨sb, so, e, hlt, hc⟩ := h h0
  exact ⟨sb, so, e, Nat.lt_of_lt_of_le hlt g.size, fun j c hj => World.grownBy.cell g (hc j c hj) (by simp)⟩
/-- A part: a slice of bytes. -/
structure Prt where
  A : Option Addr
  x : List UInt8
  c : Nat
def Prt.val (p : Prt) : Value := .slice p.A p.x.length p.c
def Prt.ok (w : World) (p : Prt) : Prop := Txt w p.A p.x ∧ p.x.length ≤ p.c
/-- Parts, as a slice of slices. -/
structure PartsAt (w : World) (A : Option Addr) (L : List Prt) : Prop where
  at_ : 0 < L.length → ∃ b off, A = some ⟨b, off, none⟩ ∧ b < w.heap.size ∧ ∀ i p, L[i]? = some p → w.cell? ⟨b, off + i, none⟩ = some p.val
  all : ∀ p ∈ L, p.ok w
theorem PartsAt.chg {w w' : World} {A : Option Addr} {L : List Prt} (h : PartsAt w A L) (g : Chg none w w') : PartsAt w' A L :=
  ⟨fun h0 => by
    obtain ⟨b, off, e, hlt, hc⟩ := h.at_ h0
    exact ⟨b, off, e, Nat.lt_of_lt_of_le hlt g.size, fun i p hp => World.grownBy.cell g (hc i p hp) (by simp)⟩,
   fun p hp => ⟨(h.all p hp).1.chg g, (h.all p hp).2⟩⟩
theorem txt_reads {w : World} {A : Option Addr} {x : List UInt8} (h : Txt w A x) : Reads w w.heap.size 1 A x.length (byteVals x) :=
  ⟨by rw [byteVals_len, Nat.mul_one], fun h0 => by
    obtain ⟨sb, so, e, hlt, hc⟩ := h h0
    refine ⟨_, e, hlt, fun j u hu => ?_⟩
    rw [Go.WideShapes.add_plain]
    unfold byteVals at hu
    rw [List.getElem?_map, Option.map_eq_some_iff] at hu
    obtain ⟨c, h1, rfl⟩ := hu
    exact hc j c h1⟩
theorem Txt.cut {w : World} {A : Option Addr} {bs : List UInt8} (h : Txt w A bs) {k cap : Nat} (hc : bs.length ≤ cap) : Txt w (if cap = k then A else A.map (·.add k)) (bs.drop k) := fun h0 => by
  rw [List.length_drop] at h0
  obtain ⟨sb, so, rfl, hlt, hcell⟩ := h (by omega)
  rw [if_neg (by omega)]
  refine ⟨sb, so + k, by rw [Option.map_some, Go.WideShapes.add_plain], hlt, fun j c hj => ?_⟩
  rw [List.getElem?_drop] at hj
  have := hcell _ _ hj
  rwa [← Nat.add_assoc] at this
theorem Txt.first {w : World} {A : Option Addr} {bs : List UInt8} (h : Txt w A bs) (k : Nat) : Txt w A (bs.take k) := fun h0 => by
  rw [List.length_take] at h0
  obtain ⟨sb, so, e, hlt, hcell⟩ := h (by omega)
  refine ⟨sb, so, e, hlt, fun j c hj => hcell j c ?_⟩
  rw [List.getElem?_take] at hj
  split at hj
  · exact hj
  · cases hj
theorem own_txt {w : World} {base n c : Nat} {A : Option Addr} {bs : List UInt8} (h : w.ownsRow base 5 1 (.slice A n c) n (byteVals bs)) : Txt w A bs ∧ n = bs.length ∧ n ≤ c := by
  have hl := h.1
  rw [byteVals_len, Nat.mul_one] at hl
  rcases h.2 with ⟨h1, h2⟩ | ⟨g, cap, cur, h1, h2, h3, h4, h5, h6, h7⟩
  · exact ⟨fun h0 => by omega, hl.symm, by omega⟩
  · injection h1 with e1 e2 e3
    refine ⟨fun _ => ⟨g, 0, e1, (Array.getElem?_eq_some_iff.1 h3).1, fun j x hj => ?_⟩, hl.symm, by omega⟩
    have := h.cells (g := g) (by rw [e1]; rfl) j _ (byteVals_get hj)
    rwa [Go.WideShapes.add_plain] at this
theorem cut_lo_hi (A : Option Addr) (len cap lo hi : Nat) (h1 : lo ≤ hi) (h2 : hi ≤ cap) (w : World) :
    (Instr.sliceAt 22 (.slice A len cap) (some (.int .i64 lo)) (some (.int .i64 hi)) none).run Tryd.prog w = .ok (.slice (if cap = lo then A else A.map (·.add lo)) (hi - lo) (cap - lo)) w := by
  have u22 := Tryd.underlying22
  have z5 := Tryd.sizeOf5
  have h3 : (lo : Int) ≤ hi := by omega
  have h4 : (hi : Int) ≤ cap := by omega
  have h5 : (lo : Int) ≤ cap := by omega
  go_simp
theorem cut_lo (A : Option Addr) (len cap lo : Nat) (h1 : lo ≤ len) (h2 : len ≤ cap) (w : World) :
    (Instr.sliceAt 22 (.slice A len cap) (some (.int .i64 lo)) none none).run Tryd.prog w = .ok (.slice (if cap = lo then A else A.map (·.add lo)) (len - lo) (cap - lo)) w := by
  have u22 := Tryd.underlying22
  have z5 := Tryd.sizeOf5
  have h3 : (lo : Int) ≤ len := by omega
  have h4 : (len : Int) ≤ cap := by omega
  have h5 : (lo : Int) ≤ cap := by omega
  go_simp
theorem Prt.ok.chg {w w' : World} {p : Prt} (h : p.ok w) (g : Chg none w w') : p.ok w' := ⟨h.1.chg g, h.2⟩
theorem conv_reads (w : World) {A : Option Addr} {n c B : Nat} {bs : List UInt8} (h : Reads w B 1 A n (byteVals bs)) :
    (convert 22 9 (.slice A n c)).run Tryd.prog w = .ok (.string ⟨bs.toArray⟩) w := by
  obtain rfl : n = bs.length := by have := h.1; rw [byteVals_len] at this; omega
  rcases Nat.eq_zero_or_pos bs.length with h0 | h0
  · have : bs = [] := List.eq_nil_of_length_eq_zero h0
    subst this
    rcases A with _ | ad
    · exact run_convert_bytes_nil (P := Tryd.prog) w 22 5 Tryd.underlying22 Tryd.underlying5 _ _ 9 Tryd.underlying9
    · exact run_convert_bytes_back w 22 9 5 ad c [] Tryd.underlying22 Tryd.underlying5 Tryd.underlying9 (fun j hj => by simp at hj)
  · obtain ⟨ad, rfl, hb, hc⟩ := h.2 h0
    refine run_convert_bytes_back w 22 9 5 ad c bs Tryd.underlying22 Tryd.underlying5 Tryd.underlying9 (fun j hj => ?_)
    refine hc j _ ?_
    simp [byteVals, List.getElem?_eq_getElem hj]

end Go.Proofs.YtbadkkilblgpmaaDoor
