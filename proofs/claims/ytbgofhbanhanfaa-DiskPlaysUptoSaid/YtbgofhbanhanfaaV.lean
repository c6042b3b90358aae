/-
  Calls as they come in: opened.
-/
import Derived.Test.YtbgofhbanhanfaaE
namespace Go.Proofs.Ytbgofhbanhanfaa
open Go.ChangeShapes Go.WideShapes Go.ChangeAt Go.RowKit
open Go.WideMaps Go.WideElems

theorem Try.own : ownKnob Try.prog.godebug = none := by kernel_rfl
theorem Try.laidOut : laidOutB Try.prog = true := by kernel_rfl

def I64 (n : Int) : Prop := -9223372036854775808 ≤ n ∧ n ≤ 9223372036854775807

def u8Cells (x : UInt8) : List Value := [.int .u8 x.toNat]
theorem u8Cells_flat (L : List UInt8) : L.flatMap u8Cells = byteVals L := by
  induction L with
  | nil => rfl
  | cons x L ih => rw [List.flatMap_cons, ih]; rfl

section
variable {H : Type} {enc : TypeId × Value → H} {w : World} {base : Nat} {spare : Nat → Bool} {held : Bool}

theorem wf_i64 {b : Int} (h : (Lit.int .i64 b).wf = true) : I64 b := by
  simpa [Lit.wf, IntKind.min, IntKind.max, IntKind.signed, IntKind.bits, I64] using h
theorem wf_u8 {b : Int} (h : (Lit.int .u8 b).wf = true) : 0 ≤ b ∧ b ≤ 255 := by
  simpa [Lit.wf, IntKind.min, IntKind.max, IntKind.signed, IntKind.bits] using h

theorem open_u8 (n : Nat) (cs : List Value) (x) (h : DataW.trod enc Try.prog w base spare held n 5 cs = some x) : ∃ a : UInt8, True ∧ cs = u8Cells a := by
  obtain ⟨a, h1, _, hw⟩ := DataW.trod_int Try.underlying5 h
  have hr := wf_u8 hw
  refine ⟨UInt8.ofNat a.toNat, trivial, ?_⟩
  rw [h1]
  unfold u8Cells
  have : ((UInt8.ofNat a.toNat).toNat : Int) = a := by
    rw [UInt8.toNat_ofNat']
    omega
  rw [this]

end

section
variable {H : Type} {enc : TypeId × Value → H} {P : Program} {w : World} {base : Nat} {spare : Nat → Bool} {held : Bool}

/-- A slice of plain elements, wherever it lies. -/
theorem trod_rows {α : Type} [Inhabited α] (cells : α → List Value) (ok : α → Prop) {t e : TypeId} {k : Nat} {fuel : Nat} {vs : List Value} {x : DataW H × List MemPlace}
    (ht : P.underlying t = some (.slice e)) (hk : P.cellsOf e = k) (hk0 : 0 < k)
    (he : ∀ (n : Nat) (cs : List Value) x, DataW.trod enc P w base spare held n e cs = some x → ∃ a, ok a ∧ cs = cells a)
    (hf : DataW.trod enc P w base spare held fuel t vs = some x) :
    ∃ (A : Option Addr) (L : List α) (c : Nat), vs = [.slice A L.length c] ∧ L.length ≤ c ∧ c ≤ maxLen ∧ (∀ a ∈ L, ok a) ∧ RowsAt w k A cells L := by
  rcases Go.Deep.open_slice ht hf with ⟨rfl, _⟩ | ⟨a, len, cap, m, n, D, Pl, rfl, _, hl, hm, hmm, _, hx⟩
  · exact ⟨none, [], 0, rfl, by simp, by simp [maxLen], by simp, fun h => absurd rfl h⟩
  · have hml : len ≤ m := by rw [hmm]; split <;> omega
    obtain ⟨F, hF⟩ := Go.Deep.choose_lt (α := α) (n := len) (p := fun i x => ok x ∧ ∀ j, j < k → w.cell? (a.add (i * k + j)) = (cells x)[j]?) (fun i hi => by
      obtain ⟨cs', h1, h2⟩ := hx i (by omega)
      obtain ⟨y, hy, hcs⟩ := he n cs' _ h2
      subst hcs
      obtain ⟨_, hcl, hat⟩ := World.cells?_some h1
      rw [hk] at hat
      exact ⟨y, hy, fun j hj => by rw [← Go.Deep.add_add]; exact hat j hj⟩)
    have hlen : ((List.range len).map F).length = len := by simp
    refine ⟨some a, (List.range len).map F, cap, by rw [hlen], by rw [hlen]; exact hl, hm, ?_, ?_⟩
    · intro x hx
      obtain ⟨i, hi, rfl⟩ := List.mem_map.1 hx
      exact (hF i (by simpa using hi)).1
    · intro hne
      have h0 : 0 < len := by
        rcases Nat.eq_zero_or_pos len with h | h
        · subst h; simp at hne
        · exact h
      obtain ⟨cs', h1, h2⟩ := hx 0 (by omega)
      obtain ⟨_, hcl, hat⟩ := World.cells?_some h1
      rw [hk] at hat hcl
      have hc0 := hat 0 hk0
      rw [List.getElem?_eq_getElem (by omega)] at hc0
      obtain ⟨b, off, spot⟩ := a
      have hspot : spot = none := by
        have := World.cell?_spot hc0
        simpa [Addr.add] using this
      subst hspot
      rw [Go.WideShapes.add_plain, Go.WideShapes.add_plain] at hc0
      refine ⟨b, off, rfl, World.block_lt_of_cell? w _ hc0, fun i x hi j hj => ?_⟩
      have hi' : i < len := by
        have := (List.getElem?_eq_some_iff.1 hi).1
        rwa [hlen] at this
      rw [List.getElem?_map, List.getElem?_range hi'] at hi
      obtain rfl : F i = x := by simpa using hi
      rw [← (hF i hi').2 j hj, Go.WideShapes.add_plain]
end

/-- A call, as the laws of layer 10 have it. -/
structure Opn where
  kind : Int
  f : Int
  A : Option Addr
  bs : List UInt8
  c : Nat
  k0 : Int
  k1 : Int
instance : Inhabited Opn := ⟨⟨0, 0, none, [], 0, 0, 0⟩⟩
def Opn.cells (o : Opn) : List Value := [.int .i64 o.kind, .int .i64 o.f, .slice o.A o.bs.length o.c, .int .i64 o.k0, .int .i64 o.k1]
structure Opn.okIn (w : World) (o : Opn) : Prop where
  reads : Reads w w.heap.size 1 o.A o.bs.length (byteVals o.bs)
  cap : o.bs.length ≤ o.c
  top : o.c ≤ maxLen

section
variable {H : Type} {enc : TypeId × Value → H} {w : World} {base : Nat} {spare : Nat → Bool} {held : Bool}

theorem one_of_take {cs : List Value} {v : Value} {i : Nat} (h : (cs.drop i).take 1 = [v]) : cs[i]? = some v := by
  have h2 : ((cs.drop i).take 1)[0]? = some v := by rw [h]; rfl
  rw [List.getElem?_take_of_lt (by omega), List.getElem?_drop] at h2
  simpa using h2

set_option maxRecDepth 100000 in
theorem open_opn (n : Nat) (cs : List Value) (x) (h : DataW.trod enc Try.prog w base spare held n 33 cs = some x) : ∃ o : Opn, o.okIn w ∧ cs = o.cells := by
  obtain ⟨xs, m, _, _, hlen, hxl, hf⟩ := DataW.trod_struct Try.underlying33 h
  have h33 : Try.prog.cellsOf 33 = 5 := by kernel_rfl
  have h3 : Try.prog.cellsOf 3 = 1 := by kernel_rfl
  have h5 : Try.prog.cellsOf 5 = 1 := by kernel_rfl
  have h26 : Try.prog.cellsOf 26 = 1 := by kernel_rfl
  have h28 : Try.prog.cellsOf 28 = 2 := by kernel_rfl
  rw [h33] at hlen
  have hxl : xs.length = 4 := hxl
  have e0 := hf 0 _ rfl
  have e1 := hf 1 _ rfl
  have e2 := hf 2 _ rfl
  have e3 := hf 3 _ rfl
  rw [List.getElem?_eq_getElem (by omega)] at e0 e1 e2 e3
  change DataW.trod enc Try.prog w base spare held m 3 ((cs.drop 0).take (Try.prog.cellsOf 3)) = _ at e0
  change DataW.trod enc Try.prog w base spare held m 3 ((cs.drop 1).take (Try.prog.cellsOf 3)) = _ at e1
  change DataW.trod enc Try.prog w base spare held m 26 ((cs.drop 2).take (Try.prog.cellsOf 26)) = _ at e2
  change DataW.trod enc Try.prog w base spare held m 28 ((cs.drop 3).take (Try.prog.cellsOf 28)) = _ at e3
  rw [h3] at e0 e1
  rw [h26] at e2
  rw [h28] at e3
  obtain ⟨kind, hc0, _⟩ := DataW.trod_int Try.underlying3 e0
  obtain ⟨f, hc1, _⟩ := DataW.trod_int Try.underlying3 e1
  obtain ⟨A, L, c, hc2, hlc, hcm, _, hrow⟩ := trod_rows u8Cells (fun _ => True) Try.underlying26 h5 (by omega) open_u8 e2
  obtain ⟨ys, m', _, _, hyl, hyx, hg⟩ := DataW.trod_array Try.underlying28 e3
  have hyx : ys.length = 2 := hyx
  have g0 := hg 0 (by omega)
  have g1 := hg 1 (by omega)
  rw [List.getElem?_eq_getElem (by omega), h3] at g0 g1
  obtain ⟨k0, hd0, _⟩ := DataW.trod_int Try.underlying3 g0
  obtain ⟨k1, hd1, _⟩ := DataW.trod_int Try.underlying3 g1
  refine ⟨⟨kind, f, A, L, c, k0, k1⟩, ⟨?_, hlc, hcm⟩, ?_⟩
  · have := hrow.reads (fun _ => rfl) (by omega)
    rw [u8Cells_flat] at this
    exact this
  · apply List.ext_getElem?
    intro i
    have q0 := one_of_take hc0
    have q1 := one_of_take hc1
    have q2 := one_of_take hc2
    have q3 := one_of_take hd0
    have q4 := one_of_take hd1
    rw [List.getElem?_take_of_lt (by omega), List.getElem?_drop] at q3 q4
    by_cases hi : i < 5
    · obtain rfl | rfl | rfl | rfl | rfl : i = 0 ∨ i = 1 ∨ i = 2 ∨ i = 3 ∨ i = 4 := by omega
      · exact q0
      · exact q1
      · exact q2
      · exact q3
      · exact q4
    · rw [List.getElem?_eq_none (by omega), List.getElem?_eq_none (by show 5 ≤ i; omega)]

def Opn.val (o : Opn) : Value := .agg #[.int .i64 o.kind, .int .i64 o.f, .slice o.A o.bs.length o.c, .int .i64 o.k0, .int .i64 o.k1]

/-- A call, handed over by value. -/
theorem open_opn_val {r : Reach} {b0 : Nat} {v : Value} {d : DataW H} {p : List MemPlace} (hv : Value.okWide Try.prog w r b0 33 v) (h : DataW.Trod enc Try.prog w base spare held 33 v d p) :
    ∃ o : Opn, o.okIn w ∧ v = o.val := by
  obtain ⟨cs, rfl, hsz⟩ := okWide_struct Try.underlying33 hv
  obtain ⟨fuel, hf⟩ := h
  obtain ⟨u, hu, hc⟩ := open_opn fuel _ _ hf
  refine ⟨u, hu, ?_⟩
  have : cs.toList = u.cells := hc
  unfold Opn.val
  congr 1
  apply Array.toList_inj.1
  rw [this]
  rfl
end

end Go.Proofs.Ytbgofhbanhanfaa
