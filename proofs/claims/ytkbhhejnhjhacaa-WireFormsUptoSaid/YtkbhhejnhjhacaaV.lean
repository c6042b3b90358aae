/-
  Arguments of the laws, opened.
-/
import Derived.Test.YtkbhhejnhjhacaaG
import Derived.Test.YtkbhhejnhjhacaaW
namespace Go.Proofs.Ytkbhhejnhjhacaa
open Go.ChangeShapes Go.WideShapes Go.ChangeAt Go.RowKit
open Go.WideMaps Go.WideElems

theorem Try.own : ownKnob Try.prog.godebug = none := by kernel_rfl
theorem Try.laidOut : laidOutB Try.prog = true := by kernel_rfl

theorem wf_i64 {b : Int} (h : (Lit.int .i64 b).wf = true) : -9223372036854775808 ≤ b ∧ b ≤ 9223372036854775807 := by
  simpa [Lit.wf, IntKind.min, IntKind.max, IntKind.signed, IntKind.bits] using h
theorem wf_u8 {b : Int} (h : (Lit.int .u8 b).wf = true) : 0 ≤ b ∧ b ≤ 255 := by
  simpa [Lit.wf, IntKind.min, IntKind.max, IntKind.signed, IntKind.bits] using h
theorem wf_u64 {b : Int} (h : (Lit.int .u64 b).wf = true) : 0 ≤ b ∧ b ≤ 18446744073709551615 := by
  simpa [Lit.wf, IntKind.min, IntKind.max, IntKind.signed, IntKind.bits] using h

def u8Cells (x : UInt8) : List Value := [.int .u8 x.toNat]
theorem u8Cells_flat (L : List UInt8) : L.flatMap u8Cells = byteVals L := by
  induction L with
  | nil => rfl
  | cons x L ih => rw [List.flatMap_cons, ih]; rfl

section
variable {H : Type} {enc : TypeId × Value → H} {w : World} {base : Nat} {spare : Nat → Bool} {held : Bool}

theorem open_u8 (n : Nat) (cs : List Value) (x) (h : DataW.trod enc Try.prog w base spare held n 5 cs = some x) : ∃ a : UInt8, True ∧ cs = u8Cells a := by
  obtain ⟨a, h1, _, hw⟩ := DataW.trod_int Try.underlying5 h
  have hr := wf_u8 hw
  refine ⟨UInt8.ofNat a.toNat, trivial, ?_⟩
  rw [h1]
  unfold u8Cells
  have : ((UInt8.ofNat a.toNat).toNat : Int) = a := by
    rw [UInt8.toNat_ofNat']
    omega
  rw [this]
end

section
variable {H : Type} {enc : TypeId × Value → H} {P : Program} {w : World} {base : Nat} {spare : Nat → Bool} {held : Bool}

/-- A slice of plain elements, wherever it lies; how many elements its datum has. -/
theorem trod_rows {α : Type} [Inhabited α] (cells : α → List Value) (ok : α → Prop) (wt : DataW H → α → Prop) {t e : TypeId} {k : Nat} {fuel : Nat} {vs : List Value} {x : DataW H × List MemPlace}
    (ht : P.underlying t = some (.slice e)) (hk : P.cellsOf e = k) (hk0 : 0 < k)
    (he : ∀ (n : Nat) (cs : List Value) x, DataW.trod enc P w base spare held n e cs = some x → ∃ a, ok a ∧ wt x.1 a ∧ cs = cells a)
    (hf : DataW.trod enc P w base spare held fuel t vs = some x) :
    ∃ (A : Option Addr) (L : List α) (c : Nat), vs = [.slice A L.length c] ∧ L.length ≤ c ∧ c ≤ maxLen ∧ (∀ a ∈ L, ok a) ∧ RowsAt w k A cells L ∧ (A = none → L.length = 0 ∧ c = 0) ∧
      ((x.1 = .nil ∧ L = []) ∨ ∃ ds rest, x.1 = .slice ds rest ∧ ds.length = L.length ∧ ∀ (i : Nat) d a, ds[i]? = some d → L[i]? = some a → wt d a) := by
  rcases Go.Deep.open_slice ht hf with ⟨rfl, rfl⟩ | ⟨a, len, cap, m, n, D, Pl, rfl, _, hl, hm, hmm, rfl, hx⟩
  · exact ⟨none, [], 0, rfl, by simp, by simp [maxLen], by simp, fun h => absurd rfl h, fun _ => ⟨rfl, rfl⟩, .inl ⟨rfl, rfl⟩⟩
  · have hml : len ≤ m := by rw [hmm]; split <;> omega
    obtain ⟨F, hF⟩ := Go.Deep.choose_lt (α := α) (n := len) (p := fun i x => ok x ∧ wt (D i) x ∧ ∀ j, j < k → w.cell? (a.add (i * k + j)) = (cells x)[j]?) (fun i hi => by
      obtain ⟨cs', h1, h2⟩ := hx i (by omega)
      obtain ⟨y, hy, hwt, hcs⟩ := he n cs' _ h2
      subst hcs
      obtain ⟨_, hcl, hat⟩ := World.cells?_some h1
      rw [hk] at hat
      exact ⟨y, hy, hwt, fun j hj => by rw [← Go.Deep.add_add]; exact hat j hj⟩)
    have hlen : ((List.range len).map F).length = len := by simp
    refine ⟨some a, (List.range len).map F, cap, by rw [hlen], by rw [hlen]; exact hl, hm, ?_, ?_, fun h => (by cases h), .inr ⟨_, _, rfl, by simp, ?_⟩⟩
    · intro x hx
      obtain ⟨i, hi, rfl⟩ := List.mem_map.1 hx
      exact (hF i (by simpa using hi)).1
    · intro hne
      have h0 : 0 < len := by
        rcases Nat.eq_zero_or_pos len with h | h
        · subst h; simp at hne
        · exact h
      obtain ⟨cs', h1, h2⟩ := hx 0 (by omega)
      obtain ⟨_, hcl, hat⟩ := World.cells?_some h1
      rw [hk] at hat hcl
      have hc0 := hat 0 hk0
      rw [List.getElem?_eq_getElem (by omega)] at hc0
      obtain ⟨b, off, spot⟩ := a
      have hspot : spot = none := by
        have := World.cell?_spot hc0
        simpa [Addr.add] using this
      subst hspot
      rw [Go.WideShapes.add_plain, Go.WideShapes.add_plain] at hc0
      refine ⟨b, off, rfl, World.block_lt_of_cell? w _ hc0, fun i x hi j hj => ?_⟩
      have hi' : i < len := by
        have := (List.getElem?_eq_some_iff.1 hi).1
        rwa [hlen] at this
      rw [List.getElem?_map, List.getElem?_range hi'] at hi
      obtain rfl : F i = x := by simpa using hi
      rw [← (hF i hi').2.2 j hj, Go.WideShapes.add_plain]
    · intro i d y hd hy
      have hi' : i < len := by
        have := (List.getElem?_eq_some_iff.1 hy).1
        rwa [hlen] at this
      rw [List.getElem?_map, List.getElem?_range hi'] at hd hy
      simp only [Option.map_some, Option.some.injEq] at hd hy
      subst hd hy
      exact (hF i hi').2.1

/-- Plain elements of one cell, read as a list. -/
theorem RowsAt.reads1 {α : Type} {A : Option Addr} {cells : α → Value} {L : List α} (h : RowsAt w 1 A (fun a => [cells a]) L) : Reads w w.heap.size 1 A L.length (L.map cells) := by
  refine ⟨by simp, fun hn => ?_⟩
  obtain ⟨b, off, rfl, hb, hc⟩ := h (by intro e; subst e; simp at hn)
  refine ⟨_, rfl, hb, fun j u hu => ?_⟩
  rw [List.getElem?_map] at hu
  obtain ⟨a, ha, rfl⟩ := Option.map_eq_some_iff.1 hu
  have := hc j a ha 0 (by omega)
  rw [Go.WideShapes.add_plain]
  simpa using this
end

section
variable {H : Type} {enc : TypeId × Value → H} {w : World} {base : Nat} {spare : Nat → Bool} {held : Bool}

/-- A row of bytes that came in; of what bulk it is. -/
theorem open_row (fuel : Nat) (vs : List Value) (x) (hf : DataW.trod enc Try.prog w base spare held fuel 22 vs = some x) :
    ∃ r : Row, r.okAt w w.heap.size ∧ (x.1 = .nil ∧ r.bs = [] ∨ ∃ ds rest, x.1 = .slice ds rest ∧ ds.length = r.bs.length) ∧ r.c ≤ maxLen ∧ vs = [r.val] := by
  obtain ⟨A, L, c, rfl, hc, hcm, _, hrow, hnil, hd⟩ := trod_rows u8Cells (fun _ => True) (fun _ _ => True) Try.underlying22 (k := 1) (by kernel_rfl) (by omega)
    (fun n cs x h => by obtain ⟨a, h1, h2⟩ := open_u8 n cs x h; exact ⟨a, h1, trivial, h2⟩) hf
  refine ⟨⟨A, c, L⟩, ⟨hnil, hc, ?_⟩, ?_, hcm, rfl⟩
  · exact RowsAt.reads1 (cells := fun x : UInt8 => .int .u8 x.toNat) hrow
  · rcases hd with ⟨h1, h2⟩ | ⟨ds, rest, h1, h2, _⟩
    · exact .inl ⟨h1, h2⟩
    · exact .inr ⟨ds, rest, h1, h2⟩

/-- The same, of an argument. -/
theorem open_bytes {r : Reach} {b0 : Nat} {v : Value} {d : DataW H} {p : List MemPlace} (hv : Value.okWide Try.prog w r b0 22 v) (h : DataW.Trod enc Try.prog w base spare held 22 v d p) :
    ∃ r : Row, r.okAt w w.heap.size ∧ (d = .nil ∧ r.bs = [] ∨ ∃ ds rest, d = .slice ds rest ∧ ds.length = r.bs.length) ∧ v = r.val ∧ r.bs.length ≤ 9223372036854775807 := by
  obtain ⟨a0, len, cap, rfl⟩ := okWide_slice Try.underlying22 hv
  obtain ⟨fuel, hf⟩ := h
  obtain ⟨r, h1, h2, h4, h3⟩ := open_row fuel _ _ hf
  simp only [Value.cells, List.cons.injEq, and_true] at h3
  refine ⟨r, h1, h2, h3, ?_⟩
  have := h1.cap
  unfold maxLen at h4
  omega
end

end Go.Proofs.Ytkbhhejnhjhacaa
