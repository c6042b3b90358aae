/-
  Arguments of the laws, opened.
-/
import Derived.Test.YtglfakglcoffkaaTA
import Derived.Test.YtglfakglcoffkaaW
import Derived.ChangeMaps5
namespace Go.Proofs.Ytglfakglcoffkaa
open Go.ChangeShapes Go.WideShapes Go.ChangeAt Go.RowKit
open Go.WideMaps Go.WideElems

theorem Try.own : ownKnob Try.prog.godebug = none := by kernel_rfl
theorem Try.laidOut : laidOutB Try.prog = true := by kernel_rfl

theorem wf_i64 {b : Int} (h : (Lit.int .i64 b).wf = true) : -9223372036854775808 ≤ b ∧ b ≤ 9223372036854775807 := by
  simpa [Lit.wf, IntKind.min, IntKind.max, IntKind.signed, IntKind.bits] using h
theorem wf_u8 {b : Int} (h : (Lit.int .u8 b).wf = true) : 0 ≤ b ∧ b ≤ 255 := by
  simpa [Lit.wf, IntKind.min, IntKind.max, IntKind.signed, IntKind.bits] using h
theorem wf_u64 {b : Int} (h : (Lit.int .u64 b).wf = true) : 0 ≤ b ∧ b ≤ 18446744073709551615 := by
  simpa [Lit.wf, IntKind.min, IntKind.max, IntKind.signed, IntKind.bits] using h

def u8Cells (x : UInt8) : List Value := [.int .u8 x.toNat]

section
variable {H : Type} {enc : TypeId × Value → H} {w : World} {base : Nat} {spare : Nat → Bool} {held : Bool}

theorem open_u8 (n : Nat) (cs : List Value) (x) (h : DataW.trod enc Try.prog w base spare held n 5 cs = some x) : ∃ a : UInt8, True ∧ cs = u8Cells a := by
  obtain ⟨a, h1, _, hw⟩ := DataW.trod_int Try.underlying5 h
  have hr := wf_u8 hw
  refine ⟨UInt8.ofNat a.toNat, trivial, ?_⟩
  rw [h1]
  unfold u8Cells
  have : ((UInt8.ofNat a.toNat).toNat : Int) = a := by
    rw [UInt8.toNat_ofNat']
    omega
  rw [this]
end

section
variable {H : Type} {enc : TypeId × Value → H} {P : Program} {w : World} {base : Nat} {spare : Nat → Bool} {held : Bool}

/-- A slice of plain elements, wherever it lies; how many elements its datum has. -/
theorem trod_rows {α : Type} [Inhabited α] (cells : α → List Value) (ok : α → Prop) (wt : DataW H → α → Prop) {t e : TypeId} {k : Nat} {fuel : Nat} {vs : List Value} {x : DataW H × List MemPlace}
    (ht : P.underlying t = some (.slice e)) (hk : P.cellsOf e = k) (hk0 : 0 < k)
    (he : ∀ (n : Nat) (cs : List Value) x, DataW.trod enc P w base spare held n e cs = some x → ∃ a, ok a ∧ wt x.1 a ∧ cs = cells a)
    (hf : DataW.trod enc P w base spare held fuel t vs = some x) :
    ∃ (A : Option Addr) (L : List α) (c : Nat), vs = [.slice A L.length c] ∧ L.length ≤ c ∧ c ≤ maxLen ∧ (∀ a ∈ L, ok a) ∧ RowsAt w k A cells L ∧ (A = none → L.length = 0 ∧ c = 0) ∧
      ((x.1 = .nil ∧ L = []) ∨ ∃ ds rest, x.1 = .slice ds rest ∧ ds.length = L.length ∧ ∀ (i : Nat) d a, ds[i]? = some d → L[i]? = some a → wt d a) := by
  rcases Go.Deep.open_slice ht hf with ⟨rfl, rfl⟩ | ⟨a, len, cap, m, n, D, Pl, rfl, _, hl, hm, hmm, rfl, hx⟩
  · exact ⟨none, [], 0, rfl, by simp, by simp [maxLen], by simp, fun h => absurd rfl h, fun _ => ⟨rfl, rfl⟩, .inl ⟨rfl, rfl⟩⟩
  · have hml : len ≤ m := by rw [hmm]; split <;> omega
    obtain ⟨F, hF⟩ := Go.Deep.choose_lt (α := α) (n := len) (p := fun i x => ok x ∧ wt (D i) x ∧ ∀ j, j < k → w.cell? (a.add (i * k + j)) = (cells x)[j]?) (fun i hi => by
      obtain ⟨cs', h1, h2⟩ := hx i (by omega)
      obtain ⟨y, hy, hwt, hcs⟩ := he n cs' _ h2
      subst hcs
      obtain ⟨_, hcl, hat⟩ := World.cells?_some h1
      rw [hk] at hat
      exact ⟨y, hy, hwt, fun j hj => by rw [← Go.Deep.add_add]; exact hat j hj⟩)
    have hlen : ((List.range len).map F).length = len := by simp
    refine ⟨some a, (List.range len).map F, cap, by rw [hlen], by rw [hlen]; exact hl, hm, ?_, ?_, fun h => (by cases h), .inr ⟨_, _, rfl, by simp, ?_⟩⟩
    · intro x hx
      obtain ⟨i, hi, rfl⟩ := List.mem_map.1 hx
      exact (hF i (by simpa using hi)).1
    · intro hne
      have h0 : 0 < len := by
        rcases Nat.eq_zero_or_pos len with h | h
        · subst h; simp at hne
        · exact h
      obtain ⟨cs', h1, h2⟩ := hx 0 (by omega)
      obtain ⟨_, hcl, hat⟩ := World.cells?_some h1
      rw [hk] at hat hcl
      have hc0 := hat 0 hk0
      rw [List.getElem?_eq_getElem (by omega)] at hc0
      obtain ⟨b, off, spot⟩ := a
      have hspot : spot = none := by
        have := World.cell?_spot hc0
        simpa [Addr.add] using this
      subst hspot
      rw [Go.WideShapes.add_plain, Go.WideShapes.add_plain] at hc0
      refine ⟨b, off, rfl, World.block_lt_of_cell? w _ hc0, fun i x hi j hj => ?_⟩
      have hi' : i < len := by
        have := (List.getElem?_eq_some_iff.1 hi).1
        rwa [hlen] at this
      rw [List.getElem?_map, List.getElem?_range hi'] at hi
      obtain rfl : F i = x := by simpa using hi
      rw [← (hF i hi').2.2 j hj, Go.WideShapes.add_plain]
    · intro i d y hd hy
      have hi' : i < len := by
        have := (List.getElem?_eq_some_iff.1 hy).1
        rwa [hlen] at this
      rw [List.getElem?_map, List.getElem?_range hi'] at hd hy
      simp only [Option.map_some, Option.some.injEq] at hd hy
      subst hd hy
      exact (hF i hi').2.1

end

section
variable {H : Type} {enc : TypeId × Value → H} {w : World} {base : Nat} {spare : Nat → Bool} {held : Bool}

theorem txt_of_rows {A : Option Addr} {L : List UInt8} (h : RowsAt w 1 A u8Cells L) : Txt w A L := fun h0 => by
  obtain ⟨b, off, e, hb, hc⟩ := h (by intro e; subst e; simp at h0)
  exact ⟨b, off, e, hb, fun j c hj => by
    have := hc j c hj 0 (by omega)
    simpa [u8Cells] using this⟩

/-- A row of bytes that came in. -/
theorem open_prt (fuel : Nat) (vs : List Value) (x) (hf : DataW.trod enc Try.prog w base spare held fuel 22 vs = some x) : ∃ p : Prt, (p.ok w ∧ p.c ≤ maxLen ∧ (p.A = none → p.x.length = 0 ∧ p.c = 0)) ∧ True ∧ vs = [p.val] := by
  obtain ⟨A, L, c, rfl, hc, hcm, _, hrow, hnil, _⟩ := trod_rows u8Cells (fun _ => True) (fun _ _ => True) Try.underlying22 (k := 1) (by kernel_rfl) (by omega)
    (fun n cs x h => by obtain ⟨a, h1, h2⟩ := open_u8 n cs x h; exact ⟨a, h1, trivial, h2⟩) hf
  exact ⟨⟨A, L, c⟩, ⟨⟨txt_of_rows hrow, hc⟩, hcm, hnil⟩, trivial, rfl⟩

set_option maxRecDepth 100000 in
/-- Bytes that came in. -/
theorem open_bytes {r : Reach} {b0 : Nat} {v : Value} {d : DataW H} {p : List MemPlace} (hv : Value.okWide Try.prog w r b0 22 v) (h : DataW.Trod enc Try.prog w base spare held 22 v d p) :
    ∃ p : Prt, p.ok w ∧ v = p.val ∧ p.c ≤ 9223372036854775807 := by
  obtain ⟨a0, len, cap, rfl⟩ := okWide_slice Try.underlying22 hv
  obtain ⟨fuel, hf⟩ := h
  obtain ⟨q, ⟨h1, h2, _⟩, _, h3⟩ := open_prt fuel _ _ hf
  simp only [Value.cells, List.cons.injEq, and_true] at h3
  have h4 : q.c ≤ 9223372036854775807 := Nat.le_trans h2 (by unfold maxLen; decide)
  exact ⟨q, h1, h3, h4⟩


/-- A text that came in. -/
theorem open_str {r : Reach} {b0 : Nat} {v : Value} {d : DataW H} {p : List MemPlace} (hv : Value.okWide Try.prog w r b0 9 v) (h : DataW.Trod enc Try.prog w base spare held 9 v d p) :
    ∃ s : List UInt8, v = .string ⟨s.toArray⟩ ∧ s.length ≤ 9223372036854775807 := by
  obtain ⟨s, rfl⟩ := okWide_string Try.underlying9 hv
  obtain ⟨fuel, hf⟩ := h
  obtain ⟨z, hz, _, hs⟩ := DataW.trod_string Try.underlying9 hf
  simp only [Value.cells, List.cons.injEq, and_true] at hz
  injection hz with hz
  subst hz
  refine ⟨s.data.toList, by cases s; rfl, ?_⟩
  have e : s.data.toList.length = s.size := Array.length_toList
  rw [e]
  exact Nat.le_trans hs (by unfold maxLen; decide)

theorem field_str {t : TypeId} (ht : Try.prog.underlying t = some .string) {cs : List Value} {xs : List (DataW H × List MemPlace)} {n i off : Nat} (hi : i < xs.length) (hc : Try.prog.cellsOf t = 1)
    (h : DataW.trod enc Try.prog w base spare held n t ((cs.drop off).take (Try.prog.cellsOf t)) = xs[i]?) : ∃ s : List UInt8, (cs.drop off).take 1 = [.string ⟨s.toArray⟩] ∧ s.length ≤ 9223372036854775807 := by
  rw [List.getElem?_eq_getElem hi, hc] at h
  obtain ⟨s, hb, _, hs⟩ := DataW.trod_string ht h
  refine ⟨s.data.toList, ?_, ?_⟩
  · rw [hb]
  · have e : s.data.toList.length = s.size := Array.length_toList
    rw [e]
    exact Nat.le_trans hs (by unfold maxLen; decide)
theorem field_prt {cs : List Value} {xs : List (DataW H × List MemPlace)} {n i off : Nat} (hi : i < xs.length)
    (h : DataW.trod enc Try.prog w base spare held n 22 ((cs.drop off).take (Try.prog.cellsOf 22)) = xs[i]?) : ∃ p : Prt, (p.ok w ∧ p.c ≤ maxLen ∧ (p.A = none → p.x.length = 0 ∧ p.c = 0)) ∧ (cs.drop off).take 1 = [p.val] := by
  rw [List.getElem?_eq_getElem hi, show Try.prog.cellsOf 22 = 1 by kernel_rfl] at h
  obtain ⟨p, h1, _, h2⟩ := open_prt n _ _ h
  exact ⟨p, h1, h2⟩

set_option maxRecDepth 100000 in
theorem open_fil (n : Nat) (cs : List Value) (x) (h : DataW.trod enc Try.prog w base spare held n 38 cs = some x) : ∃ f : Fil, f.ok w ∧ cs = filCells f := by
  obtain ⟨xs, m, _, _, hlen, hxl, hf⟩ := DataW.trod_struct Try.underlying38 h
  have h38 : Try.prog.cellsOf 38 = 2 := by kernel_rfl
  rw [h38] at hlen
  have hxl : xs.length = 2 := hxl
  obtain ⟨s, e0, w0⟩ := field_str Try.underlying9 (by omega) (by kernel_rfl) (hf 0 _ rfl)
  obtain ⟨p, ⟨hok, hcm, hnil⟩, e1⟩ := field_prt (by omega) (hf 1 _ rfl)
  refine ⟨⟨s, p.A, p.x, p.c⟩, ⟨hok.1, hok.2, w0, Nat.le_trans hcm (by unfold maxLen; decide), hnil⟩, ?_⟩
  match cs, hlen with
  | [c0, c1], _ =>
    simp at e0 e1
    subst e0 e1
    rfl

set_option maxRecDepth 100000 in
/-- A tree that came in. -/
theorem open_tree {r : Reach} {b0 : Nat} {v : Value} {d : DataW H} {p : List MemPlace} (hv : Value.okWide Try.prog w r b0 25 v) (h : DataW.Trod enc Try.prog w base spare held 25 v d p) :
    ∃ (A : Option Addr) (L : List Fil) (c : Nat), v = .slice A L.length c ∧ TreeAt w A L ∧ L.length ≤ c ∧ c ≤ 9223372036854775807 ∧ (A = none → L.length = 0 ∧ c = 0) := by
  obtain ⟨a0, len, cap, rfl⟩ := okWide_slice Try.underlying25 hv
  obtain ⟨fuel, hf⟩ := h
  obtain ⟨A, L, c, hvs, hc, hcm, hok, hrow, hnil, _⟩ := trod_rows filCells (fun f => f.ok w) (fun _ _ => True) Try.underlying25 (k := 2) (by kernel_rfl) (by omega)
    (fun n cs x h => by obtain ⟨y, h1, h2⟩ := open_fil n cs x h; exact ⟨y, h1, trivial, h2⟩) hf
  simp only [Value.cells, List.cons.injEq, and_true] at hvs
  exact ⟨A, L, c, hvs, ⟨hrow, hok⟩, hc, Nat.le_trans hcm (by unfold maxLen; decide), hnil⟩
end

end Go.Proofs.Ytglfakglcoffkaa
