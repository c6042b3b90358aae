/-
  The bound of the second form of a statement: what it says of a list of calls.
-/
import Derived.Test.YtbgofhbanhanfaaV
namespace Go.Proofs.Ytbgofhbanhanfaa
open Go.ChangeShapes Go.WideShapes Go.ChangeAt Go.RowKit
open Go.WideMaps Go.WideElems

theorem bulk_one {H : Type} (d : DataW H) : 1 ≤ Rows.uptoBulk d := by
  cases d with
  | lit l => cases l <;> simp [Rows.uptoBulk]
  | _ => simp [Rows.uptoBulk]
theorem bulk_len {H : Type} : ∀ ds : List (DataW H), ds.length ≤ Rows.uptoBulkAll ds
  | [] => by simp
  | d :: ds => by
    have h1 := bulk_one d
    have h2 := bulk_len ds
    simp only [Rows.uptoBulkAll, List.length_cons]; omega
theorem bulk_mem {H : Type} : ∀ (ds : List (DataW H)) (d : DataW H), d ∈ ds → Rows.uptoBulk d ≤ Rows.uptoBulkAll ds
  | [], _, h => by cases h
  | x :: ds, d, h => by
    simp only [Rows.uptoBulkAll]
    rcases List.mem_cons.1 h with rfl | h
    · omega
    · have := bulk_mem ds d h; omega
theorem bulk_bound {H : Type} {l : List (DataW H)} (hk : Rows.uptoSmall H l = true) : Rows.uptoBulkAll l ≤ 1048576 := of_decide_eq_true hk

section
variable {P : Program} {H : Type} {enc : TypeId × Value → H} {w : World} {base : Nat} {spare : Nat → Bool} {held : Bool}

theorem trod_rowsD {α : Type} [Inhabited α] (cells : α → List Value) (ok : α → Prop) (wt : DataW H → α → Prop) {t e : TypeId} {k : Nat} {fuel : Nat} {vs : List Value} {x : DataW H × List MemPlace}
    (ht : P.underlying t = some (.slice e)) (hk : P.cellsOf e = k) (hk0 : 0 < k)
    (he : ∀ (n : Nat) (cs : List Value) x, DataW.trod enc P w base spare held n e cs = some x → ∃ a, ok a ∧ wt x.1 a ∧ cs = cells a)
    (hf : DataW.trod enc P w base spare held fuel t vs = some x) :
    ∃ (A : Option Addr) (L : List α) (c : Nat), vs = [.slice A L.length c] ∧ L.length ≤ c ∧ c ≤ maxLen ∧ (∀ a ∈ L, ok a) ∧ RowsAt w k A cells L ∧ (A = none → L.length = 0 ∧ c = 0) ∧
      ((x.1 = .nil ∧ L = []) ∨ ∃ ds rest, x.1 = .slice ds rest ∧ ds.length = L.length ∧ ∀ (i : Nat) d a, ds[i]? = some d → L[i]? = some a → wt d a) := by
  rcases Go.Deep.open_slice ht hf with ⟨rfl, rfl⟩ | ⟨a, len, cap, m, n, D, Pl, rfl, _, hl, hm, hmm, rfl, hx⟩
  · exact ⟨none, [], 0, rfl, by simp, by simp [maxLen], by simp, fun h => absurd rfl h, fun _ => ⟨rfl, rfl⟩, .inl ⟨rfl, rfl⟩⟩
  · have hml : len ≤ m := by rw [hmm]; split <;> omega
    obtain ⟨F, hF⟩ := Go.Deep.choose_lt (α := α) (n := len) (p := fun i x => ok x ∧ wt (D i) x ∧ ∀ j, j < k → w.cell? (a.add (i * k + j)) = (cells x)[j]?) (fun i hi => by
      obtain ⟨cs', h1, h2⟩ := hx i (by omega)
      obtain ⟨y, hy, hwt, hcs⟩ := he n cs' _ h2
      subst hcs
      obtain ⟨_, hcl, hat⟩ := World.cells?_some h1
      rw [hk] at hat
      exact ⟨y, hy, hwt, fun j hj => by rw [← Go.Deep.add_add]; exact hat j hj⟩)
    have hlen : ((List.range len).map F).length = len := by simp
    refine ⟨some a, (List.range len).map F, cap, by rw [hlen], by rw [hlen]; exact hl, hm, ?_, ?_, fun h => (by cases h), .inr ⟨_, _, rfl, by simp, ?_⟩⟩
    · intro x hx
      obtain ⟨i, hi, rfl⟩ := List.mem_map.1 hx
      exact (hF i (by simpa using hi)).1
    · intro hne
      have h0 : 0 < len := by
        rcases Nat.eq_zero_or_pos len with h | h
        · subst h; simp at hne
        · exact h
      obtain ⟨cs', h1, h2⟩ := hx 0 (by omega)
      obtain ⟨_, hcl, hat⟩ := World.cells?_some h1
      rw [hk] at hat hcl
      have hc0 := hat 0 hk0
      rw [List.getElem?_eq_getElem (by omega)] at hc0
      obtain ⟨b, off, spot⟩ := a
      have hspot : spot = none := by
        have := World.cell?_spot hc0
        simpa [Addr.add] using this
      subst hspot
      rw [Go.WideShapes.add_plain, Go.WideShapes.add_plain] at hc0
      refine ⟨b, off, rfl, World.block_lt_of_cell? w _ hc0, fun i x hi j hj => ?_⟩
      have hi' : i < len := by
        have := (List.getElem?_eq_some_iff.1 hi).1
        rwa [hlen] at this
      rw [List.getElem?_map, List.getElem?_range hi'] at hi
      obtain rfl : F i = x := by simpa using hi
      rw [← (hF i hi').2.2 j hj, Go.WideShapes.add_plain]
    · intro i d y hd hy
      have hi' : i < len := by
        have := (List.getElem?_eq_some_iff.1 hy).1
        rwa [hlen] at this
      rw [List.getElem?_map, List.getElem?_range hi'] at hd hy
      simp only [Option.map_some, Option.some.injEq] at hd hy
      subst hd hy
      exact (hF i hi').2.1
end

def OpnBulk {H : Type} (d : DataW H) (o : Opn) : Prop := o.bs.length ≤ Rows.uptoBulk d

section
variable {H : Type} {enc : TypeId × Value → H} {w : World} {base : Nat} {spare : Nat → Bool} {held : Bool}

set_option maxRecDepth 100000 in
theorem open_opnD (n : Nat) (cs : List Value) (x) (h : DataW.trod enc Try.prog w base spare held n 33 cs = some x) : ∃ o : Opn, o.okIn w ∧ OpnBulk x.1 o ∧ cs = o.cells := by
  obtain ⟨xs, m, _, hx, hlen, hxl, hf⟩ := DataW.trod_struct Try.underlying33 h
  have h33 : Try.prog.cellsOf 33 = 5 := by kernel_rfl
  have h3 : Try.prog.cellsOf 3 = 1 := by kernel_rfl
  have h5 : Try.prog.cellsOf 5 = 1 := by kernel_rfl
  have h26 : Try.prog.cellsOf 26 = 1 := by kernel_rfl
  have h28 : Try.prog.cellsOf 28 = 2 := by kernel_rfl
  rw [h33] at hlen
  have hxl : xs.length = 4 := hxl
  have e0 := hf 0 _ rfl
  have e1 := hf 1 _ rfl
  have e2 := hf 2 _ rfl
  have e3 := hf 3 _ rfl
  rw [List.getElem?_eq_getElem (by omega)] at e0 e1 e2 e3
  change DataW.trod enc Try.prog w base spare held m 3 ((cs.drop 0).take (Try.prog.cellsOf 3)) = _ at e0
  change DataW.trod enc Try.prog w base spare held m 3 ((cs.drop 1).take (Try.prog.cellsOf 3)) = _ at e1
  change DataW.trod enc Try.prog w base spare held m 26 ((cs.drop 2).take (Try.prog.cellsOf 26)) = _ at e2
  change DataW.trod enc Try.prog w base spare held m 28 ((cs.drop 3).take (Try.prog.cellsOf 28)) = _ at e3
  rw [h3] at e0 e1
  rw [h26] at e2
  rw [h28] at e3
  obtain ⟨kind, hc0, _⟩ := DataW.trod_int Try.underlying3 e0
  obtain ⟨f, hc1, _⟩ := DataW.trod_int Try.underlying3 e1
  obtain ⟨A, L, c, hc2, hlc, hcm, _, hrow, _, hd⟩ := trod_rowsD u8Cells (fun _ => True) (fun _ _ => True) Try.underlying26 h5 (by omega) (fun n cs x h => by
    obtain ⟨a, h1, h2⟩ := open_u8 n cs x h
    exact ⟨a, h1, trivial, h2⟩) e2
  obtain ⟨ys, m', _, _, hyl, hyx, hg⟩ := DataW.trod_array Try.underlying28 e3
  have hyx : ys.length = 2 := hyx
  have g0 := hg 0 (by omega)
  have g1 := hg 1 (by omega)
  rw [List.getElem?_eq_getElem (by omega), h3] at g0 g1
  obtain ⟨k0, hd0, _⟩ := DataW.trod_int Try.underlying3 g0
  obtain ⟨k1, hd1, _⟩ := DataW.trod_int Try.underlying3 g1
  refine ⟨⟨kind, f, A, L, c, k0, k1⟩, ⟨?_, hlc, hcm⟩, ?_, ?_⟩
  · have := hrow.reads (fun _ => rfl) (by omega)
    rw [u8Cells_flat] at this
    exact this
  · have hm := bulk_mem (xs.map (·.1)) xs[2].1 (List.mem_map_of_mem (List.getElem_mem (by omega)))
    show L.length ≤ Rows.uptoBulk x.1
    rw [hx]
    simp only [Rows.uptoBulk]
    rcases hd with ⟨_, h2⟩ | ⟨ds, rest, h1, h2, _⟩
    · rw [h2]; simp
    · rw [h1] at hm
      simp only [Rows.uptoBulk] at hm
      have := bulk_len ds
      omega
  · apply List.ext_getElem?
    intro i
    have q0 := one_of_take hc0
    have q1 := one_of_take hc1
    have q2 := one_of_take hc2
    have q3 := one_of_take hd0
    have q4 := one_of_take hd1
    rw [List.getElem?_take_of_lt (by omega), List.getElem?_drop] at q3 q4
    by_cases hi : i < 5
    · obtain rfl | rfl | rfl | rfl | rfl : i = 0 ∨ i = 1 ∨ i = 2 ∨ i = 3 ∨ i = 4 := by omega
      · exact q0
      · exact q1
      · exact q2
      · exact q3
      · exact q4
    · rw [List.getElem?_eq_none (by omega), List.getElem?_eq_none (by show 5 ≤ i; omega)]

/-- A list of calls that came in; how great what they hold is. -/
theorem open_opns {r : Reach} {b0 : Nat} {v : Value} {d : DataW H} {p : List MemPlace} (hv : Value.okWide Try.prog w r b0 22 v) (h : DataW.Trod enc Try.prog w base spare held 22 v d p) :
    ∃ (A : Option Addr) (L : List Opn) (c : Nat), v = .slice A L.length c ∧ RowsAt w 5 A Opn.cells L ∧ (∀ o ∈ L, o.okIn w) ∧ ∀ o ∈ L, o.bs.length ≤ Rows.uptoBulk d := by
  obtain ⟨a0, len, cap, rfl⟩ := okWide_slice Try.underlying22 hv
  obtain ⟨fuel, hf⟩ := h
  obtain ⟨A, L, c, hvs, _, _, hok, hrow, _, hd⟩ := trod_rowsD Opn.cells (fun o => o.okIn w) OpnBulk Try.underlying22 (k := 5) (by kernel_rfl) (by omega) open_opnD hf
  simp only [Value.cells, List.cons.injEq, and_true] at hvs
  refine ⟨A, L, c, hvs, hrow, hok, fun o ho => ?_⟩
  rcases hd with ⟨_, h2⟩ | ⟨ds, rest, h1, h2, h3⟩
  · rw [h2] at ho; cases ho
  · have h1 : d = .slice ds rest := h1
    obtain ⟨i, hi⟩ := List.mem_iff_getElem?.1 ho
    have hil : i < ds.length := by rw [h2]; exact (List.getElem?_eq_some_iff.1 hi).1
    have hb := h3 i ds[i] o (List.getElem?_eq_getElem hil) hi
    have hm := bulk_mem ds ds[i] (List.getElem_mem hil)
    rw [h1]
    simp only [Rows.uptoBulk]
    unfold OpnBulk at hb
    omega
end

end Go.Proofs.Ytbgofhbanhanfaa
