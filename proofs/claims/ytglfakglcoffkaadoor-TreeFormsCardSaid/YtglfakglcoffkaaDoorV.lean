/-
  Arguments of the laws, opened; the two tables, out of the condition.
-/
import Derived.Test.YtglfakglcoffkaaDoorE3
import Derived.Test.YtglfakglcoffkaaDoorPI
import Derived.Test.YtglfakglcoffkaaDoorW
import Derived.LaidMore
import Derived.Lib.LaidTab
import Derived.Stop.Joined
import Derived.Stop.LaidErr
namespace Go.Proofs.YtglfakglcoffkaaDoor
open Go.ChangeShapes Go.WideShapes Go.ChangeAt Go.RowKit
open Go.WideMaps Go.WideElems

theorem Tryd.own : ownKnob Tryd.prog.godebug = none := by kernel_rfl
theorem Tryd.laidOut : laidOutB Tryd.prog = true := by kernel_rfl

theorem wf_i64 {b : Int} (h : (Lit.int .i64 b).wf = true) : -9223372036854775808 ≤ b ∧ b ≤ 9223372036854775807 := by
  simpa [Lit.wf, IntKind.min, IntKind.max, IntKind.signed, IntKind.bits] using h
theorem wf_u8 {b : Int} (h : (Lit.int .u8 b).wf = true) : 0 ≤ b ∧ b ≤ 255 := by
  simpa [Lit.wf, IntKind.min, IntKind.max, IntKind.signed, IntKind.bits] using h
theorem wf_u64 {b : Int} (h : (Lit.int .u64 b).wf = true) : 0 ≤ b ∧ b ≤ 18446744073709551615 := by
  simpa [Lit.wf, IntKind.min, IntKind.max, IntKind.signed, IntKind.bits] using h

def u8Cells (x : UInt8) : List Value := [.int .u8 x.toNat]

section
variable {H : Type} {enc : TypeId × Value → H} {w : World} {base : Nat} {spare : Nat → Bool} {held : Bool}

theorem open_u8 (n : Nat) (cs : List Value) (x) (h : DataW.trod enc Tryd.prog w base spare held n 5 cs = some x) : ∃ a : UInt8, True ∧ cs = u8Cells a := by
  obtain ⟨a, h1, _, hw⟩ := DataW.trod_int Tryd.underlying5 h
  have hr := wf_u8 hw
  refine ⟨UInt8.ofNat a.toNat, trivial, ?_⟩
  rw [h1]
  unfold u8Cells
  have : ((UInt8.ofNat a.toNat).toNat : Int) = a := by
    rw [UInt8.toNat_ofNat']
    omega
  rw [this]
end

section
variable {H : Type} {enc : TypeId × Value → H} {P : Program} {w : World} {base : Nat} {spare : Nat → Bool} {held : Bool}

/-- A slice of plain elements, wherever it lies; how many elements its datum has. -/
theorem trod_rows {α : Type} [Inhabited α] (cells : α → List Value) (ok : α → Prop) (wt : DataW H → α → Prop) {t e : TypeId} {k : Nat} {fuel : Nat} {vs : List Value} {x : DataW H × List MemPlace}
    (ht : P.underlying t = some (.slice e)) (hk : P.cellsOf e = k) (hk0 : 0 < k)
    (he : ∀ (n : Nat) (cs : List Value) x, DataW.trod enc P w base spare held n e cs = some x → ∃ a, ok a ∧ wt x.1 a ∧ cs = cells a)
    (hf : DataW.trod enc P w base spare held fuel t vs = some x) :
    ∃ (A : Option Addr) (L : List α) (c : Nat), vs = [.slice A L.length c] ∧ L.length ≤ c ∧ c ≤ maxLen ∧ (∀ a ∈ L, ok a) ∧ RowsAt w k A cells L ∧ (A = none → L.length = 0 ∧ c = 0) ∧
      ((x.1 = .nil ∧ L = []) ∨ ∃ ds rest, x.1 = .slice ds rest ∧ ds.length = L.length ∧ ∀ (i : Nat) d a, ds[i]? = some d → L[i]? = some a → wt d a) := by
  rcases Go.Deep.open_slice ht hf with ⟨rfl, rfl⟩ | ⟨a, len, cap, m, n, D, Pl, rfl, _, hl, hm, hmm, rfl, hx⟩
  · exact ⟨none, [], 0, rfl, by simp, by simp [maxLen], by simp, fun h => absurd rfl h, fun _ => ⟨rfl, rfl⟩, .inl ⟨rfl, rfl⟩⟩
  · have hml : len ≤ m := by rw [hmm]; split <;> omega
    obtain ⟨F, hF⟩ := Go.Deep.choose_lt (α := α) (n := len) (p := fun i x => ok x ∧ wt (D i) x ∧ ∀ j, j < k → w.cell? (a.add (i * k + j)) = (cells x)[j]?) (fun i hi => by
      obtain ⟨cs', h1, h2⟩ := hx i (by omega)
      obtain ⟨y, hy, hwt, hcs⟩ := he n cs' _ h2
      subst hcs
      obtain ⟨_, hcl, hat⟩ := World.cells?_some h1
      rw [hk] at hat
      exact ⟨y, hy, hwt, fun j hj => by rw [← Go.Deep.add_add]; exact hat j hj⟩)
    have hlen : ((List.range len).map F).length = len := by simp
    refine ⟨some a, (List.range len).map F, cap, by rw [hlen], by rw [hlen]; exact hl, hm, ?_, ?_, fun h => (by cases h), .inr ⟨_, _, rfl, by simp, ?_⟩⟩
    · intro x hx
      obtain ⟨i, hi, rfl⟩ := List.mem_map.1 hx
      exact (hF i (by simpa using hi)).1
    · intro hne
      have h0 : 0 < len := by
        rcases Nat.eq_zero_or_pos len with h | h
        · subst h; simp at hne
        · exact h
      obtain ⟨cs', h1, h2⟩ := hx 0 (by omega)
      obtain ⟨_, hcl, hat⟩ := World.cells?_some h1
      rw [hk] at hat hcl
      have hc0 := hat 0 hk0
      rw [List.getElem?_eq_getElem (by omega)] at hc0
      obtain ⟨b, off, spot⟩ := a
      have hspot : spot = none := by
        have := World.cell?_spot hc0
        simpa [Addr.add] using this
      subst hspot
      rw [Go.WideShapes.add_plain, Go.WideShapes.add_plain] at hc0
      refine ⟨b, off, rfl, World.block_lt_of_cell? w _ hc0, fun i x hi j hj => ?_⟩
      have hi' : i < len := by
        have := (List.getElem?_eq_some_iff.1 hi).1
        rwa [hlen] at this
      rw [List.getElem?_map, List.getElem?_range hi'] at hi
      obtain rfl : F i = x := by simpa using hi
      rw [← (hF i hi').2.2 j hj, Go.WideShapes.add_plain]
    · intro i d y hd hy
      have hi' : i < len := by
        have := (List.getElem?_eq_some_iff.1 hy).1
        rwa [hlen] at this
      rw [List.getElem?_map, List.getElem?_range hi'] at hd hy
      simp only [Option.map_some, Option.some.injEq] at hd hy
      subst hd hy
      exact (hF i hi').2.1

end

section
variable {H : Type} {enc : TypeId × Value → H} {w : World} {base : Nat} {spare : Nat → Bool} {held : Bool}

theorem txt_of_rows {A : Option Addr} {L : List UInt8} (h : RowsAt w 1 A u8Cells L) : Txt w A L := fun h0 => by
  obtain ⟨b, off, e, hb, hc⟩ := h (by intro e; subst e; simp at h0)
  exact ⟨b, off, e, hb, fun j c hj => by
    have := hc j c hj 0 (by omega)
    simpa [u8Cells] using this⟩

/-- A row of bytes that came in. -/
theorem open_prt (fuel : Nat) (vs : List Value) (x) (hf : DataW.trod enc Tryd.prog w base spare held fuel 22 vs = some x) : ∃ p : Prt, (p.ok w ∧ p.c ≤ maxLen) ∧ True ∧ vs = [p.val] := by
  obtain ⟨A, L, c, rfl, hc, hcm, _, hrow, _, _⟩ := trod_rows u8Cells (fun _ => True) (fun _ _ => True) Tryd.underlying22 (k := 1) (by kernel_rfl) (by omega)
    (fun n cs x h => by obtain ⟨a, h1, h2⟩ := open_u8 n cs x h; exact ⟨a, h1, trivial, h2⟩) hf
  exact ⟨⟨A, L, c⟩, ⟨⟨txt_of_rows hrow, hc⟩, hcm⟩, trivial, rfl⟩

set_option maxRecDepth 100000 in
/-- Bytes that came in. -/
theorem open_bytes {r : Reach} {b0 : Nat} {v : Value} {d : DataW H} {p : List MemPlace} (hv : Value.okWide Tryd.prog w r b0 22 v) (h : DataW.Trod enc Tryd.prog w base spare held 22 v d p) :
    ∃ p : Prt, p.ok w ∧ v = p.val ∧ p.c ≤ 9223372036854775807 := by
  obtain ⟨a0, len, cap, rfl⟩ := okWide_slice Tryd.underlying22 hv
  obtain ⟨fuel, hf⟩ := h
  obtain ⟨q, ⟨h1, h2⟩, _, h3⟩ := open_prt fuel _ _ hf
  simp only [Value.cells, List.cons.injEq, and_true] at h3
  have h4 : q.c ≤ 9223372036854775807 := Nat.le_trans h2 (by unfold maxLen; decide)
  exact ⟨q, h1, h3, h4⟩

set_option maxRecDepth 100000 in
/-- Rows of bytes that came in. -/
theorem open_parts {r : Reach} {b0 : Nat} {v : Value} {d : DataW H} {p : List MemPlace} (hv : Value.okWide Tryd.prog w r b0 34 v) (h : DataW.Trod enc Tryd.prog w base spare held 34 v d p) :
    ∃ (A : Option Addr) (L : List Prt) (c : Nat), v = .slice A L.length c ∧ PartsAt w A L ∧ L.length ≤ c ∧ c ≤ 9223372036854775807 ∧ ∀ p ∈ L, p.c ≤ 9223372036854775807 := by
  obtain ⟨a0, len, cap, rfl⟩ := okWide_slice Tryd.underlying34 hv
  obtain ⟨fuel, hf⟩ := h
  obtain ⟨A, L, c, hvs, hc, hcm, hok, hrow, _, _⟩ := trod_rows (fun p : Prt => [p.val]) (fun p => p.ok w ∧ p.c ≤ maxLen) (fun _ _ => True) Tryd.underlying34 (k := 1) (by kernel_rfl) (by omega)
    (fun n cs x h => open_prt n cs x h) hf
  simp only [Value.cells, List.cons.injEq, and_true] at hvs
  have hML : maxLen ≤ 9223372036854775807 := by unfold maxLen; decide
  refine ⟨A, L, c, hvs, ⟨fun h0 => ?_, fun p hp => (hok p hp).1⟩, hc, Nat.le_trans hcm hML, fun p hp => Nat.le_trans (hok p hp).2 hML⟩
  obtain ⟨b, off, e, hb, hcell⟩ := hrow (by intro e; subst e; simp at h0)
  exact ⟨b, off, e, hb, fun i p hi => by simpa using hcell i p hi 0 (by omega)⟩
end

section
variable {H : Type} {enc : TypeId × Value → H} {w : World} {base : Nat} {spare : Nat → Bool} {held : Bool}

theorem field_int {k : IntKind} {t : TypeId} (ht : Tryd.prog.underlying t = some (.int k)) {cs : List Value} {xs : List (DataW H × List MemPlace)} {n i off : Nat} (hi : i < xs.length) (hc : Tryd.prog.cellsOf t = 1)
    (h : DataW.trod enc Tryd.prog w base spare held n t ((cs.drop off).take (Tryd.prog.cellsOf t)) = xs[i]?) : ∃ b : Int, (cs.drop off).take 1 = [.int k b] ∧ (Lit.int k b).wf = true := by
  rw [List.getElem?_eq_getElem hi, hc] at h
  obtain ⟨b, hb, _, hw⟩ := DataW.trod_int ht h
  exact ⟨b, hb, hw⟩
theorem field_str {t : TypeId} (ht : Tryd.prog.underlying t = some .string) {cs : List Value} {xs : List (DataW H × List MemPlace)} {n i off : Nat} (hi : i < xs.length) (hc : Tryd.prog.cellsOf t = 1)
    (h : DataW.trod enc Tryd.prog w base spare held n t ((cs.drop off).take (Tryd.prog.cellsOf t)) = xs[i]?) : ∃ s : List UInt8, (cs.drop off).take 1 = [.string ⟨s.toArray⟩] ∧ s.length ≤ 9223372036854775807 := by
  rw [List.getElem?_eq_getElem hi, hc] at h
  obtain ⟨s, hb, _, hs⟩ := DataW.trod_string ht h
  refine ⟨s.data.toList, ?_, ?_⟩
  · rw [hb]
  · have e : s.data.toList.length = s.size := Array.length_toList
    rw [e]
    exact Nat.le_trans hs (by unfold maxLen; decide)

set_option maxRecDepth 100000 in
theorem open_ins (n : Nat) (cs : List Value) (x) (h : DataW.trod enc Tryd.prog w base spare held n 61 cs = some x) : ∃ y : Ins, y.fits ∧ cs = insCells y := by
  obtain ⟨xs, m, _, _, hlen, hxl, hf⟩ := DataW.trod_struct Tryd.underlying61 h
  have h61 : Tryd.prog.cellsOf 61 = 6 := by kernel_rfl
  rw [h61] at hlen
  have hxl : xs.length = 6 := hxl
  obtain ⟨b0, e0, w0⟩ := field_int Tryd.underlying5 (by omega) (by kernel_rfl) (hf 0 _ rfl)
  obtain ⟨b1, e1, w1⟩ := field_str Tryd.underlying9 (by omega) (by kernel_rfl) (hf 1 _ rfl)
  obtain ⟨b2, e2, w2⟩ := field_str Tryd.underlying9 (by omega) (by kernel_rfl) (hf 2 _ rfl)
  obtain ⟨b3, e3, w3⟩ := field_str Tryd.underlying9 (by omega) (by kernel_rfl) (hf 3 _ rfl)
  obtain ⟨b4, e4, w4⟩ := field_int Tryd.underlying3 (by omega) (by kernel_rfl) (hf 4 _ rfl)
  obtain ⟨b5, e5, w5⟩ := field_int Tryd.underlying3 (by omega) (by kernel_rfl) (hf 5 _ rfl)
  have hr := wf_u8 w0
  refine ⟨⟨b0.toNat, b1, b2, b3, b4, b5⟩, ⟨by show b0.toNat < 256; omega, w1, w2, w3, wf_i64 w4, wf_i64 w5⟩, ?_⟩
  match cs, hlen with
  | [c0, c1, c2, c3, c4, c5], _ =>
    simp at e0 e1 e2 e3 e4 e5
    subst e0 e1 e2 e3 e4 e5
    unfold insCells
    dsimp only
    rw [Int.toNat_of_nonneg hr.1]

set_option maxRecDepth 100000 in
/-- A program that came in. -/
theorem open_prog {r : Reach} {b0 : Nat} {v : Value} {d : DataW H} {p : List MemPlace} (hv : Value.okWide Tryd.prog w r b0 52 v) (h : DataW.Trod enc Tryd.prog w base spare held 52 v d p) :
    ∃ (A : Option Addr) (L : List Ins) (c : Nat), v = .slice A L.length c ∧ RowsAt w 6 A insCells L ∧ (∀ x ∈ L, x.fits) ∧ L.length ≤ c ∧ c ≤ 9223372036854775807 ∧ (A = none → L.length = 0 ∧ c = 0) := by
  obtain ⟨a0, len, cap, rfl⟩ := okWide_slice Tryd.underlying52 hv
  obtain ⟨fuel, hf⟩ := h
  obtain ⟨A, L, c, hvs, hc, hcm, hok, hrow, hnil, _⟩ := trod_rows insCells Ins.fits (fun _ _ => True) Tryd.underlying52 (k := 6) (by kernel_rfl) (by omega)
    (fun n cs x h => by obtain ⟨y, h1, h2⟩ := open_ins n cs x h; exact ⟨y, h1, trivial, h2⟩) hf
  simp only [Value.cells, List.cons.injEq, and_true] at hvs
  exact ⟨A, L, c, hvs, hrow, hok, hc, Nat.le_trans hcm (by unfold maxLen; decide), hnil⟩
end

/-! The tables. -/
def strData {H : Type} (zs : List (List UInt8)) : DataW H := .agg (zs.map fun z => .lit (.string z))
theorem cells_of_strs {H : Type} {enc : TypeId × Value → H} {P : Program} {w : World} {base : Nat} {sp : Nat → Bool} {held : Bool} {fuel : Nat} {t e : TypeId} {n : Nat} {cs : List Value} {zs : List (List UInt8)} {p : List MemPlace}
    (ht : P.underlying t = some (.array n e)) (he : P.underlying e = some .string) (hce : P.cellsOf e = 1) (hct : P.cellsOf t = n)
    (h : DataW.trod enc P w base sp held fuel t cs = some (strData zs, p)) : cs = zs.map fun z => Value.string ⟨z.toArray⟩ := by
  cases fuel with
  | zero => simp [DataW.trod] at h
  | succ fuel =>
    simp only [DataW.trod, ht, hce, hct, Nat.mul_one] at h
    split at h
    · rename_i hl
      obtain ⟨xs, hm, hx⟩ := Option.map_eq_some_iff.1 h
      have hxs : xs.map (·.1) = zs.map fun z => (DataW.lit (.string z) : DataW H) := by
        have := congrArg Prod.fst hx
        simpa [strData] using this
      have hxl : xs.length = n := by simpa using Lib.mapM_length hm
      have hzl : zs.length = n := by
        have := congrArg List.length hxs
        simp at this
        omega
      apply List.ext_getElem?
      intro i
      by_cases hi : i < n
      · obtain ⟨b, hb, hf⟩ := Lib.mapM_at hm i i (by simp [hi])
        obtain ⟨z, hc, hbe, _⟩ := DataW.trod_string he hf
        subst hbe
        have h1 : cs[i]? = some (.string z) := by
          have := congrArg (·[0]?) hc
          simpa [List.getElem?_take, List.getElem?_drop] using this
        have h2 : (xs.map (·.1))[i]? = some (DataW.lit (.string z.data.toList) : DataW H) := by simp [hb]
        rw [hxs] at h2
        simp only [List.getElem?_map, Option.map_eq_some_iff, DataW.lit.injEq, Lit.string.injEq] at h2
        obtain ⟨z', hz', hz2⟩ := h2
        rw [h1, List.getElem?_map, hz', hz2]
        rfl
      · rw [List.getElem?_eq_none (by omega), List.getElem?_eq_none (by simp; omega)]
    · cases h

theorem gF : Tryd.prog.globalNamed "murmuration/program.fields" = some 1 := by kernel_rfl
theorem tF : (Tryd.prog.globals[1]?).map (·.type) = some 131 := by kernel_rfl
theorem gH : Tryd.prog.globalNamed "murmuration/sha.firstWords" = some 0 := by kernel_rfl
theorem tH : (Tryd.prog.globals[0]?).map (·.type) = some 25 := by kernel_rfl
theorem gK : Tryd.prog.globalNamed "murmuration/sha.roundWords" = some 2 := by kernel_rfl
theorem tK : (Tryd.prog.globals[2]?).map (·.type) = some 26 := by kernel_rfl

/-- Layer 6: the kinds' fields alone. -/
abbrev laidF : List (String × DataW Unit) := [("murmuration/program.fields", Rows.laid_murmuration_program_fields)]
theorem door_metF (os : Os) (args : Array Value) : laidMetH Tryd.prog laidF ((World.doorLaid Tryd.prog 19 os).forCall (fun _ _ => 0) ⟨#[], args, []⟩).memory :=
  laidMetH_of_parts3 (fuel := 8) (laidMet_of_run' 8 (by kernel_rfl) (by kernel_rfl)) (by kernel_rfl) (by kernel_rfl)
theorem flds_head {W : World} {rest : List (String × DataW Unit)} (h : laidMet Tryd.prog (("murmuration/program.fields", strData flds) :: rest) W) : Flds W := by
  obtain ⟨ps, ⟨g', t', cs, fuel, p, q, hg', ht', hvar, hd, _, _⟩, _⟩ := h
  obtain rfl := Option.some.inj (gF.symm.trans hg')
  obtain rfl := Option.some.inj (tF.symm.trans ht')
  have hcs := cells_of_strs Tryd.underlying131 Tryd.underlying9 (by kernel_rfl) (by kernel_rfl) hd
  have hat : ∀ i s, flds[i]? = some s → W.cell? ⟨1, i, none⟩ = some (.string ⟨s.toArray⟩) := fun i s hs => by
    rw [World.var?_cell gF hvar i, ← Array.getElem?_toList, hcs, List.getElem?_map, hs]
    rfl
  exact ⟨World.block_lt_of_cell? W _ (hat 1 _ rfl), hat⟩
theorem flds_of_laid {W : World} (h : laidMetH Tryd.prog laidF W) : Flds W := by
  rw [MakeChecks.laidMetH_plain _ _ _ (by kernel_rfl)] at h
  exact flds_head h

end Go.Proofs.YtglfakglcoffkaaDoor
