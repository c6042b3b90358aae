/-
  V VW VP IO in one text.
-/
import Derived.Test.YtbadkkilblgpmaaDoorNLG
import Derived.Test.YtbadkkilblgpmaaDoorRows
import Derived.LaidMore
import Derived.Lib.LaidTab
import Derived.Stop.Joined
import Derived.Stop.LaidErr
import Derived.SizedLaws
namespace Go.Proofs.YtbadkkilblgpmaaDoor
open Go.ChangeShapes Go.WideShapes Go.ChangeAt Go.RowKit
open Go.WideMaps Go.WideElems


theorem Tryd.own : ownKnob Tryd.prog.godebug = none := by kernel_rfl
theorem Tryd.laidOut : laidOutB Tryd.prog = true := by kernel_rfl
theorem wf_i64 {b : Int} (h : (Lit.int .i64 b).wf = true) : -9223372036854775808 ≤ b ∧ b ≤ 9223372036854775807 := by
  simpa [Lit.wf, IntKind.min, IntKind.max, IntKind.signed, IntKind.bits] using h
theorem wf_u8 {b : Int} (h : (Lit.int .u8 b).wf = true) : 0 ≤ b ∧ b ≤ 255 := by
  simpa [Lit.wf, IntKind.min, IntKind.max, IntKind.signed, IntKind.bits] using h
theorem wf_u64 {b : Int} (h : (Lit.int .u64 b).wf = true) : 0 ≤ b ∧ b ≤ 18446744073709551615 := by
  simpa [Lit.wf, IntKind.min, IntKind.max, IntKind.signed, IntKind.bits] using h
def u8Cells (x : UInt8) : List Value := [.int .u8 x.toNat]
section
variable {H : Type} {enc : TypeId × Value → H} {w : World} {base : Nat} {spare : Nat → Bool} {held : Bool}

theorem open_u8 (n : Nat) (cs : List Value) (x) (h : DataW.trod enc Tryd.prog w base spare held n 5 cs = some x) : ∃ a : UInt8, True ∧ cs = u8Cells a := by
  obtain ⟨a, h1, _, hw⟩ := DataW.trod_int Tryd.underlying5 h
  have hr := wf_u8 hw
  refine ⟨UInt8.ofNat a.toNat, trivial, ?_⟩
  rw [h1]
  unfold u8Cells
  have : ((UInt8.ofNat a.toNat).toNat : Int) = a := by
    rw [UInt8.toNat_ofNat']
    omega
  rw [this]
end

section
variable {H : Type} {enc : TypeId × Value → H} {P : Program} {w : World} {base : Nat} {spare : Nat → Bool} {held : Bool}

/-- A slice of plain elements, wherever it lies; how many elements its datum has. -/
theorem trod_rows {α : Type} [Inhabited α] (cells : α → List Value) (ok : α → Prop) (wt : DataW H → α → Prop) {t e : TypeId} {k : Nat} {fuel : Nat} {vs : List Value} {x : DataW H × List MemPlace}
    (ht : P.underlying t = some (.slice e)) (hk : P.cellsOf e = k) (hk0 : 0 < k)
    (he : ∀ (n : Nat) (cs : List Value) x, DataW.trod enc P w base spare held n e cs = some x → ∃ a, ok a ∧ wt x.1 a ∧ cs = cells a)
    (hf : DataW.trod enc P w base spare held fuel t vs = some x) :
    ∃ (A : Option Addr) (L : List α) (c : Nat), vs = [.slice A L.length c] ∧ L.length ≤ c ∧ c ≤ maxLen ∧ (∀ a ∈ L, ok a) ∧ RowsAt w k A cells L ∧ (A = none → L.length = 0 ∧ c = 0) ∧
      ((x.1 = .nil ∧ L = []) ∨ ∃ ds rest, x.1 = .slice ds rest ∧ ds.length = L.length ∧ ∀ (i : Nat) d a, ds[i]? = some d → L[i]? = some a → wt d a) := by
  rcases Go.Deep.open_slice ht hf with ⟨rfl, rfl⟩ | ⟨a, len, cap, m, n, D, Pl, rfl, _, hl, hm, hmm, rfl, hx⟩
  · exact ⟨none, [], 0, rfl, by simp, by simp [maxLen], by simp, fun h => absurd rfl h, fun _ => ⟨rfl, rfl⟩, .inl ⟨rfl, rfl⟩⟩
  · have hml : len ≤ m := by rw [hmm]; split <;> omega
    obtain ⟨F, hF⟩ := Go.Deep.choose_lt (α := α) (n := len) (p := fun i x => ok x ∧ wt (D i) x ∧ ∀ j, j < k → w.cell? (a.add (i * k + j)) = (cells x)[j]?) (fun i hi => by
      obtain ⟨cs', h1, h2⟩ := hx i (by omega)
      obtain ⟨y, hy, hwt, hcs⟩ := he n cs' _ h2
      subst hcs
      obtain ⟨_, hcl, hat⟩ := World.cells?_some h1
      rw [hk] at hat
      exact ⟨y, hy, hwt, fun j hj => by rw [← Go.Deep.add_add]; exact hat j hj⟩)
    have hlen : ((List.range len).map F).length = len := by simp
    refine ⟨some a, (List.range len).map F, cap, by rw [hlen], by rw [hlen]; exact hl, hm, ?_, ?_, fun h => (by cases h), .inr ⟨_, _, rfl, by simp, ?_⟩⟩
    · intro x hx
      obtain ⟨i, hi, rfl⟩ := List.mem_map.1 hx
      exact (hF i (by simpa using hi)).1
    · intro hne
      have h0 : 0 < len := by
        rcases Nat.eq_zero_or_pos len with h | h
        · subst h; simp at hne
        · exact h
      obtain ⟨cs', h1, h2⟩ := hx 0 (by omega)
      obtain ⟨_, hcl, hat⟩ := World.cells?_some h1
      rw [hk] at hat hcl
      have hc0 := hat 0 hk0
      rw [List.getElem?_eq_getElem (by omega)] at hc0
      obtain ⟨b, off, spot⟩ := a
      have hspot : spot = none := by
        have := World.cell?_spot hc0
        simpa [Addr.add] using this
      subst hspot
      rw [Go.WideShapes.add_plain, Go.WideShapes.add_plain] at hc0
      refine ⟨b, off, rfl, World.block_lt_of_cell? w _ hc0, fun i x hi j hj => ?_⟩
      have hi' : i < len := by
        have := (List.getElem?_eq_some_iff.1 hi).1
        rwa [hlen] at this
      rw [List.getElem?_map, List.getElem?_range hi'] at hi
      obtain rfl : F i = x := by simpa using hi
      rw [← (hF i hi').2.2 j hj, Go.WideShapes.add_plain]
    · intro i d y hd hy
      have hi' : i < len := by
        have := (List.getElem?_eq_some_iff.1 hy).1
        rwa [hlen] at this
      rw [List.getElem?_map, List.getElem?_range hi'] at hd hy
      simp only [Option.map_some, Option.some.injEq] at hd hy
      subst hd hy
      exact (hF i hi').2.1
end

section
variable {H : Type} {enc : TypeId × Value → H} {w : World} {base : Nat} {spare : Nat → Bool} {held : Bool}

theorem txt_of_rows {A : Option Addr} {L : List UInt8} (h : RowsAt w 1 A u8Cells L) : Txt w A L := fun h0 => by
  obtain ⟨b, off, e, hb, hc⟩ := h (by intro e; subst e; simp at h0)
  exact ⟨b, off, e, hb, fun j c hj => by
    have := hc j c hj 0 (by omega)
    simpa [u8Cells] using this⟩
end

section
variable {H : Type} {enc : TypeId × Value → H} {w : World} {base : Nat} {spare : Nat → Bool} {held : Bool}

theorem field_int {k : IntKind} {t : TypeId} (ht : Tryd.prog.underlying t = some (.int k)) {cs : List Value} {xs : List (DataW H × List MemPlace)} {n i off : Nat} (hi : i < xs.length) (hc : Tryd.prog.cellsOf t = 1)
    (h : DataW.trod enc Tryd.prog w base spare held n t ((cs.drop off).take (Tryd.prog.cellsOf t)) = xs[i]?) : ∃ b : Int, (cs.drop off).take 1 = [.int k b] ∧ (Lit.int k b).wf = true := by
  rw [List.getElem?_eq_getElem hi, hc] at h
  obtain ⟨b, hb, _, hw⟩ := DataW.trod_int ht h
  exact ⟨b, hb, hw⟩
theorem field_str {t : TypeId} (ht : Tryd.prog.underlying t = some .string) {cs : List Value} {xs : List (DataW H × List MemPlace)} {n i off : Nat} (hi : i < xs.length) (hc : Tryd.prog.cellsOf t = 1)
    (h : DataW.trod enc Tryd.prog w base spare held n t ((cs.drop off).take (Tryd.prog.cellsOf t)) = xs[i]?) : ∃ s : List UInt8, (cs.drop off).take 1 = [.string ⟨s.toArray⟩] ∧ s.length ≤ 9223372036854775807 := by
  rw [List.getElem?_eq_getElem hi, hc] at h
  obtain ⟨s, hb, _, hs⟩ := DataW.trod_string ht h
  refine ⟨s.data.toList, ?_, ?_⟩
  · rw [hb]
  · have e : s.data.toList.length = s.size := Array.length_toList
    rw [e]
    exact Nat.le_trans hs (by unfold maxLen; decide)
set_option maxRecDepth 100000 in
theorem open_ins (n : Nat) (cs : List Value) (x) (h : DataW.trod enc Tryd.prog w base spare held n 61 cs = some x) : ∃ y : Ins, y.fits ∧ cs = insCells y := by
  obtain ⟨xs, m, _, _, hlen, hxl, hf⟩ := DataW.trod_struct Tryd.underlying61 h
  have h61 : Tryd.prog.cellsOf 61 = 6 := by kernel_rfl
  rw [h61] at hlen
  have hxl : xs.length = 6 := hxl
  obtain ⟨b0, e0, w0⟩ := field_int Tryd.underlying5 (by omega) (by kernel_rfl) (hf 0 _ rfl)
  obtain ⟨b1, e1, w1⟩ := field_str Tryd.underlying9 (by omega) (by kernel_rfl) (hf 1 _ rfl)
  obtain ⟨b2, e2, w2⟩ := field_str Tryd.underlying9 (by omega) (by kernel_rfl) (hf 2 _ rfl)
  obtain ⟨b3, e3, w3⟩ := field_str Tryd.underlying9 (by omega) (by kernel_rfl) (hf 3 _ rfl)
  obtain ⟨b4, e4, w4⟩ := field_int Tryd.underlying3 (by omega) (by kernel_rfl) (hf 4 _ rfl)
  obtain ⟨b5, e5, w5⟩ := field_int Tryd.underlying3 (by omega) (by kernel_rfl) (hf 5 _ rfl)
  have hr := wf_u8 w0
  refine ⟨⟨b0.toNat, b1, b2, b3, b4, b5⟩, ⟨by show b0.toNat < 256; omega, w1, w2, w3, wf_i64 w4, wf_i64 w5⟩, ?_⟩
  match cs, hlen with
  | [c0, c1, c2, c3, c4, c5], _ =>
    simp at e0 e1 e2 e3 e4 e5
    subst e0 e1 e2 e3 e4 e5
    unfold insCells
    dsimp only
    rw [Int.toNat_of_nonneg hr.1]
set_option maxRecDepth 100000 in
/-- A program that came in. -/
theorem open_prog {r : Reach} {b0 : Nat} {v : Value} {d : DataW H} {p : List MemPlace} (hv : Value.okWide Tryd.prog w r b0 52 v) (h : DataW.Trod enc Tryd.prog w base spare held 52 v d p) :
    ∃ (A : Option Addr) (L : List Ins) (c : Nat), v = .slice A L.length c ∧ RowsAt w 6 A insCells L ∧ (∀ x ∈ L, x.fits) ∧ L.length ≤ c ∧ c ≤ 9223372036854775807 ∧ (A = none → L.length = 0 ∧ c = 0) := by
  obtain ⟨a0, len, cap, rfl⟩ := okWide_slice Tryd.underlying52 hv
  obtain ⟨fuel, hf⟩ := h
  obtain ⟨A, L, c, hvs, hc, hcm, hok, hrow, hnil, _⟩ := trod_rows insCells Ins.fits (fun _ _ => True) Tryd.underlying52 (k := 6) (by kernel_rfl) (by omega)
    (fun n cs x h => by obtain ⟨y, h1, h2⟩ := open_ins n cs x h; exact ⟨y, h1, trivial, h2⟩) hf
  simp only [Value.cells, List.cons.injEq, and_true] at hvs
  exact ⟨A, L, c, hvs, hrow, hok, hc, Nat.le_trans hcm (by unfold maxLen; decide), hnil⟩
end

/-! The tables. -/
def strData {H : Type} (zs : List (List UInt8)) : DataW H := .agg (zs.map fun z => .lit (.string z))
theorem cells_of_strs {H : Type} {enc : TypeId × Value → H} {P : Program} {w : World} {base : Nat} {sp : Nat → Bool} {held : Bool} {fuel : Nat} {t e : TypeId} {n : Nat} {cs : List Value} {zs : List (List UInt8)} {p : List MemPlace}
    (ht : P.underlying t = some (.array n e)) (he : P.underlying e = some .string) (hce : P.cellsOf e = 1) (hct : P.cellsOf t = n)
    (h : DataW.trod enc P w base sp held fuel t cs = some (strData zs, p)) : cs = zs.map fun z => Value.string ⟨z.toArray⟩ := by
  cases fuel with
  | zero => simp [DataW.trod] at h
  | succ fuel =>
    simp only [DataW.trod, ht, hce, hct, Nat.mul_one] at h
    split at h
    · rename_i hl
      obtain ⟨xs, hm, hx⟩ := Option.map_eq_some_iff.1 h
      have hxs : xs.map (·.1) = zs.map fun z => (DataW.lit (.string z) : DataW H) := by
        have := congrArg Prod.fst hx
        simpa [strData] using this
      have hxl : xs.length = n := by simpa using Lib.mapM_length hm
      have hzl : zs.length = n := by
        have := congrArg List.length hxs
        simp at this
        omega
      apply List.ext_getElem?
      intro i
      by_cases hi : i < n
      · obtain ⟨b, hb, hf⟩ := Lib.mapM_at hm i i (by simp [hi])
        obtain ⟨z, hc, hbe, _⟩ := DataW.trod_string he hf
        subst hbe
        have h1 : cs[i]? = some (.string z) := by
          have := congrArg (·[0]?) hc
          simpa [List.getElem?_take, List.getElem?_drop] using this
        have h2 : (xs.map (·.1))[i]? = some (DataW.lit (.string z.data.toList) : DataW H) := by simp [hb]
        rw [hxs] at h2
        simp only [List.getElem?_map, Option.map_eq_some_iff, DataW.lit.injEq, Lit.string.injEq] at h2
        obtain ⟨z', hz', hz2⟩ := h2
        rw [h1, List.getElem?_map, hz', hz2]
        rfl
      · rw [List.getElem?_eq_none (by omega), List.getElem?_eq_none (by simp; omega)]
    · cases h
theorem gF : Tryd.prog.globalNamed "murmuration/program.fields" = some 1 := by kernel_rfl
theorem tF : (Tryd.prog.globals[1]?).map (·.type) = some 169 := by kernel_rfl
/-- Layer 6: the kinds' fields alone. -/
abbrev laidF : List (String × DataW Unit) := [("murmuration/program.fields", Rows.laid_murmuration_program_fields)]
theorem door_metF (os : Os) (args : Array Value) : laidMetH Tryd.prog laidF ((World.doorLaid Tryd.prog 19 os).forCall (fun _ _ => 0) ⟨#[], args, []⟩).memory :=
  laidMetH_of_parts3 (fuel := 8) (laidMet_of_run' 8 (by kernel_rfl) (by kernel_rfl)) (by kernel_rfl) (by kernel_rfl)
theorem flds_head {W : World} {rest : List (String × DataW Unit)} (h : laidMet Tryd.prog (("murmuration/program.fields", strData flds) :: rest) W) : Flds W := by
  obtain ⟨ps, ⟨g', t', cs, fuel, p, q, hg', ht', hvar, hd, _, _⟩, _⟩ := h
  obtain rfl := Option.some.inj (gF.symm.trans hg')
  obtain rfl := Option.some.inj (tF.symm.trans ht')
  have hcs := cells_of_strs Tryd.underlying169 Tryd.underlying9 (by kernel_rfl) (by kernel_rfl) hd
  have hat : ∀ i s, flds[i]? = some s → W.cell? ⟨1, i, none⟩ = some (.string ⟨s.toArray⟩) := fun i s hs => by
    rw [World.var?_cell gF hvar i, ← Array.getElem?_toList, hcs, List.getElem?_map, hs]
    rfl
  exact ⟨World.block_lt_of_cell? W _ (hat 1 _ rfl), hat⟩
theorem flds_of_laid {W : World} (h : laidMetH Tryd.prog laidF W) : Flds W := by
  rw [MakeChecks.laidMetH_plain _ _ _ (by kernel_rfl)] at h
  exact flds_head h


open Go.ChangeShapes Go.WideShapes Go.ChangeAt Go.RowKit
open Go.WideMaps Go.WideElems

/-- A datum of type t weighs n at some place. -/
def Wgh {H : Type} (t : TypeId) (d : DataW H) (n : Nat) : Prop := n = 0 ∨ ∃ m ∈ DataW.weights Tryd.prog t d, n ≤ m
theorem wgh_all {H : Type} {e : TypeId} {n : Nat} : ∀ {l : List (DataW H)} {d : DataW H}, d ∈ l → Wgh e d n → n = 0 ∨ ∃ m ∈ DataW.weightsAll Tryd.prog e l, n ≤ m
  | x :: r, d, hd, h => by
    rcases h with h | ⟨m, hm, hn⟩
    · exact .inl h
    · rcases List.mem_cons.1 hd with rfl | h
      · exact .inr ⟨m, by simp only [DataW.weightsAll, List.mem_append]; exact .inl hm, hn⟩
      · rcases wgh_all h (.inr ⟨m, hm, hn⟩) with h2 | ⟨m2, h2, h3⟩
        · exact .inl h2
        · exact .inr ⟨m2, by simp only [DataW.weightsAll, List.mem_append]; exact .inr h2, h3⟩
theorem bytes5 : Tryd.prog.bytesOf 5 = 1 := by kernel_rfl
theorem bytes91 : Tryd.prog.bytesOf 91 = 40 := by kernel_rfl

section
variable {H : Type} {enc : TypeId × Value → H} {w : World} {base : Nat} {spare : Nat → Bool} {held : Bool}
/-- A row of bytes that came in, weighed. -/
theorem open_prt4 (fuel : Nat) (vs : List Value) (x) (hf : DataW.trod enc Tryd.prog w base spare held fuel 22 vs = some x) :
    ∃ p : Prt, (p.ok w ∧ p.c ≤ maxLen ∧ (p.A = none → p.x.length = 0 ∧ p.c = 0)) ∧ Wgh 22 x.1 p.x.length ∧ vs = [p.val] := by
  obtain ⟨A, L, c, rfl, hc, hcm, _, hrow, hnil, hd⟩ := trod_rows u8Cells (fun _ => True) (fun _ _ => True) Tryd.underlying22 (k := 1) (by kernel_rfl) (by omega)
    (fun n cs x h => by obtain ⟨a, h1, h2⟩ := open_u8 n cs x h; exact ⟨a, h1, trivial, h2⟩) hf
  refine ⟨⟨A, L, c⟩, ⟨⟨txt_of_rows hrow, hc⟩, hcm, hnil⟩, ?_, rfl⟩
  rcases hd with ⟨_, rfl⟩ | ⟨ds, rest, he, hl, _⟩
  · exact .inl rfl
  · rw [he]
    refine .inr ⟨(ds.length + rest.length) * Tryd.prog.bytesOf 5, by simp [DataW.weights, Tryd.underlying22], ?_⟩
    rw [bytes5]
    show L.length ≤ _
    omega
set_option maxRecDepth 100000 in
theorem open_fil4 (n : Nat) (cs : List Value) (x) (h : DataW.trod enc Tryd.prog w base spare held n 91 cs = some x) : ∃ f : Fil, f.ok w ∧ Wgh 91 x.1 f.x.length ∧ cs = filCells f := by
  obtain ⟨xs, m, _, hx, hlen, hxl, hf⟩ := DataW.trod_struct Tryd.underlying91 h
  have h38 : Tryd.prog.cellsOf 91 = 2 := by kernel_rfl
  rw [h38] at hlen
  have hxl : xs.length = 2 := hxl
  obtain ⟨s, e0, w0⟩ := field_str Tryd.underlying9 (by omega) (by kernel_rfl) (hf 0 _ rfl)
  match xs, hxl with
  | [y0, y1], _ =>
  have h1 : DataW.trod enc Tryd.prog w base spare held m 22 ((cs.drop 1).take (Tryd.prog.cellsOf 22)) = some y1 := hf 1 _ rfl
  rw [show Tryd.prog.cellsOf 22 = 1 by kernel_rfl] at h1
  obtain ⟨p, ⟨hok, hcm, hnil⟩, hwg, e1⟩ := open_prt4 m _ y1 h1
  refine ⟨⟨s, p.A, p.x, p.c⟩, ⟨hok.1, hok.2, w0, Nat.le_trans hcm (by unfold maxLen; decide), hnil⟩, ?_, ?_⟩
  · rw [hx]
    rcases hwg with h | ⟨k, hk, hn⟩
    · exact .inl h
    · exact .inr ⟨k, by simp only [DataW.weights, Tryd.underlying91, List.map_cons, List.map_nil]; simp [DataW.weightsEach]; exact .inr hk, hn⟩
  · match cs, hlen with
    | [c0, c1], _ =>
      simp at e0 e1
      subst e0 e1
      rfl
theorem open_tree4 (n : Nat) (vs : List Value) (x) (h : DataW.trod enc Tryd.prog w base spare held n 40 vs = some x) :
    ∃ (A : Option Addr) (L : List Fil) (c : Nat), vs = [.slice A L.length c] ∧ TreeAt w A L ∧ L.length ≤ 9223372036854775807 ∧ Wgh 40 x.1 (L.length * 40) ∧ ∀ f ∈ L, Wgh 40 x.1 f.x.length := by
  obtain ⟨A, L, c, hvs, hc, hcm, hok, hrow, hnil, hd⟩ := trod_rows filCells (fun f => f.ok w) (fun d f => Wgh 91 d f.x.length) Tryd.underlying40 (k := 2) (by kernel_rfl) (by omega)
    (fun n cs x h => by obtain ⟨y, h1, h2, h3⟩ := open_fil4 n cs x h; exact ⟨y, h1, h2, h3⟩) h
  have hm : maxLen ≤ 9223372036854775807 := by unfold maxLen; decide
  refine ⟨A, L, c, hvs, ⟨hrow, hok⟩, by omega, ?_, ?_⟩
  · rcases hd with ⟨_, rfl⟩ | ⟨ds, rest, he, hl, _⟩
    · exact .inl rfl
    · rw [he]
      refine .inr ⟨(ds.length + rest.length) * Tryd.prog.bytesOf 91, by simp [DataW.weights, Tryd.underlying40], ?_⟩
      rw [bytes91]
      omega
  · intro f hf
    rcases hd with ⟨_, rfl⟩ | ⟨ds, rest, he, hl, hw⟩
    · cases hf
    · rw [he]
      obtain ⟨i, hi, hif⟩ := List.getElem_of_mem hf
      have hw' := hw i (ds[i]'(by omega)) f (List.getElem?_eq_getElem (by omega)) (by rw [List.getElem?_eq_getElem hi, hif])
      rcases wgh_all (List.getElem_mem (by omega)) hw' with h2 | ⟨m2, h2, h3⟩
      · exact .inl h2
      · exact .inr ⟨m2, by simp only [DataW.weights, Tryd.underlying40, List.mem_cons, List.mem_append]; exact .inr (.inl h2), h3⟩
end


open Go.ChangeShapes Go.WideShapes Go.ChangeAt Go.RowKit
open Go.WideMaps Go.WideElems

theorem bytes40 : Tryd.prog.bytesOf 40 = 24 := by kernel_rfl

section
variable {H : Type} {enc : TypeId × Value → H} {w : World} {base : Nat} {spare : Nat → Bool} {held : Bool}

theorem open_strc (n : Nat) (cs : List Value) (x) (h : DataW.trod enc Tryd.prog w base spare held n 9 cs = some x) : ∃ s : List UInt8, s.length ≤ 9223372036854775807 ∧ cs = strC s := by
  obtain ⟨s, hb, _, hs⟩ := DataW.trod_string Tryd.underlying9 h
  refine ⟨s.data.toList, ?_, by rw [hb]; rfl⟩
  have e : s.data.toList.length = s.size := Array.length_toList
  rw [e]
  exact Nat.le_trans hs (by unfold maxLen; decide)
theorem open_strs (n : Nat) (cs : List Value) (x) (h : DataW.trod enc Tryd.prog w base spare held n 64 cs = some x) :
    ∃ (A : Option Addr) (L : List (List UInt8)) (c : Nat), cs = [.slice A L.length c] ∧ StrsAt w A L ∧ L.length ≤ c ∧ c ≤ 9223372036854775807 := by
  obtain ⟨A, L, c, hvs, hc, hcm, hok, hrow, _, _⟩ := trod_rows strC (fun s => s.length ≤ 9223372036854775807) (fun _ _ => True) Tryd.underlying64 (k := 1) (by kernel_rfl) (by omega)
    (fun n cs x h => by obtain ⟨y, h1, h2⟩ := open_strc n cs x h; exact ⟨y, h1, trivial, h2⟩) h
  exact ⟨A, L, c, hvs, ⟨hrow, hok⟩, hc, Nat.le_trans hcm (by unfold maxLen; decide)⟩
theorem open_progc (n : Nat) (cs : List Value) (x) (h : DataW.trod enc Tryd.prog w base spare held n 52 cs = some x) :
    ∃ (A : Option Addr) (L : List Ins) (c : Nat), cs = [.slice A L.length c] ∧ RowsAt w 6 A insCells L ∧ (∀ y ∈ L, y.fits) ∧ L.length ≤ 9223372036854775807 := by
  obtain ⟨A, L, c, hvs, hc, hcm, hok, hrow, _, _⟩ := trod_rows insCells Ins.fits (fun _ _ => True) Tryd.underlying52 (k := 6) (by kernel_rfl) (by omega)
    (fun n cs x h => by obtain ⟨y, h1, h2⟩ := open_ins n cs x h; exact ⟨y, h1, trivial, h2⟩) h
  exact ⟨A, L, c, hvs, hrow, hok, Nat.le_trans hc (Nat.le_trans hcm (by unfold maxLen; decide))⟩
set_option maxRecDepth 100000 in
theorem open_tgt (n : Nat) (cs : List Value) (x) (h : DataW.trod enc Tryd.prog w base spare held n 77 cs = some x) : ∃ t : Tgt, TgtAt w t ∧ cs = tgtCells t := by
  obtain ⟨xs, m, _, hx, hlen, hxl, hf⟩ := DataW.trod_struct Tryd.underlying77 h
  have h77 : Tryd.prog.cellsOf 77 = 4 := by kernel_rfl
  rw [h77] at hlen
  have hxl : xs.length = 4 := hxl
  obtain ⟨s, e0, w0⟩ := field_str Tryd.underlying9 (by omega) (by kernel_rfl) (hf 0 _ rfl)
  obtain ⟨b, e2, w2⟩ := field_int Tryd.underlying3 (by omega) (by kernel_rfl) (hf 2 _ rfl)
  match xs, hxl with
  | [y0, y1, y2, y3], _ =>
  have h1 : DataW.trod enc Tryd.prog w base spare held m 64 ((cs.drop 1).take (Tryd.prog.cellsOf 64)) = some y1 := hf 1 _ rfl
  have h3 : DataW.trod enc Tryd.prog w base spare held m 52 ((cs.drop 3).take (Tryd.prog.cellsOf 52)) = some y3 := hf 3 _ rfl
  rw [show Tryd.prog.cellsOf 64 = 1 by kernel_rfl] at h1
  rw [show Tryd.prog.cellsOf 52 = 1 by kernel_rfl] at h3
  obtain ⟨A, D, c, e1, hS, hc, hcm⟩ := open_strs m _ y1 h1
  obtain ⟨B, P, d, e3, hR, hF, hP⟩ := open_progc m _ y3 h3
  refine ⟨⟨s, A, D, c, b, B, P, d⟩, ⟨w0, hS, Nat.le_trans hc hcm, hc, hcm, hR, hF, hP, wf_i64 w2⟩, ?_⟩
  match cs, hlen with
  | [c0, c1, c2, c3], _ =>
    simp at e0 e1 e2 e3
    subst e0 e1 e2 e3
    rfl
set_option maxRecDepth 100000 in
theorem open_tgt_val {r : Reach} {b0 : Nat} {v : Value} {d : DataW H} {p : List MemPlace} (hv : Value.okWide Tryd.prog w r b0 77 v) (h : DataW.Trod enc Tryd.prog w base spare held 77 v d p) :
    ∃ t : Tgt, TgtAt w t ∧ v = .agg (tgtCells t).toArray := by
  obtain ⟨cs, rfl, hsz⟩ := okWide_struct Tryd.underlying77 hv
  obtain ⟨fuel, hf⟩ := h
  obtain ⟨t, ht, he⟩ := open_tgt fuel _ _ hf
  refine ⟨t, ht, ?_⟩
  have : cs.toList = tgtCells t := he
  congr 1
  apply Array.toList_inj.1
  rw [this]
end


open Go.ChangeShapes Go.WideShapes Go.ChangeAt Go.RowKit
open Go.WideMaps Go.WideElems
open Go

def ioW : List (List Char) := [['h', 'a', 'r', 'n', 'e', 's', 's'], ['5', 'c', '8', '6', '4', '9', '6', '6', '3', 'a', '6', '0', '3', 'd', 'f', '9', '8', '4', '3', '3', '4', 'e', '8', 'b', '8', '8', '2', 'f', '2', 'c', 'a', '8', '3', '3', '6', '2', '4', 'b', 'a', '6', 'e', '2', '1', 'd', '5', '1', 'd', 'c', '1', 'c', '5', '1', '2', 'a', '0', '1', 'f', 'a', '0', '6', '9', 'e', 'f', 'd'], ['c', 'u', 't'], ['a', 't'], ['m', 'u', 'r', 'm', 'u', 'r', 'a', 't', 'i', 'o', 'n', '/', 'm', 'u', 'r', 'm', 'u', 'r', 'a', 't', 'i', 'o', 'n', 'l', 'a', 'w', '0', '1', '.', 'S', 'h', 'a', 'S', 'u', 'm', 's'], ['m', 'u', 'r', 'm', 'u', 'r', 'a', 't', 'i', 'o', 'n', '/', 'm', 'u', 'r', 'm', 'u', 'r', 'a', 't', 'i', 'o', 'n', 'l', 'a', 'w', '0', '1', '.', 'S', 'h', 'a', 'P', 'a', 'r', 't', 's'], ['m', 'u', 'r', 'm', 'u', 'r', 'a', 't', 'i', 'o', 'n', '/', 'm', 'u', 'r', 'm', 'u', 'r', 'a', 't', 'i', 'o', 'n', 'l', 'a', 'w', '0', '1', '.', 'S', 'h', 'a', 'L', 'o', 'n', 'g'], ['m', 'u', 'r', 'm', 'u', 'r', 'a', 't', 'i', 'o', 'n', '/', 'm', 'u', 'r', 'm', 'u', 'r', 'a', 't', 'i', 'o', 'n', 'l', 'a', 'w', '0', '5', '.', 'T', 'r', 'e', 'e', 'F', 'o', 'r', 'm', 's'], ['m', 'u', 'r', 'm', 'u', 'r', 'a', 't', 'i', 'o', 'n', '/', 'm', 'u', 'r', 'm', 'u', 'r', 'a', 't', 'i', 'o', 'n', 'l', 'a', 'w', '0', '5', '.', 'T', 'r', 'e', 'e', 'R', 'o', 'o', 't', 's'], ['m', 'u', 'r', 'm', 'u', 'r', 'a', 't', 'i', 'o', 'n', '/', 'm', 'u', 'r', 'm', 'u', 'r', 'a', 't', 'i', 'o', 'n', 'l', 'a', 'w', '0', '6', '.', 'P', 'r', 'o', 'g', 'r', 'a', 'm', 'F', 'o', 'r', 'm', 's'], ['m', 'u', 'r', 'm', 'u', 'r', 'a', 't', 'i', 'o', 'n', '/', 'm', 'u', 'r', 'm', 'u', 'r', 'a', 't', 'i', 'o', 'n', 'l', 'a', 'w', '0', '6', '.', 'P', 'r', 'o', 'g', 'r', 'a', 'm', 'R', 'e', 'a', 'd', 's'], ['m', 'u', 'r', 'm', 'u', 'r', 'a', 't', 'i', 'o', 'n', '/', 'm', 'u', 'r', 'm', 'u', 'r', 'a', 't', 'i', 'o', 'n', 'l', 'a', 'w', '0', '6', '.', 'P', 'r', 'o', 'g', 'r', 'a', 'm', 'O', 'n', 'l', 'y'], ['m', 'u', 'r', 'm', 'u', 'r', 'a', 't', 'i', 'o', 'n', '/', 'm', 'u', 'r', 'm', 'u', 'r', 'a', 't', 'i', 'o', 'n', 'l', 'a', 'w', '0', '6', '.', 'P', 'r', 'o', 'g', 'r', 'a', 'm', 'M', 'o', 'r', 'e'], ['m', 'u', 'r', 'm', 'u', 'r', 'a', 't', 'i', 'o', 'n', '/', 'm', 'u', 'r', 'm', 'u', 'r', 'a', 't', 'i', 'o', 'n', 'l', 'a', 'w', '1', '5', '.', 'G', 'r', 'a', 'p', 'h', 'O', 'r', 'd', 'e', 'r', 's'], ['m', 'u', 'r', 'm', 'u', 'r', 'a', 't', 'i', 'o', 'n', '/', 'm', 'u', 'r', 'm', 'u', 'r', 'a', 't', 'i', 'o', 'n', 'l', 'a', 'w', '1', '5', '.', 'G', 'r', 'a', 'p', 'h', 'R', 'i', 'g', 'h', 't'], ['m', 'u', 'r', 'm', 'u', 'r', 'a', 't', 'i', 'o', 'n', '/', 'm', 'u', 'r', 'm', 'u', 'r', 'a', 't', 'i', 'o', 'n', 'l', 'a', 'w', '1', '5', '.', 'G', 'r', 'a', 'p', 'h', 'D', 'i', 'r', 't', 'y'], ['m', 'u', 'r', 'm', 'u', 'r', 'a', 't', 'i', 'o', 'n', '/', 'm', 'u', 'r', 'm', 'u', 'r', 'a', 't', 'i', 'o', 'n', 'l', 'a', 'w', '1', '5', '.', 'G', 'r', 'a', 'p', 'h', 'N', 'a', 'm', 'e', 's'], ['m', 'u', 'r', 'm', 'u', 'r', 'a', 't', 'i', 'o', 'n', '/', 'm', 'u', 'r', 'm', 'u', 'r', 'a', 't', 'i', 'o', 'n', 'l', 'a', 'w', '1', '5', '.', 'G', 'r', 'a', 'p', 'h', 'E', 'n', 'd', 's'], ['m', 'u', 'r', 'm', 'u', 'r', 'a', 't', 'i', 'o', 'n', '/', 'm', 'u', 'r', 'm', 'u', 'r', 'a', 't', 'i', 'o', 'n', 'l', 'a', 'w', '1', '6', '.', 'P', 'l', 'a', 'n', 'I', 'n', 'p', 'u', 't', 's'], ['m', 'u', 'r', 'm', 'u', 'r', 'a', 't', 'i', 'o', 'n', '/', 'm', 'u', 'r', 'm', 'u', 'r', 'a', 't', 'i', 'o', 'n', 'l', 'a', 'w', '1', '6', '.', 'P', 'l', 'a', 'n', 'B', 'e', 'l', 'o', 'w'], ['m', 'u', 'r', 'm', 'u', 'r', 'a', 't', 'i', 'o', 'n', '/', 'm', 'u', 'r', 'm', 'u', 'r', 'a', 't', 'i', 'o', 'n', 'l', 'a', 'w', '1', '6', '.', 'P', 'l', 'a', 'n', 'O', 'r', 'd', 'e', 'r'], ['m', 'u', 'r', 'm', 'u', 'r', 'a', 't', 'i', 'o', 'n', '/', 'm', 'u', 'r', 'm', 'u', 'r', 'a', 't', 'i', 'o', 'n', 'l', 'a', 'w', '1', '6', '.', 'P', 'l', 'a', 'n', 'G', 'r', 'o', 'w', 's']]
def joinW : List (List Char) → List Char
  | [] => []
  | [w] => w
  | w :: x :: r => w ++ ' ' :: joinW (x :: r)
theorem ws_last : ∀ w : List Char, (∀ c ∈ w, c ≠ ' ') → wordsSigns w = [w]
  | [], _ => rfl
  | c :: w, h => by
    have ih := ws_last w (fun x hx => h x (List.mem_cons_of_mem _ hx))
    have hc : c ≠ ' ' := h c (List.mem_cons_self)
    rw [wordsSigns, ih]
    exact hc
theorem ws_word : ∀ (w r : List Char), (∀ c ∈ w, c ≠ ' ') → wordsSigns (w ++ ' ' :: r) = w :: wordsSigns r
  | [], r, _ => by rw [List.nil_append, wordsSigns]
  | c :: w, r, h => by
    have ih := ws_word w r (fun x hx => h x (List.mem_cons_of_mem _ hx))
    have hc : c ≠ ' ' := h c (List.mem_cons_self)
    rw [List.cons_append, wordsSigns, ih]
    exact hc
theorem ws_join : ∀ W : List (List Char), W ≠ [] → (∀ w ∈ W, ∀ c ∈ w, c ≠ ' ') → wordsSigns (joinW W) = W
  | [], h, _ => absurd rfl h
  | [w], _, h => ws_last w (h w (List.mem_cons_self))
  | w :: x :: r, _, h => by
    show wordsSigns (w ++ ' ' :: joinW (x :: r)) = _
    rw [ws_word w _ (h w (List.mem_cons_self)), ws_join (x :: r) (by simp) (fun y hy => h y (List.mem_cons_of_mem _ hy))]
theorem io_plain : (ioW.all fun w => w.all fun c => c.toNat != 32) = true := by kernel_rfl
theorem io_is : Tryd.pinned.checked.prog.initOrder = String.ofList (joinW ioW) := by kernel_rfl
theorem io_words : wordsSigns Tryd.pinned.checked.prog.initOrder.toList = ioW := by
  rw [io_is, String.toList_ofList]
  refine ws_join ioW (by unfold ioW; simp) fun w hw c hc e => ?_
  have h := List.all_eq_true.1 (List.all_eq_true.1 io_plain w hw) c hc
  rw [e] at h
  revert h
  decide
theorem io_a : behindMainWord ioW = ['c', 'u', 't'] :: ioW.drop 3 := by kernel_rfl
theorem io_c : stripLifts liftWords (['c', 'u', 't'] :: ioW.drop 3) = ([], ['c', 'u', 't'] :: ioW.drop 3) := by kernel_rfl
theorem io_b : Tryd.pinned.checked.prog.doorFits [] = true := by kernel_rfl
theorem io_d : Tryd.pinned.checked.prog.laysLater = false := by kernel_rfl
theorem io_e : Tryd.pinned.checked.prog.bearsReflect = false := by kernel_rfl
theorem cutC : "cut".toList = ['c', 'u', 't'] := by decide +kernel
theorem carC : (['c', 'u', 't'] == "carried".toList) = false := by decide +kernel
theorem gcC : (['c', 'u', 't'] == "gc".toList) = false := by decide +kernel
theorem speC : (['c', 'u', 't'] == "spec".toList) = false := by decide +kernel
theorem enter_of {P : Program} {rest : List (List Char)} (h1 : behindMainWord (wordsSigns P.initOrder.toList) = ['c', 'u', 't'] :: rest) (h2 : stripLifts liftWords (['c', 'u', 't'] :: rest) = ([], ['c', 'u', 't'] :: rest))
    (h3 : P.laysLater = false) (h4 : P.bearsReflect = false) (h5 : P.doorFits [] = true) : P.mayEnter = true := by
  unfold Program.mayEnter
  rw [h1]
  dsimp only
  rw [h2, h3, h4, h5, cutC]
  simp
theorem final_of {P : Program} {rest : List (List Char)} (h1 : behindMainWord (wordsSigns P.initOrder.toList) = ['c', 'u', 't'] :: rest) (h2 : stripLifts liftWords (['c', 'u', 't'] :: rest) = ([], ['c', 'u', 't'] :: rest)) : P.liftsFinal = false := by
  unfold Program.liftsFinal Program.headLifts
  rw [h1, h2]
  have := carC
  simp [cutC]
theorem make_of {P : Program} {rest : List (List Char)} (h1 : behindMainWord (wordsSigns P.initOrder.toList) = ['c', 'u', 't'] :: rest) : P.make = some .cut := by
  unfold Program.make
  rw [h1]
  dsimp only
  rw [gcC, speC, cutC]
  simp
theorem io_cut : behindMainWord (wordsSigns Tryd.pinned.checked.prog.initOrder.toList) = ['c', 'u', 't'] :: ioW.drop 3 := by rw [io_words, io_a]
theorem io_enter : Tryd.pinned.checked.prog.mayEnter = true := enter_of io_cut io_c io_d io_e io_b
theorem io_final : Tryd.pinned.checked.prog.liftsFinal = false := final_of io_cut io_c
theorem io_make : Tryd.pinned.checked.prog.make = some .cut := make_of io_cut
def harC : List Char := ['h', 'a', 'r', 'n', 'e', 's', 's']
def sumC : List Char := ['5', 'c', '8', '6', '4', '9', '6', '6', '3', 'a', '6', '0', '3', 'd', 'f', '9', '8', '4', '3', '3', '4', 'e', '8', 'b', '8', '8', '2', 'f', '2', 'c', 'a', '8', '3', '3', '6', '2', '4', 'b', 'a', '6', 'e', '2', '1', 'd', '5', '1', 'd', 'c', '1', 'c', '5', '1', '2', 'a', '0', '1', 'f', 'a', '0', '6', '9', 'e', 'f', 'd']
theorem main_of {P : Program} {h s : List Char} {rest : List (List Char)} (h1 : wordsSigns P.initOrder.toList = h :: s :: rest) (h2 : isSumSigns s = true) (h3 : (h == "harness".toList) = true) : P.mainIs = some (true, s) := by
  unfold Program.mainIs
  rw [h1]
  dsimp only
  rw [h2, h3]
  rfl
theorem io_shape : ioW = harC :: sumC :: ioW.drop 2 := by kernel_rfl
theorem sum_is : "5c8649663a603df984334e8b882f2ca833624ba6e21d51dc1c512a01fa069efd".toList = sumC := by decide +kernel
theorem io_main : Tryd.pinned.checked.prog.mainIs = some (true, "5c8649663a603df984334e8b882f2ca833624ba6e21d51dc1c512a01fa069efd".toList) := by
  rw [sum_is]
  exact main_of (io_words.trans io_shape) (by decide +kernel) (by decide +kernel)


section
variable {H : Type} {enc : TypeId × Value → H} {w : World} {base : Nat} {spare : Nat → Bool} {held : Bool}
set_option maxRecDepth 100000 in
/-- A text that came in. -/
theorem open_str {r : Reach} {b0 : Nat} {v : Value} {d : DataW H} {p : List MemPlace} (hv : Value.okWide Tryd.prog w r b0 9 v) (h : DataW.Trod enc Tryd.prog w base spare held 9 v d p) :
    ∃ s : List UInt8, v = .string ⟨s.toArray⟩ ∧ s.length ≤ 9223372036854775807 := by
  obtain ⟨s, rfl⟩ := okWide_string Tryd.underlying9 hv
  obtain ⟨fuel, hf⟩ := h
  obtain ⟨z, hz, _, hs⟩ := DataW.trod_string Tryd.underlying9 hf
  simp only [Value.cells, List.cons.injEq, and_true] at hz
  injection hz with hz
  subst hz
  refine ⟨s.data.toList, by cases s; rfl, ?_⟩
  have e : s.data.toList.length = s.size := Array.length_toList
  rw [e]
  exact Nat.le_trans hs (by unfold maxLen; decide)
set_option maxRecDepth 100000 in
theorem open_int3 {r : Reach} {b0 : Nat} {v : Value} {d : DataW H} {p : List MemPlace} (hv : Value.okWide Tryd.prog w r b0 3 v) (h : DataW.Trod enc Tryd.prog w base spare held 3 v d p) :
    ∃ n : Int, v = .int .i64 n ∧ -9223372036854775808 ≤ n ∧ n ≤ 9223372036854775807 := by
  obtain ⟨n, rfl⟩ := okWide_int Tryd.underlying3 hv
  obtain ⟨fuel, hf⟩ := h
  obtain ⟨z, hz, _, hs⟩ := DataW.trod_int Tryd.underlying3 hf
  simp only [Value.cells, List.cons.injEq, and_true] at hz
  injection hz with _ hz
  subst hz
  exact ⟨n, rfl, wf_i64 hs⟩
end

end Go.Proofs.YtbadkkilblgpmaaDoor
