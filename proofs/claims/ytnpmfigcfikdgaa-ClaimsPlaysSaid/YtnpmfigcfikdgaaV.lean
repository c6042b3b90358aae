/-
  Claims and calls as they come in: opened.
-/
import Derived.Test.YtnpmfigcfikdgaaI
import Derived.Test.YtnpmfigcfikdgaaW
namespace Go.Proofs.Ytnpmfigcfikdgaa
open Go.ChangeShapes Go.WideShapes Go.ChangeAt Go.RowKit
open Go.WideMaps Go.WideElems

theorem Try.own : ownKnob Try.prog.godebug = none := by kernel_rfl

theorem bytes_of {L : List Value} (h : ∀ i, i < L.length → ∃ b : Int, L[i]? = some (.int .u8 b) ∧ 0 ≤ b ∧ b ≤ 255) : ∃ bs : List Int, L = bs.map (fun b => .int .u8 b) ∧ ∀ b ∈ bs, 0 ≤ b ∧ b ≤ 255 := by
  induction L with
  | nil => exact ⟨[], rfl, by simp⟩
  | cons v L ih =>
    obtain ⟨b, hb, hb1⟩ := h 0 (by simp)
    obtain ⟨bs, rfl, hbs⟩ := ih (fun i hi => by
      obtain ⟨b', h1, h2⟩ := h (i + 1) (by simp only [List.length_cons]; omega)
      exact ⟨b', by simpa using h1, h2⟩)
    simp at hb
    subst hb
    exact ⟨b :: bs, rfl, by
      intro x hx
      rcases List.mem_cons.1 hx with rfl | hx
      · exact hb1
      · exact hbs x hx⟩

theorem wf_i64 {b : Int} (h : (Lit.int .i64 b).wf = true) : I64 b := by
  simpa [Lit.wf, IntKind.min, IntKind.max, IntKind.signed, IntKind.bits, I64] using h
theorem wf_u64 {b : Int} (h : (Lit.int .u64 b).wf = true) : U64 b := by
  simpa [Lit.wf, IntKind.min, IntKind.max, IntKind.signed, IntKind.bits, U64] using h
theorem wf_u8 {b : Int} (h : (Lit.int .u8 b).wf = true) : 0 ≤ b ∧ b ≤ 255 := by
  simpa [Lit.wf, IntKind.min, IntKind.max, IntKind.signed, IntKind.bits] using h

def Cl.wide (c : Cl) : Prop := I64 c.node ∧ U64 c.inc ∧ U64 c.count
theorem Cl.len (c : Cl) : c.cells.length = 36 := clCells_len _ _ _ _ _
instance : Inhabited Dig := ⟨⟨List.replicate 32 0, by simp, by intro b hb; rw [List.eq_of_mem_replicate hb]; omega⟩⟩
instance : Inhabited Cl := ⟨⟨default, 0, 0, 0, false⟩⟩

section
variable {H : Type} {enc : TypeId × Value → H} {w : World} {base : Nat} {spare : Nat → Bool} {held : Bool}

theorem field_int {k : IntKind} {t : TypeId} (ht : Try.prog.underlying t = some (.int k)) {cs : List Value} {xs : List (DataW H × List MemPlace)} {n i off : Nat} (hi : i < xs.length) (hc : Try.prog.cellsOf t = 1)
    (h : DataW.trod enc Try.prog w base spare held n t ((cs.drop off).take (Try.prog.cellsOf t)) = xs[i]?) : ∃ b : Int, (cs.drop off).take 1 = [.int k b] ∧ (Lit.int k b).wf = true := by
  rw [List.getElem?_eq_getElem hi, hc] at h
  obtain ⟨b, hb, _, hw⟩ := DataW.trod_int ht h
  exact ⟨b, hb, hw⟩

theorem open_dig (n : Nat) (cs : List Value) (x) (h : DataW.trod enc Try.prog w base spare held n 31 cs = some x) : ∃ d : Dig, cs = d.cells := by
  obtain ⟨xs, m, _, _, hlen, hxl, hf⟩ := DataW.trod_array Try.underlying31 h
  have h31 : Try.prog.cellsOf 31 = 32 := by kernel_rfl
  have h5 : Try.prog.cellsOf 5 = 1 := by kernel_rfl
  rw [h31] at hlen
  obtain ⟨bs, rfl, hbs⟩ := bytes_of (L := cs) (fun i hi => by
    have hh := hf i (by omega)
    rw [h5, Nat.mul_one] at hh
    have hx : i < xs.length := by omega
    rw [List.getElem?_eq_getElem hx] at hh
    obtain ⟨b, hb, _, hw⟩ := DataW.trod_int Try.underlying5 hh
    refine ⟨b, ?_, wf_u8 hw⟩
    have : ((cs.drop i).take 1)[0]? = some (.int .u8 b) := by rw [hb]; rfl
    simpa [List.getElem?_take, List.getElem?_drop] using this)
  exact ⟨⟨bs, by simpa using hlen, hbs⟩, rfl⟩

theorem one_at {cs : List Value} {i : Nat} {v : Value} (h : (cs.drop i).take 1 = [v]) : cs[i]? = some v := by
  have : ((cs.drop i).take 1)[0]? = some v := by rw [h]; rfl
  simpa [List.getElem?_take, List.getElem?_drop] using this

set_option maxRecDepth 100000 in
theorem open_cl (n : Nat) (cs : List Value) (x) (h : DataW.trod enc Try.prog w base spare held n 33 cs = some x) : ∃ c : Cl, c.wide ∧ cs = c.cells := by
  obtain ⟨xs, m, _, _, hlen, hxl, hf⟩ := DataW.trod_struct Try.underlying33 h
  have h33 : Try.prog.cellsOf 33 = 36 := by kernel_rfl
  have h31 : Try.prog.cellsOf 31 = 32 := by kernel_rfl
  have h4 : Try.prog.cellsOf 4 = 1 := by kernel_rfl
  rw [h33] at hlen
  have hxl : xs.length = 5 := hxl
  have h0 := hf 0 _ rfl
  rw [List.getElem?_eq_getElem (show 0 < xs.length by omega)] at h0
  obtain ⟨d, e0⟩ := open_dig _ _ _ h0
  have e0 : (cs.drop 0).take (Try.prog.cellsOf 31) = d.cells := e0
  rw [h31] at e0
  obtain ⟨b1, e1, w1⟩ := field_int Try.underlying3 (by omega) (by kernel_rfl) (hf 1 _ rfl)
  obtain ⟨b2, e2, w2⟩ := field_int Try.underlying22 (by omega) (by kernel_rfl) (hf 2 _ rfl)
  obtain ⟨b3, e3, w3⟩ := field_int Try.underlying22 (by omega) (by kernel_rfl) (hf 3 _ rfl)
  have h4' : DataW.trod enc Try.prog w base spare held m 4 ((cs.drop 35).take (Try.prog.cellsOf 4)) = xs[4]? := hf 4 _ rfl
  rw [List.getElem?_eq_getElem (show 4 < xs.length by omega), h4] at h4'
  obtain ⟨g, e4, _⟩ := DataW.trod_bool Try.underlying4 h4'
  refine ⟨⟨d, b1, b2, b3, g⟩, ⟨wf_i64 w1, wf_u64 w2, wf_u64 w3⟩, ?_⟩
  have a1 := one_at e1
  have a2 := one_at e2
  have a3 := one_at e3
  have a4 := one_at e4
  apply List.ext_getElem?
  intro i
  show cs[i]? = (clCells d b1 b2 b3 g)[i]?
  have ht := cl_at d b1 b2 b3 g
  simp only [List.getElem?_toArray] at ht
  obtain ⟨t1, t2, t3, t4⟩ := ht
  rcases Nat.lt_or_ge i 32 with hi | hi
  · have : cs[i]? = ((cs.drop 0).take 32)[i]? := by simp [hi]
    rw [this]
    have e0' : (cs.drop 0).take 32 = d.cells := e0
    rw [e0']
    unfold clCells
    rw [List.getElem?_append_left (by rw [d.cells_len]; exact hi)]
  · rcases Nat.lt_or_ge i 36 with hi2 | hi2
    · have : i = 32 ∨ i = 33 ∨ i = 34 ∨ i = 35 := by omega
      rcases this with rfl | rfl | rfl | rfl
      · rw [t1]; exact a1
      · rw [t2]; exact a2
      · rw [t3]; exact a3
      · rw [t4]; exact a4
    · rw [List.getElem?_eq_none (by omega), List.getElem?_eq_none (by rw [clCells_len]; omega)]

/-- A claim, handed over by value. -/
theorem open_cl_val {r : Reach} {b0 : Nat} {v : Value} {d : DataW H} {p : List MemPlace} (hv : Value.okWide Try.prog w r b0 33 v) (h : DataW.Trod enc Try.prog w base spare held 33 v d p) :
    ∃ c : Cl, c.wide ∧ v = .agg c.cells.toArray := by
  obtain ⟨cs, rfl, hsz⟩ := okWide_struct Try.underlying33 hv
  obtain ⟨fuel, hf⟩ := h
  obtain ⟨c, hc, he⟩ := open_cl fuel _ _ hf
  refine ⟨c, hc, ?_⟩
  have : cs.toList = c.cells := he
  congr 1
  apply Array.toList_inj.1
  rw [this]
end

end Go.Proofs.Ytnpmfigcfikdgaa
