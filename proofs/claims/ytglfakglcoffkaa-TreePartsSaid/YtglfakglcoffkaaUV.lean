/-
  Trees that came in, with what their data weigh.
-/
import Derived.Test.YtglfakglcoffkaaTV
import Derived.Test.YtglfakglcoffkaaTVV
import Derived.SizedLaws
namespace Go.Proofs.Ytglfakglcoffkaa
open Go.ChangeShapes Go.WideShapes Go.ChangeAt Go.RowKit
open Go.WideMaps Go.WideElems

/-- A datum of type t weighs n at some place. -/
def Wgh {H : Type} (t : TypeId) (d : DataW H) (n : Nat) : Prop := n = 0 ∨ ∃ m ∈ DataW.weights Try.prog t d, n ≤ m
theorem wgh_all {H : Type} {e : TypeId} {n : Nat} : ∀ {l : List (DataW H)} {d : DataW H}, d ∈ l → Wgh e d n → n = 0 ∨ ∃ m ∈ DataW.weightsAll Try.prog e l, n ≤ m
  | x :: r, d, hd, h => by
    rcases h with h | ⟨m, hm, hn⟩
    · exact .inl h
    · rcases List.mem_cons.1 hd with rfl | h
      · exact .inr ⟨m, by simp only [DataW.weightsAll, List.mem_append]; exact .inl hm, hn⟩
      · rcases wgh_all h (.inr ⟨m, hm, hn⟩) with h2 | ⟨m2, h2, h3⟩
        · exact .inl h2
        · exact .inr ⟨m2, by simp only [DataW.weightsAll, List.mem_append]; exact .inr h2, h3⟩
theorem bytes5 : Try.prog.bytesOf 5 = 1 := by kernel_rfl
theorem bytes38 : Try.prog.bytesOf 38 = 40 := by kernel_rfl

section
variable {H : Type} {enc : TypeId × Value → H} {w : World} {base : Nat} {spare : Nat → Bool} {held : Bool}
/-- A row of bytes that came in, weighed. -/
theorem open_prt4 (fuel : Nat) (vs : List Value) (x) (hf : DataW.trod enc Try.prog w base spare held fuel 22 vs = some x) :
    ∃ p : Prt, (p.ok w ∧ p.c ≤ maxLen ∧ (p.A = none → p.x.length = 0 ∧ p.c = 0)) ∧ Wgh 22 x.1 p.x.length ∧ vs = [p.val] := by
  obtain ⟨A, L, c, rfl, hc, hcm, _, hrow, hnil, hd⟩ := trod_rows u8Cells (fun _ => True) (fun _ _ => True) Try.underlying22 (k := 1) (by kernel_rfl) (by omega)
    (fun n cs x h => by obtain ⟨a, h1, h2⟩ := open_u8 n cs x h; exact ⟨a, h1, trivial, h2⟩) hf
  refine ⟨⟨A, L, c⟩, ⟨⟨txt_of_rows hrow, hc⟩, hcm, hnil⟩, ?_, rfl⟩
  rcases hd with ⟨_, rfl⟩ | ⟨ds, rest, he, hl, _⟩
  · exact .inl rfl
  · rw [he]
    refine .inr ⟨(ds.length + rest.length) * Try.prog.bytesOf 5, by simp [DataW.weights, Try.underlying22], ?_⟩
    rw [bytes5]
    show L.length ≤ _
    omega
set_option maxRecDepth 100000 in
theorem open_fil4 (n : Nat) (cs : List Value) (x) (h : DataW.trod enc Try.prog w base spare held n 38 cs = some x) : ∃ f : Fil, f.ok w ∧ Wgh 38 x.1 f.x.length ∧ cs = filCells f := by
  obtain ⟨xs, m, _, hx, hlen, hxl, hf⟩ := DataW.trod_struct Try.underlying38 h
  have h38 : Try.prog.cellsOf 38 = 2 := by kernel_rfl
  rw [h38] at hlen
  have hxl : xs.length = 2 := hxl
  obtain ⟨s, e0, w0⟩ := field_str Try.underlying9 (by omega) (by kernel_rfl) (hf 0 _ rfl)
  match xs, hxl with
  | [y0, y1], _ =>
  have h1 : DataW.trod enc Try.prog w base spare held m 22 ((cs.drop 1).take (Try.prog.cellsOf 22)) = some y1 := hf 1 _ rfl
  rw [show Try.prog.cellsOf 22 = 1 by kernel_rfl] at h1
  obtain ⟨p, ⟨hok, hcm, hnil⟩, hwg, e1⟩ := open_prt4 m _ y1 h1
  refine ⟨⟨s, p.A, p.x, p.c⟩, ⟨hok.1, hok.2, w0, Nat.le_trans hcm (by unfold maxLen; decide), hnil⟩, ?_, ?_⟩
  · rw [hx]
    rcases hwg with h | ⟨k, hk, hn⟩
    · exact .inl h
    · exact .inr ⟨k, by simp only [DataW.weights, Try.underlying38, List.map_cons, List.map_nil]; simp [DataW.weightsEach]; exact .inr hk, hn⟩
  · match cs, hlen with
    | [c0, c1], _ =>
      simp at e0 e1
      subst e0 e1
      rfl
theorem open_tree4 (n : Nat) (vs : List Value) (x) (h : DataW.trod enc Try.prog w base spare held n 25 vs = some x) :
    ∃ (A : Option Addr) (L : List Fil) (c : Nat), vs = [.slice A L.length c] ∧ TreeAt w A L ∧ L.length ≤ 9223372036854775807 ∧ Wgh 25 x.1 (L.length * 40) ∧ ∀ f ∈ L, Wgh 25 x.1 f.x.length := by
  obtain ⟨A, L, c, hvs, hc, hcm, hok, hrow, hnil, hd⟩ := trod_rows filCells (fun f => f.ok w) (fun d f => Wgh 38 d f.x.length) Try.underlying25 (k := 2) (by kernel_rfl) (by omega)
    (fun n cs x h => by obtain ⟨y, h1, h2, h3⟩ := open_fil4 n cs x h; exact ⟨y, h1, h2, h3⟩) h
  have hm : maxLen ≤ 9223372036854775807 := by unfold maxLen; decide
  refine ⟨A, L, c, hvs, ⟨hrow, hok⟩, by omega, ?_, ?_⟩
  · rcases hd with ⟨_, rfl⟩ | ⟨ds, rest, he, hl, _⟩
    · exact .inl rfl
    · rw [he]
      refine .inr ⟨(ds.length + rest.length) * Try.prog.bytesOf 38, by simp [DataW.weights, Try.underlying25], ?_⟩
      rw [bytes38]
      omega
  · intro f hf
    rcases hd with ⟨_, rfl⟩ | ⟨ds, rest, he, hl, hw⟩
    · cases hf
    · rw [he]
      obtain ⟨i, hi, hif⟩ := List.getElem_of_mem hf
      have hw' := hw i (ds[i]'(by omega)) f (List.getElem?_eq_getElem (by omega)) (by rw [List.getElem?_eq_getElem hi, hif])
      rcases wgh_all (List.getElem_mem (by omega)) hw' with h2 | ⟨m2, h2, h3⟩
      · exact .inl h2
      · exact .inr ⟨m2, by simp only [DataW.weights, Try.underlying25, List.mem_cons, List.mem_append]; exact .inr (.inl h2), h3⟩
theorem open_treeV {r : Reach} {b0 : Nat} {v : Value} {d : DataW H} {p : List MemPlace} (hv : Value.okWide Try.prog w r b0 25 v) (h : DataW.Trod enc Try.prog w base spare held 25 v d p) :
    ∃ (A : Option Addr) (L : List Fil) (c : Nat), v = .slice A L.length c ∧ TreeAt w A L ∧ Wgh 25 d (L.length * 40) ∧ ∀ f ∈ L, Wgh 25 d f.x.length := by
  obtain ⟨a0, len, cap, rfl⟩ := okWide_slice Try.underlying25 hv
  obtain ⟨fuel, hf⟩ := h
  obtain ⟨A, L, c, hvs, h1, _, h2, h3⟩ := open_tree4 fuel _ _ hf
  simp only [Value.cells, List.cons.injEq, and_true] at hvs
  exact ⟨A, L, c, hvs, h1, h2, h3⟩
end

end Go.Proofs.Ytglfakglcoffkaa
