/-
  Trees that came in, with what their data weigh.
-/
import Derived.Test.YtglfakglcoffkaaDoorVT
import Derived.SizedLaws
namespace Go.Proofs.YtglfakglcoffkaaDoor
open Go.ChangeShapes Go.WideShapes Go.ChangeAt Go.RowKit
open Go.WideMaps Go.WideElems

/-- A datum of type t weighs n at some place. -/
def Wgh {H : Type} (t : TypeId) (d : DataW H) (n : Nat) : Prop := n = 0 ∨ ∃ m ∈ DataW.weights Tryd.prog t d, n ≤ m
theorem wgh_all {H : Type} {e : TypeId} {n : Nat} : ∀ {l : List (DataW H)} {d : DataW H}, d ∈ l → Wgh e d n → n = 0 ∨ ∃ m ∈ DataW.weightsAll Tryd.prog e l, n ≤ m
  | x :: r, d, hd, h => by
    rcases h with h | ⟨m, hm, hn⟩
    · exact .inl h
    · rcases List.mem_cons.1 hd with rfl | h
      · exact .inr ⟨m, by simp only [DataW.weightsAll, List.mem_append]; exact .inl hm, hn⟩
      · rcases wgh_all h (.inr ⟨m, hm, hn⟩) with h2 | ⟨m2, h2, h3⟩
        · exact .inl h2
        · exact .inr ⟨m2, by simp only [DataW.weightsAll, List.mem_append]; exact .inr h2, h3⟩
theorem bytes5 : Tryd.prog.bytesOf 5 = 1 := by kernel_rfl
theorem bytes86 : Tryd.prog.bytesOf 86 = 40 := by kernel_rfl

section
variable {H : Type} {enc : TypeId × Value → H} {w : World} {base : Nat} {spare : Nat → Bool} {held : Bool}
/-- A row of bytes that came in, weighed. -/
theorem open_prt4 (fuel : Nat) (vs : List Value) (x) (hf : DataW.trod enc Tryd.prog w base spare held fuel 22 vs = some x) :
    ∃ p : Prt, (p.ok w ∧ p.c ≤ maxLen ∧ (p.A = none → p.x.length = 0 ∧ p.c = 0)) ∧ Wgh 22 x.1 p.x.length ∧ vs = [p.val] := by
  obtain ⟨A, L, c, rfl, hc, hcm, _, hrow, hnil, hd⟩ := trod_rows u8Cells (fun _ => True) (fun _ _ => True) Tryd.underlying22 (k := 1) (by kernel_rfl) (by omega)
    (fun n cs x h => by obtain ⟨a, h1, h2⟩ := open_u8 n cs x h; exact ⟨a, h1, trivial, h2⟩) hf
  refine ⟨⟨A, L, c⟩, ⟨⟨txt_of_rows hrow, hc⟩, hcm, hnil⟩, ?_, rfl⟩
  rcases hd with ⟨_, rfl⟩ | ⟨ds, rest, he, hl, _⟩
  · exact .inl rfl
  · rw [he]
    refine .inr ⟨(ds.length + rest.length) * Tryd.prog.bytesOf 5, by simp [DataW.weights, Tryd.underlying22], ?_⟩
    rw [bytes5]
    show L.length ≤ _
    omega
set_option maxRecDepth 100000 in
theorem open_fil4 (n : Nat) (cs : List Value) (x) (h : DataW.trod enc Tryd.prog w base spare held n 86 cs = some x) : ∃ f : Fil, f.ok w ∧ Wgh 86 x.1 f.x.length ∧ cs = filCells f := by
  obtain ⟨xs, m, _, hx, hlen, hxl, hf⟩ := DataW.trod_struct Tryd.underlying86 h
  have h38 : Tryd.prog.cellsOf 86 = 2 := by kernel_rfl
  rw [h38] at hlen
  have hxl : xs.length = 2 := hxl
  obtain ⟨s, e0, w0⟩ := field_str Tryd.underlying9 (by omega) (by kernel_rfl) (hf 0 _ rfl)
  match xs, hxl with
  | [y0, y1], _ =>
  have h1 : DataW.trod enc Tryd.prog w base spare held m 22 ((cs.drop 1).take (Tryd.prog.cellsOf 22)) = some y1 := hf 1 _ rfl
  rw [show Tryd.prog.cellsOf 22 = 1 by kernel_rfl] at h1
  obtain ⟨p, ⟨hok, hcm, hnil⟩, hwg, e1⟩ := open_prt4 m _ y1 h1
  refine ⟨⟨s, p.A, p.x, p.c⟩, ⟨hok.1, hok.2, w0, Nat.le_trans hcm (by unfold maxLen; decide), hnil⟩, ?_, ?_⟩
  · rw [hx]
    rcases hwg with h | ⟨k, hk, hn⟩
    · exact .inl h
    · exact .inr ⟨k, by simp only [DataW.weights, Tryd.underlying86, List.map_cons, List.map_nil]; simp [DataW.weightsEach]; exact .inr hk, hn⟩
  · match cs, hlen with
    | [c0, c1], _ =>
      simp at e0 e1
      subst e0 e1
      rfl
theorem open_tree4 (n : Nat) (vs : List Value) (x) (h : DataW.trod enc Tryd.prog w base spare held n 40 vs = some x) :
    ∃ (A : Option Addr) (L : List Fil) (c : Nat), vs = [.slice A L.length c] ∧ TreeAt w A L ∧ L.length ≤ 9223372036854775807 ∧ Wgh 40 x.1 (L.length * 40) ∧ ∀ f ∈ L, Wgh 40 x.1 f.x.length := by
  obtain ⟨A, L, c, hvs, hc, hcm, hok, hrow, hnil, hd⟩ := trod_rows filCells (fun f => f.ok w) (fun d f => Wgh 86 d f.x.length) Tryd.underlying40 (k := 2) (by kernel_rfl) (by omega)
    (fun n cs x h => by obtain ⟨y, h1, h2, h3⟩ := open_fil4 n cs x h; exact ⟨y, h1, h2, h3⟩) h
  have hm : maxLen ≤ 9223372036854775807 := by unfold maxLen; decide
  refine ⟨A, L, c, hvs, ⟨hrow, hok⟩, by omega, ?_, ?_⟩
  · rcases hd with ⟨_, rfl⟩ | ⟨ds, rest, he, hl, _⟩
    · exact .inl rfl
    · rw [he]
      refine .inr ⟨(ds.length + rest.length) * Tryd.prog.bytesOf 86, by simp [DataW.weights, Tryd.underlying40], ?_⟩
      rw [bytes86]
      omega
  · intro f hf
    rcases hd with ⟨_, rfl⟩ | ⟨ds, rest, he, hl, hw⟩
    · cases hf
    · rw [he]
      obtain ⟨i, hi, hif⟩ := List.getElem_of_mem hf
      have hw' := hw i (ds[i]'(by omega)) f (List.getElem?_eq_getElem (by omega)) (by rw [List.getElem?_eq_getElem hi, hif])
      rcases wgh_all (List.getElem_mem (by omega)) hw' with h2 | ⟨m2, h2, h3⟩
      · exact .inl h2
      · exact .inr ⟨m2, by simp only [DataW.weights, Tryd.underlying40, List.mem_cons, List.mem_append]; exact .inr (.inl h2), h3⟩
end

end Go.Proofs.YtglfakglcoffkaaDoor
