/-
  The document's book of claims: an entry is written over.
-/
import Derived.Test.YtnpmfigcfikdgaaCG
namespace Go.Proofs.Ytnpmfigcfikdgaa
open Go.RowKit Go.Maps

def spliceL : List Value → Nat → List Value → List Value
  | xs, _, [] => xs
  | xs, o, v :: vs => spliceL (xs.set o v) (o + 1) vs
theorem splice_eq : ∀ (vs xs : List Value) (o : Nat), o + vs.length ≤ xs.length → spliceL xs o vs = xs.take o ++ vs ++ xs.drop (o + vs.length)
  | [], xs, o, _ => by show xs = _; simp
  | v :: vs, xs, o, h => by
    show spliceL (xs.set o v) (o + 1) vs = _
    simp only [List.length_cons] at h
    rw [splice_eq vs (xs.set o v) (o + 1) (by rw [List.length_set]; omega)]
    have h1 : (xs.set o v).take (o + 1) = xs.take o ++ [v] := by
      rw [List.take_add_one, List.getElem?_set_self (by omega), List.take_set_of_le (Nat.le_refl _)]
      rfl
    have h2 : (xs.set o v).drop (o + 1 + vs.length) = xs.drop (o + (vs.length + 1)) := by
      rw [List.drop_set_of_lt (by omega)]
      congr 1
      omega
    rw [h1, h2, List.length_cons]
    simp
theorem set_split {α : Type} {L : List α} {i : Nat} (h : i < L.length) (x : α) : L.set i x = L.take i ++ x :: L.drop (i + 1) := List.set_eq_take_append_cons_drop.trans (by rw [if_pos h])
theorem splice_ent {L : List Ent} {i : Nat} {e : Ent} (h : L[i]? = some e) (c : Cl) : spliceL (L.flatMap entCells) (i * 37) c.cells = (L.set i ⟨c, e.t⟩).flatMap entCells := by
  have hi := (List.getElem?_eq_some_iff.1 h).1
  have hl := flat_len entCells 37 entCells_len L
  rw [splice_eq _ _ _ (by rw [hl, c.len]; omega), c.len, set_split hi, List.flatMap_append, List.flatMap_cons, flat_take, flat_drop]
  have h3 : (L.flatMap entCells).drop (i * 37 + 36) = .int .i64 e.t :: (L.flatMap entCells).drop ((i + 1) * 37) := by
    have h4 : (L.flatMap entCells)[i * 37 + 36]? = some (.int .i64 e.t) := by
      rw [flat_get entCells 37 entCells_len L i 36 e h (by omega)]
      unfold entCells
      rw [List.getElem?_append_right (by rw [e.c.len]; exact Nat.le_refl _), e.c.len]; rfl
    obtain ⟨h5, h6⟩ := List.getElem?_eq_some_iff.1 h4
    rw [List.drop_eq_getElem_cons h5, h6, show i * 37 + 36 + 1 = (i + 1) * 37 by omega]
  rw [h3]
  unfold entCells
  simp
theorem own_setCells {base size n cap g : Nat} {T : TypeId} : ∀ (vs : List Value) {w : World} {xs : List Value} (o : Nat), w.ownsRow base T size (.slice (some ⟨g, 0, none⟩) n cap) n xs →
    (w.setCells g o vs).ownsRow base T size (.slice (some ⟨g, 0, none⟩) n cap) n (spliceL xs o vs)
  | [], _, _, _, h => h
  | v :: vs, _, _, o, h => own_setCells vs (o + 1) (h.stored o v).1
theorem blk_setCells {b g : Nat} {cs : Array Value} {T : TypeId} (hne : b ≠ g) : ∀ (vs : List Value) {w : World} (o : Nat), Blk w b cs T → Blk (w.setCells g o vs) b cs T
  | [], _, _, h => h
  | v :: vs, _, o, h => blk_setCells hne vs (o + 1) (h.setOther ⟨g, o, none⟩ v hne)
theorem own_setCells_other {base size n g : Nat} {T : TypeId} {v : Value} {xs : List Value} (hne : v.ownBlock = none ∨ v.ownBlock ≠ some g) : ∀ (vs : List Value) {w : World} (o : Nat), w.ownsRow base T size v n xs → (w.setCells g o vs).ownsRow base T size v n xs
  | [], _, _, h => h
  | x :: vs, w, o, h => own_setCells_other hne vs (o + 1) (h.kept (w' := w.setCell ⟨g, o, none⟩ x) (row := some g) ⟨rfl, rfl, rfl, by simp, fun k _ hk => heap_setCell_other w ⟨g, o, none⟩ k x (fun e => hk (by simp [e]))⟩ hne)
theorem kept_setCells {S : Nat → Prop} {u : World} {g : Nat} (hg : S g ∨ u.heap.size ≤ g) : ∀ (vs : List Value) {v : World} (o : Nat), Kept S u v → Kept S u (v.setCells g o vs)
  | [], _, _, h => h
  | x :: vs, _, o, h => kept_setCells hg vs (o + 1) (h.setCell ⟨g, o, none⟩ x hg)
/-- The claim of an entry is written over. -/
theorem RkAt.putCl {w : World} {p : Nat} {r : Rk} {v5 : Value} {g cap i : Nat} {e : Ent} (h : RkAt w p r v5 (.slice (some ⟨g, 0, none⟩) r.ot.length cap)) (hi : r.ot[i]? = some e) (c : Cl) :
    RkAt (w.setCells g (i * 37) c.cells) p { r with ot := r.ot.set i ⟨c, e.t⟩ } v5 (.slice (some ⟨g, 0, none⟩) r.ot.length cap) := by
  have hg := (h.ot.lt g rfl).1
  refine ⟨blk_setCells (by omega) _ _ h.hd, own_setCells_other ?_ _ _ h.ow, ?_⟩
  · rcases own_apartE h.ot h.ow (by decide) with h2 | h2
    · exact .inl h2
    · exact .inr h2
  · have h2 := own_setCells c.cells (i * 37) h.ot
    rw [splice_ent hi] at h2
    simp only [List.length_set]
    exact h2
theorem RkAt.putT {w : World} {p : Nat} {r : Rk} {v5 : Value} {g cap i : Nat} {e : Ent} (h : RkAt w p r v5 (.slice (some ⟨g, 0, none⟩) r.ot.length cap)) (hi : r.ot[i]? = some e) (t : Int) :
    RkAt (w.setCell ⟨g, i * 37 + 36, none⟩ (.int .i64 t)) p { r with ot := r.ot.set i ⟨e.c, t⟩ } v5 (.slice (some ⟨g, 0, none⟩) r.ot.length cap) := by
  have hg := (h.ot.lt g rfl).1
  have hgr : w.grownBy (w.setCell ⟨g, i * 37 + 36, none⟩ (.int .i64 t)) (some g) := (h.ot.stored _ _).2
  refine ⟨h.hd.setOther _ _ (by show p ≠ g; omega), h.ow.kept hgr ?_, ?_⟩
  · rcases own_apartE h.ot h.ow (by decide) with h2 | h2
    · exact .inl h2
    · exact .inr h2
  · have h2 := (h.ot.stored (i * 37 + 36) (.int .i64 t)).1
    rw [flat_set entCells 37 entCells_len r.ot i 36 e ⟨e.c, t⟩ _ hi (by omega) (by
      unfold entCells
      rw [List.set_append_right _ _ (by rw [e.c.len]; exact Nat.le_refl _), e.c.len]
      rfl)] at h2
    simp only [List.length_set]
    exact h2
theorem RkAt.there {w : World} {p : Nat} {r : Rk} {v5 : Value} {g cap i : Nat} {e : Ent} (h : RkAt w p r v5 (.slice (some ⟨g, 0, none⟩) r.ot.length cap)) (hi : r.ot[i]? = some e) : w.there g (i * 37) 36 ∧ (w.cell? ⟨g, i * 37 + 36, none⟩ = some (.int .i64 e.t) ∧ w.frozen? ⟨g, i * 37 + 36, none⟩ = false) := by
  obtain ⟨b, c, hv, -, -, hr⟩ := rows_at h.ot hi
  injection hv with e1 _ _
  injection e1 with e1
  injection e1 with e1 _ _
  subst e1
  refine ⟨fun j hj => ⟨?_, h.ot.frozenAt _⟩, ent_t hr, h.ot.frozenAt _⟩
  have hc := ent_cl hr
  obtain ⟨v, hv⟩ : ∃ v, e.c.cells[j]? = some v := ⟨_, List.getElem?_eq_getElem (by rw [e.c.len]; exact hj)⟩
  rw [hc j v hv]
  rfl
end Go.Proofs.Ytnpmfigcfikdgaa
