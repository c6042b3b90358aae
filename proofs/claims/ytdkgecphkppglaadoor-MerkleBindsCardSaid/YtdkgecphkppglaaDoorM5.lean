/-
  Rows of digests in memory.
-/
import Derived.Test.YtdkgecphkppglaaDoorM4
namespace Go.Proofs.YtdkgecphkppglaaDoor
open Go.RowKit

/-- Thirty-two bytes. -/
abbrev Dg := { d : List UInt8 // d.length = 32 }
def dgCells (d : Dg) : List Value := byteVals d.1
theorem dgCells_len (d : Dg) : (dgCells d).length = 32 := by unfold dgCells; rw [byteVals_len]; exact d.2
def zeroDg : Dg := ⟨zeros 32, by decide⟩
instance : Inhabited Dg := ⟨zeroDg⟩
def flat (L : List Dg) : List Value := L.flatMap dgCells
theorem flat_length (L : List Dg) : (flat L).length = L.length * 32 := flat_len dgCells 32 dgCells_len L
theorem flat_append (L M : List Dg) : flat (L ++ M) = flat L ++ flat M := by unfold flat; rw [List.flatMap_append]
theorem flat_range {w : World} {b : Nat} {L : List Dg} {T : TypeId} (h : BlkL w b (flat L) T) (i : Nat) (hi : i < L.length) : w.rangeAt b (i * 32) (dgCells L[i]) := fun j v hj => by
  have hj32 : j < 32 := by have := (List.getElem?_eq_some_iff.1 hj).1; rwa [dgCells_len] at this
  rw [BlkL.cell h, ← hj]
  exact flat_get dgCells 32 dgCells_len L i j _ (List.getElem?_eq_getElem hi) hj32
theorem flat_splice (L : List Dg) (i : Nat) (d : Dg) (hi : i < L.length) : splice (flat L) (i * 32) (dgCells d) = flat (L.set i d) := by
  have h1 : L = L.take i ++ L[i] :: L.drop (i + 1) := by rw [← List.drop_eq_getElem_cons hi, List.take_append_drop]
  have hl : (flat (L.take i)).length = i * 32 := by rw [flat_length, List.length_take]; congr 1; omega
  have hs : L.set i d = L.take i ++ d :: L.drop (i + 1) := List.set_eq_take_append_cons_drop.trans (by rw [if_pos hi])
  rw [hs]
  conv => lhs; rw [h1]
  have hc : ∀ (e : Dg) (M : List Dg), flat (e :: M) = dgCells e ++ flat M := fun e M => List.flatMap_cons
  rw [flat_append, flat_append, hc, hc]
  unfold splice
  rw [← hl, List.take_left, List.drop_append, List.drop_eq_nil_of_le (by omega), List.nil_append, dgCells_len, Nat.add_sub_cancel_left, List.drop_append, dgCells_len, Nat.sub_self,
    List.drop_eq_nil_of_le (by rw [dgCells_len]; exact Nat.le_refl _), List.nil_append, List.drop_zero]

theorem blk_setCells {T : TypeId} (b : Nat) : ∀ (vs : List Value) (o : Nat) (cs : List Value) (w : World), BlkL w b cs T → o + vs.length ≤ cs.length → BlkL (w.setCells b o vs) b (splice cs o vs) T
  | [], o, cs, w, h, _ => by
    have : splice cs o [] = cs := by simp [splice]
    rw [this]; exact h
  | v :: vs, o, cs, w, h, hl => by
    rw [List.length_cons] at hl
    have h2 := blk_setCells b vs (o + 1) (cs.set o v) (w.setCell ⟨b, o, none⟩ v) (BlkL.set h o v) (by rw [List.length_set]; omega)
    have e : splice (cs.set o v) (o + 1) vs = splice cs o (v :: vs) := by
      unfold splice
      have e1 : (cs.set o v).take (o + 1) = cs.take o ++ [v] := by
        rw [List.take_succ_eq_append_getElem (by rw [List.length_set]; omega), List.getElem_set_self, List.take_set_of_le (Nat.le_refl _)]
      rw [e1, List.drop_set_of_lt (by omega), List.length_cons, List.append_assoc, List.singleton_append, List.cons_append, show o + 1 + vs.length = o + (vs.length + 1) by omega]
    rw [← e]
    exact h2
theorem chg_setCells (b : Nat) : ∀ (vs : List Value) (o : Nat) (w : World), Chg (some b) w (w.setCells b o vs)
  | [], _, _w => Chg.refl _ _
  | v :: vs, o, w => ((Chg.refl _ w).setCell o v).trans (chg_setCells b vs (o + 1) _)
theorem there_of_blk {w : World} {b : Nat} {cs : List Value} {T : TypeId} (h : BlkL w b cs T) (o n : Nat) (hn : o + n ≤ cs.length) : w.there b o n := fun j hj => by
  refine ⟨?_, Blk.frozen h _⟩
  rw [BlkL.cell h, List.getElem?_eq_getElem (by omega)]; rfl

end Go.Proofs.YtdkgecphkppglaaDoor
