/-
  Package adverts: sets in memory of their own, one and two; results that came in.
-/
import Derived.Test.YtkcammaccgkflaaDoorSV
import Derived.Test.YtkcammaccgkflaaDoorZD
namespace Go.Proofs.YtkcammaccgkflaaDoor
open Go.RowKit

theorem SetAt.mono {w : World} {B B' p : Nat} {A : Option Addr} {c : Nat} {L : List Att} (h : SetAt w B p A c L) (hb : B' ≤ B) : SetAt w B' p A c L := ⟨h.hd, Nat.le_trans hb h.low, own_base h.ow hb⟩
theorem SetAt.fresh {u : World} {B p : Nat} {A : Option Addr} {c : Nat} {L : List Att} (h : SetAt u B p A c L) (g : Nat) (hg : setS p A g) : B ≤ g ∧ g < u.heap.size := by
  rcases hg with rfl | hg
  · exact ⟨h.low, Blk.lt h.hd⟩
  · rcases h.ow.2 with ⟨e1, -⟩ | ⟨g', cap, cur, e1, hb, hgg, -⟩
    · injection e1 with e1 _ _; rw [hg] at e1; cases e1
    · injection e1 with e1 _ _
      rw [hg] at e1
      injection e1 with e1
      injection e1 with e1 _ _
      subst e1
      exact ⟨hb, (Array.getElem?_eq_some_iff.1 hgg).1⟩
/-- A set in memory that is new since w. -/
def SetNew (w w' : World) (p : Nat) (L : List Att) : Prop := ∃ A c, SetAt w' w.heap.size p A c L ∧ Chg none w w'
theorem SetNew.chg {w u v : World} {p : Nat} {L : List Att} (h : SetNew w u p L) (g : Chg none u v) : SetNew w v p L := by
  obtain ⟨A, c, h1, h2⟩ := h
  exact ⟨A, c, h1.chg g, h2.trans g⟩
theorem AddP.new {w u w' : World} {p c : Nat} {A : Option Addr} {L : List Att} {a : Att} {e : Ending} (h : SetAt u w.heap.size p A c L) (g : Chg none w u) (k : AddP u w.heap.size p A L a e w') : e = .returned (.int .i64 (addM L a).2) ∧ SetNew w w' p (addM L a).1 := by
  obtain ⟨h1, A', c', h2, h3, -⟩ := k
  exact ⟨h1, A', c', h2, Kept.fresh g h3 fun i hi => (h.fresh i hi).1⟩
/-- Two sets in memory that is new since w, and not one another's. -/
def Two (w w' : World) (p : Nat) (L : List Att) (q : Nat) (M : List Att) : Prop :=
  ∃ A c A' c', SetAt w' w.heap.size p A c L ∧ SetAt w' w.heap.size q A' c' M ∧ (∀ g, setS p A g → ¬ setS q A' g) ∧ Chg none w w'
theorem Two.chg {w u v : World} {p q : Nat} {L M : List Att} (h : Two w u p L q M) (g : Chg none u v) : Two w v p L q M := by
  obtain ⟨A, c, A', c', h1, h2, h3, h4⟩ := h
  exact ⟨A, c, A', c', h1.chg g, h2.chg g, h3, h4.trans g⟩
theorem Two.swap {w u : World} {p q : Nat} {L M : List Att} (h : Two w u p L q M) : Two w u q M p L := by
  obtain ⟨A, c, A', c', h1, h2, h3, h4⟩ := h
  exact ⟨A', c', A, c, h2, h1, fun g a b => h3 g b a, h4⟩
theorem set_addr {w : World} {B p : Nat} {A : Option Addr} {c : Nat} {L : List Att} (h : SetAt w B p A c L) {g : Nat} (hA : ∃ x, w.heap[g]? = some (.cells x 82 (0, 0))) : A ≠ some ⟨g, 0, none⟩ := fun e => by
  obtain ⟨x, hx⟩ := hA
  rcases h.ow.2 with ⟨e1, -⟩ | ⟨g', cap, cur, e1, -, hgg, -⟩
  · injection e1 with e1 _ _; rw [e] at e1; cases e1
  · injection e1 with e1 _ _
    rw [e] at e1
    injection e1 with e1
    injection e1 with e1 _ _
    subst e1
    rw [hx] at hgg
    injection hgg with hgg
    injection hgg with _ e2 _
    cases e2
theorem AddP.two {w u w' : World} {p q c c2 : Nat} {A A2 : Option Addr} {L M : List Att} {a : Att} {e : Ending} (h : SetAt u w.heap.size p A c L) (h2 : SetAt u w.heap.size q A2 c2 M) (h3 : ∀ g, setS p A g → ¬ setS q A2 g) (g : Chg none w u)
    (k : AddP u w.heap.size p A L a e w') : e = .returned (.int .i64 (addM L a).2) ∧ Two w w' p (addM L a).1 q M := by
  obtain ⟨h1, A', c', k2, k3, k4⟩ := k
  refine ⟨h1, A', c', A2, c2, k2, h2.kept k3 fun i hi hp => h3 i hp hi, fun i hi hq => ?_, Kept.fresh g k3 fun i hi => (h.fresh i hi).1⟩
  rcases hi with rfl | hi
  · exact h3 _ (.inl rfl) hq
  · rcases k4 with rfl | ⟨g', e1, hg'⟩
    · exact h3 i (.inr hi) hq
    · rw [hi] at e1
      injection e1 with e1
      injection e1 with e1 _ _
      have := (h2.fresh i hq).2
      omega
/-- Results that came in. -/
theorem arg_rows {W : World} {A : Option Addr} {l : List Att} (h : RowsAt W 97 A attCells l) : ∀ k x, l[k]? = some x → ∃ b off, A = some ⟨b, off, none⟩ ∧ ∀ v, Chg none W v → v.rangeAt b (off + k * 97) (attCells x) := fun k x hk => by
  obtain ⟨b, off, e, hlt, hc⟩ := h (fun e => by subst e; cases hk)
  refine ⟨b, off, e, fun v g => rangeAt_chg (fun j y hj => ?_) g (by simp)⟩
  have hj2 : j < 97 := by have := (List.getElem?_eq_some_iff.1 hj).1; rwa [attCells_len] at this
  rw [Nat.add_assoc, hc k x hk j hj2]; exact hj

end Go.Proofs.YtkcammaccgkflaaDoor
