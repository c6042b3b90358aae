/-
  Package sha: Parts.
-/
import Derived.Test.YtglfakglcoffkaaDoorE2
namespace Go.Proofs.YtglfakglcoffkaaDoor
open Go.RowKit

/-- A part: a slice of bytes. -/
structure Prt where
  A : Option Addr
  x : List UInt8
  c : Nat
instance : Inhabited Prt := ⟨⟨none, [], 0⟩⟩
def Prt.val (p : Prt) : Value := .slice p.A p.x.length p.c
def Prt.ok (w : World) (p : Prt) : Prop := Txt w p.A p.x ∧ p.x.length ≤ p.c
def joined (L : List Prt) : List UInt8 := L.flatMap (·.x)

/-- Parts, as a slice of slices. -/
structure PartsAt (w : World) (A : Option Addr) (L : List Prt) : Prop where
  at_ : 0 < L.length → ∃ b off, A = some ⟨b, off, none⟩ ∧ b < w.heap.size ∧ ∀ i p, L[i]? = some p → w.cell? ⟨b, off + i, none⟩ = some p.val
  all : ∀ p ∈ L, p.ok w
theorem PartsAt.chg {w w' : World} {A : Option Addr} {L : List Prt} (h : PartsAt w A L) (g : Chg none w w') : PartsAt w' A L :=
  ⟨fun h0 => by
    obtain ⟨b, off, e, hlt, hc⟩ := h.at_ h0
    exact ⟨b, off, e, Nat.lt_of_lt_of_le hlt g.size, fun i p hp => World.grownBy.cell g (hc i p hp) (by simp)⟩,
   fun p hp => ⟨(h.all p hp).1.chg g, (h.all p hp).2⟩⟩
theorem joined_take (L : List Prt) (k : Nat) (h : k < L.length) : joined (L.take (k + 1)) = joined (L.take k) ++ (L[k]).x := by
  rw [List.take_succ_eq_append_getElem h]
  unfold joined
  rw [List.flatMap_append, List.flatMap_cons, List.flatMap_nil, List.append_nil]
theorem joined_take_le (L : List Prt) (k : Nat) : (joined (L.take k)).length ≤ (joined L).length := by
  have h : joined L = joined (L.take k) ++ joined (L.drop k) := by
    unfold joined
    rw [← List.flatMap_append, List.take_append_drop]
  rw [h, List.length_append]; omega


end Go.Proofs.YtglfakglcoffkaaDoor
