/-
  Package program: what an instruction may be (plain).
-/
import Derived.Test.YtbadkkilblgpmaaDoorPF
import Derived.Lib.OthersKept
namespace Go.Proofs.YtbadkkilblgpmaaDoor
open Go.RowKit
open Go.Lib

/-- What the kinds' fields are, by the kind's number. -/
def flds : List (List UInt8) := [[], [112, 112, 45, 45, 45], [112, 112, 112, 45, 45], [112, 112, 45, 110, 110], [112, 119, 118, 45, 45], [112, 45, 45, 45, 45], [112, 112, 45, 45, 45], [112, 112, 45, 45, 45], [45, 45, 45, 108, 45], [112, 45, 45, 108, 45], [112, 112, 45, 108, 45], [45, 45, 45, 45, 45]]
def fldOf (op : Nat) : List UInt8 := flds[op]?.getD []
def kindAt (op k : Nat) : Nat := (((fldOf op)[k]?).getD 0).toNat
/-- Is the field k of x what its kind asks? -/
def okAt (x : Ins) (places : Int) : Nat → Bool
  | 0 => textB (kindAt x.op 0) x.a
  | 1 => textB (kindAt x.op 1) x.b
  | 2 => textB (kindAt x.op 2) x.c
  | 3 => numB (kindAt x.op 3) x.n places
  | 4 => numB (kindAt x.op 4) x.m places
  | _ => true
def insB (x : Ins) (places : Int) : Bool := decide (1 ≤ x.op) && (decide (x.op < 12) && (okAt x places 0 && (okAt x places 1 && (okAt x places 2 && (okAt x places 3 && okAt x places 4)))))

theorem insB_all {x : Ins} {places : Int} (h1 : 1 ≤ x.op) (h2 : x.op < 12) (h : ∀ k, k < 5 → okAt x places k = true) : insB x places = true := by
  unfold insB
  rw [h 0 (by decide), h 1 (by decide), h 2 (by decide), h 3 (by decide), h 4 (by decide), decide_eq_true h1, decide_eq_true h2]
  rfl
theorem insB_no {x : Ins} {places : Int} {k : Nat} (hk : k < 5) (h : okAt x places k = false) : insB x places = false := by
  unfold insB
  match k, hk with
  | 0, _ => rw [h]; simp
  | 1, _ => rw [h]; simp
  | 2, _ => rw [h]; simp
  | 3, _ => rw [h]; simp
  | 4, _ => rw [h]; simp
theorem insB_op {x : Ins} {places : Int} (h : ¬ (1 ≤ x.op ∧ x.op < 12)) : insB x places = false := by
  unfold insB
  by_cases h1 : 1 ≤ x.op
  · rw [decide_eq_false (p := x.op < 12) (fun h2 => h ⟨h1, h2⟩)]; simp
  · rw [decide_eq_false h1]; simp
/-- A kind's fields are five, plain ASCII. -/
theorem flds_five {op : Nat} (h1 : 1 ≤ op) (h2 : op < 12) : (fldOf op).length = 5 ∧ flds[op]? = some (fldOf op) ∧ ∀ k, k < 5 → ∃ c, (fldOf op)[k]? = some c ∧ c.toNat < 128 ∧ c.toNat = kindAt op k := by
  match op, h1, h2 with
  | 1, _, _ => exact ⟨rfl, rfl, fun k hk => by match k, hk with | 0, _ => exact ⟨_, rfl, by decide, rfl⟩ | 1, _ => exact ⟨_, rfl, by decide, rfl⟩ | 2, _ => exact ⟨_, rfl, by decide, rfl⟩ | 3, _ => exact ⟨_, rfl, by decide, rfl⟩ | 4, _ => exact ⟨_, rfl, by decide, rfl⟩⟩
  | 2, _, _ => exact ⟨rfl, rfl, fun k hk => by match k, hk with | 0, _ => exact ⟨_, rfl, by decide, rfl⟩ | 1, _ => exact ⟨_, rfl, by decide, rfl⟩ | 2, _ => exact ⟨_, rfl, by decide, rfl⟩ | 3, _ => exact ⟨_, rfl, by decide, rfl⟩ | 4, _ => exact ⟨_, rfl, by decide, rfl⟩⟩
  | 3, _, _ => exact ⟨rfl, rfl, fun k hk => by match k, hk with | 0, _ => exact ⟨_, rfl, by decide, rfl⟩ | 1, _ => exact ⟨_, rfl, by decide, rfl⟩ | 2, _ => exact ⟨_, rfl, by decide, rfl⟩ | 3, _ => exact ⟨_, rfl, by decide, rfl⟩ | 4, _ => exact ⟨_, rfl, by decide, rfl⟩⟩
  | 4, _, _ => exact ⟨rfl, rfl, fun k hk => by match k, hk with | 0, _ => exact ⟨_, rfl, by decide, rfl⟩ | 1, _ => exact ⟨_, rfl, by decide, rfl⟩ | 2, _ => exact ⟨_, rfl, by decide, rfl⟩ | 3, _ => exact ⟨_, rfl, by decide, rfl⟩ | 4, _ => exact ⟨_, rfl, by decide, rfl⟩⟩
  | 5, _, _ => exact ⟨rfl, rfl, fun k hk => by match k, hk with | 0, _ => exact ⟨_, rfl, by decide, rfl⟩ | 1, _ => exact ⟨_, rfl, by decide, rfl⟩ | 2, _ => exact ⟨_, rfl, by decide, rfl⟩ | 3, _ => exact ⟨_, rfl, by decide, rfl⟩ | 4, _ => exact ⟨_, rfl, by decide, rfl⟩⟩
  | 6, _, _ => exact ⟨rfl, rfl, fun k hk => by match k, hk with | 0, _ => exact ⟨_, rfl, by decide, rfl⟩ | 1, _ => exact ⟨_, rfl, by decide, rfl⟩ | 2, _ => exact ⟨_, rfl, by decide, rfl⟩ | 3, _ => exact ⟨_, rfl, by decide, rfl⟩ | 4, _ => exact ⟨_, rfl, by decide, rfl⟩⟩
  | 7, _, _ => exact ⟨rfl, rfl, fun k hk => by match k, hk with | 0, _ => exact ⟨_, rfl, by decide, rfl⟩ | 1, _ => exact ⟨_, rfl, by decide, rfl⟩ | 2, _ => exact ⟨_, rfl, by decide, rfl⟩ | 3, _ => exact ⟨_, rfl, by decide, rfl⟩ | 4, _ => exact ⟨_, rfl, by decide, rfl⟩⟩
  | 8, _, _ => exact ⟨rfl, rfl, fun k hk => by match k, hk with | 0, _ => exact ⟨_, rfl, by decide, rfl⟩ | 1, _ => exact ⟨_, rfl, by decide, rfl⟩ | 2, _ => exact ⟨_, rfl, by decide, rfl⟩ | 3, _ => exact ⟨_, rfl, by decide, rfl⟩ | 4, _ => exact ⟨_, rfl, by decide, rfl⟩⟩
  | 9, _, _ => exact ⟨rfl, rfl, fun k hk => by match k, hk with | 0, _ => exact ⟨_, rfl, by decide, rfl⟩ | 1, _ => exact ⟨_, rfl, by decide, rfl⟩ | 2, _ => exact ⟨_, rfl, by decide, rfl⟩ | 3, _ => exact ⟨_, rfl, by decide, rfl⟩ | 4, _ => exact ⟨_, rfl, by decide, rfl⟩⟩
  | 10, _, _ => exact ⟨rfl, rfl, fun k hk => by match k, hk with | 0, _ => exact ⟨_, rfl, by decide, rfl⟩ | 1, _ => exact ⟨_, rfl, by decide, rfl⟩ | 2, _ => exact ⟨_, rfl, by decide, rfl⟩ | 3, _ => exact ⟨_, rfl, by decide, rfl⟩ | 4, _ => exact ⟨_, rfl, by decide, rfl⟩⟩
  | 11, _, _ => exact ⟨rfl, rfl, fun k hk => by match k, hk with | 0, _ => exact ⟨_, rfl, by decide, rfl⟩ | 1, _ => exact ⟨_, rfl, by decide, rfl⟩ | 2, _ => exact ⟨_, rfl, by decide, rfl⟩ | 3, _ => exact ⟨_, rfl, by decide, rfl⟩ | 4, _ => exact ⟨_, rfl, by decide, rfl⟩⟩

/-- The table of the kinds' fields lies in block 1. -/
def Flds (w : World) : Prop := 1 < w.heap.size ∧ ∀ i s, flds[i]? = some s → w.cell? ⟨1, i, none⟩ = some (.string ⟨s.toArray⟩)
theorem Flds.chg {w w' : World} (h : Flds w) (hc : Chg none w w') : Flds w' := by
  refine ⟨Nat.lt_of_lt_of_le h.1 hc.size, fun i s hs => ?_⟩
  rw [← h.2 i s hs]
  exact (hc.belowNone (B := w.heap.size) (Nat.le_refl _)).cell (p := ⟨1, _, none⟩) h.1

theorem chg_iterAt {u w : World} (h : Chg none u w) {k : Nat} (hk : u.heap.size ≤ k) (s : ByteArray) (pos : Nat) : Chg none u (w.iterAt k s pos) :=
  ⟨h.os, h.tape, h.output, by rw [iterAt_size]; exact h.size, fun i hi hn => (iterAt_other w k i s pos (by omega)).trans (h.block i hi hn)⟩
theorem blk_iterAt {w : World} {b : Nat} {cs : Array Value} {T : TypeId} (h : Blk w b cs T) {k : Nat} (hk : b ≠ k) (s : ByteArray) (pos : Nat) : Blk (w.iterAt k s pos) b cs T :=
  (iterAt_other w k b s pos hk).trans h
theorem blk_newAt (w : World) (cs : Array Value) (T : TypeId) {n : Nat} (h : n = w.heap.size) : Blk (w.alloc (.cells cs T (0, 0))) n cs T := by
  subst h; exact heap_alloc_new w _
theorem iterPos_at {w : World} {k : Nat} {s : ByteArray} {pos : Nat} (h : w.heap[k]? = some (.stringIter s pos)) : w.iterPos k = pos := by
  unfold World.iterPos; rw [h]
theorem heap_chg {w w' : World} {k : Nat} {o : Obj} (h : w.heap[k]? = some o) (hc : Chg none w w') : w'.heap[k]? = some o :=
  (hc.block k (Array.getElem?_eq_some_iff.1 h).1 (by simp)).trans h

end Go.Proofs.YtbadkkilblgpmaaDoor
