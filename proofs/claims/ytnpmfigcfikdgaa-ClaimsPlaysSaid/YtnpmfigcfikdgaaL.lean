/-
  Blocks of cells: what stands in one, and what changes of the world when it alone is written.
-/
import Derived.Test.YtnpmfigcfikdgaaRows
import Derived.WalkKit
import Derived.Lib.Hide
import Derived.WalkSpells
import Derived.WalkLawsBesides
namespace Go.Proofs.Ytnpmfigcfikdgaa
open Go.RowKit

/-- Block b of the world holds these cells. -/
def Blk (w : World) (b : Nat) (cs : Array Value) (T : TypeId) : Prop := w.heap[b]? = some (.cells cs T (0, 0))

/-- From w to w' nothing has changed but block b, and blocks that are new. -/
def Chg (b : Option Nat) (w w' : World) : Prop := w.grownBy w' b

theorem Blk.lt {w : World} {b : Nat} {cs : Array Value} {T : TypeId} (h : Blk w b cs T) : b < w.heap.size :=
  (Array.getElem?_eq_some_iff.1 h).1

theorem Blk.cell {w : World} {b : Nat} {cs : Array Value} {T : TypeId} (h : Blk w b cs T) (i : Nat) :
    w.cell? ⟨b, i, none⟩ = cs[i]? := by
  unfold Blk at h; simp [World.cell?, h]

theorem Blk.frozen {w : World} {b : Nat} {cs : Array Value} {T : TypeId} (h : Blk w b cs T) (i : Nat) :
    w.frozen? ⟨b, i, none⟩ = false := by
  unfold Blk at h; simp [World.frozen?, h]

theorem Blk.set {w : World} {b : Nat} {cs : Array Value} {T : TypeId} (h : Blk w b cs T) (i : Nat) (v : Value) :
    Blk (w.setCell ⟨b, i, none⟩ v) b (cs.setIfInBounds i v) T := by
  unfold Blk at *; simp [World.setCell, Array.getElem?_modify, h]

theorem Blk.setOther {w : World} {b : Nat} {cs : Array Value} {T : TypeId} (h : Blk w b cs T) (a : Addr) (v : Value) (hne : b ≠ a.block) :
    Blk (w.setCell a v) b cs T := (Below.heap_setCell w a v b hne).trans h

theorem Blk.alloc {w : World} {b : Nat} {cs : Array Value} {T : TypeId} (h : Blk w b cs T) (o : Obj) : Blk (w.alloc o) b cs T :=
  (Below.heap_alloc w o b h.lt).trans h

theorem Blk.drew {w : World} {b : Nat} {cs : Array Value} {T : TypeId} (h : Blk w b cs T) : Blk w.drew b cs T := h
theorem Blk.drewN {w : World} {b : Nat} {cs : Array Value} {T : TypeId} (h : Blk w b cs T) (n : Nat) : Blk (w.drewN n) b cs T := by
  unfold Blk at *; simpa [World.drewN] using h

theorem Blk.new (w : World) (cs : Array Value) (T : TypeId) : Blk (w.alloc (.cells cs T (0, 0))) w.heap.size cs T := heap_alloc_new w _

theorem Blk.chg {w w' : World} {b : Nat} {c : Option Nat} {cs : Array Value} {T : TypeId} (h : Blk w b cs T) (hc : Chg c w w') (hne : some b ≠ c) :
    Blk w' b cs T := (hc.block b h.lt hne).trans h

theorem Chg.refl (b : Option Nat) (w : World) : Chg b w w := ⟨rfl, rfl, rfl, Nat.le_refl _, fun _ _ _ => rfl⟩

theorem Chg.trans {b : Option Nat} {u v w : World} (h : Chg b u v) (k : Chg b v w) : Chg b u w :=
  ⟨k.os.trans h.os, k.tape.trans h.tape, k.output.trans h.output, Nat.le_trans h.size k.size,
    fun i hi hn => (k.block i (Nat.lt_of_lt_of_le hi h.size) hn).trans (h.block i hi hn)⟩

theorem Chg.weaken {b : Option Nat} {w w' : World} (h : Chg none w w') : Chg b w w' :=
  ⟨h.os, h.tape, h.output, h.size, fun i hi _ => h.block i hi (by simp)⟩

theorem Chg.alloc {b : Option Nat} {u w : World} (h : Chg b u w) (o : Obj) : Chg b u (w.alloc o) :=
  h.trans ⟨rfl, rfl, rfl, by simp, fun k hk _ => Below.heap_alloc _ _ _ hk⟩

theorem Chg.setCell {b : Nat} {u w : World} (h : Chg (some b) u w) (i : Nat) (v : Value) : Chg (some b) u (w.setCell ⟨b, i, none⟩ v) :=
  h.trans ⟨rfl, rfl, rfl, by simp [World.setCell], fun k _ hn => Below.heap_setCell _ _ _ _ (by simpa using hn)⟩

theorem Chg.setNew {b : Option Nat} {u w : World} (h : Chg b u w) (a : Addr) (ha : u.heap.size ≤ a.block) (v : Value) : Chg b u (w.setCell a v) :=
  ⟨h.os, h.tape, h.output, by simpa [World.setCell] using h.size, fun k hk hn => (Below.heap_setCell _ _ _ _ (by omega)).trans (h.block k hk hn)⟩

theorem Chg.drew {b : Option Nat} {u w : World} (h : Chg b u w) : Chg b u w.drew := ⟨h.os, h.tape, h.output, h.size, h.block⟩
theorem Chg.drewN {b : Option Nat} {u w : World} (h : Chg b u w) (n : Nat) : Chg b u (w.drewN n) := ⟨h.os, h.tape, h.output, h.size, h.block⟩

theorem Chg.below {b : Nat} {B : Nat} {w w' : World} (h : Chg (some b) w w') (hb : B ≤ b) (hB : B ≤ w.heap.size) : Below B w w' :=
  ⟨h.os, h.tape, h.output, h.size, fun k hk => h.block k (by omega) (by simp; omega)⟩

/-- What is written to a block that is new since u is no change of what was there. -/
theorem Chg.own {b : Nat} {c : Option Nat} {u v w : World} (h : Chg c u v) (k : Chg (some b) v w) (hb : u.heap.size ≤ b) : Chg c u w :=
  ⟨k.os.trans h.os, k.tape.trans h.tape, k.output.trans h.output, Nat.le_trans h.size k.size,
    fun i hi hn => (k.block i (Nat.lt_of_lt_of_le hi h.size) (by simp; omega)).trans (h.block i hi hn)⟩

theorem Chg.belowNone {B : Nat} {w w' : World} (h : Chg none w w') (hB : B ≤ w.heap.size) : Below B w w' :=
  ⟨h.os, h.tape, h.output, h.size, fun k hk => h.block k (by omega) (by simp)⟩

theorem ret_bool {a b : Bool} (h : a = b) : Ending.returned (.bool a) = .returned (.bool b) := by rw [h]
theorem ret_int {k : IntKind} {a b : Int} (h : a = b) : Ending.returned (.int k a) = .returned (.int k b) := by rw [h]

end Go.Proofs.Ytnpmfigcfikdgaa
