/-
  The document's plan of layer 23 while it is made: four rows that grow.
-/
import Derived.Test.YtippkdjggipnmaaRA
import Derived.Test.YtippkdjggipnmaaHD
namespace Go.Proofs.Ytippkdjggipnmaa
open Go.RowKit Go.Maps

theorem Chg.ownRow {c row : Option Nat} {u v w : World} (h : Chg c u v) (k : v.grownBy w row) (hb : ∀ g, row = some g → u.heap.size ≤ g) : Chg c u w :=
  ⟨k.os.trans h.os, k.tape.trans h.tape, k.output.trans h.output, Nat.le_trans h.size k.size,
    fun i hi hn => (k.block i (Nat.lt_of_lt_of_le hi h.size) (fun e => by have := hb i e.symm; omega)).trans (h.block i hi hn)⟩
theorem own_slice {w : World} {b : Nat} {e : TypeId} {size : Nat} {v : Value} {n : Nat} {xs : List Value} (h : w.ownsRow b e size v n xs) : ∃ A c, v = .slice A n c := by
  rcases h.2 with ⟨h1, h2⟩ | ⟨g, cap, cur, h1, _⟩
  · exact ⟨none, 0, by rw [h1, h2]⟩
  · exact ⟨_, cap, h1⟩

def zs (k : Nat) : List Value := List.replicate k (.int .i64 0)
theorem zs_step (k : Nat) : zs k ++ [.int .i64 0] = zs (k + 1) := by unfold zs; rw [List.replicate_succ']
def rws (np : Nat) (rs : List Nat) : List Value := rs.map fun g => .slice (some ⟨g, 0, none⟩) np np

structure NewAt (w wr : World) (np : Nat) (win tim : Int) (k1 k2 k3 k5 : Nat) (v1 v2 v3 v5 : Value) (rs : List Nat) : Prop where
  blk : Blk wr w.heap.size #[v1, v2, v3, .slice none 0 0, v5, .int .i64 win, .int .i64 tim] 57
  o1 : wr.ownsRow (w.heap.size + 1) 3 1 v1 k1 (zs k1)
  o2 : wr.ownsRow (w.heap.size + 1) 3 1 v2 k2 (zs k2)
  o3 : wr.ownsRow (w.heap.size + 1) 3 1 v3 k3 (zs k3)
  o5 : wr.ownsRow (w.heap.size + 1) 52 1 v5 k5 (rws np rs)
  rows : ∀ g ∈ rs, BlkL wr g (zs np) 3 ∧ w.heap.size < g
  nd : rs.Nodup
  a12 : ∀ g, v1.ownBlock = some g → v2.ownBlock ≠ some g
  a13 : ∀ g, v1.ownBlock = some g → v3.ownBlock ≠ some g
  a15 : ∀ g, v1.ownBlock = some g → v5.ownBlock ≠ some g
  a23 : ∀ g, v2.ownBlock = some g → v3.ownBlock ≠ some g
  a25 : ∀ g, v2.ownBlock = some g → v5.ownBlock ≠ some g
  a35 : ∀ g, v3.ownBlock = some g → v5.ownBlock ≠ some g
  r1 : ∀ g ∈ rs, v1.ownBlock ≠ some g
  r2 : ∀ g ∈ rs, v2.ownBlock ≠ some g
  r3 : ∀ g ∈ rs, v3.ownBlock ≠ some g
  r5 : ∀ g ∈ rs, v5.ownBlock ≠ some g
  chg : Chg none w wr

theorem own_ne {v1 v2 : Value} (h : ∀ g, v1.ownBlock = some g → v2.ownBlock ≠ some g) : v2.ownBlock = none ∨ v2.ownBlock ≠ v1.ownBlock := by
  cases h2 : v2.ownBlock with
  | none => exact .inl rfl
  | some g => exact .inr fun e => h g e.symm h2
theorem own_ne' {v1 v2 : Value} (h : ∀ g, v2.ownBlock = some g → v1.ownBlock ≠ some g) : v2.ownBlock = none ∨ v2.ownBlock ≠ v1.ownBlock := by
  cases h2 : v2.ownBlock with
  | none => exact .inl rfl
  | some g => exact .inr fun e => h g h2 e.symm

theorem own_none (v : Value) : v.ownBlock = none ∨ v.ownBlock ≠ none := by cases v.ownBlock <;> simp

section
variable {w u w' : World} {np : Nat} {win tim : Int} {k1 k2 k3 k5 : Nat} {v1 v2 v3 v5 v' : Value} {rs : List Nat}
theorem NewAt.on (h : NewAt w u np win tim k1 k2 k3 k5 v1 v2 v3 v5 rs) (g : Chg none u w') : NewAt w w' np win tim k1 k2 k3 k5 v1 v2 v3 v5 rs :=
  ⟨Blk.chg h.blk g (by simp), h.o1.kept g (own_none _), h.o2.kept g (own_none _), h.o3.kept g (own_none _), h.o5.kept g (own_none _), fun x hx => ⟨Blk.chg (h.rows x hx).1 g (by simp), (h.rows x hx).2⟩, h.nd, h.a12, h.a13, h.a15, h.a23, h.a25, h.a35, h.r1, h.r2, h.r3, h.r5, h.chg.trans g⟩

theorem NewAt.app1 (h : NewAt w u np win tim k1 k2 k3 k5 v1 v2 v3 v5 rs) (hown : w'.ownsRow (w.heap.size + 1) 3 1 v' (k1 + 1) (zs k1 ++ [.int .i64 0])) (hg : u.grownBy w' v1.ownBlock) (hat : v'.ownBlock = v1.ownBlock ∨ v'.ownBlock = some u.heap.size) :
    NewAt w (w'.setCell ⟨w.heap.size, 0, none⟩ v') np win tim (k1 + 1) k2 k3 k5 v' v2 v3 v5 rs := by
  have hb : some w.heap.size ≠ v1.ownBlock := fun e => by have := (h.o1.lt _ e.symm).1; omega
  have hbs : w.heap.size < u.heap.size := Blk.lt h.blk
  exact ⟨Blk.set (Blk.chg h.blk hg hb) 0 v',
    ownsRow_setCell_below (by simpa only [zs_step] using hown) (Nat.lt_succ_self _) _,
    ownsRow_setCell_below (h.o2.kept hg (own_ne h.a12)) (Nat.lt_succ_self _) _,
    ownsRow_setCell_below (h.o3.kept hg (own_ne h.a13)) (Nat.lt_succ_self _) _,
    ownsRow_setCell_below (h.o5.kept hg (own_ne h.a15)) (Nat.lt_succ_self _) _,
    fun x hx => ⟨Blk.setOther (Blk.chg (h.rows x hx).1 hg (fun e => h.r1 x hx e.symm)) _ _ (by have := (h.rows x hx).2; show x ≠ w.heap.size; omega), (h.rows x hx).2⟩,
    h.nd,
    fun g hv e => by
    rcases hat with ha | ha
    · exact h.a12 g (ha.symm.trans hv) e
    · have := (h.o2.lt g e).2; rw [ha] at hv; injection hv; omega,
    fun g hv e => by
    rcases hat with ha | ha
    · exact h.a13 g (ha.symm.trans hv) e
    · have := (h.o3.lt g e).2; rw [ha] at hv; injection hv; omega,
    fun g hv e => by
    rcases hat with ha | ha
    · exact h.a15 g (ha.symm.trans hv) e
    · have := (h.o5.lt g e).2; rw [ha] at hv; injection hv; omega,
    h.a23,
    h.a25,
    h.a35,
    by
    intro x hx e
    rcases hat with ha | ha
    · exact h.r1 x hx (ha.symm.trans e)
    · have := Blk.lt (h.rows x hx).1; rw [ha] at e; injection e; omega,
    h.r2,
    h.r3,
    h.r5,
    (Chg.ownRow h.chg hg (fun x hx => by have := (h.o1.lt x hx).1; omega)).setNew _ (Nat.le_refl _) _⟩

theorem NewAt.app2 (h : NewAt w u np win tim k1 k2 k3 k5 v1 v2 v3 v5 rs) (hown : w'.ownsRow (w.heap.size + 1) 3 1 v' (k2 + 1) (zs k2 ++ [.int .i64 0])) (hg : u.grownBy w' v2.ownBlock) (hat : v'.ownBlock = v2.ownBlock ∨ v'.ownBlock = some u.heap.size) :
    NewAt w (w'.setCell ⟨w.heap.size, 1, none⟩ v') np win tim k1 (k2 + 1) k3 k5 v1 v' v3 v5 rs := by
  have hb : some w.heap.size ≠ v2.ownBlock := fun e => by have := (h.o2.lt _ e.symm).1; omega
  have hbs : w.heap.size < u.heap.size := Blk.lt h.blk
  exact ⟨Blk.set (Blk.chg h.blk hg hb) 1 v',
    ownsRow_setCell_below (h.o1.kept hg (own_ne' h.a12)) (Nat.lt_succ_self _) _,
    ownsRow_setCell_below (by simpa only [zs_step] using hown) (Nat.lt_succ_self _) _,
    ownsRow_setCell_below (h.o3.kept hg (own_ne h.a23)) (Nat.lt_succ_self _) _,
    ownsRow_setCell_below (h.o5.kept hg (own_ne h.a25)) (Nat.lt_succ_self _) _,
    fun x hx => ⟨Blk.setOther (Blk.chg (h.rows x hx).1 hg (fun e => h.r2 x hx e.symm)) _ _ (by have := (h.rows x hx).2; show x ≠ w.heap.size; omega), (h.rows x hx).2⟩,
    h.nd,
    fun g hv e => by
    rcases hat with ha | ha
    · exact h.a12 g hv (ha.symm.trans e)
    · have := (h.o1.lt g hv).2; rw [ha] at e; injection e; omega,
    h.a13,
    h.a15,
    fun g hv e => by
    rcases hat with ha | ha
    · exact h.a23 g (ha.symm.trans hv) e
    · have := (h.o3.lt g e).2; rw [ha] at hv; injection hv; omega,
    fun g hv e => by
    rcases hat with ha | ha
    · exact h.a25 g (ha.symm.trans hv) e
    · have := (h.o5.lt g e).2; rw [ha] at hv; injection hv; omega,
    h.a35,
    h.r1,
    by
    intro x hx e
    rcases hat with ha | ha
    · exact h.r2 x hx (ha.symm.trans e)
    · have := Blk.lt (h.rows x hx).1; rw [ha] at e; injection e; omega,
    h.r3,
    h.r5,
    (Chg.ownRow h.chg hg (fun x hx => by have := (h.o2.lt x hx).1; omega)).setNew _ (Nat.le_refl _) _⟩

theorem NewAt.app3 (h : NewAt w u np win tim k1 k2 k3 k5 v1 v2 v3 v5 rs) (hown : w'.ownsRow (w.heap.size + 1) 3 1 v' (k3 + 1) (zs k3 ++ [.int .i64 0])) (hg : u.grownBy w' v3.ownBlock) (hat : v'.ownBlock = v3.ownBlock ∨ v'.ownBlock = some u.heap.size) :
    NewAt w (w'.setCell ⟨w.heap.size, 2, none⟩ v') np win tim k1 k2 (k3 + 1) k5 v1 v2 v' v5 rs := by
  have hb : some w.heap.size ≠ v3.ownBlock := fun e => by have := (h.o3.lt _ e.symm).1; omega
  have hbs : w.heap.size < u.heap.size := Blk.lt h.blk
  exact ⟨Blk.set (Blk.chg h.blk hg hb) 2 v',
    ownsRow_setCell_below (h.o1.kept hg (own_ne' h.a13)) (Nat.lt_succ_self _) _,
    ownsRow_setCell_below (h.o2.kept hg (own_ne' h.a23)) (Nat.lt_succ_self _) _,
    ownsRow_setCell_below (by simpa only [zs_step] using hown) (Nat.lt_succ_self _) _,
    ownsRow_setCell_below (h.o5.kept hg (own_ne h.a35)) (Nat.lt_succ_self _) _,
    fun x hx => ⟨Blk.setOther (Blk.chg (h.rows x hx).1 hg (fun e => h.r3 x hx e.symm)) _ _ (by have := (h.rows x hx).2; show x ≠ w.heap.size; omega), (h.rows x hx).2⟩,
    h.nd,
    h.a12,
    fun g hv e => by
    rcases hat with ha | ha
    · exact h.a13 g hv (ha.symm.trans e)
    · have := (h.o1.lt g hv).2; rw [ha] at e; injection e; omega,
    h.a15,
    fun g hv e => by
    rcases hat with ha | ha
    · exact h.a23 g hv (ha.symm.trans e)
    · have := (h.o2.lt g hv).2; rw [ha] at e; injection e; omega,
    h.a25,
    fun g hv e => by
    rcases hat with ha | ha
    · exact h.a35 g (ha.symm.trans hv) e
    · have := (h.o5.lt g e).2; rw [ha] at hv; injection hv; omega,
    h.r1,
    h.r2,
    by
    intro x hx e
    rcases hat with ha | ha
    · exact h.r3 x hx (ha.symm.trans e)
    · have := Blk.lt (h.rows x hx).1; rw [ha] at e; injection e; omega,
    h.r5,
    (Chg.ownRow h.chg hg (fun x hx => by have := (h.o3.lt x hx).1; omega)).setNew _ (Nat.le_refl _) _⟩

theorem NewAt.app5 (h : NewAt w u np win tim k1 k2 k3 k5 v1 v2 v3 v5 rs) (gn : Nat) (hgn : BlkL u gn (zs np) 3) (hgb : w.heap.size < gn) (hn1 : v1.ownBlock ≠ some gn) (hn2 : v2.ownBlock ≠ some gn) (hn3 : v3.ownBlock ≠ some gn) (hn5 : v5.ownBlock ≠ some gn) (hnr : gn ∉ rs) (hown : w'.ownsRow (w.heap.size + 1) 52 1 v' (k5 + 1) (rws np rs ++ [.slice (some ⟨gn, 0, none⟩) np np])) (hg : u.grownBy w' v5.ownBlock) (hat : v'.ownBlock = v5.ownBlock ∨ v'.ownBlock = some u.heap.size) :
    NewAt w (w'.setCell ⟨w.heap.size, 4, none⟩ v') np win tim k1 k2 k3 (k5 + 1) v1 v2 v3 v' (rs ++ [gn]) := by
  have hb : some w.heap.size ≠ v5.ownBlock := fun e => by have := (h.o5.lt _ e.symm).1; omega
  have hbs : w.heap.size < u.heap.size := Blk.lt h.blk
  exact ⟨Blk.set (Blk.chg h.blk hg hb) 4 v',
    ownsRow_setCell_below (h.o1.kept hg (own_ne' h.a15)) (Nat.lt_succ_self _) _,
    ownsRow_setCell_below (h.o2.kept hg (own_ne' h.a25)) (Nat.lt_succ_self _) _,
    ownsRow_setCell_below (h.o3.kept hg (own_ne' h.a35)) (Nat.lt_succ_self _) _,
    ownsRow_setCell_below (by unfold rws at hown ⊢; simpa only [List.map_append, List.map_cons, List.map_nil] using hown) (Nat.lt_succ_self _) _,
    fun x hx => by
    rcases List.mem_append.1 hx with hx | hx
    · exact ⟨Blk.setOther (Blk.chg (h.rows x hx).1 hg (fun e => h.r5 x hx e.symm)) _ _ (by have := (h.rows x hx).2; show x ≠ w.heap.size; omega), (h.rows x hx).2⟩
    · obtain rfl := List.mem_singleton.1 hx
      exact ⟨Blk.setOther (Blk.chg hgn hg (fun e => hn5 e.symm)) _ _ (by show x ≠ w.heap.size; omega), hgb⟩,
    by
    rw [List.nodup_append]
    exact ⟨h.nd, by simp, fun x hx y hy e => by rw [List.mem_singleton.1 hy] at e; subst e; exact hnr hx⟩,
    h.a12,
    h.a13,
    fun g hv e => by
    rcases hat with ha | ha
    · exact h.a15 g hv (ha.symm.trans e)
    · have := (h.o1.lt g hv).2; rw [ha] at e; injection e; omega,
    h.a23,
    fun g hv e => by
    rcases hat with ha | ha
    · exact h.a25 g hv (ha.symm.trans e)
    · have := (h.o2.lt g hv).2; rw [ha] at e; injection e; omega,
    fun g hv e => by
    rcases hat with ha | ha
    · exact h.a35 g hv (ha.symm.trans e)
    · have := (h.o3.lt g hv).2; rw [ha] at e; injection e; omega,
    fun x hx => by
    rcases List.mem_append.1 hx with hx | hx
    · exact h.r1 x hx
    · obtain rfl := List.mem_singleton.1 hx
      exact hn1,
    fun x hx => by
    rcases List.mem_append.1 hx with hx | hx
    · exact h.r2 x hx
    · obtain rfl := List.mem_singleton.1 hx
      exact hn2,
    fun x hx => by
    rcases List.mem_append.1 hx with hx | hx
    · exact h.r3 x hx
    · obtain rfl := List.mem_singleton.1 hx
      exact hn3,
    fun x hx e => by
    rcases List.mem_append.1 hx with hx | hx
    · rcases hat with ha | ha
      · exact h.r5 x hx (ha.symm.trans e)
      · have := Blk.lt (h.rows x hx).1; rw [ha] at e; injection e; omega
    · obtain rfl := List.mem_singleton.1 hx
      rcases hat with ha | ha
      · exact hn5 (ha.symm.trans e)
      · have := Blk.lt hgn; rw [ha] at e; injection e; omega,
    (Chg.ownRow h.chg hg (fun x hx => by have := (h.o5.lt x hx).1; omega)).setNew _ (Nat.le_refl _) _⟩
end

end Go.Proofs.Ytippkdjggipnmaa
