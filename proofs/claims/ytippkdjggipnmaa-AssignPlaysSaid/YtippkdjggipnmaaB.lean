/-
  A plan of package assign in memory: its numbers, its chunks, its peers, and how often each was asked.
-/
import Derived.Test.YtippkdjggipnmaaA
namespace Go.Proofs.Ytippkdjggipnmaa
open Go.RowKit Go.Maps

/-- From w to w' nothing has changed but blocks of S, and blocks that are new. -/
structure Kept (S : Nat → Prop) (w w' : World) : Prop where
  os : w'.os = w.os
  tape : w'.tape = w.tape
  output : w'.output = w.output
  size : w.heap.size ≤ w'.heap.size
  block : ∀ k, k < w.heap.size → ¬ S k → w'.heap[k]? = w.heap[k]?

section
variable {S T : Nat → Prop} {u v w w' : World}
theorem Kept.refl (S : Nat → Prop) (w : World) : Kept S w w := ⟨rfl, rfl, rfl, Nat.le_refl _, fun _ _ _ => rfl⟩
theorem Kept.trans (h : Kept S u v) (k : Kept S v w) : Kept S u w :=
  ⟨k.os.trans h.os, k.tape.trans h.tape, k.output.trans h.output, Nat.le_trans h.size k.size,
    fun i hi hn => (k.block i (Nat.lt_of_lt_of_le hi h.size) hn).trans (h.block i hi hn)⟩
theorem Kept.mono (h : Kept S w w') (hs : ∀ g, S g → T g) : Kept T w w' := ⟨h.os, h.tape, h.output, h.size, fun i hi hn => h.block i hi (fun k => hn (hs i k))⟩
theorem Kept.then (h : Kept S u v) (k : Kept T v w) (hs : ∀ g, T g → S g ∨ u.heap.size ≤ g) : Kept S u w :=
  ⟨k.os.trans h.os, k.tape.trans h.tape, k.output.trans h.output, Nat.le_trans h.size k.size,
    fun i hi hn => (k.block i (Nat.lt_of_lt_of_le hi h.size) (fun t => by rcases hs i t with s | s; exact hn s; omega)).trans (h.block i hi hn)⟩
theorem Kept.of_chg {c : Option Nat} (h : Chg c w w') : Kept (fun g => c = some g) w w' := ⟨h.os, h.tape, h.output, h.size, fun i hi hn => h.block i hi (fun e => hn e.symm)⟩
theorem Kept.chg (h : Kept S u v) (k : Chg none v w) : Kept S u w := h.then (Kept.of_chg k) (fun g e => by cases e)
theorem Kept.drew (h : Kept S u v) : Kept S u v.drew := ⟨h.os, h.tape, h.output, h.size, h.block⟩
theorem Kept.drewN (h : Kept S u v) (n : Nat) : Kept S u (v.drewN n) := ⟨h.os, h.tape, h.output, h.size, h.block⟩
theorem Kept.alloc (h : Kept S u v) (o : Obj) : Kept S u (v.alloc o) := h.chg ((Chg.refl _ _).alloc o)
theorem Kept.setCell (h : Kept S u v) (a : Addr) (x : Value) (ha : S a.block ∨ u.heap.size ≤ a.block) : Kept S u (v.setCell a x) :=
  h.then (T := fun g => g = a.block) ⟨rfl, rfl, rfl, by simp [World.setCell], fun k _ hn => Below.heap_setCell _ _ _ _ hn⟩ (fun g e => by subst e; exact ha)
theorem Kept.toChg (h : Kept (fun _ => False) w w') : Chg none w w' := ⟨h.os, h.tape, h.output, h.size, fun i hi _ => h.block i hi (fun e => e)⟩
theorem Kept.fresh (h : Chg none u v) (k : Kept S v w) (hs : ∀ g, S g → u.heap.size ≤ g) : Chg none u w :=
  Kept.toChg (((Kept.of_chg h).mono (fun _ e => by cases e)).then k (fun g hg => .inr (hs g hg)))
end

structure Ck where
  st : Int
  pe : Int
  sn : Int
deriving DecidableEq
structure Pr where
  ak : Int
  de : Int
deriving DecidableEq
instance : Inhabited Ck := ⟨⟨0, 0, 0⟩⟩
instance : Inhabited Pr := ⟨⟨0, 0⟩⟩
def Ck.cells (c : Ck) : List Value := [.int .i64 c.st, .int .i64 c.pe, .int .i64 c.sn]
def Pr.cells (c : Pr) : List Value := [.int .i64 c.ak, .int .i64 c.de]
theorem Ck.cells_len (c : Ck) : c.cells.length = 3 := rfl
theorem Pr.cells_len (c : Pr) : c.cells.length = 2 := rfl

structure Pl where
  win : Int
  tim : Int
  ch : List Ck
  pe : List Pr
  ts : Int → Int → Int

/-- The blocks of a plan. -/
structure Qb where
  b : Nat
  c : Nat
  p : Nat
  m : Nat
def Qb.has (q : Qb) (g : Nat) : Prop := g = q.b ∨ g = q.c ∨ g = q.p ∨ g = q.m

structure PlanAt (w : World) (q : Qb) (n : Nat) (p : Pl) : Prop where
  head : ∃ c1 c2, Blk w q.b #[.int .i64 p.win, .int .i64 p.tim, .slice (some ⟨q.c, 0, none⟩) p.ch.length c1, .slice (some ⟨q.p, 0, none⟩) p.pe.length c2, .map (some q.m)] 44
  chs : ∃ tl, BlkL w q.c (p.ch.flatMap Ck.cells ++ tl) 59
  prs : ∃ tl, BlkL w q.p (p.pe.flatMap Pr.cells ++ tl) 68
  map : MapT w q.m n p.ts

theorem blk_ne {w : World} {a b : Nat} {cs ds : Array Value} {S T : TypeId} (h : Blk w a cs S) (k : Blk w b ds T) (hn : S ≠ T) : a ≠ b := by
  rintro rfl
  unfold Blk at h k
  rw [h] at k
  simp at k
  exact hn k.2
theorem blk_map {w : World} {a b n : Nat} {cs : Array Value} {S : TypeId} {f : Int → Int → Int} (h : Blk w a cs S) (k : MapT w b n f) : a ≠ b := by
  rintro rfl
  obtain ⟨es, cl, hb⟩ := k.cellNone
  unfold Blk at h
  rw [h] at hb
  simp at hb

section
variable {w w' : World} {q : Qb} {n : Nat} {p : Pl}

theorem PlanAt.apart (h : PlanAt w q n p) : q.b ≠ q.c ∧ q.b ≠ q.p ∧ q.b ≠ q.m ∧ q.c ≠ q.p ∧ q.c ≠ q.m ∧ q.p ≠ q.m := by
  obtain ⟨⟨_, _, h1⟩, ⟨_, h2⟩, ⟨_, h3⟩, h4⟩ := h
  exact ⟨blk_ne h1 h2 (by decide), blk_ne h1 h3 (by decide), blk_map h1 h4, blk_ne h2 h3 (by decide), blk_map h2 h4, blk_map h3 h4⟩

theorem PlanAt.lt (h : PlanAt w q n p) {g : Nat} (hg : q.has g) : g < w.heap.size := by
  obtain ⟨⟨_, _, h1⟩, ⟨_, h2⟩, ⟨_, h3⟩, h4⟩ := h
  rcases hg with rfl | rfl | rfl | rfl
  · exact Blk.lt h1
  · exact Blk.lt h2
  · exact Blk.lt h3
  · exact h4.lt

theorem PlanAt.kept {S : Nat → Prop} (h : PlanAt w q n p) (hk : Kept S w w') (hn : ∀ g, q.has g → ¬ S g) : PlanAt w' q n p := by
  have e : ∀ g, q.has g → w'.heap[g]? = w.heap[g]? := fun g hg => hk.block g (h.lt hg) (hn g hg)
  obtain ⟨⟨c1, c2, h1⟩, ⟨tl, h2⟩, ⟨tk, h3⟩, h4⟩ := h
  exact ⟨⟨c1, c2, (e _ (.inl rfl)).trans h1⟩, ⟨tl, (e _ (.inr (.inl rfl))).trans h2⟩, ⟨tk, (e _ (.inr (.inr (.inl rfl)))).trans h3⟩, h4.block (e _ (.inr (.inr (.inr rfl))))⟩
theorem PlanAt.chg (h : PlanAt w q n p) (hc : Chg none w w') : PlanAt w' q n p := h.kept (Kept.of_chg hc) (fun g _ e => by cases e)
theorem PlanAt.alloc (h : PlanAt w q n p) (o : Obj) : PlanAt (w.alloc o) q n p := h.chg ((Chg.refl _ _).alloc o)
theorem PlanAt.drew (h : PlanAt w q n p) : PlanAt w.drew q n p := h.chg (Chg.refl _ _).drew
theorem PlanAt.drewN (h : PlanAt w q n p) (k : Nat) : PlanAt (w.drewN k) q n p := h.chg ((Chg.refl _ _).drewN k)
theorem PlanAt.mono {m : Nat} (h : PlanAt w q n p) (hm : n ≤ m) : PlanAt w q m p := ⟨h.head, h.chs, h.prs, h.map.mono hm⟩

theorem PlanAt.open (h : PlanAt w q n p) : ∃ c1 c2,
    w.cell? ⟨q.b, 0, none⟩ = some (.int .i64 p.win) ∧ w.cell? ⟨q.b, 1, none⟩ = some (.int .i64 p.tim) ∧
    w.cell? ⟨q.b, 2, none⟩ = some (.slice (some ⟨q.c, 0, none⟩) p.ch.length c1) ∧ w.cell? ⟨q.b, 3, none⟩ = some (.slice (some ⟨q.p, 0, none⟩) p.pe.length c2) ∧
    w.cell? ⟨q.b, 4, none⟩ = some (.map (some q.m)) ∧ (∀ o, w.frozen? ⟨q.b, o, none⟩ = false) := by
  obtain ⟨⟨c1, c2, h1⟩, _, _, _⟩ := h
  refine ⟨c1, c2, ?_, ?_, ?_, ?_, ?_, h1.frozen⟩ <;> (rw [Blk.cell h1]; rfl)

theorem PlanAt.chunk (h : PlanAt w q n p) {i : Nat} {x : Ck} (hi : p.ch[i]? = some x) :
    w.cell? ⟨q.c, i * 3, none⟩ = some (.int .i64 x.st) ∧ w.cell? ⟨q.c, i * 3 + 1, none⟩ = some (.int .i64 x.pe) ∧ w.cell? ⟨q.c, i * 3 + 2, none⟩ = some (.int .i64 x.sn) ∧
    (∀ o, w.frozen? ⟨q.c, o, none⟩ = false) := by
  obtain ⟨_, ⟨tl, h2⟩, _, _⟩ := h
  have hh : ∀ j, j < 3 → w.cell? ⟨q.c, i * 3 + j, none⟩ = x.cells[j]? := fun j hj => by
    have hl : i < p.ch.length := (List.getElem?_eq_some_iff.1 hi).1
    rw [BlkL.cell h2, List.getElem?_append_left (by rw [flat_len Ck.cells 3 Ck.cells_len]; omega)]
    exact flat_get Ck.cells 3 Ck.cells_len p.ch i j x hi hj
  exact ⟨hh 0 (by omega), hh 1 (by omega), hh 2 (by omega), Blk.frozen h2⟩

theorem PlanAt.peer (h : PlanAt w q n p) {i : Nat} {x : Pr} (hi : p.pe[i]? = some x) :
    w.cell? ⟨q.p, i * 2, none⟩ = some (.int .i64 x.ak) ∧ w.cell? ⟨q.p, i * 2 + 1, none⟩ = some (.int .i64 x.de) ∧ (∀ o, w.frozen? ⟨q.p, o, none⟩ = false) := by
  obtain ⟨_, _, ⟨tl, h2⟩, _⟩ := h
  have hh : ∀ j, j < 2 → w.cell? ⟨q.p, i * 2 + j, none⟩ = x.cells[j]? := fun j hj => by
    have hl : i < p.pe.length := (List.getElem?_eq_some_iff.1 hi).1
    rw [BlkL.cell h2, List.getElem?_append_left (by rw [flat_len Pr.cells 2 Pr.cells_len]; omega)]
    exact flat_get Pr.cells 2 Pr.cells_len p.pe i j x hi hj
  exact ⟨hh 0 (by omega), hh 1 (by omega), Blk.frozen h2⟩

theorem BlkL.set_head {b T : Nat} {xs tl : List Value} {i : Nat} {v : Value} (h : BlkL w b (xs ++ tl) T) (hi : i < xs.length) : BlkL (w.setCell ⟨b, i, none⟩ v) b (xs.set i v ++ tl) T := by
  have := BlkL.set h i v
  rwa [List.set_append_left _ _ hi] at this

/-- One peer's cell is written. -/
theorem PlanAt.setPeer (h : PlanAt w q n p) {i j : Nat} {x x' : Pr} {v : Value} (hi : p.pe[i]? = some x) (hj : j < 2) (hx : x'.cells = x.cells.set j v) :
    PlanAt (w.setCell ⟨q.p, i * 2 + j, none⟩ v) q n { p with pe := p.pe.set i x' } := by
  have ha := h.apart
  have hl : i < p.pe.length := (List.getElem?_eq_some_iff.1 hi).1
  obtain ⟨⟨c1, c2, h1⟩, ⟨tl, h2⟩, ⟨tk, h3⟩, h4⟩ := h
  refine ⟨⟨c1, c2, ?_⟩, ⟨tl, Blk.setOther h2 _ _ ha.2.2.2.1⟩, ⟨tk, ?_⟩, h4.block (Below.heap_setCell _ _ _ _ (fun e => ha.2.2.2.2.2 e.symm))⟩
  · simp only [List.length_set]
    exact Blk.setOther h1 _ _ ha.2.1
  · have := BlkL.set_head (v := v) (i := i * 2 + j) h3 (by rw [flat_len Pr.cells 2 Pr.cells_len]; omega)
    rwa [flat_set Pr.cells 2 Pr.cells_len p.pe i j x x' v hi hj hx] at this

/-- One chunk's cell is written. -/
theorem PlanAt.setChunk (h : PlanAt w q n p) {i j : Nat} {x x' : Ck} {v : Value} (hi : p.ch[i]? = some x) (hj : j < 3) (hx : x'.cells = x.cells.set j v) :
    PlanAt (w.setCell ⟨q.c, i * 3 + j, none⟩ v) q n { p with ch := p.ch.set i x' } := by
  have ha := h.apart
  have hl : i < p.ch.length := (List.getElem?_eq_some_iff.1 hi).1
  obtain ⟨⟨c1, c2, h1⟩, ⟨tl, h2⟩, ⟨tk, h3⟩, h4⟩ := h
  refine ⟨⟨c1, c2, ?_⟩, ⟨tl, ?_⟩, ⟨tk, Blk.setOther h3 _ _ (fun e => ha.2.2.2.1 e.symm)⟩, h4.block (Below.heap_setCell _ _ _ _ (fun e => ha.2.2.2.2.1 e.symm))⟩
  · simp only [List.length_set]
    exact Blk.setOther h1 _ _ ha.1
  · have := BlkL.set_head (v := v) (i := i * 3 + j) h2 (by rw [flat_len Ck.cells 3 Ck.cells_len]; omega)
    rwa [flat_set Ck.cells 3 Ck.cells_len p.ch i j x x' v hi hj hx] at this

end

def cnt (L : List Ck) (k : Int) : Nat := L.countP (fun x => decide (x.st = 1 ∧ x.pe = k))

def Ck.ok (np : Nat) (c : Ck) : Prop := (c.st = 0 ∧ c.pe = 0 ∧ c.sn = 0) ∨ (c.st = 1 ∧ 0 ≤ c.pe ∧ c.pe < np ∧ I64 c.sn) ∨ (c.st = 2 ∧ c.pe = 0 ∧ c.sn = 0)

/-- What holds of every plan: n bounds its counts. -/
structure Pl.ok (p : Pl) (n : Nat) : Prop where
  win : 1 ≤ p.win ∧ p.win ≤ 100
  tim : 1 ≤ p.tim ∧ p.tim ≤ 1000000
  nc : p.ch.length ≤ 100
  np : p.pe.length ≤ 64
  cks : ∀ x ∈ p.ch, x.ok p.pe.length
  aks : ∀ (k : Nat) x, p.pe[k]? = some x → x.ak = cnt p.ch k
  de : ∀ x ∈ p.pe, 0 ≤ x.de ∧ x.de ≤ n
  ts : ∀ c k, 0 ≤ p.ts c k ∧ p.ts c k ≤ n

end Go.Proofs.Ytippkdjggipnmaa
