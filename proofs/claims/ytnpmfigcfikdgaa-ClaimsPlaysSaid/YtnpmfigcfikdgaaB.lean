/-
  A book of package claims in memory.
-/
import Derived.Test.YtnpmfigcfikdgaaA
namespace Go.Proofs.Ytnpmfigcfikdgaa
open Go.RowKit Go.Maps

/-- From w to w' nothing has changed but blocks of S, and blocks that are new. -/
structure Kept (S : Nat → Prop) (w w' : World) : Prop where
  os : w'.os = w.os
  tape : w'.tape = w.tape
  output : w'.output = w.output
  size : w.heap.size ≤ w'.heap.size
  block : ∀ k, k < w.heap.size → ¬ S k → w'.heap[k]? = w.heap[k]?

section
variable {S T : Nat → Prop} {u v w w' : World}
theorem Kept.refl (S : Nat → Prop) (w : World) : Kept S w w := ⟨rfl, rfl, rfl, Nat.le_refl _, fun _ _ _ => rfl⟩
theorem Kept.trans (h : Kept S u v) (k : Kept S v w) : Kept S u w :=
  ⟨k.os.trans h.os, k.tape.trans h.tape, k.output.trans h.output, Nat.le_trans h.size k.size,
    fun i hi hn => (k.block i (Nat.lt_of_lt_of_le hi h.size) hn).trans (h.block i hi hn)⟩
theorem Kept.mono (h : Kept S w w') (hs : ∀ g, S g → T g) : Kept T w w' := ⟨h.os, h.tape, h.output, h.size, fun i hi hn => h.block i hi (fun k => hn (hs i k))⟩
theorem Kept.then (h : Kept S u v) (k : Kept T v w) (hs : ∀ g, T g → S g ∨ u.heap.size ≤ g) : Kept S u w :=
  ⟨k.os.trans h.os, k.tape.trans h.tape, k.output.trans h.output, Nat.le_trans h.size k.size,
    fun i hi hn => (k.block i (Nat.lt_of_lt_of_le hi h.size) (fun t => by rcases hs i t with s | s; exact hn s; omega)).trans (h.block i hi hn)⟩
theorem Kept.of_chg {c : Option Nat} (h : Chg c w w') : Kept (fun g => c = some g) w w' := ⟨h.os, h.tape, h.output, h.size, fun i hi hn => h.block i hi (fun e => hn e.symm)⟩
theorem Kept.chg (h : Kept S u v) (k : Chg none v w) : Kept S u w := h.then (Kept.of_chg k) (fun g e => by cases e)
theorem Kept.drew (h : Kept S u v) : Kept S u v.drew := ⟨h.os, h.tape, h.output, h.size, h.block⟩
theorem Kept.drewN (h : Kept S u v) (n : Nat) : Kept S u (v.drewN n) := ⟨h.os, h.tape, h.output, h.size, h.block⟩
theorem Kept.alloc (h : Kept S u v) (o : Obj) : Kept S u (v.alloc o) := h.chg ((Chg.refl _ _).alloc o)
theorem Kept.setCell (h : Kept S u v) (a : Addr) (x : Value) (ha : S a.block ∨ u.heap.size ≤ a.block) : Kept S u (v.setCell a x) :=
  h.then (T := fun g => g = a.block) ⟨rfl, rfl, rfl, by simp [World.setCell], fun k _ hn => Below.heap_setCell _ _ _ _ hn⟩ (fun g e => by subst e; exact ha)
theorem Kept.toChg (h : Kept (fun _ => False) w w') : Chg none w w' := ⟨h.os, h.tape, h.output, h.size, fun i hi _ => h.block i hi (fun e => e)⟩
theorem Kept.fresh (h : Chg none u v) (k : Kept S v w) (hs : ∀ g, S g → u.heap.size ≤ g) : Chg none u w :=
  Kept.toChg (((Kept.of_chg h).mono (fun _ e => by cases e)).then k (fun g hg => .inr (hs g hg)))
theorem Kept.chgOf {b : Nat} (h : Kept S u v) (k : Chg (some b) v w) (hb : S b) : Kept S u w := h.then (Kept.of_chg k) (fun g e => .inl (by injection e with e; exact e ▸ hb))
end

/-- A kind of maps: its types, its keys, its elements. -/
structure MS (ι α : Type) where
  k : TypeId
  t : TypeId
  e : TypeId
  R : Value → Option (DataW Unit × List MemPlace)
  enc : α → DataW Unit
  vl : α → Value
  z : Value
  kl : ι → Lit
  key : ι → Value
  ok : ι → Prop
  okv : α → Prop

structure MS.Law {ι α : Type} (S : MS ι α) : Prop where
  K : Keyed Try.prog S.k
  ht : Try.prog.underlying S.t = some (.map S.k S.e)
  hz : ∀ w, (zeroValue S.e).run Try.prog w = .ok S.z w
  hkey : ∀ i, S.ok i → keyOf Try.prog S.k (S.key i) = some (S.kl i)
  inj : ∀ i j, S.ok i → S.ok j → S.kl i = S.kl j → i = j
  inv : ∀ v y, S.R v = some y → ∃ x, v = S.vl x ∧ y = (S.enc x, [])
  einj : ∀ x y, S.enc x = S.enc y → x = y
  hR : ∀ x, S.okv x → S.R (S.vl x) = some (S.enc x, [])

/-- Block b is a map of at most n entries, which tells f. -/
def MapG {ι α : Type} (S : MS ι α) (w : World) (b n : Nat) (f : ι → Option α) : Prop :=
  ∃ D : DataW Unit, w.ownsMap Try.prog S.k S.R b n D ∧ ∀ i, S.ok i → Told S.enc D (S.kl i) (f i)

open Classical in
noncomputable def putF {ι α : Type} (f : ι → Option α) (i : ι) (o : Option α) : ι → Option α := fun j => if j = i then o else f j
theorem putF_same {ι α : Type} (f : ι → Option α) (i : ι) (o : Option α) : putF f i o i = o := by unfold putF; rw [if_pos rfl]
theorem putF_other {ι α : Type} (f : ι → Option α) {i j : ι} (o : Option α) (h : j ≠ i) : putF f i o j = f j := by unfold putF; rw [if_neg h]

section
variable {ι α : Type} {S : MS ι α} {w w' : World} {b n : Nat} {f : ι → Option α}

theorem MapG.lt (h : MapG S w b n f) : b < w.heap.size := by obtain ⟨D, h, _⟩ := h; exact h.lt
theorem MapG.block (h : MapG S w b n f) (he : w'.heap[b]? = w.heap[b]?) : MapG S w' b n f := by
  obtain ⟨D, ⟨es, cl, hb, F, hs, hD⟩, hf⟩ := h
  exact ⟨D, ⟨es, cl, he.trans hb, F, hs, hD⟩, hf⟩
theorem MapG.chg {c : Option Nat} (h : MapG S w b n f) (hc : Chg c w w') (hn : some b ≠ c) : MapG S w' b n f := h.block (hc.block b h.lt hn)
theorem MapG.mono {m : Nat} (h : MapG S w b n f) (hm : n ≤ m) : MapG S w b m f := by
  obtain ⟨D, h, hf⟩ := h; exact ⟨D, h.mono hm, hf⟩
theorem MapG.obj (h : MapG S w b n f) : ∃ es cl, w.heap[b]? = some (.map es cl) := by
  obtain ⟨D, ⟨es, cl, hb, _⟩, _⟩ := h; exact ⟨es, cl, hb⟩
theorem MapG.new (S : MS ι α) (w : World) : MapG S (w.alloc (.map #[] 0)) w.heap.size 0 (fun _ => none) :=
  ⟨.map [], World.ownsMap_made _ _ _ _, fun _ _ => rfl⟩

theorem MapG.look (h : MapG S w b n f) (L : S.Law) (i : ι) (hi : S.ok i) :
    (Instr.lookup S.t (.map (some b)) (S.key i) true).run Try.prog w = .ok (.tuple #[optV S.z S.vl (f i), .bool (f i).isSome]) w := by
  obtain ⟨D, h, hf⟩ := h
  exact look_told L.K L.ht (L.hz w) h (L.hkey i hi) L.inv L.einj (hf i hi)

theorem MapG.put (h : MapG S w b n f) (L : S.Law) (hn : n < maxLen) (i : ι) (hi : S.ok i) (x : α) (hx : S.okv x) :
    ∃ w', (Instr.mapUpdate S.t (.map (some b)) (S.key i) (S.vl x)).run Try.prog w = .ok () w' ∧ MapG S w' b (n + 1) (putF f i (some x)) ∧ Chg (some b) w w' := by
  obtain ⟨D, h, hf⟩ := h
  obtain ⟨w', hrun, hown, hg⟩ := h.update L.K L.ht hn (L.hkey i hi) (L.hR x hx)
  refine ⟨w', hrun, ⟨_, hown, fun j hj => ?_⟩, hg⟩
  by_cases e : j = i
  · subst e
    rw [putF_same]
    exact Told.put h.isMap (L.K.key (L.hkey j hj)) x
  · rw [putF_other f _ e]
    exact (hf j hj).other (fun e' => e (L.inj j i hj hi e')) _

theorem MapG.del (h : MapG S w b n f) (L : S.Law) (i : ι) (hi : S.ok i) (ty : TypeId) :
    ∃ w', (Builtin.delete_ #[S.t, S.k] ty #[.map (some b), S.key i]).run Try.prog w = .ok (.tuple #[]) w' ∧ MapG S w' b n (putF f i none) ∧ Chg (some b) w w' := by
  obtain ⟨D, h, hf⟩ := h
  obtain ⟨w', hrun, hown, ht⟩ := h.drop L.K L.ht (L.hkey i hi) ty
  refine ⟨w', hrun, ⟨_, hown, fun j hj => ?_⟩, ht.grown⟩
  by_cases e : j = i
  · subst e
    rw [putF_same]
    exact Told.del
  · rw [putF_other f _ e]
    exact (hf j hj).delOther (fun e' => e (L.inj j i hj hi e'))
end

theorem zero65 (w : World) : (zeroValue 65).run Try.prog w = .ok (.agg #[.int .u64 0, .int .i64 0]) w := by kernel_rfl
theorem zero73 (w : World) : (zeroValue 73).run Try.prog w = .ok (.agg #[.int .u64 0, .int .u64 0]) w := by kernel_rfl
theorem zero3 (w : World) : (zeroValue 3).run Try.prog w = .ok (.int .i64 0) w := by kernel_rfl

noncomputable def mineS : MS Dig (Int × Int) := ⟨31, 55, 65, pairR .u64 .i64, pairE .u64 .i64, pairV .u64 .i64, .agg #[.int .u64 0, .int .i64 0], klD, Dig.val, fun _ => True, fun _ => True⟩
noncomputable def lastS : MS (Dig × Int) (Int × Int) := ⟨71, 56, 73, pairR .u64 .u64, pairE .u64 .u64, pairV .u64 .u64, .agg #[.int .u64 0, .int .u64 0], fun i => klP i.1 i.2, fun i => plVal i.1 i.2, fun i => I64 i.2, fun _ => True⟩
noncomputable def leaS : MS (Dig × Int) Int := ⟨71, 57, 3, plainElem Try.prog 3, intE .i64, fun x => .int .i64 x, .int .i64 0, fun i => klP i.1 i.2, fun i => plVal i.1 i.2, fun i => I64 i.2, I64⟩

theorem mineL : mineS.Law := ⟨law31, Try.underlying55, zero65, fun d _ => klD_eq d, fun _ _ _ _ h => klD_inj h, fun _ _ h => pairR_inv h, fun _ _ h => pairE_inj h, fun x _ => pairR_mk .u64 .i64 x⟩
theorem lastL : lastS.Law := ⟨law71, Try.underlying56, zero73, fun i h => klP_eq i.1 i.2 h, fun _ _ hi hj h => Prod.ext (klP_inj hi hj h).1 (klP_inj hi hj h).2, fun _ _ h => pairR_inv h, fun _ _ h => pairE_inj h, fun x _ => pairR_mk .u64 .u64 x⟩
theorem leaL : leaS.Law := ⟨law71, Try.underlying57, zero3, fun i h => klP_eq i.1 i.2 h, fun _ _ hi hj h => Prod.ext (klP_inj hi hj h).1 (klP_inj hi hj h).2,
  fun v y h => by
    obtain ⟨x, rfl, rfl, _⟩ := plainElem_int_inv Try.underlying3 h
    exact ⟨x, rfl, rfl⟩, fun _ _ h => intE_inj h, fun x hx => plainElem_int Try.underlying3 hx.wf⟩

structure Bk where
  id : Int
  inc : Int
  count : Int
  wait : Int
  ttl : Int
  mine : Dig → Option (Int × Int)
  last : Dig × Int → Option (Int × Int)
  lea : Dig × Int → Option Int

/-- The blocks of a book. -/
structure Qk where
  b : Nat
  m : Nat
  l : Nat
  e : Nat
def Qk.has (q : Qk) (g : Nat) : Prop := g = q.b ∨ g = q.m ∨ g = q.l ∨ g = q.e

def bkCells (q : Qk) (B : Bk) : Array Value := #[.bool true, .int .i64 B.id, .int .u64 B.inc, .int .u64 B.count, .int .i64 B.wait, .int .i64 B.ttl, .map (some q.m), .map (some q.l), .map (some q.e)]

structure BookAt (w : World) (q : Qk) (n : Nat) (B : Bk) : Prop where
  head : Blk w q.b (bkCells q B) 59
  mine : MapG mineS w q.m n B.mine
  last : MapG lastS w q.l n B.last
  lea : MapG leaS w q.e n B.lea
  ap : q.m ≠ q.l ∧ q.m ≠ q.e ∧ q.l ≠ q.e

theorem blk_map {ι α : Type} {S : MS ι α} {w : World} {a b n : Nat} {cs : Array Value} {T : TypeId} {f : ι → Option α} (h : Blk w a cs T) (k : MapG S w b n f) : a ≠ b := by
  rintro rfl
  obtain ⟨es, cl, hb⟩ := k.obj
  unfold Blk at h
  rw [h] at hb
  simp at hb

section
variable {w w' : World} {q : Qk} {n : Nat} {B : Bk}
theorem BookAt.bne (h : BookAt w q n B) : q.b ≠ q.m ∧ q.b ≠ q.l ∧ q.b ≠ q.e := ⟨blk_map h.head h.mine, blk_map h.head h.last, blk_map h.head h.lea⟩
theorem BookAt.lt (h : BookAt w q n B) {g : Nat} (hg : q.has g) : g < w.heap.size := by
  rcases hg with rfl | rfl | rfl | rfl
  · exact Blk.lt h.head
  · exact h.mine.lt
  · exact h.last.lt
  · exact h.lea.lt
theorem BookAt.kept {S : Nat → Prop} (h : BookAt w q n B) (hk : Kept S w w') (hn : ∀ g, q.has g → ¬ S g) : BookAt w' q n B := by
  have e : ∀ g, q.has g → w'.heap[g]? = w.heap[g]? := fun g hg => hk.block g (h.lt hg) (hn g hg)
  exact ⟨(e _ (.inl rfl)).trans h.head, h.mine.block (e _ (.inr (.inl rfl))), h.last.block (e _ (.inr (.inr (.inl rfl)))), h.lea.block (e _ (.inr (.inr (.inr rfl)))), h.ap⟩
theorem BookAt.chg (h : BookAt w q n B) (hc : Chg none w w') : BookAt w' q n B := h.kept (Kept.of_chg hc) (fun g _ e => by cases e)
theorem BookAt.mono {m : Nat} (h : BookAt w q n B) (hm : n ≤ m) : BookAt w q m B := ⟨h.head, h.mine.mono hm, h.last.mono hm, h.lea.mono hm, h.ap⟩
theorem BookAt.open (h : BookAt w q n B) :
    w.cell? ⟨q.b, 0, none⟩ = some (.bool true) ∧ w.cell? ⟨q.b, 1, none⟩ = some (.int .i64 B.id) ∧ w.cell? ⟨q.b, 2, none⟩ = some (.int .u64 B.inc) ∧
    w.cell? ⟨q.b, 3, none⟩ = some (.int .u64 B.count) ∧ w.cell? ⟨q.b, 4, none⟩ = some (.int .i64 B.wait) ∧ w.cell? ⟨q.b, 5, none⟩ = some (.int .i64 B.ttl) ∧
    w.cell? ⟨q.b, 6, none⟩ = some (.map (some q.m)) ∧ w.cell? ⟨q.b, 7, none⟩ = some (.map (some q.l)) ∧ w.cell? ⟨q.b, 8, none⟩ = some (.map (some q.e)) ∧
    (∀ o, w.frozen? ⟨q.b, o, none⟩ = false) := by
  refine ⟨?_, ?_, ?_, ?_, ?_, ?_, ?_, ?_, ?_, h.head.frozen⟩ <;> (rw [Blk.cell h.head]; rfl)
/-- A map of the book's is written. -/
theorem BookAt.setMine {f : Dig → Option (Int × Int)} {m : Nat} (h : BookAt w q n B) (hc : Chg (some q.m) w w') (hm : MapG mineS w' q.m m f) (hnm : n ≤ m) : BookAt w' q m { B with mine := f } :=
  ⟨Blk.chg h.head hc (by simpa using h.bne.1), hm, (h.last.chg hc (by simpa using h.ap.1.symm)).mono hnm, (h.lea.chg hc (by simpa using h.ap.2.1.symm)).mono hnm, h.ap⟩
theorem BookAt.setLast {f : Dig × Int → Option (Int × Int)} {m : Nat} (h : BookAt w q n B) (hc : Chg (some q.l) w w') (hm : MapG lastS w' q.l m f) (hnm : n ≤ m) : BookAt w' q m { B with last := f } :=
  ⟨Blk.chg h.head hc (by simpa using h.bne.2.1), (h.mine.chg hc (by simpa using h.ap.1)).mono hnm, hm, (h.lea.chg hc (by simpa using h.ap.2.2.symm)).mono hnm, h.ap⟩
theorem BookAt.setLea {f : Dig × Int → Option Int} {m : Nat} (h : BookAt w q n B) (hc : Chg (some q.e) w w') (hm : MapG leaS w' q.e m f) (hnm : n ≤ m) : BookAt w' q m { B with lea := f } :=
  ⟨Blk.chg h.head hc (by simpa using h.bne.2.2), (h.mine.chg hc (by simpa using h.ap.2.1)).mono hnm, (h.last.chg hc (by simpa using h.ap.2.2)).mono hnm, hm, h.ap⟩
theorem BookAt.setCount (h : BookAt w q n B) (c : Int) : BookAt (w.setCell ⟨q.b, 3, none⟩ (.int .u64 c)) q n { B with count := c } := by
  have hb := h.bne
  have e : ∀ g, g ≠ q.b → (w.setCell ⟨q.b, 3, none⟩ (.int .u64 c)).heap[g]? = w.heap[g]? := fun g hg => Below.heap_setCell _ _ _ _ hg
  exact ⟨Blk.set h.head 3 _, h.mine.block (e _ hb.1.symm), h.last.block (e _ hb.2.1.symm), h.lea.block (e _ hb.2.2.symm), h.ap⟩
end

structure Bk.ok (B : Bk) (n : Nat) : Prop where
  id : 0 ≤ B.id ∧ B.id ≤ 15
  inc : 0 ≤ B.inc ∧ B.inc ≤ 1099511627776
  count : 0 ≤ B.count ∧ B.count ≤ n
  wait : 0 ≤ B.wait ∧ B.wait ≤ 1000000
  ttl : 0 ≤ B.ttl ∧ B.ttl ≤ 1000000
  mine : ∀ d x, B.mine d = some x → I64 x.2
  lea : ∀ i h, B.lea i = some h → I64 h

end Go.Proofs.Ytnpmfigcfikdgaa
