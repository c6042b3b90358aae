/-
  A disk in memory: two files, each with a row of its own; what a call may have turned.
-/
import Derived.Test.YtbgofhbanhanfaaA
namespace Go.Proofs.Ytbgofhbanhanfaa
open Go.RowKit

structure Fl where
  bs : List UInt8
  syn : Nat
deriving DecidableEq
instance : Inhabited Fl := ⟨⟨[], 0⟩⟩

structure File where
  v : Value
  fl : Fl

def File.cells (f : File) : List Value := [f.v, .int .i64 f.fl.syn]
theorem File.cells_len (f : File) : f.cells.length = 2 := rfl

structure File.okAt (w : World) (b : Nat) (f : File) : Prop where
  own : w.ownsRow 0 5 1 f.v f.fl.bs.length (byteVals f.fl.bs)
  far : f.v.ownBlock ≠ some b
  syn : f.fl.syn ≤ f.fl.bs.length
  top : f.fl.bs.length ≤ 1048576

def foot (b : Nat) (fs : List File) (g : Nat) : Prop := g = b ∨ ∃ f ∈ fs, f.v.ownBlock = some g

structure DiskAt (w : World) (b : Nat) (fs : List File) : Prop where
  blk : BlkL w b (fs.flatMap File.cells) 46
  two : fs.length = 2
  ok : ∀ f ∈ fs, f.okAt w b
  apart : ∀ (i j : Nat) (f f' : File), i ≠ j → fs[i]? = some f → fs[j]? = some f' → ∀ g, f.v.ownBlock = some g → f'.v.ownBlock ≠ some g

/-- From w to w' nothing has changed but blocks of S, and blocks that are new. -/
structure Kept (S : Nat → Prop) (w w' : World) : Prop where
  os : w'.os = w.os
  tape : w'.tape = w.tape
  output : w'.output = w.output
  size : w.heap.size ≤ w'.heap.size
  block : ∀ k, k < w.heap.size → ¬ S k → w'.heap[k]? = w.heap[k]?

section
variable {S T : Nat → Prop} {u v w w' : World}
theorem Kept.refl (S : Nat → Prop) (w : World) : Kept S w w := ⟨rfl, rfl, rfl, Nat.le_refl _, fun _ _ _ => rfl⟩
theorem Kept.trans (h : Kept S u v) (k : Kept S v w) : Kept S u w :=
  ⟨k.os.trans h.os, k.tape.trans h.tape, k.output.trans h.output, Nat.le_trans h.size k.size,
    fun i hi hn => (k.block i (Nat.lt_of_lt_of_le hi h.size) hn).trans (h.block i hi hn)⟩
theorem Kept.mono (h : Kept S w w') (hs : ∀ g, S g → T g) : Kept T w w' := ⟨h.os, h.tape, h.output, h.size, fun i hi hn => h.block i hi (fun k => hn (hs i k))⟩
/-- What is written to S or to what is new since u. -/
theorem Kept.then (h : Kept S u v) (k : Kept T v w) (hs : ∀ g, T g → S g ∨ u.heap.size ≤ g) : Kept S u w :=
  ⟨k.os.trans h.os, k.tape.trans h.tape, k.output.trans h.output, Nat.le_trans h.size k.size,
    fun i hi hn => (k.block i (Nat.lt_of_lt_of_le hi h.size) (fun t => by rcases hs i t with s | s; exact hn s; omega)).trans (h.block i hi hn)⟩
theorem Kept.of_chg {c : Option Nat} (h : Chg c w w') : Kept (fun g => c = some g) w w' := ⟨h.os, h.tape, h.output, h.size, fun i hi hn => h.block i hi (fun e => hn e.symm)⟩
theorem Kept.chg (h : Kept S u v) (k : Chg none v w) : Kept S u w := h.then (Kept.of_chg k) (fun g e => by cases e)
theorem Kept.drew (h : Kept S u v) : Kept S u v.drew := ⟨h.os, h.tape, h.output, h.size, h.block⟩
theorem Kept.alloc (h : Kept S u v) (o : Obj) : Kept S u (v.alloc o) := h.chg ((Chg.refl _ _).alloc o)
theorem Kept.setCell (h : Kept S u v) (a : Addr) (x : Value) (ha : S a.block ∨ u.heap.size ≤ a.block) : Kept S u (v.setCell a x) :=
  h.then (T := fun g => g = a.block) ⟨rfl, rfl, rfl, by simp [World.setCell], fun k _ hn => Below.heap_setCell _ _ _ _ hn⟩ (fun g e => by subst e; exact ha)
theorem Kept.none (h : Kept (fun _ => False) w w') : Chg none w w' := ⟨h.os, h.tape, h.output, h.size, fun i hi _ => h.block i hi (fun e => e)⟩
end

section
variable {w w' : World} {b : Nat} {fs : List File}

theorem DiskAt.lt (h : DiskAt w b fs) : b < w.heap.size := Blk.lt h.blk
theorem DiskAt.footLt (h : DiskAt w b fs) : ∀ g, foot b fs g → g < w.heap.size := by
  intro g hg
  rcases hg with rfl | ⟨f, hf, hv⟩
  · exact h.lt
  · exact ((h.ok f hf).own.lt g hv).2

theorem File.okAt.keep {f : File} {S : Nat → Prop} (h : f.okAt w b) (hk : Kept S w w') (hn : ∀ g, f.v.ownBlock = some g → ¬ S g) : f.okAt w' b := by
  refine ⟨?_, h.far, h.syn, h.top⟩
  refine ⟨h.own.1, ?_⟩
  rcases h.own.2 with h0 | ⟨g, cap, cur, hv, h1, h2, h3⟩
  · exact .inl h0
  · have hg : f.v.ownBlock = some g := by rw [hv]; rfl
    exact .inr ⟨g, cap, cur, hv, h1, (hk.block g (h.own.lt g hg).2 (hn g hg)).trans h2, h3⟩

theorem DiskAt.kept {S : Nat → Prop} (h : DiskAt w b fs) (hk : Kept S w w') (hn : ∀ g, foot b fs g → ¬ S g) : DiskAt w' b fs :=
  ⟨(hk.block b h.lt (hn b (.inl rfl))).trans h.blk, h.two, fun f hf => (h.ok f hf).keep hk (fun g hg => hn g (.inr ⟨f, hf, hg⟩)), h.apart⟩

theorem DiskAt.chg (h : DiskAt w b fs) (hc : Chg none w w') : DiskAt w' b fs := h.kept (Kept.of_chg hc) (fun g _ e => by cases e)
theorem DiskAt.alloc (h : DiskAt w b fs) (o : Obj) : DiskAt (w.alloc o) b fs := h.chg ((Chg.refl _ _).alloc o)
theorem DiskAt.drew (h : DiskAt w b fs) : DiskAt w.drew b fs := h.chg (Chg.refl _ _).drew

theorem DiskAt.get (h : DiskAt w b fs) {k : Nat} (hk : k < 2) : ∃ f, fs[k]? = some f := ⟨_, List.getElem?_eq_getElem (by rw [h.two]; exact hk)⟩

theorem DiskAt.at_ (h : DiskAt w b fs) {k : Nat} {f : File} (hf : fs[k]? = some f) :
    w.cell? ⟨b, k * 2, none⟩ = some f.v ∧ w.cell? ⟨b, k * 2 + 1, none⟩ = some (.int .i64 f.fl.syn) := by
  have hh : ∀ j, j < 2 → w.cell? ⟨b, k * 2 + j, none⟩ = f.cells[j]? := fun j hj => by
    rw [BlkL.cell h.blk]
    exact flat_get File.cells 2 File.cells_len fs k j f hf hj
  exact ⟨hh 0 (by omega), hh 1 (by omega)⟩

theorem DiskAt.file (h : DiskAt w b fs) {k : Nat} {f : File} (hf : fs[k]? = some f) : f.okAt w b := h.ok f (List.mem_of_getElem? hf)

/-- One file is changed. -/
theorem DiskAt.put (h : DiskAt w b fs) {k : Nat} {f f' : File} (hf : fs[k]? = some f) (hblk : BlkL w' b ((fs.set k f').flatMap File.cells) 46)
    (hkeep : Kept (fun g => g = b ∨ f.v.ownBlock = some g) w w') (hf' : f'.okAt w' b) (hv : f'.v.ownBlock = f.v.ownBlock ∨ ∀ g, f'.v.ownBlock = some g → w.heap.size ≤ g) :
    DiskAt w' b (fs.set k f') ∧ Kept (foot b fs) w w' ∧ (∀ g, foot b (fs.set k f') g → foot b fs g ∨ w.heap.size ≤ g) := by
  have hkl : k < fs.length := (List.getElem?_eq_some_iff.1 hf).1
  have hget : ∀ j x, (fs.set k f')[j]? = some x → (j = k ∧ x = f') ∨ (j ≠ k ∧ fs[j]? = some x) := by
    intro j x hx
    by_cases hj : k = j
    · subst hj
      rw [List.getElem?_set_self hkl] at hx
      exact .inl ⟨rfl, (Option.some.inj hx).symm⟩
    · rw [List.getElem?_set_ne hj] at hx
      exact .inr ⟨fun e => hj e.symm, hx⟩
  have hother : ∀ j x, j ≠ k → fs[j]? = some x → ∀ g, x.v.ownBlock = some g → ¬ (g = b ∨ f.v.ownBlock = some g) := by
    intro j x hj hx g hg hc
    rcases hc with rfl | hc
    · exact (h.file hx).far hg
    · exact h.apart j k x f hj hx hf g hg hc
  refine ⟨⟨hblk, by rw [List.length_set]; exact h.two, ?_, ?_⟩, hkeep.mono ?_, ?_⟩
  · intro x hx
    obtain ⟨j, hj⟩ := List.mem_iff_getElem?.1 hx
    rcases hget j x hj with ⟨_, rfl⟩ | ⟨hne, hxj⟩
    · exact hf'
    · exact (h.file hxj).keep hkeep (hother j x hne hxj)
  · intro i j x y hij hx hy g hg hc
    rcases hget i x hx with ⟨rfl, rfl⟩ | ⟨hni, hxi⟩ <;> rcases hget j y hy with ⟨hjk, rfl⟩ | ⟨hnj, hyj⟩
    · exact hij hjk.symm
    · rcases hv with hv | hv
      · exact h.apart j i y f (fun e => hij e.symm) hyj hf g hc (by rw [← hv]; exact hg)
      · have := ((h.file hyj).own.lt g hc).2
        have := hv g hg
        omega
    · subst hjk
      rcases hv with hv | hv
      · exact h.apart i j x f hni hxi hf g hg (by rw [← hv]; exact hc)
      · have := ((h.file hxi).own.lt g hg).2
        have := hv g hc
        omega
    · exact h.apart i j x y hij hxi hyj g hg hc
  · intro g hg
    rcases hg with rfl | hg
    · exact .inl rfl
    · exact .inr ⟨f, List.mem_of_getElem? hf, hg⟩
  · intro g hg
    rcases hg with rfl | ⟨x, hx, hg⟩
    · exact .inl (.inl rfl)
    · obtain ⟨j, hj⟩ := List.mem_iff_getElem?.1 hx
      rcases hget j x hj with ⟨_, rfl⟩ | ⟨_, hxj⟩
      · rcases hv with hv | hv
        · exact .inl (.inr ⟨f, List.mem_of_getElem? hf, by rw [← hv]; exact hg⟩)
        · exact .inr (hv g hg)
      · exact .inl (.inr ⟨x, List.mem_of_getElem? hxj, hg⟩)

end

def fls (fs : List File) : List Fl := fs.map (·.fl)

/-- A call's post: it answers, and the disk is D then. -/
def DPost (w : World) (b : Nat) (fs : List File) (r : Ending) (D : List Fl) (e : Ending) (w' : World) : Prop :=
  e = r ∧ ∃ fs', DiskAt w' b fs' ∧ fls fs' = D ∧ Kept (foot b fs) w w' ∧ (∀ g, foot b fs' g → foot b fs g ∨ w.heap.size ≤ g)

theorem own_slice {w : World} {b : Nat} {e : TypeId} {size : Nat} {v : Value} {n : Nat} {xs : List Value} (h : w.ownsRow b e size v n xs) : ∃ A c, v = .slice A n c := by
  rcases h.2 with ⟨h1, h2⟩ | ⟨g, cap, cur, h1, _⟩
  · exact ⟨none, 0, by rw [h1, h2]⟩
  · exact ⟨_, cap, h1⟩

theorem fls_set (fs : List File) (k : Nat) (f : File) : fls (fs.set k f) = (fls fs).set k f.fl := by unfold fls; rw [List.map_set]
theorem fls_get {fs : List File} {k : Nat} {f : File} (h : fs[k]? = some f) : (fls fs)[k]? = some f.fl := by unfold fls; rw [List.getElem?_map, h]; rfl

end Go.Proofs.Ytbgofhbanhanfaa
