/-
  The program's disk and the document's own, side by side.
-/
import Derived.Test.YtbgofhbanhanfaaRefC
import Derived.Test.YtbgofhbanhanfaaNone
import Derived.Test.YtbgofhbanhanfaaCopy
namespace Go.Proofs.Ytbgofhbanhanfaa
open Go.RowKit

structure Pair (w : World) (B R : Nat) (fs fr : List File) (wr : World) : Prop where
  d : DRel w B fs wr
  r : RefAt wr R fr
  own : ∀ g, foot R fr g → w.heap.size ≤ g
  apart : ∀ g, foot B fs g → ¬ foot R fr g

section
variable {w wr w' : World} {B R : Nat} {fs fr fs' fr' : List File}

theorem Pair.chg (h : Pair w B R fs fr wr) (g : Chg none wr w') : Pair w B R fs fr w' := ⟨h.d.more g, h.r.chg g, h.own, h.apart⟩

theorem Pair.stepD (h : Pair w B R fs fr wr) (k : DStep wr B fs w' fs') : Pair w B R fs' fr w' :=
  ⟨h.d.step k, h.r.kept k.kept (fun g hg hc => h.apart g hc hg), h.own, fun g hg hc => by
    rcases k.foot g hg with h1 | h1
    · exact h.apart g h1 hc
    · have := h.r.footLt g hc; omega⟩

theorem RStep.keptR (k : RStep wr R fr w' fr') : Kept (fun g => g = R) wr w' :=
  ⟨k.chg.os, k.chg.tape, k.chg.output, k.chg.size, fun i hi hn => k.chg.block i hi (by intro e; cases e; exact hn rfl)⟩

theorem Pair.stepR (h : Pair w B R fs fr wr) (k : RStep wr R fr w' fr') : Pair w B R fs fr' w' := by
  have hR : foot R fr R := .inl rfl
  refine ⟨⟨h.d.disk.kept k.keptR (fun g hg e => h.apart g hg (by rw [e]; exact hR)), h.d.chg.kept k.keptR (fun g e => by subst e; exact h.own _ hR), h.d.own⟩, k.at_, fun g hg => ?_, fun g hg hc => ?_⟩
  · rcases k.foot g hg with h1 | h1
    · exact h.own g h1
    · exact Nat.le_trans h.d.chg.size h1
  · rcases k.foot g hc with h1 | h1
    · exact h.apart g hg h1
    · have := h.d.disk.footLt g hg; omega

theorem OpS.stepR {b5 : Nat} {o : Opn} (h : OpS b5 o wr) (k : RStep wr R fr w' fr') (hn : b5 ≠ R) : OpS b5 o w' := (k.keptR.block b5 (Blk.lt h) hn).trans h

theorem RStep.refl' (h : RefAt wr R fr) : RStep wr R fr wr fr := RStep.refl h

/-- The document's Append, whatever it is handed. -/
theorem rappend_is (k : Int) (A : Option Addr) (bs : List UInt8) (c : Nat) (w : World) (h : RefAt w R fr) (hr : Reads w w.heap.size 1 A bs.length (byteVals bs)) (hbl : bs.length ≤ 2097152) (D : List Fl) (r : Int)
    (hD : appended (fls fr) k bs = (D, r)) :
    Calls Try.prog 12 #[.pointer (some ⟨R, 0, none⟩), .int .i64 k, .slice A bs.length c] w fun e w' => e = .returned (.int .i64 r) ∧ ∃ fr', RStep w R fr w' fr' ∧ fls fr' = D := by
  unfold appended at hD
  by_cases hk : 0 ≤ k ∧ k < 2
  · obtain ⟨n, rfl⟩ : ∃ n : Nat, k = n := ⟨k.toNat, by omega⟩
    obtain ⟨f, hf⟩ := h.get (k := n) (by omega)
    rw [if_pos hk, Int.toNat_natCast, fls_getD hf] at hD
    by_cases hl : f.fl.bs.length + bs.length ≤ 1048576
    · rw [if_pos hl] at hD
      obtain ⟨rfl, rfl⟩ := Prod.mk.inj hD
      refine (rappend_ok R fr n f A bs c w h hf hl hr).mono ?_
      rintro e w' ⟨he, v', hs⟩
      exact ⟨he, _, hs, by rw [fls_set]⟩
    · rw [if_neg hl] at hD
      obtain ⟨rfl, rfl⟩ := Prod.mk.inj hD
      refine (rappend_full R fr n f A bs c w h hf (by omega) hbl).mono ?_
      rintro e w' ⟨he, rfl⟩
      exact ⟨he, _, RStep.refl h, rfl⟩
  · rw [if_neg hk] at hD
    obtain ⟨rfl, rfl⟩ := Prod.mk.inj hD
    refine (rappend_no R k A bs c w hk).mono ?_
    rintro e w' ⟨he, rfl⟩
    exact ⟨he, _, RStep.refl h, rfl⟩

theorem rcrash_is (k0 k1 : Int) (w : World) (h : RefAt w R fr) (D : List Fl) (hD : crashed (fls fr) k0 k1 = D) :
    Calls Try.prog 16 #[.pointer (some ⟨R, 0, none⟩), .agg #[.int .i64 k0, .int .i64 k1]] w fun e w' => e = .returned (.tuple #[]) ∧ ∃ fr', RStep w R fr w' fr' ∧ fls fr' = D := by
  rw [← hD]; exact rcrash_any R fr k0 k1 w h

theorem ref_new (k : RefAt wr R fr) (n : Nat) (hb : BlkL w' R (rcells (fr.set n ⟨.slice none 0 0, ⟨[], 0⟩⟩)) 30) (hk : Kept (fun g => g = R) wr w') : RStep wr R fr w' (fr.set n ⟨.slice none 0 0, ⟨[], 0⟩⟩) := by
  have hnb : ∀ x : File, File.okAt wr R x → File.okAt w' R x := fun x hx => hx.keep hk (fun g hg' e => by subst e; exact hx.far hg')
  refine ⟨⟨hb, by rw [List.length_set]; exact k.two, fun x hx => ?_⟩, ⟨hk.os, hk.tape, hk.output, hk.size, fun i hi hn => hk.block i hi (fun e => hn (by rw [e]))⟩, fun g hg' => ?_⟩
  · rcases List.mem_or_eq_of_mem_set hx with h1 | h1
    · exact hnb x (k.ok x h1)
    · rw [h1]; exact zeroFile_ok _ _
  · rcases hg' with h1 | ⟨x, hx, hv⟩
    · exact .inl (.inl h1)
    · rcases List.mem_or_eq_of_mem_set hx with h1 | h1
      · exact .inl (.inr ⟨x, h1, hv⟩)
      · rw [h1] at hv; exact absurd hv (by simp [Value.ownBlock])

theorem rcells_nil {k : Nat} {f : File} (h : fs.length = 2) (hf : fs[k]? = some f) : ((rcells fs).set k (.slice none 0 0)).set (2 + k) (.int .i64 (0 : Nat)) = rcells (fs.set k ⟨.slice none 0 0, ⟨[], 0⟩⟩) := by
  have hkl : k < fs.length := (List.getElem?_eq_some_iff.1 hf).1
  rw [rcells_setv _ [] h hf, rcells_sets 0 (by rw [List.length_set]; exact h) (List.getElem?_set_self hkl), List.set_set]

theorem ref_clear {k : Nat} {f : File} (h : RefAt wr R fr) (hf : fr[k]? = some f) : RStep wr R fr ((wr.setCell ⟨R, k, none⟩ (.slice none 0 0)).setCell ⟨R, 2 + k, none⟩ (.int .i64 0)) (fr.set k ⟨.slice none 0 0, ⟨[], 0⟩⟩) := by
  have hk1 : Kept (fun g => g = R) wr ((wr.setCell ⟨R, k, none⟩ (.slice none 0 0)).setCell ⟨R, 2 + k, none⟩ (.int .i64 0)) :=
    ((Kept.refl (fun g => g = R) wr).setCell ⟨R, k, none⟩ _ (.inl rfl)).setCell ⟨R, 2 + k, none⟩ _ (.inl rfl)
  refine ref_new h k ?_ hk1
  rw [← rcells_nil h.two hf]
  exact BlkL.set (BlkL.set h.blk k _) (2 + k) _

theorem ref_clear2 {k : Nat} {f : File} (h : RefAt wr R fr) (hf : fr[k]? = some f) : RStep wr R fr ((wr.setCell ⟨R, 2 + k, none⟩ (.int .i64 0)).setCell ⟨R, k, none⟩ (.slice none 0 0)) (fr.set k ⟨.slice none 0 0, ⟨[], 0⟩⟩) := by
  have hk1 : Kept (fun g => g = R) wr ((wr.setCell ⟨R, 2 + k, none⟩ (.int .i64 0)).setCell ⟨R, k, none⟩ (.slice none 0 0)) :=
    ((Kept.refl (fun g => g = R) wr).setCell ⟨R, 2 + k, none⟩ _ (.inl rfl)).setCell ⟨R, k, none⟩ _ (.inl rfl)
  refine ref_new h k ?_ hk1
  rw [← rcells_nil h.two hf, List.set_comm _ _ (by omega)]
  exact BlkL.set (BlkL.set h.blk (2 + k) _) k _

/-- The two are alike. -/
def Alk (w : World) (R : Nat) (d : Value) (wr : World) : Prop := ∃ B fs fr, d = .pointer (some ⟨B, 0, none⟩) ∧ Pair w B R fs fr wr ∧ fls fs = fls fr

theorem Alk.chg {d : Value} (h : Alk w R d wr) (g : Chg none wr w') : Alk w R d w' := by
  obtain ⟨B, fs, fr, h1, h2, h3⟩ := h
  exact ⟨B, fs, fr, h1, h2.chg g, h3⟩

theorem Alk.both {w1 w2 : World} {D : List Fl} (h : Pair w B R fs fr wr) (k : DStep wr B fs w1 fs') (hs : fls fs' = D) (g : Chg none w1 w2) (j : RStep w2 R fr w' fr') (hr : fls fr' = D) :
    Alk w R (.pointer (some ⟨B, 0, none⟩)) w' := ⟨B, fs', fr', rfl, ((h.stepD k).chg g).stepR j, by rw [hs, hr]⟩

/-- A copy takes the disk's place; the old one goes its own way. -/
structure Trip (w : World) (B C R : Nat) (fs fn fr : List File) (wr : World) : Prop where
  n : Pair w C R fn fr wr
  o : DRel w B fs wr
  a1 : ∀ g, foot B fs g → ¬ foot C fn g
  a2 : ∀ g, foot B fs g → ¬ foot R fr g

theorem Trip.of {C : Nat} {fn : List File} (h : Pair w B R fs fr wr) (k : DRel wr C fn w') : Trip w B C R fs fn fr w' := by
  have hc := k.chg
  have hlt := fun g hg => k.own g hg
  exact ⟨⟨⟨k.disk, h.d.chg.trans hc, fun g hg => Nat.le_trans h.d.chg.size (hlt g hg)⟩, h.r.chg hc, h.own, fun g hg h2 => by have := hlt g hg; have := h.r.footLt g h2; omega⟩,
    h.d.more hc, fun g hg h2 => by have := hlt g h2; have := h.d.disk.footLt g hg; omega, h.apart⟩

theorem Trip.chg {C : Nat} {fn : List File} (h : Trip w B C R fs fn fr wr) (g : Chg none wr w') : Trip w B C R fs fn fr w' := ⟨h.n.chg g, h.o.more g, h.a1, h.a2⟩

theorem Trip.step {C : Nat} {fn : List File} (h : Trip w B C R fs fn fr wr) (k : DStep wr B fs w' fs') : Trip w B C R fs' fn fr w' :=
  ⟨⟨⟨h.n.d.disk.kept k.kept (fun g hg hc => h.a1 g hc hg), h.n.d.chg.kept k.kept h.o.own, h.n.d.own⟩, h.n.r.kept k.kept (fun g hg hc => h.a2 g hc hg), h.n.own, h.n.apart⟩, h.o.step k, fun g hg hc => by
    rcases k.foot g hg with h1 | h1
    · exact h.a1 g h1 hc
    · have := h.n.d.disk.footLt g hc; omega, fun g hg hc => by
    rcases k.foot g hg with h1 | h1
    · exact h.a2 g h1 hc
    · have := h.n.r.footLt g hc; omega⟩

theorem Pair.setNew (h : Pair w B R fs fr wr) {g : Nat} (hw : w.heap.size ≤ g) (h1 : ¬ foot B fs g) (h2 : ¬ foot R fr g) (i : Nat) (v : Value) : Pair w B R fs fr (wr.setCell ⟨g, i, none⟩ v) := by
  have hk : Kept (fun x => x = g) wr (wr.setCell ⟨g, i, none⟩ v) := (Kept.refl (fun x => x = g) wr).setCell ⟨g, i, none⟩ _ (.inl rfl)
  exact ⟨⟨h.d.disk.kept hk (fun x hx e => h1 (by rw [← e]; exact hx)), h.d.chg.kept hk (fun x e => by rw [e]; exact hw), h.d.own⟩, h.r.kept hk (fun x hx e => h2 (by rw [← e]; exact hx)), h.own, h.apart⟩

/-- A row of bytes that is the call's own and apart from both disks, while it is spoiled. -/
structure Sp (w : World) (B R : Nat) (fs fr : List File) (g cap n : Nat) (wx : World) : Prop where
  p : Pair w B R fs fr wx
  row : ∃ xs : List Value, (∀ v ∈ xs, ∃ z : Int, v = .int .u8 z) ∧ wx.ownsRow 0 5 1 (.slice (some ⟨g, 0, none⟩) n cap) n xs
  hw : w.heap.size ≤ g
  h1 : ¬ foot B fs g
  h2 : ¬ foot R fr g

theorem Sp.next {g cap n j : Nat} (h : Sp w B R fs fr g cap n wr) (hj : j < n) :
    (∃ z : Int, wr.cell? ⟨g, j, none⟩ = some (.int .u8 z)) ∧ wr.frozen? ⟨g, j, none⟩ = false ∧ g < wr.heap.size ∧ ∀ y : Int, Sp w B R fs fr g cap n (wr.setCell ⟨g, j, none⟩ (.int .u8 y)) := by
  obtain ⟨xs, hx, ho⟩ := h.row
  have hl := ho.1
  have hjx : j < xs.length := by omega
  refine ⟨?_, ho.frozenAt j, (ho.lt g rfl).2, fun y => ⟨h.p.setNew h.hw h.h1 h.h2 j _, ⟨xs.set j (.int .u8 y), fun v hv => ?_, (ho.stored j _).1⟩, h.hw, h.h1, h.h2⟩⟩
  · obtain ⟨z, hz⟩ := hx xs[j] (List.getElem_mem hjx)
    exact ⟨z, by rw [ho.cellAt j (by omega), List.getElem?_eq_getElem hjx, hz]⟩
  · rcases List.mem_or_eq_of_mem_set hv with e | e
    · exact hx v e
    · exact ⟨y, e⟩

theorem bytes_ints (bs : List UInt8) : ∀ v ∈ byteVals bs, ∃ z : Int, v = .int .u8 z := by
  intro v hv
  simp only [byteVals, List.mem_map] at hv
  obtain ⟨x, _, rfl⟩ := hv
  exact ⟨_, rfl⟩

theorem own_zero {base n : Nat} {A : Option Addr} {c : Nat} {xs : List Value} (h : wr.ownsRow base 5 1 (.slice A n c) n xs) : wr.ownsRow 0 5 1 (.slice A n c) n xs := by
  refine ⟨h.1, ?_⟩
  rcases h.2 with h0 | ⟨g, cap, cur, hv, h1, h2⟩
  · exact .inl h0
  · exact .inr ⟨g, cap, cur, hv, Nat.zero_le _, h2⟩
/-- .. and where it may be no row at all. -/
def Spl (w : World) (B R : Nat) (fs fr : List File) (A : Option Addr) (n c : Nat) (wx : World) : Prop := Pair w B R fs fr wx ∧ (n = 0 ∨ ∃ g, A = some ⟨g, 0, none⟩ ∧ Sp w B R fs fr g c n wx)

theorem Spl.of {base n c : Nat} {A : Option Addr} {bs : List UInt8} (h : Pair w B R fs fr wr) (ho : wr.ownsRow base 5 1 (.slice A n c) n (byteVals bs)) (hw : w.heap.size ≤ base)
    (hb : ∀ g, base ≤ g → g < wr.heap.size → ¬ foot B fs g ∧ ¬ foot R fr g) : Spl w B R fs fr A n c wr := by
  refine ⟨h, ?_⟩
  rcases ho.2 with ⟨_, h0⟩ | ⟨g, cap, cur, hv, h1, _⟩
  · exact .inl h0
  · injection hv with e1 e2 e3
    subst e1 e3
    have hgl := (ho.lt g rfl)
    exact .inr ⟨g, rfl, h, ⟨_, bytes_ints bs, own_zero ho⟩, Nat.le_trans hw h1, (hb g h1 hgl.2).1, (hb g h1 hgl.2).2⟩

theorem Spl.drew {n c : Nat} {A : Option Addr} (h : Spl w B R fs fr A n c wr) : Spl w B R fs fr A n c wr.drew := by
  refine ⟨h.1.chg (Chg.refl _ _).drew, ?_⟩
  rcases h.2 with h0 | ⟨g, hA, hs⟩
  · exact .inl h0
  · obtain ⟨xs, hx, ho⟩ := hs.row
    exact .inr ⟨g, hA, hs.p.chg (Chg.refl _ _).drew, ⟨xs, hx, ho.drew⟩, hs.hw, hs.h1, hs.h2⟩

theorem own_kept {S : Nat → Prop} {base n c : Nat} {A : Option Addr} {xs : List Value} (h : wr.ownsRow base 5 1 (.slice A n c) n xs) (k : Kept S wr w') (hn : ∀ g, base ≤ g → g < wr.heap.size → ¬ S g) : w'.ownsRow base 5 1 (.slice A n c) n xs := by
  refine ⟨h.1, ?_⟩
  rcases h.2 with h0 | ⟨g, cap, cur, hv, h1, h2, h3⟩
  · exact .inl h0
  · have hg := h.lt g (by rw [hv]; rfl)
    exact .inr ⟨g, cap, cur, hv, h1, (k.block g hg.2 (hn g h1 hg.2)).trans h2, h3⟩

theorem Spl.two {w9 : World} {f9 f10 : List File} {base n c : Nat} {A : Option Addr} {bs : List UInt8} (h : Pair w B R fs fr wr) (ho : wr.ownsRow base 5 1 (.slice A n c) n (byteVals bs)) (hw : w.heap.size ≤ base)
    (hb : ∀ g, base ≤ g → ¬ foot B fs g ∧ ¬ foot R fr g) (s9 : DStep wr B fs w9 f9) (s10 : RStep w9 R fr w' f10) : Spl w B R f9 f10 A n c w' := by
  have hp := (h.stepD s9).stepR s10
  refine ⟨hp, ?_⟩
  have o9 := own_kept ho s9.kept (fun g h1 _ => (hb g h1).1)
  have o10 := own_kept o9 s10.keptR (fun g h1 _ e => (hb g h1).2 (by rw [e]; exact .inl rfl))
  rcases ho.2 with ⟨_, h0⟩ | ⟨g, cap, cur, hv, h1, _⟩
  · exact .inl h0
  · injection hv with e1 e2 e3
    subst e1 e3
    have hgl := (ho.lt g rfl).2
    refine .inr ⟨g, rfl, hp, ⟨_, bytes_ints bs, own_zero o10⟩, Nat.le_trans hw h1, fun hc => ?_, fun hc => ?_⟩
    · rcases s9.foot g hc with h2 | h2
      · exact (hb g h1).1 h2
      · omega
    · rcases s10.foot g hc with h2 | h2
      · exact (hb g h1).2 h2
      · have := s9.kept.size; omega

theorem made_noughts (m : Nat) : (madeCells (Value.int .u8 0).cells (m * 1)).toList = byteVals (List.replicate m 0) := by
  simp only [madeCells, byteVals, Value.cells]
  refine List.ext_getElem (by simp) (fun i h1 h2 => ?_)
  simp [Nat.mod_one]
end

end Go.Proofs.Ytbgofhbanhanfaa
