/-
  What spoils a tree's bytes; spoil, walked.
-/
import Derived.Test.YtglfakglcoffkaaUG
namespace Go.Proofs.Ytglfakglcoffkaa
open Go.RowKit

/-- Bytes of blocks from b0 on may be other bytes; else all is as it was. -/
structure Spoilt (b0 : Nat) (w w' : World) : Prop where
  os : w'.os = w.os
  tape : w'.tape = w.tape
  output : w'.output = w.output
  size : w'.heap.size = w.heap.size
  low : ∀ i, i < b0 → w'.heap[i]? = w.heap[i]?
  cell : ∀ a v, w.cell? a = some v → w'.cell? a = some v ∨ ∃ x y : Int, v = .int .u8 x ∧ 0 ≤ y ∧ y ≤ 255 ∧ w'.cell? a = some (.int .u8 y)
  froz : ∀ a, w'.frozen? a = w.frozen? a
theorem Spoilt.refl (b0 : Nat) (w : World) : Spoilt b0 w w := ⟨rfl, rfl, rfl, rfl, fun _ _ => rfl, fun _ _ h => .inl h, fun _ => rfl⟩
theorem Spoilt.trans {b0 : Nat} {u v w : World} (h : Spoilt b0 u v) (k : Spoilt b0 v w) : Spoilt b0 u w := by
  refine ⟨k.os.trans h.os, k.tape.trans h.tape, k.output.trans h.output, k.size.trans h.size, fun i hi => (k.low i hi).trans (h.low i hi), fun a x hx => ?_, fun a => (k.froz a).trans (h.froz a)⟩
  rcases h.cell a x hx with h1 | ⟨x', y, rfl, h2, h3, h4⟩
  · exact k.cell a x h1
  · rcases k.cell a _ h4 with h5 | ⟨x2, y2, e, h6, h7, h8⟩
    · exact .inr ⟨x', y, rfl, h2, h3, h5⟩
    · exact .inr ⟨x', y2, rfl, h6, h7, h8⟩
theorem Spoilt.set {b0 : Nat} {w : World} {g k : Nat} {x y : Int} (hg : b0 ≤ g) (hc : w.cell? ⟨g, k, none⟩ = some (.int .u8 x)) (h0 : 0 ≤ y) (h1 : y ≤ 255) : Spoilt b0 w (w.setCell ⟨g, k, none⟩ (.int .u8 y)) := by
  refine ⟨rfl, rfl, rfl, by simp [World.setCell], fun i hi => Below.heap_setCell w _ _ i (by simp; omega), fun a v hv => ?_, fun a => World.frozen?_setCell w _ _ _⟩
  by_cases e : (⟨g, k, none⟩ : Addr) = a
  · subst e
    rw [hc] at hv
    injection hv with hv
    exact .inr ⟨x, y, hv.symm, h0, h1, World.cell?_setCell_same w _ _ hc⟩
  · exact .inl ((World.cell?_setCell_other w _ _ _ e).trans hv)
theorem Spoilt.chg {b0 : Nat} {u v w : World} (h : Spoilt b0 v w) (g : Chg none u v) (hb : u.heap.size ≤ b0) : Chg none u w :=
  ⟨h.os.trans g.os, h.tape.trans g.tape, h.output.trans g.output, Nat.le_trans g.size (Nat.le_of_eq h.size.symm), fun i hi hn => (h.low i (by omega)).trans (g.block i hi hn)⟩

/-- Bytes that lie at a block's beginning. -/
def RowC (b0 : Nat) (w : World) (A : Option Addr) (n : Nat) : Prop := 0 < n → ∃ g, A = some ⟨g, 0, none⟩ ∧ b0 ≤ g ∧ ∀ i, i < n → ∃ x : Int, 0 ≤ x ∧ x ≤ 255 ∧ w.cell? ⟨g, i, none⟩ = some (.int .u8 x) ∧ w.frozen? ⟨g, i, none⟩ = false
theorem RowC.spoilt {b0 : Nat} {w w' : World} {A : Option Addr} {n : Nat} (h : RowC b0 w A n) (s : Spoilt b0 w w') : RowC b0 w' A n := fun hn => by
  obtain ⟨g, h1, h2, h3⟩ := h hn
  refine ⟨g, h1, h2, fun i hi => ?_⟩
  obtain ⟨x, hx0, hx1, hx, hf⟩ := h3 i hi
  rcases s.cell _ _ hx with h4 | ⟨x', y, -, h5, h6, h7⟩
  · exact ⟨x, hx0, hx1, h4, (s.froz _).trans hf⟩
  · exact ⟨y, h5, h6, h7, (s.froz _).trans hf⟩
theorem RowC.of_own {b0 base : Nat} {w : World} {A : Option Addr} {n c : Nat} {bs : List UInt8} (h : w.ownsRow base 5 1 (.slice A n c) n (byteVals bs)) (hb : b0 ≤ base) : RowC b0 w A n := fun hn => by
  have hl := h.1
  rw [byteVals_len, Nat.mul_one] at hl
  rcases h.2 with ⟨h1, h2⟩ | ⟨g, cap, cur, h1, h2, h3, h4, h5, h6, h7⟩
  · omega
  · injection h1 with h8 _ _
    have hB : Blk w g cur 5 := h3
    refine ⟨g, h8, by omega, fun i hi => ?_⟩
    have hx : (byteVals bs)[i]? = some (.int .u8 (bs[i]'(by omega)).toNat) := by unfold byteVals; rw [List.getElem?_map, List.getElem?_eq_getElem (by omega)]; rfl
    rw [← h7, Nat.mul_one, List.getElem?_take_of_lt hi, Array.getElem?_toList] at hx
    have hb := (bs[i]'(by omega)).toNat_lt
    exact ⟨((bs[i]'(by omega)).toNat : Int), by omega, by omega, by rw [hB.cell]; exact hx, hB.frozen _⟩
/-- A row of files whose bytes may be spoilt. -/
structure SpoilAt (b0 : Nat) (w : World) (A : Option Addr) (M : List Fil) : Prop where
  row : ∀ k m, M[k]? = some m → ∃ b off, A = some ⟨b, off, none⟩ ∧ b < w.heap.size ∧ w.cell? ⟨b, off + k * 2 + 1, none⟩ = some (.slice m.A m.x.length m.c)
  byt : ∀ m ∈ M, RowC b0 w m.A m.x.length
theorem SpoilAt.of {b0 : Nat} {w : World} {A : Option Addr} {M : List Fil} (hT : TreeAt w A M) (ho : ∀ m ∈ M, RowC b0 w m.A m.x.length) : SpoilAt b0 w A M :=
  ⟨fun k m hk => by
    have hne : M ≠ [] := by intro e; subst e; simp at hk
    obtain ⟨b, off, rfl, -, -⟩ := hT.1 hne
    obtain ⟨hb, -, x1⟩ := hT.1.two hk
    exact ⟨b, off, rfl, hb, x1⟩, ho⟩
theorem SpoilAt.grow {b0 : Nat} {w w' : World} {A : Option Addr} {M : List Fil} (h : SpoilAt b0 w A M) (k : Chg none w w') : SpoilAt b0 w' A M :=
  ⟨(fun j m hj => by
    obtain ⟨b, off, h1, h2, h3⟩ := h.row j m hj
    exact ⟨b, off, h1, Nat.lt_of_lt_of_le h2 k.size, World.grownBy.cell k h3 (by simp)⟩), fun m hm hn => by
    obtain ⟨g, h1, h2, h3⟩ := h.byt m hm hn
    refine ⟨g, h1, h2, fun i hi => ?_⟩
    obtain ⟨x, hx0, hx1, hx, hf⟩ := h3 i hi
    have hlt : g < w.heap.size := World.block_lt_of_cell? w _ hx
    exact ⟨x, hx0, hx1, World.grownBy.cell k hx (by simp), by rw [World.frozen?_of_block (k.block g hlt (by simp))]; exact hf⟩⟩
theorem SpoilAt.spoilt {b0 : Nat} {w w' : World} {A : Option Addr} {M : List Fil} (h : SpoilAt b0 w A M) (s : Spoilt b0 w w') : SpoilAt b0 w' A M :=
  ⟨(fun k m hk => by
    obtain ⟨b, off, h1, h2, h3⟩ := h.row k m hk
    refine ⟨b, off, h1, by rw [s.size]; exact h2, ?_⟩
    rcases s.cell _ _ h3 with h4 | ⟨x', y, e, -⟩
    · exact h4
    · cases e), fun m hm => (h.byt m hm).spoilt s⟩

set_option maxHeartbeats 8000000 in
set_option maxRecDepth 100000 in
theorem spoil_any (b0 : Nat) (M : List Fil) (A : Option Addr) (c : Nat) (w : World) (h : SpoilAt b0 w A M) (hl : M.length ≤ 16) (hx : ∀ m ∈ M, m.x.length ≤ 1000000) :
    Calls Try.prog 30 #[.slice A M.length c] w fun e w' => e = .returned (.tuple #[]) ∧ Spoilt b0 w w' := by
  have HS := Lib.hid h
  have HX := Lib.hid hx
  have HL := Lib.hid hl
  clear h hx hl
  go_enter Try.func30, Try.ntmps30
  go_wp2_with fail
  go_loopw [6] (fun s6 wr => ∃ k : Nat, s6 = .int .i64 k ∧ Hid (k ≤ M.length) ∧ Hid (Spoilt b0 w wr)) (fun s6 _ => M.length - (intOf s6).toNat)
  case atStart => exact ⟨0, rfl, Lib.hid (Nat.zero_le _), Lib.hid (Spoilt.refl _ _)⟩
  case round =>
    obtain ⟨k, rfl, H1, H2⟩ := hrel
    obtain ⟨wo, rfl⟩ : ∃ v, v = wr := ⟨_, rfl⟩
    by_cases hlt : k < M.length
    · have hdd : decide ((k : Int) < (M.length : Int)) = true := by rw [decide_eq_true_eq]; omega
      obtain ⟨m, hkm⟩ : ∃ m, M[k]? = some m := ⟨_, List.getElem?_eq_getElem hlt⟩
      obtain ⟨b, off, rfl, hb, x1⟩ := (HS.out.spoilt H2.out).row k m hkm
      have HR : Hid (∀ v, Spoilt b0 w v → v.cell? ⟨b, off + k * 2 + 1, none⟩ = some (.slice m.A m.x.length m.c)) := Lib.hid fun v s => by
        obtain ⟨b', off', e, -, h⟩ := (HS.out.spoilt s).row k m hkm
        injection e with e
        injection e with e1 e2
        subst e1 e2
        exact h
      have HB : Hid (∀ v, Spoilt b0 w v → RowC b0 v m.A m.x.length) := Lib.hid fun v s => (HS.out.spoilt s).byt m (List.mem_of_getElem? hkm)
      have hxl := HX.out m (List.mem_of_getElem? hkm)
      have HLT := Lib.hid hlt
      have hll := HL.out
      clear hkm
      obtain ⟨fp, fA, fx, fc⟩ := m
      dsimp only at x1 HR HB hxl
      go_wp2_with fail
      go_loopw [15] (fun s15 wr => ∃ j : Nat, s15 = .int .i64 j ∧ Hid (j ≤ fx.length) ∧ Hid (Spoilt b0 w wr)) (fun s15 _ => fx.length - (intOf s15).toNat)
      case atStart => exact ⟨0, rfl, Lib.hid (Nat.zero_le _), H2⟩
      case round =>
        obtain ⟨j, rfl, H3, H4⟩ := hrel
        by_cases hj : j < fx.length
        · have hjj : decide ((j : Int) < (fx.length : Int)) = true := by rw [decide_eq_true_eq]; omega
          obtain ⟨g, rfl, hg, hrow⟩ := HB.out wr H4.out (by omega)
          obtain ⟨x, hx0, hx1, hcx, hfx⟩ := hrow j hj
          have y1 := HR.out wr H4.out
          have HJ := Lib.hid hj
          have HCX := Lib.hid hcx
          have HG := Lib.hid hg
          clear hrow hg
          go_wp2_with fail
          go_roundw
          case rel => exact ⟨j + 1, by first | rfl | go_num, Lib.hid HJ.out, Lib.hid (H4.out.trans (Spoilt.set HG.out HCX.out (by omega) (by omega)))⟩
          case measure => have := HJ.out; first | omega | (simp only [intOf]; omega) | (simp [intOf]; omega)
        · have hjj : decide (j < fx.length) = false := by rw [decide_eq_false_iff_not]; exact hj
          have hj2 : decide ((j : Int) < (fx.length : Int)) = false := by rw [decide_eq_false_iff_not]; omega
          clear hj
          go_wp2_with fail
          go_roundw
          case rel => exact ⟨k + 1, by first | rfl | go_num, Lib.hid HLT.out, H4⟩
          case measure => have := HLT.out; first | omega | (simp only [intOf]; omega) | (simp [intOf]; omega)
    · have hdd : decide (k < M.length) = false := by rw [decide_eq_false_iff_not]; exact hlt
      have hd2 : decide ((k : Int) < (M.length : Int)) = false := by rw [decide_eq_false_iff_not]; omega
      clear hlt
      go_wp2_with fail
      exact bodyPost_end (results_none rfl _ _ _) rfl ⟨rfl, H2.out⟩

end Go.Proofs.Ytglfakglcoffkaa
