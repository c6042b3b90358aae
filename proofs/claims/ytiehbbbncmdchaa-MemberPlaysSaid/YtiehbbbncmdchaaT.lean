/-
  Two who tell one another: what stands of the world meanwhile.
-/
import Derived.Test.YtiehbbbncmdchaaOrder
import Derived.Test.YtiehbbbncmdchaaN3
import Derived.Test.YtiehbbbncmdchaaX
namespace Go.Proofs.Ytiehbbbncmdchaa
open Go.RowKit

structure Tw (w : World) (B1 B2 bx by_ : Nat) (a0 b0 a b : M) (wr : World) : Prop where
  a : MemAt wr B1 a
  b : MemAt wr B2 b
  x : BlkL wr bx (a0.row.flatMap U.cells) 31
  y : BlkL wr by_ (b0.row.flatMap U.cells) 31
  g : Chg none w wr
  h1 : w.heap.size ≤ B1
  h12 : B1 < B2
  h2x : B2 < bx
  h2y : B2 < by_

section
variable {w : World} {B1 B2 bx by_ : Nat} {a0 b0 a b : M} {wr w' : World}
theorem Tw.chg (h : Tw w B1 B2 bx by_ a0 b0 a b wr) (g : Chg none wr w') : Tw w B1 B2 bx by_ a0 b0 a b w' :=
  ⟨h.a.chg g (by simp), h.b.chg g (by simp), Blk.chg h.x g (by simp), Blk.chg h.y g (by simp), h.g.trans g, h.h1, h.h12, h.h2x, h.h2y⟩
theorem Tw.setA {a' : M} (h : Tw w B1 B2 bx by_ a0 b0 a b wr) (m : MemAt w' B1 a') (g : Chg (some B1) wr w') : Tw w B1 B2 bx by_ a0 b0 a' b w' := by
  obtain ⟨_, hb, hx, hy, hg, h1, h12, h2x, h2y⟩ := h
  exact ⟨m, hb.chg g (by simp; omega), Blk.chg hx g (by simp; omega), Blk.chg hy g (by simp; omega), hg.own g h1, h1, h12, h2x, h2y⟩
theorem Tw.setB {b' : M} (h : Tw w B1 B2 bx by_ a0 b0 a b wr) (m : MemAt w' B2 b') (g : Chg (some B2) wr w') : Tw w B1 B2 bx by_ a0 b0 a b' w' := by
  obtain ⟨ha, _, hx, hy, hg, h1, h12, h2x, h2y⟩ := h
  exact ⟨ha.chg g (by simp; omega), m, Blk.chg hx g (by simp; omega), Blk.chg hy g (by simp; omega), hg.own g (by omega), h1, h12, h2x, h2y⟩
end

def talkN : Nat → M × M → M × M
  | 0, p => p
  | n + 1, p => talk (talkN n p)

theorem Pair.talkN {c : Nat} {p : M × M} (h : Pair c p) : ∀ n, Pair c (Proofs.Ytiehbbbncmdchaa.talkN n p)
  | 0 => h
  | n + 1 => (Pair.talkN h n).talk

theorem all_row (b : Nat) (m : M) (c : Nat) (w : World) (hm : MemAt w b m) (ho : m.ok) (hc : m.count = c) :
    Calls Try.prog 23 #[.pointer (some ⟨b, 0, none⟩)] w fun e w' =>
      e = .returned (.slice (some ⟨w.heap.size, 0, none⟩) c c) ∧ BlkL w' w.heap.size (m.row.flatMap U.cells) 31 ∧ Chg none w w' := by
  subst hc
  exact all_made b m w hm ho

theorem M.row_len {m : M} (h : m.ok) : m.row.length = m.count := by
  unfold M.row; rw [List.length_take, h.len]; have := h.top; omega

theorem M.row_inc {m : M} (h : m.ok) : ∀ u ∈ m.row, 0 ≤ u.inc := by
  intro u hu
  obtain ⟨j, hj⟩ := List.mem_iff_getElem?.1 hu
  obtain ⟨h1, h2, _⟩ := M.row_node h j u hj
  exact (h.node j u h2 h1).2.2.1

theorem at_cells {w : World} {g : Nat} {L : List U} (h : BlkL w g (L.flatMap U.cells) 31) {k : Nat} {u : U} (hk : L[k]? = some u) :
    w.cell? ⟨g, k * 3, none⟩ = some (.int .i64 u.node) ∧ w.cell? ⟨g, k * 3 + 1, none⟩ = some (.int .u8 u.st) ∧ w.cell? ⟨g, k * 3 + 2, none⟩ = some (.int .u64 u.inc) :=
  upd_cells (fun i v hi => by rw [BlkL.cell h]; exact hi) hk

theorem merged_rows {c : Nat} {a0 b0 a b : M} (hp0 : Pair c (a0, b0)) (hp : Pair c (a, b)) (he : talk (talk (talk (a0, b0))) = (a, b)) {i : Nat} (hi : i < c) :
    ∃ x y u v, a0.row[i]? = some x ∧ b0.row[i]? = some y ∧ a.row[i]? = some u ∧ b.row[i]? = some v ∧ Merged i x y u v := by
  have c1 : a0.count = c := hp0.counta
  have c2 : b0.count = c := hp0.countb
  have c3 : a.count = c := hp.counta
  have c4 : b.count = c := hp.countb
  obtain ⟨x, hx⟩ := hp0.oka.get (n := i) (by show i < a0.count; omega)
  obtain ⟨y, hy⟩ := hp0.okb.get (n := i) (by show i < b0.count; omega)
  have hm := merged hp0 hi hx hy
  rw [he] at hm
  obtain ⟨u, v, hu, hv, hmg⟩ := hm
  exact ⟨x, y, u, v, by rw [M.row_get _ _ (by omega)]; exact hx, by rw [M.row_get _ _ (by omega)]; exact hy, by rw [M.row_get _ _ (by omega)]; exact hu, by rw [M.row_get _ _ (by omega)]; exact hv, hmg⟩

theorem row_keep {w8 : World} {g : Nat} {L : List U} {i : Nat} {u : U} (h : BlkL w8 g (L.flatMap U.cells) 31) (hi : L[i]? = some u) (w' : World) (hg : Chg none w8 w') :
    w'.cell? ⟨g, i * 3, none⟩ = some (.int .i64 u.node) ∧ w'.cell? ⟨g, i * 3 + 1, none⟩ = some (.int .u8 u.st) ∧ w'.cell? ⟨g, i * 3 + 2, none⟩ = some (.int .u64 u.inc) ∧ g < w'.heap.size := by
  obtain ⟨a, b, c⟩ := at_cells (Blk.chg h hg (by simp)) hi
  exact ⟨a, b, c, Nat.lt_of_lt_of_le (Blk.lt h) hg.size⟩

theorem blk_three {w : World} {b : Nat} {x y z : Value} {T : TypeId} (h : Blk w b #[x, y, z] T) :
    w.cell? ⟨b, 0, none⟩ = some x ∧ w.cell? ⟨b, 1, none⟩ = some y ∧ w.cell? ⟨b, 2, none⟩ = some z := by
  refine ⟨?_, ?_, ?_⟩ <;> (rw [Blk.cell h]; rfl)

theorem wanted_yes {x y : U} (h : greater y x = true) : wanted x y = y := by unfold wanted; rw [if_pos h]
theorem wanted_no {x y : U} (h : greater y x = false) : wanted x y = x := by unfold wanted; rw [if_neg (by simp [h])]

def Quiet0 (w8 : World) (s : Value) (wx : World) : Prop := s = .bool false ∧ Chg none w8 wx
def Quiet2 (w8 : World) (g : Nat) (cs : Array Value) (b : Bool) (s : Value) (wx : World) : Prop := s = .bool b ∧ Blk wx g cs 31 ∧ Chg none w8 wx

end Go.Proofs.Ytiehbbbncmdchaa
