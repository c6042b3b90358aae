/-
  The document's plan of layer 23: New, walked.
-/
import Derived.Test.YtippkdjggipnmaaRG
import Derived.Deep.Cut
import Derived.Deep.CutBlock
namespace Go.Proofs.Ytippkdjggipnmaa
open Go.RowKit Go.Maps

theorem Try.info52 : (Try.prog.info? 52).map (fun i => (i.zero, i.size, i.bytes)) = some (some (.slice none 0 0), 1, 24) := by kernel_rfl

theorem ints_zs (k : Nat) : ints (List.replicate k 0) = zs k := by unfold ints zs; rw [List.map_replicate]
theorem own_int {w : World} {B : Nat} {v : Value} {k : Nat} (h : w.ownsRow B 3 1 v k (zs k)) (d : Nat) : ∃ A c b, v = .slice A k c ∧ IntS w A b (List.replicate k 0) ∧ (0 < k → v.ownBlock = some b) ∧ (k = 0 → b = d) := by
  rcases h.2 with ⟨rfl, rfl⟩ | ⟨g, cap, cur, rfl, -, hg, -, -, -, ht⟩
  · exact ⟨none, 0, d, rfl, fun h => absurd rfl h, fun h => by omega, fun _ => rfl⟩
  · cases k with
    | zero => exact ⟨_, cap, d, rfl, fun h => absurd rfl h, fun h => by omega, fun _ => rfl⟩
    | succ k =>
      refine ⟨_, cap, g, rfl, fun _ => ⟨rfl, cur.toList.drop (k + 1), 3, ?_⟩, fun _ => rfl, fun h => by omega⟩
      rw [ints_zs, ← ht, Nat.mul_one, List.take_append_drop]
      unfold BlkL Blk
      rw [Array.toArray_toList]
      exact hg
theorem own_rows {w : World} {B : Nat} {v : Value} {k np : Nat} {rs : List Nat} (h : w.ownsRow B 52 1 v k (rws np rs)) (hr : ∀ g ∈ rs, BlkL w g (zs np) 3) (d : Nat) : ∃ A c b, v = .slice A k c ∧ TmS w A b rs (List.replicate k (List.replicate np 0)) ∧ (0 < k → v.ownBlock = some b) ∧ (k = 0 → b = d) ∧ rs.length = k := by
  have hl : rs.length = k := by
    have := h.1
    unfold rws at this
    simpa using this
  rcases h.2 with ⟨rfl, rfl⟩ | ⟨g, cap, cur, rfl, -, hg, -, -, -, ht⟩
  · exact ⟨none, 0, d, rfl, fun h => absurd rfl h, fun h => by omega, fun _ => rfl, hl⟩
  · cases k with
    | zero => exact ⟨_, cap, d, rfl, fun h => absurd rfl h, fun h => by omega, fun _ => rfl, hl⟩
    | succ k =>
      refine ⟨_, cap, g, rfl, fun _ => ⟨rfl, rs.map (fun g => ⟨some ⟨g, 0, none⟩, List.replicate np 0, np⟩), cur.toList.drop (k + 1), 52, ?_, ?_, by simp, ?_⟩, fun _ => rfl, fun h => by omega, hl⟩
      · have e : (rs.map (fun g => (⟨some ⟨g, 0, none⟩, List.replicate np 0, np⟩ : Rw))).map rwC = rws np rs := by
          unfold rws rwC
          rw [List.map_map]
          refine List.map_congr_left fun g _ => ?_
          simp
        rw [e, ← ht, Nat.mul_one, List.take_append_drop]
        unfold BlkL Blk
        rw [Array.toArray_toList]
        exact hg
      · rw [List.map_map]
        symm
        rw [List.eq_replicate_iff]
        refine ⟨by simpa using hl, fun x hx => ?_⟩
        obtain ⟨_, _, rfl⟩ := List.mem_map.1 hx
        rfl
      · intro i r b hi hb
        rw [List.getElem?_map, hb] at hi
        obtain rfl := by simpa using hi
        exact fun _ => ⟨rfl, [], 3, by rw [ints_zs, List.append_nil]; exact hr b (List.mem_of_getElem? hb)⟩

def newR (nc np : Nat) (win tim : Int) : Rf := ⟨List.replicate nc 0, List.replicate nc 0, List.replicate nc 0, List.replicate np 0, List.replicate nc (List.replicate np 0), win, tim⟩
theorem newR_sim (nc np : Nat) (win tim : Int) : Sim (newP nc np win tim) (newR nc np win tim) := by
  unfold newP newR
  refine ⟨by simp, by simp, by simp, ?_, by simp, by simp, ?_, rfl, rfl⟩
  · intro i x hx h1
    obtain rfl := (List.eq_of_mem_replicate (List.mem_of_getElem? hx))
    cases h1
  · intro i row hr
    obtain rfl := (List.eq_of_mem_replicate (List.mem_of_getElem? hr))
    simp only [List.length_replicate, true_and]
    intro k hk
    rw [List.getElem?_replicate, if_pos hk]

def RNew (w : World) (nc np : Nat) (win tim : Int) (e : Ending) (w' : World) : Prop := ∃ q, e = .returned (.pointer (some ⟨q.b, 0, none⟩)) ∧ RefAt w' q (newR nc np win tim) ∧ (∀ g ∈ q.all, w.heap.size ≤ g ∧ g < w'.heap.size) ∧ Chg none w w'

theorem RNew.of {w w' w2 : World} {nc np : Nat} {win tim : Int} {v1 v2 v3 v5 : Value} {rs : List Nat} (h : NewAt w w' np win tim nc nc nc nc v1 v2 v3 v5 rs) (g : Chg none w' w2) (hd : BlkL w2 w'.heap.size (ints (List.replicate np 0)) 3) (c : Nat) :
    RNew w nc np win tim (.returned (.pointer (some ⟨w.heap.size, 0, none⟩))) (w2.setCell ⟨w.heap.size, 3, none⟩ (.slice (some ⟨w'.heap.size, 0, none⟩) np c)) := by
  have h2 := h.on g
  have hbs : w.heap.size < w'.heap.size := Blk.lt h.blk
  have hsz : w2.heap.size = (w2.setCell ⟨w.heap.size, 3, none⟩ (.slice (some ⟨w'.heap.size, 0, none⟩) np c)).heap.size := by simp [World.setCell]
  have hdl : w'.heap.size < w2.heap.size := Blk.lt hd
  have o1 := ownsRow_setCell_below (a := ⟨w.heap.size, 3, none⟩) h2.o1 (Nat.lt_succ_self _) (.slice (some ⟨w'.heap.size, 0, none⟩) np c)
  have o2 := ownsRow_setCell_below (a := ⟨w.heap.size, 3, none⟩) h2.o2 (Nat.lt_succ_self _) (.slice (some ⟨w'.heap.size, 0, none⟩) np c)
  have o3 := ownsRow_setCell_below (a := ⟨w.heap.size, 3, none⟩) h2.o3 (Nat.lt_succ_self _) (.slice (some ⟨w'.heap.size, 0, none⟩) np c)
  have o5 := ownsRow_setCell_below (a := ⟨w.heap.size, 3, none⟩) h2.o5 (Nat.lt_succ_self _) (.slice (some ⟨w'.heap.size, 0, none⟩) np c)
  have hrows : ∀ g ∈ rs, BlkL (w2.setCell ⟨w.heap.size, 3, none⟩ (.slice (some ⟨w'.heap.size, 0, none⟩) np c)) g (zs np) 3 := fun x hx => Blk.setOther (h2.rows x hx).1 _ _ (by have := (h2.rows x hx).2; show x ≠ w.heap.size; omega)
  obtain ⟨A1, c1, b1, e1, i1, ob1, z1⟩ := own_int o1 w.heap.size
  obtain ⟨A2, c2, b2, e2, i2, ob2, z2⟩ := own_int o2 w.heap.size
  obtain ⟨A3, c3, b3, e3, i3, ob3, z3⟩ := own_int o3 w.heap.size
  obtain ⟨A5, c5, b5, e5, i5, ob5, z5, hrl⟩ := own_rows o5 hrows w.heap.size
  have hblk := Blk.set h2.blk 3 (.slice (some ⟨w'.heap.size, 0, none⟩) np c)
  have hd2 : BlkL (w2.setCell ⟨w.heap.size, 3, none⟩ (.slice (some ⟨w'.heap.size, 0, none⟩) np c)) w'.heap.size (ints (List.replicate np 0)) 3 := Blk.setOther hd _ _ (by show w'.heap.size ≠ w.heap.size; omega)
  refine ⟨⟨w.heap.size, b1, b2, b3, w'.heap.size, b5, rs⟩, rfl, ⟨⟨⟨A1, A2, A3, some ⟨w'.heap.size, 0, none⟩, A5, c1, c2, c3, c, c5⟩, ?_, i1, i2, i3, fun _ => ⟨rfl, [], 3, by rw [List.append_nil]; exact hd2⟩, i5⟩, ?_⟩, ?_, ?_⟩
  · subst e1 e2 e3 e5
    unfold newR
    simp only [List.length_replicate]
    exact hblk
  · intro hne
    have hnc : 0 < nc := by
      rcases Nat.eq_zero_or_pos nc with h0 | h0
      · subst h0; exact absurd rfl hne
      · exact h0
    have q1 := ob1 hnc
    have q2 := ob2 hnc
    have q3 := ob3 hnc
    have q5 := ob5 hnc
    have l1 := h.o1.lt _ q1
    have l2 := h.o2.lt _ q2
    have l3 := h.o3.lt _ q3
    have l5 := h.o5.lt _ q5
    have n12 : b1 ≠ b2 := fun e => h.a12 _ q1 (e ▸ q2)
    have n13 : b1 ≠ b3 := fun e => h.a13 _ q1 (e ▸ q3)
    have n15 : b1 ≠ b5 := fun e => h.a15 _ q1 (e ▸ q5)
    have n23 : b2 ≠ b3 := fun e => h.a23 _ q2 (e ▸ q3)
    have n25 : b2 ≠ b5 := fun e => h.a25 _ q2 (e ▸ q5)
    have n35 : b3 ≠ b5 := fun e => h.a35 _ q3 (e ▸ q5)
    have m1 : b1 ∉ rs := fun hm => h.r1 _ hm q1
    have m2 : b2 ∉ rs := fun hm => h.r2 _ hm q2
    have m3 : b3 ∉ rs := fun hm => h.r3 _ hm q3
    have m5 : b5 ∉ rs := fun hm => h.r5 _ hm q5
    have mw : w.heap.size ∉ rs := fun hm => by have := (h.rows _ hm).2; omega
    have md : w'.heap.size ∉ rs := fun hm => by have := Blk.lt (h.rows _ hm).1; omega
    unfold Rb.all
    simp only [List.nodup_cons, List.mem_cons, not_or]
    exact ⟨⟨by omega, by omega, by omega, by omega, by omega, mw⟩, ⟨n12, n13, by omega, n15, m1⟩, ⟨n23, by omega, n25, m2⟩, ⟨by omega, n35, m3⟩, ⟨by omega, md⟩, m5, h.nd⟩
  · rw [← hsz]
    have hb : ∀ {k b : Nat} {v : Value}, (0 < k → v.ownBlock = some b) → (k = 0 → b = w.heap.size) → (∀ x, v.ownBlock = some x → w.heap.size + 1 ≤ x ∧ x < w'.heap.size) → w.heap.size ≤ b ∧ b < w2.heap.size := fun {k b v} h1 h2 h3 => by
      rcases Nat.eq_zero_or_pos k with h0 | h0
      · have := h2 h0; omega
      · have := h3 _ (h1 h0); omega
    unfold Rb.all
    intro x hx
    simp only [List.mem_cons] at hx
    rcases hx with rfl | rfl | rfl | rfl | rfl | rfl | hx
    · omega
    · exact hb ob1 z1 h.o1.lt
    · exact hb ob2 z2 h.o2.lt
    · exact hb ob3 z3 h.o3.lt
    · omega
    · exact hb ob5 z5 h.o5.lt
    · have h1 := (h.rows x hx).2
      have h3 := Blk.lt (h.rows x hx).1
      omega
  · exact (h.chg.trans g).setNew _ (Nat.le_refl _) _

end Go.Proofs.Ytippkdjggipnmaa
