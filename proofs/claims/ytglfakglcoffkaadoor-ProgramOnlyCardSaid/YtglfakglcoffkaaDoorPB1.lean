/-
  Package program: bytes being written.
-/
import Derived.Test.YtglfakglcoffkaaDoorPR2
namespace Go.Proofs.YtglfakglcoffkaaDoor
open Go.RowKit

theorem path_len {s : List UInt8} (h : pathB s = true) : s.length ≤ 40 := by
  unfold pathB at h
  simp only [Bool.and_eq_true, decide_eq_true_eq] at h
  exact h.1.2
theorem empty_len {s : List UInt8} (h : s.isEmpty = true) : s.length ≤ 40 := by
  cases s with
  | nil => exact Nat.zero_le _
  | cons a l => cases h
/-- What may be is small. -/
structure Ins.small (x : Ins) : Prop where
  op : x.op ≤ 11
  a : x.a.length ≤ 40
  b : x.b.length ≤ 40
  c : x.c.length ≤ 40
  n : 0 ≤ x.n ∧ x.n ≤ 2000
  m : 0 ≤ x.m ∧ x.m ≤ 2000
theorem insB_small {x : Ins} {p : Int} (h : insB x p = true) (hp : p ≤ 30) : x.small := by
  have hin := insB_in h
  obtain ⟨op, a, b, c, n, m⟩ := x
  dsimp only at hin
  rcases (show op = 1 ∨ op = 2 ∨ op = 3 ∨ op = 4 ∨ op = 5 ∨ op = 6 ∨ op = 7 ∨ op = 8 ∨ op = 9 ∨ op = 10 ∨ op = 11 by omega) with rfl | rfl | rfl | rfl | rfl | rfl | rfl | rfl | rfl | rfl | rfl
  · rw [insB_1] at h
    simp only [Bool.and_eq_true, beq_iff_eq] at h
    obtain ⟨z1, z2, z3, z4, z5⟩ := h
    exact ⟨by dsimp only; omega, path_len z1, path_len z2, empty_len z3, by dsimp only; omega, by dsimp only; omega⟩
  · rw [insB_2] at h
    simp only [Bool.and_eq_true, beq_iff_eq] at h
    obtain ⟨z1, z2, z3, z4, z5⟩ := h
    exact ⟨by dsimp only; omega, path_len z1, path_len z2, path_len z3, by dsimp only; omega, by dsimp only; omega⟩
  · rw [insB_3] at h
    simp only [Bool.and_eq_true, decide_eq_true_eq] at h
    obtain ⟨z1, z2, z3, ⟨z4, z5⟩, z6, z7⟩ := h
    exact ⟨by dsimp only; omega, path_len z1, path_len z2, empty_len z3, ⟨z4, z5⟩, ⟨z6, z7⟩⟩
  · rw [insB_4] at h
    simp only [Bool.and_eq_true, decide_eq_true_eq, beq_iff_eq] at h
    obtain ⟨z1, ⟨z2, z3⟩, z4, z5, z6⟩ := h
    exact ⟨by dsimp only; omega, path_len z1, z3, z4, by dsimp only; omega, by dsimp only; omega⟩
  · rw [insB_5] at h
    simp only [Bool.and_eq_true, beq_iff_eq] at h
    obtain ⟨z1, z2, z3, z4, z5⟩ := h
    exact ⟨by dsimp only; omega, path_len z1, empty_len z2, empty_len z3, by dsimp only; omega, by dsimp only; omega⟩
  · rw [insB_6] at h
    simp only [Bool.and_eq_true, beq_iff_eq] at h
    obtain ⟨z1, z2, z3, z4, z5⟩ := h
    exact ⟨by dsimp only; omega, path_len z1, path_len z2, empty_len z3, by dsimp only; omega, by dsimp only; omega⟩
  · rw [insB_7] at h
    simp only [Bool.and_eq_true, beq_iff_eq] at h
    obtain ⟨z1, z2, z3, z4, z5⟩ := h
    exact ⟨by dsimp only; omega, path_len z1, path_len z2, empty_len z3, by dsimp only; omega, by dsimp only; omega⟩
  · rw [insB_8] at h
    simp only [Bool.and_eq_true, decide_eq_true_eq, beq_iff_eq] at h
    obtain ⟨z1, z2, z3, ⟨z4, z4b⟩, z5⟩ := h
    exact ⟨by dsimp only; omega, empty_len z1, empty_len z2, empty_len z3, by dsimp only; omega, by dsimp only; omega⟩
  · rw [insB_9] at h
    simp only [Bool.and_eq_true, decide_eq_true_eq, beq_iff_eq] at h
    obtain ⟨z1, z2, z3, ⟨z4, z4b⟩, z5⟩ := h
    exact ⟨by dsimp only; omega, path_len z1, empty_len z2, empty_len z3, by dsimp only; omega, by dsimp only; omega⟩
  · rw [insB_10] at h
    simp only [Bool.and_eq_true, decide_eq_true_eq, beq_iff_eq] at h
    obtain ⟨z1, z2, z3, ⟨z4, z4b⟩, z5⟩ := h
    exact ⟨by dsimp only; omega, path_len z1, path_len z2, empty_len z3, by dsimp only; omega, by dsimp only; omega⟩
  · rw [insB_11] at h
    have e := (sameIns_iff _ _).1 h
    injection e with _ e1 e2 e3 e4 e5
    subst e1 e2 e3 e4 e5
    exact ⟨by decide, by decide, by decide, by decide, by decide, by decide⟩

/-- Bytes of the call's own, made since w0. -/
def ByAt (w0 w : World) (A : Option Addr) (n c : Nat) (bs : List UInt8) : Prop := n = bs.length ∧ w.ownsRow w0.heap.size 5 1 (.slice A n c) n (byteVals bs) ∧ Chg none w0 w
theorem own_nilok {w : World} {base n c : Nat} {A : Option Addr} {xs : List Value} (h : w.ownsRow base 5 1 (.slice A n c) n xs) : NilOk A n c := by
  rintro rfl
  rcases h.2 with ⟨h1, h2⟩ | ⟨g, cap, cur, h1, _⟩
  · injection h1 with _ _ h5
    exact ⟨h2, h5⟩
  · injection h1 with h3; cases h3
theorem ByAt.of_post {w0 w w' : World} {bs : List UInt8} {e : Ending} (h : WPost w w.heap.size bs e w') (g : Chg none w0 w) : ∃ A n c, e = .returned (.slice A n c) ∧ ByAt w0 w' A n c bs ∧ Chg none w w' := by
  obtain ⟨A, n, c, h1, h2, h3, h4⟩ := h
  have k : Chg none w w' := ⟨h4.os, h4.tape, h4.output, h4.size, fun k hk _ => h4.block k hk⟩
  exact ⟨A, n, c, h1, ⟨h2, World.ownsRow.mono h3 g.size, g.trans k⟩, k⟩
theorem ByAt.chg {w0 w w' : World} {A : Option Addr} {n c : Nat} {bs : List UInt8} (h : ByAt w0 w A n c bs) (g : Chg none w w') : ByAt w0 w' A n c bs :=
  ⟨h.1, own_chgW h.2.1 g, h.2.2.trans g⟩
theorem put_u {w0 w : World} {A : Option Addr} {n c : Nat} {bs : List UInt8} (m : Nat) (h : ByAt w0 w A n c bs) (hl : bs.length ≤ 100000) (hm : m < 18446744073709551616) :
    Calls Tryd.prog 61 #[.slice A n c, .int .u64 m] w fun e w' => ∃ A' n' c', e = .returned (.slice A' n' c') ∧ ByAt w0 w' A' n' c' (bs ++ form m) ∧ Chg none w w' := by
  obtain ⟨rfl, h2, h3⟩ := h
  exact (appendUint_any A bs c m w (own_nilok h2) (Reads.of_own h2) (by omega) hm).mono fun e w' hp => ByAt.of_post hp h3
theorem put_b {w0 w : World} {A : Option Addr} {n c : Nat} {bs : List UInt8} (Ax : Option Addr) (x : List UInt8) (cx : Nat) (h : ByAt w0 w A n c bs) (hl : bs.length ≤ 100000) (hx : Reads w w.heap.size 1 Ax x.length (byteVals x)) (hxl : x.length ≤ 100000) :
    Calls Tryd.prog 62 #[.slice A n c, .slice Ax x.length cx] w fun e w' => ∃ A' n' c', e = .returned (.slice A' n' c') ∧ ByAt w0 w' A' n' c' (bs ++ row x) ∧ Chg none w w' := by
  obtain ⟨rfl, h2, h3⟩ := h
  exact (appendBytes_any A bs c Ax x cx w (own_nilok h2) (Reads.of_own h2) hx (by omega) (by omega)).mono fun e w' hp => ByAt.of_post hp h3
theorem form_small (n : Nat) (h : n < 18446744073709551616) : (form n).length ≤ 9 := by
  rw [form_len]; have := nb_le n h; omega
theorem insF_len {x : Ins} (h : x.small) : (insF x).length ≤ 300 := by
  unfold insF
  have h1 := form_small x.op (by have := h.op; omega)
  have h2 := row_len x.a (by have := h.a; omega)
  have h3 := row_len x.b (by have := h.b; omega)
  have h4 := row_len x.c (by have := h.c; omega)
  have h5 := form_small x.n.toNat (by have := h.n; omega)
  have h6 := form_small x.m.toNat (by have := h.m; omega)
  have ha := h.a
  have hb := h.b
  have hc := h.c
  simp only [List.length_append]
  omega
theorem flat_small : ∀ L : List Ins, (∀ x ∈ L, x.small) → (L.flatMap insF).length ≤ 300 * L.length
  | [], _ => by simp
  | x :: L, h => by
    rw [List.flatMap_cons, List.length_append, List.length_cons]
    have h1 := insF_len (h x (by simp))
    have h2 := flat_small L (fun y hy => h y (by simp [hy]))
    omega
theorem mayB_small {L : List Ins} (h : mayB L = true) : L.length ≤ 30 ∧ ∀ x ∈ L, x.small := by
  obtain ⟨h1, h2⟩ := mayB_parts h
  exact ⟨h1, fun x hx => insB_small (h2 x hx) (by omega)⟩
/-- What is written of the first k. -/
def partB (L : List Ins) (k : Nat) : List UInt8 := form L.length ++ (L.take k).flatMap insF
theorem partB_succ {L : List Ins} {k : Nat} {x : Ins} (h : L[k]? = some x) : partB L (k + 1) = partB L k ++ insF x := by
  unfold partB
  rw [List.take_add_one, h]
  simp
theorem partB_all {L : List Ins} {k : Nat} (h : L.length ≤ k) : partB L k = progB L := by
  unfold partB progB
  rw [List.take_of_length_le h]
theorem partB_len {L : List Ins} (h : mayB L = true) (k : Nat) : (partB L k).length ≤ 10000 := by
  obtain ⟨h1, h2⟩ := mayB_small h
  unfold partB
  rw [List.length_append]
  have h3 := form_small L.length (by omega)
  have h4 := flat_small (L.take k) (fun x hx => h2 x (List.mem_of_mem_take hx))
  rw [List.length_take] at h4
  omega

end Go.Proofs.YtglfakglcoffkaaDoor
