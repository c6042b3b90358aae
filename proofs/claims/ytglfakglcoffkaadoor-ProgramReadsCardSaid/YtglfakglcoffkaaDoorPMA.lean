/-
  ProgramMore: what may be, cut and made longer (plain).
-/
import Derived.Test.YtglfakglcoffkaaDoorPK
import Derived.Test.YtglfakglcoffkaaDoorR
import Derived.Test.YtglfakglcoffkaaDoorK
import Derived.Test.YtglfakglcoffkaaDoorE1
namespace Go.Proofs.YtglfakglcoffkaaDoor
open Go.RowKit

def jmpB (k : Nat) (x : Ins) : Bool := (x.op == 8 || x.op == 9 || x.op == 10) && decide ((k : Int) < x.n)
theorem insB_in {x : Ins} {p : Int} (h : insB x p = true) : 1 ≤ x.op ∧ x.op ≤ 11 := by
  unfold insB at h
  simp only [Bool.and_eq_true, decide_eq_true_eq] at h
  exact ⟨h.1, by omega⟩
theorem insB_cut {x : Ins} {q : Int} {k : Nat} (h : insB x q = true) : insB x k = !jmpB k x := by
  have hin := insB_in h
  obtain ⟨op, a, b, c, n, m⟩ := x
  dsimp only at hin
  rcases (show op = 1 ∨ op = 2 ∨ op = 3 ∨ op = 4 ∨ op = 5 ∨ op = 6 ∨ op = 7 ∨ op = 8 ∨ op = 9 ∨ op = 10 ∨ op = 11 by omega) with rfl | rfl | rfl | rfl | rfl | rfl | rfl | rfl | rfl | rfl | rfl
  · rw [insB_1] at h ⊢; rw [h]; rfl
  · rw [insB_2] at h ⊢; rw [h]; rfl
  · rw [insB_3] at h ⊢; rw [h]; rfl
  · rw [insB_4] at h ⊢; rw [h]; rfl
  · rw [insB_5] at h ⊢; rw [h]; rfl
  · rw [insB_6] at h ⊢; rw [h]; rfl
  · rw [insB_7] at h ⊢; rw [h]; rfl
  · rw [insB_8] at h ⊢
    simp only [Bool.and_eq_true, decide_eq_true_eq] at h
    obtain ⟨z1, z2, z3, ⟨z4, z5⟩, z6⟩ := h
    rw [z1, z2, z3, z6, decide_eq_true z4]
    unfold jmpB
    by_cases hn : n ≤ (k : Int)
    · rw [decide_eq_true hn, decide_eq_false (by show ¬ (k : Int) < n; omega)]; rfl
    · rw [decide_eq_false hn, decide_eq_true (by show (k : Int) < n; omega)]; rfl
  · rw [insB_9] at h ⊢
    simp only [Bool.and_eq_true, decide_eq_true_eq] at h
    obtain ⟨z1, z2, z3, ⟨z4, z5⟩, z6⟩ := h
    rw [z1, z2, z3, z6, decide_eq_true z4]
    unfold jmpB
    by_cases hn : n ≤ (k : Int)
    · rw [decide_eq_true hn, decide_eq_false (by show ¬ (k : Int) < n; omega)]; rfl
    · rw [decide_eq_false hn, decide_eq_true (by show (k : Int) < n; omega)]; rfl
  · rw [insB_10] at h ⊢
    simp only [Bool.and_eq_true, decide_eq_true_eq] at h
    obtain ⟨z1, z2, z3, ⟨z4, z5⟩, z6⟩ := h
    rw [z1, z2, z3, z6, decide_eq_true z4]
    unfold jmpB
    by_cases hn : n ≤ (k : Int)
    · rw [decide_eq_true hn, decide_eq_false (by show ¬ (k : Int) < n; omega)]; rfl
    · rw [decide_eq_false hn, decide_eq_true (by show (k : Int) < n; omega)]; rfl
  · rw [insB_11] at h ⊢; rw [h]; rfl
theorem insB_mono {x : Ins} {p q : Int} (h : insB x p = true) (hpq : p ≤ q) : insB x q = true := by
  have hin := insB_in h
  obtain ⟨op, a, b, c, n, m⟩ := x
  dsimp only at hin
  rcases (show op = 1 ∨ op = 2 ∨ op = 3 ∨ op = 4 ∨ op = 5 ∨ op = 6 ∨ op = 7 ∨ op = 8 ∨ op = 9 ∨ op = 10 ∨ op = 11 by omega) with rfl | rfl | rfl | rfl | rfl | rfl | rfl | rfl | rfl | rfl | rfl
  · rw [insB_1] at h ⊢; exact h
  · rw [insB_2] at h ⊢; exact h
  · rw [insB_3] at h ⊢; exact h
  · rw [insB_4] at h ⊢; exact h
  · rw [insB_5] at h ⊢; exact h
  · rw [insB_6] at h ⊢; exact h
  · rw [insB_7] at h ⊢; exact h
  · rw [insB_8] at h ⊢
    simp only [Bool.and_eq_true, decide_eq_true_eq] at h
    obtain ⟨z1, z2, z3, ⟨z4, z5⟩, z6⟩ := h
    rw [z1, z2, z3, z6, decide_eq_true z4, decide_eq_true (by omega : n ≤ q)]; rfl
  · rw [insB_9] at h ⊢
    simp only [Bool.and_eq_true, decide_eq_true_eq] at h
    obtain ⟨z1, z2, z3, ⟨z4, z5⟩, z6⟩ := h
    rw [z1, z2, z3, z6, decide_eq_true z4, decide_eq_true (by omega : n ≤ q)]; rfl
  · rw [insB_10] at h ⊢
    simp only [Bool.and_eq_true, decide_eq_true_eq] at h
    obtain ⟨z1, z2, z3, ⟨z4, z5⟩, z6⟩ := h
    rw [z1, z2, z3, z6, decide_eq_true z4, decide_eq_true (by omega : n ≤ q)]; rfl
  · rw [insB_11] at h ⊢; exact h
theorem mayB_parts {L : List Ins} (h : mayB L = true) : L.length ≤ 30 ∧ ∀ x ∈ L, insB x L.length = true := by
  unfold mayB at h
  simpa only [Bool.and_eq_true, decide_eq_true_eq, List.all_eq_true] using h
theorem mayB_take {L : List Ins} {k : Nat} (h : mayB L = true) (hk : k ≤ L.length) : mayB (L.take k) = !((L.take k).any (jmpB k)) := by
  obtain ⟨h1, h2⟩ := mayB_parts h
  have hl : (L.take k).length = k := by rw [List.length_take]; omega
  unfold mayB
  rw [hl, decide_eq_true (by omega), Bool.true_and]
  have : ∀ M : List Ins, (∀ x ∈ M, insB x L.length = true) → (M.all fun x => insB x k) = !(M.any (jmpB k)) := by
    intro M
    induction M with
    | nil => intro _; rfl
    | cons x M ih =>
      intro hM
      rw [List.all_cons, List.any_cons, insB_cut (hM x (by simp)), ih (fun y hy => hM y (by simp [hy])), Bool.not_or]
  exact this _ fun x hx => h2 x (List.mem_of_mem_take hx)
def failI : Ins := ⟨11, [], [], [], 0, 0⟩
def jumpI (n : Nat) : Ins := ⟨8, [], [], [], n, 0⟩
theorem mayB_more {L : List Ins} (h : mayB L = true) : mayB (L ++ [failI, jumpI L.length]) = decide (L.length + 2 ≤ 30) := by
  obtain ⟨h1, h2⟩ := mayB_parts h
  by_cases h3 : L.length + 2 ≤ 30
  · rw [decide_eq_true h3]
    refine mayB_yes (by simp; omega) fun k x hx => ?_
    have hm := List.mem_of_getElem? hx
    have hl : ((L ++ [failI, jumpI L.length]).length : Int) = (L.length : Int) + 2 := by simp
    rw [hl]
    rcases List.mem_append.1 hm with h4 | h4
    · exact insB_mono (h2 x h4) (by omega)
    · rcases (show x = failI ∨ x = jumpI L.length by simpa using h4) with rfl | rfl
      · rfl
      · unfold jumpI
        rw [insB_8]
        simp
        omega
  · rw [decide_eq_false h3]
    exact mayB_long (by simp; omega)
theorem any_step {L : List Ins} {f : Ins → Bool} {j : Nat} {x : Ins} (h : L[j]? = some x) : (L.take (j + 1)).any f = ((L.take j).any f || f x) := by
  rw [List.take_add_one, h, List.any_append]
  simp

theorem Tryd.info61 : (Tryd.prog.info? 61).map (fun i => (i.zero, i.size, i.bytes)) = some (some (.agg #[.int .u8 0, .string ⟨#[]⟩, .string ⟨#[]⟩, .string ⟨#[]⟩, .int .i64 0, .int .i64 0]), 6, 72) := by kernel_rfl
theorem insCells_len (x : Ins) : (insCells x).length = 6 := rfl
theorem insCells_one {L : List Ins} : ∀ u ∈ L.flatMap insCells, u.oneCell' = true := by
  intro u hu
  obtain ⟨x, -, hx⟩ := List.mem_flatMap.1 hu
  simp only [insCells, List.mem_cons, List.not_mem_nil, or_false] at hx
  rcases hx with rfl | rfl | rfl | rfl | rfl | rfl <;> rfl
theorem own_empty61 (w : World) (B : Nat) (hB : B ≤ w.heap.size) : (w.alloc (.cells #[] 61 (0, 0))).ownsRow B 61 6 (.slice (some ⟨w.heap.size, 0, none⟩) 0 0) 0 (([] : List Ins).flatMap insCells) :=
  ⟨rfl, .inr ⟨w.heap.size, 0, #[], rfl, hB, heap_alloc_new w _, Nat.le_refl _, by unfold maxLen; decide, rfl, rfl⟩⟩
theorem reads_lit61 (w : World) (L : List Ins) : Reads (w.alloc (.cells (L.flatMap insCells).toArray 61 (0, 0))) (w.alloc (.cells (L.flatMap insCells).toArray 61 (0, 0))).heap.size 6 (some ⟨w.heap.size, 0, none⟩) L.length (L.flatMap insCells) :=
  ⟨flat_len insCells 6 insCells_len L, fun _ => ⟨_, rfl, by simp, fun j u hu => by
    rw [Go.WideShapes.add_plain, Nat.zero_add, (Blk.new w _ 61).cell, ← hu]; simp⟩⟩
theorem rows_of_own {w : World} {B n c : Nat} {A : Option Addr} {L : List Ins} (h : w.ownsRow B 61 6 (.slice A n c) n (L.flatMap insCells)) : RowsAt w 6 A insCells L ∧ n = L.length ∧ n ≤ c := by
  have hl := h.1
  rw [flat_len insCells 6 insCells_len] at hl
  have hn : n = L.length := by omega
  rcases h.2 with ⟨h1, h2⟩ | ⟨g, cap, cur, h1, h2, h3, h4, h5, h6, h7⟩
  · exact ⟨fun hne => absurd (List.eq_nil_of_length_eq_zero (by omega)) hne, hn, by omega⟩
  · injection h1 with e1 e2 e3
    refine ⟨fun _ => ⟨g, 0, e1, (Array.getElem?_eq_some_iff.1 h3).1, fun i x hi j hj => ?_⟩, hn, by omega⟩
    have hf := flat_get insCells 6 insCells_len L i j x hi hj
    have hj6 : j < (insCells x).length := hj
    rw [List.getElem?_eq_getElem hj6] at hf ⊢
    have := h.cells (g := g) (by rw [e1]; rfl) _ _ hf
    rwa [Go.WideShapes.add_plain] at this
theorem RowsAt.first {w : World} {A : Option Addr} {L : List Ins} (h : RowsAt w 6 A insCells L) (k : Nat) : RowsAt w 6 A insCells (L.take k) := by
  intro hne
  obtain ⟨b, off, e, hb, hc⟩ := h (by intro e; subst e; simp at hne)
  refine ⟨b, off, e, hb, fun i x hi j hj => hc i x ?_ j hj⟩
  rw [List.getElem?_take] at hi
  split at hi
  · exact hi
  · cases hi
theorem cut_hi52 (A : Option Addr) (n c hi : Nat) (h1 : hi ≤ c) (w : World) :
    (Instr.sliceAt 52 (.slice A n c) none (some (.int .i64 hi)) none).run Tryd.prog w = .ok (.slice A hi c) w := by
  have u52 := Tryd.underlying52
  have z61 : ∀ w, (sizeOf 61).run Tryd.prog w = .ok 6 w := fun _ => by kernel_rfl
  have h4 : (hi : Int) ≤ c := by omega
  go_simp
  all_goals (cases A <;> simp [Addr.add])

end Go.Proofs.YtglfakglcoffkaaDoor
