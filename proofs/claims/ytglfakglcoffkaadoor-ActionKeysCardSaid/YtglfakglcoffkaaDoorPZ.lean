/-
  Layer 6's known; Great. ProgramMore: what may be, cut and made longer (plain). Package program: bytes written and read (plain). Package program: the reader. Package program: what is read was written (plain). Package program: Read. Package program: bytes being written. Small arrays, indexed as values. Package program: Bytes. Package program: one form (plain).
-/
import Derived.Test.YtglfakglcoffkaaDoorPS
import Derived.Test.YtglfakglcoffkaaDoorR
import Derived.Test.YtglfakglcoffkaaDoorK
import Derived.Test.YtglfakglcoffkaaDoorE1
import Derived.Test.YtglfakglcoffkaaDoorWA
import Derived.Handy
import Derived.Deep.Cut
import Derived.Deep.CutBlock
import Derived.Deep.DeepCutAuto
import Derived.Deep.RegionHeld3
import Derived.Test.YtglfakglcoffkaaDoorBW
import Derived.Lib.ConvBytes
import Derived.Laws.BytesArg
namespace Go.Proofs.YtglfakglcoffkaaDoor
open Go.RowKit

/-- A list of one instruction, in a block of its own. -/
theorem lit_row (x : Ins) (v : World) (fl : Nat × Nat) : RowsAt (v.alloc (.cells (insCells x).toArray 61 fl)) 6 (some ⟨v.heap.size, 0, none⟩) insCells [x] := by
  intro _
  refine ⟨v.heap.size, 0, rfl, by simp, fun i a hi j hj => ?_⟩
  have hi0 : i = 0 := by
    have := (List.getElem?_eq_some_iff.1 hi).1
    simp at this; exact this
  subst hi0
  obtain rfl : x = a := by simpa using hi
  unfold World.cell?
  rw [heap_alloc_new v (.cells (insCells x).toArray 61 fl)]
  simp
theorem may_lit (x : Ins) (hx : x.fits) (w : World) (hF : Flds w) (r : Bool) (hr : mayB [x] = r) (v : World) (g : Chg none w v) (fl : Nat × Nat) :
    Calls Tryd.prog 35 #[.slice (some ⟨v.heap.size, 0, none⟩) 1 1] (v.alloc (.cells (insCells x).toArray 61 fl)) fun e w' => e = .returned (.bool r) ∧ Chg none w w' := by
  have g1 : Chg none w (v.alloc (.cells (insCells x).toArray 61 fl)) := g.alloc _
  refine (may_any [x] _ 1 _ (lit_row x v fl) (fun y hy => by rw [List.mem_singleton.1 hy]; exact hx) (by simp) (hF.chg g1)).mono ?_
  rintro e w2 ⟨rfl, g2⟩
  rw [hr]
  exact ⟨rfl, g1.trans g2⟩

def k1 : Ins := ⟨8, [], [], [], 1, 0⟩
def k2 : Ins := ⟨8, [], [], [], 2, 0⟩
def k3 : Ins := ⟨1, [97], [65], [], 0, 0⟩
def k4 : Ins := ⟨4, [97], [], [], 0, 0⟩
theorem k_fits : k1.fits ∧ k2.fits ∧ k3.fits ∧ k4.fits := by
  refine ⟨⟨?_, ?_, ?_, ?_, ?_, ?_⟩, ⟨?_, ?_, ?_, ?_, ?_, ?_⟩, ⟨?_, ?_, ?_, ?_, ?_, ?_⟩, ⟨?_, ?_, ?_, ?_, ?_, ?_⟩⟩ <;> decide
theorem k_may : mayB [k1] = true ∧ mayB [k2] = false ∧ mayB [k3] = false ∧ mayB [k4] = false := ⟨rfl, rfl, rfl, rfl⟩

set_option maxHeartbeats 16000000 in
set_option maxRecDepth 100000 in
theorem known_any (w : World) (hF : Flds w) : Calls Tryd.prog 33 #[] w fun e w' => e = .returned (.bool true) ∧ Chg none w w' := by
  have HM0 : Hid (∀ v, Chg none w v → Calls Tryd.prog 35 #[.slice none 0 0] v fun e w' => e = .returned (.bool true) ∧ Chg none w w') := fun v g =>
    (may_any [] none 0 v (fun h => absurd rfl h) (fun _ h => (by cases h)) (by simp) (hF.chg g)).mono fun e w' h => ⟨h.1, g.trans h.2⟩
  have HM1 := Lib.hid (may_lit k1 k_fits.1 w hF _ k_may.1)
  have HM2 := Lib.hid (may_lit k2 k_fits.2.1 w hF _ k_may.2.1)
  have HM3 := Lib.hid (may_lit k3 k_fits.2.2.1 w hF _ k_may.2.2.1)
  have HM4 := Lib.hid (may_lit k4 k_fits.2.2.2 w hF _ k_may.2.2.2)
  unfold insCells k1 at HM1
  unfold insCells k2 at HM2
  unfold insCells k3 at HM3
  unfold insCells k4 at HM4
  dsimp only at HM1 HM2 HM3 HM4
  go_enter Tryd.func33, Tryd.ntmps33
  go_wp2_with fail
  refine (HM0.out _ (Chg.refl _ _)).mono ?_
  rintro e w1 ⟨rfl, g1⟩
  go_wp2_with fail
  refine (HM1.out _ g1 _).mono ?_
  rintro e w2 ⟨rfl, g2⟩
  clear g1
  go_wp2_with fail
  refine (HM2.out _ g2 _).mono ?_
  rintro e w3 ⟨rfl, g3⟩
  clear g2
  go_wp2_with fail
  refine (HM3.out _ g3 _).mono ?_
  rintro e w4 ⟨rfl, g4⟩
  clear g3
  go_wp2_with fail
  refine (HM4.out _ g4 _).mono ?_
  rintro e w5 ⟨rfl, g5⟩
  clear g4
  go_wp2_with fail
  go_ret
  exact ⟨rfl, g5⟩

end Go.Proofs.YtglfakglcoffkaaDoor

namespace Go.Proofs.YtglfakglcoffkaaDoor
open Go.RowKit

def jmpB (k : Nat) (x : Ins) : Bool := (x.op == 8 || x.op == 9 || x.op == 10) && decide ((k : Int) < x.n)
theorem insB_in {x : Ins} {p : Int} (h : insB x p = true) : 1 ≤ x.op ∧ x.op ≤ 11 := by
  unfold insB at h
  simp only [Bool.and_eq_true, decide_eq_true_eq] at h
  exact ⟨h.1, by omega⟩
theorem insB_cut {x : Ins} {q : Int} {k : Nat} (h : insB x q = true) : insB x k = !jmpB k x := by
  have hin := insB_in h
  obtain ⟨op, a, b, c, n, m⟩ := x
  dsimp only at hin
  rcases (show op = 1 ∨ op = 2 ∨ op = 3 ∨ op = 4 ∨ op = 5 ∨ op = 6 ∨ op = 7 ∨ op = 8 ∨ op = 9 ∨ op = 10 ∨ op = 11 by omega) with rfl | rfl | rfl | rfl | rfl | rfl | rfl | rfl | rfl | rfl | rfl
  · rw [insB_1] at h ⊢; rw [h]; rfl
  · rw [insB_2] at h ⊢; rw [h]; rfl
  · rw [insB_3] at h ⊢; rw [h]; rfl
  · rw [insB_4] at h ⊢; rw [h]; rfl
  · rw [insB_5] at h ⊢; rw [h]; rfl
  · rw [insB_6] at h ⊢; rw [h]; rfl
  · rw [insB_7] at h ⊢; rw [h]; rfl
  · rw [insB_8] at h ⊢
    simp only [Bool.and_eq_true, decide_eq_true_eq] at h
    obtain ⟨z1, z2, z3, ⟨z4, z5⟩, z6⟩ := h
    rw [z1, z2, z3, z6, decide_eq_true z4]
    unfold jmpB
    by_cases hn : n ≤ (k : Int)
    · rw [decide_eq_true hn, decide_eq_false (by show ¬ (k : Int) < n; omega)]; rfl
    · rw [decide_eq_false hn, decide_eq_true (by show (k : Int) < n; omega)]; rfl
  · rw [insB_9] at h ⊢
    simp only [Bool.and_eq_true, decide_eq_true_eq] at h
    obtain ⟨z1, z2, z3, ⟨z4, z5⟩, z6⟩ := h
    rw [z1, z2, z3, z6, decide_eq_true z4]
    unfold jmpB
    by_cases hn : n ≤ (k : Int)
    · rw [decide_eq_true hn, decide_eq_false (by show ¬ (k : Int) < n; omega)]; rfl
    · rw [decide_eq_false hn, decide_eq_true (by show (k : Int) < n; omega)]; rfl
  · rw [insB_10] at h ⊢
    simp only [Bool.and_eq_true, decide_eq_true_eq] at h
    obtain ⟨z1, z2, z3, ⟨z4, z5⟩, z6⟩ := h
    rw [z1, z2, z3, z6, decide_eq_true z4]
    unfold jmpB
    by_cases hn : n ≤ (k : Int)
    · rw [decide_eq_true hn, decide_eq_false (by show ¬ (k : Int) < n; omega)]; rfl
    · rw [decide_eq_false hn, decide_eq_true (by show (k : Int) < n; omega)]; rfl
  · rw [insB_11] at h ⊢; rw [h]; rfl
theorem insB_mono {x : Ins} {p q : Int} (h : insB x p = true) (hpq : p ≤ q) : insB x q = true := by
  have hin := insB_in h
  obtain ⟨op, a, b, c, n, m⟩ := x
  dsimp only at hin
  rcases (show op = 1 ∨ op = 2 ∨ op = 3 ∨ op = 4 ∨ op = 5 ∨ op = 6 ∨ op = 7 ∨ op = 8 ∨ op = 9 ∨ op = 10 ∨ op = 11 by omega) with rfl | rfl | rfl | rfl | rfl | rfl | rfl | rfl | rfl | rfl | rfl
  · rw [insB_1] at h ⊢; exact h
  · rw [insB_2] at h ⊢; exact h
  · rw [insB_3] at h ⊢; exact h
  · rw [insB_4] at h ⊢; exact h
  · rw [insB_5] at h ⊢; exact h
  · rw [insB_6] at h ⊢; exact h
  · rw [insB_7] at h ⊢; exact h
  · rw [insB_8] at h ⊢
    simp only [Bool.and_eq_true, decide_eq_true_eq] at h
    obtain ⟨z1, z2, z3, ⟨z4, z5⟩, z6⟩ := h
    rw [z1, z2, z3, z6, decide_eq_true z4, decide_eq_true (by omega : n ≤ q)]; rfl
  · rw [insB_9] at h ⊢
    simp only [Bool.and_eq_true, decide_eq_true_eq] at h
    obtain ⟨z1, z2, z3, ⟨z4, z5⟩, z6⟩ := h
    rw [z1, z2, z3, z6, decide_eq_true z4, decide_eq_true (by omega : n ≤ q)]; rfl
  · rw [insB_10] at h ⊢
    simp only [Bool.and_eq_true, decide_eq_true_eq] at h
    obtain ⟨z1, z2, z3, ⟨z4, z5⟩, z6⟩ := h
    rw [z1, z2, z3, z6, decide_eq_true z4, decide_eq_true (by omega : n ≤ q)]; rfl
  · rw [insB_11] at h ⊢; exact h
theorem mayB_parts {L : List Ins} (h : mayB L = true) : L.length ≤ 30 ∧ ∀ x ∈ L, insB x L.length = true := by
  unfold mayB at h
  simpa only [Bool.and_eq_true, decide_eq_true_eq, List.all_eq_true] using h
theorem mayB_take {L : List Ins} {k : Nat} (h : mayB L = true) (hk : k ≤ L.length) : mayB (L.take k) = !((L.take k).any (jmpB k)) := by
  obtain ⟨h1, h2⟩ := mayB_parts h
  have hl : (L.take k).length = k := by rw [List.length_take]; omega
  unfold mayB
  rw [hl, decide_eq_true (by omega), Bool.true_and]
  have : ∀ M : List Ins, (∀ x ∈ M, insB x L.length = true) → (M.all fun x => insB x k) = !(M.any (jmpB k)) := by
    intro M
    induction M with
    | nil => intro _; rfl
    | cons x M ih =>
      intro hM
      rw [List.all_cons, List.any_cons, insB_cut (hM x (by simp)), ih (fun y hy => hM y (by simp [hy])), Bool.not_or]
  exact this _ fun x hx => h2 x (List.mem_of_mem_take hx)
def failI : Ins := ⟨11, [], [], [], 0, 0⟩
def jumpI (n : Nat) : Ins := ⟨8, [], [], [], n, 0⟩
theorem mayB_more {L : List Ins} (h : mayB L = true) : mayB (L ++ [failI, jumpI L.length]) = decide (L.length + 2 ≤ 30) := by
  obtain ⟨h1, h2⟩ := mayB_parts h
  by_cases h3 : L.length + 2 ≤ 30
  · rw [decide_eq_true h3]
    refine mayB_yes (by simp; omega) fun k x hx => ?_
    have hm := List.mem_of_getElem? hx
    have hl : ((L ++ [failI, jumpI L.length]).length : Int) = (L.length : Int) + 2 := by simp
    rw [hl]
    rcases List.mem_append.1 hm with h4 | h4
    · exact insB_mono (h2 x h4) (by omega)
    · rcases (show x = failI ∨ x = jumpI L.length by simpa using h4) with rfl | rfl
      · rfl
      · unfold jumpI
        rw [insB_8]
        simp
        omega
  · rw [decide_eq_false h3]
    exact mayB_long (by simp; omega)
theorem any_step {L : List Ins} {f : Ins → Bool} {j : Nat} {x : Ins} (h : L[j]? = some x) : (L.take (j + 1)).any f = ((L.take j).any f || f x) := by
  rw [List.take_add_one, h, List.any_append]
  simp

theorem Tryd.info61 : (Tryd.prog.info? 61).map (fun i => (i.zero, i.size, i.bytes)) = some (some (.agg #[.int .u8 0, .string ⟨#[]⟩, .string ⟨#[]⟩, .string ⟨#[]⟩, .int .i64 0, .int .i64 0]), 6, 72) := by kernel_rfl
theorem insCells_len (x : Ins) : (insCells x).length = 6 := rfl
theorem insCells_one {L : List Ins} : ∀ u ∈ L.flatMap insCells, u.oneCell' = true := by
  intro u hu
  obtain ⟨x, -, hx⟩ := List.mem_flatMap.1 hu
  simp only [insCells, List.mem_cons, List.not_mem_nil, or_false] at hx
  rcases hx with rfl | rfl | rfl | rfl | rfl | rfl <;> rfl
theorem own_empty61 (w : World) (B : Nat) (hB : B ≤ w.heap.size) : (w.alloc (.cells #[] 61 (0, 0))).ownsRow B 61 6 (.slice (some ⟨w.heap.size, 0, none⟩) 0 0) 0 (([] : List Ins).flatMap insCells) :=
  ⟨rfl, .inr ⟨w.heap.size, 0, #[], rfl, hB, heap_alloc_new w _, Nat.le_refl _, by unfold maxLen; decide, rfl, rfl⟩⟩
theorem reads_lit61 (w : World) (L : List Ins) : Reads (w.alloc (.cells (L.flatMap insCells).toArray 61 (0, 0))) (w.alloc (.cells (L.flatMap insCells).toArray 61 (0, 0))).heap.size 6 (some ⟨w.heap.size, 0, none⟩) L.length (L.flatMap insCells) :=
  ⟨flat_len insCells 6 insCells_len L, fun _ => ⟨_, rfl, by simp, fun j u hu => by
    rw [Go.WideShapes.add_plain, Nat.zero_add, (Blk.new w _ 61).cell, ← hu]; simp⟩⟩
theorem rows_of_own {w : World} {B n c : Nat} {A : Option Addr} {L : List Ins} (h : w.ownsRow B 61 6 (.slice A n c) n (L.flatMap insCells)) : RowsAt w 6 A insCells L ∧ n = L.length ∧ n ≤ c := by
  have hl := h.1
  rw [flat_len insCells 6 insCells_len] at hl
  have hn : n = L.length := by omega
  rcases h.2 with ⟨h1, h2⟩ | ⟨g, cap, cur, h1, h2, h3, h4, h5, h6, h7⟩
  · exact ⟨fun hne => absurd (List.eq_nil_of_length_eq_zero (by omega)) hne, hn, by omega⟩
  · injection h1 with e1 e2 e3
    refine ⟨fun _ => ⟨g, 0, e1, (Array.getElem?_eq_some_iff.1 h3).1, fun i x hi j hj => ?_⟩, hn, by omega⟩
    have hf := flat_get insCells 6 insCells_len L i j x hi hj
    have hj6 : j < (insCells x).length := hj
    rw [List.getElem?_eq_getElem hj6] at hf ⊢
    have := h.cells (g := g) (by rw [e1]; rfl) _ _ hf
    rwa [Go.WideShapes.add_plain] at this
theorem RowsAt.first {w : World} {A : Option Addr} {L : List Ins} (h : RowsAt w 6 A insCells L) (k : Nat) : RowsAt w 6 A insCells (L.take k) := by
  intro hne
  obtain ⟨b, off, e, hb, hc⟩ := h (by intro e; subst e; simp at hne)
  refine ⟨b, off, e, hb, fun i x hi j hj => hc i x ?_ j hj⟩
  rw [List.getElem?_take] at hi
  split at hi
  · exact hi
  · cases hi
theorem cut_hi52 (A : Option Addr) (n c hi : Nat) (h1 : hi ≤ c) (w : World) :
    (Instr.sliceAt 52 (.slice A n c) none (some (.int .i64 hi)) none).run Tryd.prog w = .ok (.slice A hi c) w := by
  have u52 := Tryd.underlying52
  have z61 : ∀ w, (sizeOf 61).run Tryd.prog w = .ok 6 w := fun _ => by kernel_rfl
  have h4 : (hi : Int) ≤ c := by omega
  go_simp
  all_goals (cases A <;> simp [Addr.add])

end Go.Proofs.YtglfakglcoffkaaDoor

namespace Go.Proofs.YtglfakglcoffkaaDoor
open Go.RowKit

def insF (x : Ins) : List UInt8 := form x.op ++ (row x.a ++ (row x.b ++ (row x.c ++ (form x.n.toNat ++ form x.m.toNat))))
def progB (L : List Ins) : List UInt8 := form L.length ++ L.flatMap insF

/-- A number, and where reading goes on: none behind a fault. -/
def numS (bs : List UInt8) (most : Nat) : Option Nat → Nat × Option Nat
  | none => (0, none)
  | some at_ => if (readU bs at_).2.2 = 0 ∧ (readU bs at_).1 ≤ most then ((readU bs at_).1, some (readU bs at_).2.1.toNat) else (0, none)
def txtS (bs : List UInt8) : Option Nat → List UInt8 × Option Nat
  | none => ([], none)
  | some at_ => if (readB bs at_ 40).2.2 = 0 then ((readB bs at_ 40).1, some (readB bs at_ 40).2.1.toNat) else ([], none)
def insS (bs : List UInt8) (s : Option Nat) : Ins × Option Nat :=
  let o := numS bs 255 s
  let a := txtS bs o.2
  let b := txtS bs a.2
  let c := txtS bs b.2
  let n := numS bs 2000 c.2
  let m := numS bs 2000 n.2
  (⟨o.1, a.1, b.1, c.1, n.1, m.1⟩, m.2)
def listS (bs : List UInt8) : Nat → Option Nat → List Ins × Option Nat
  | 0, s => ([], s)
  | k + 1, s => ((listS bs k s).1 ++ [(insS bs (listS bs k s).2).1], (insS bs (listS bs k s).2).2)
def readP (bs : List UInt8) : Option (List Ins) :=
  let n := numS bs 30 (some 0)
  let l := listS bs n.1 n.2
  if l.2 = some bs.length ∧ mayB l.1 = true then some l.1 else none

theorem insS_none (bs : List UInt8) : (insS bs none).2 = none := rfl
theorem listS_len (bs : List UInt8) : ∀ k s, (listS bs k s).1.length = k
  | 0, _ => rfl
  | k + 1, s => by
    show ((listS bs k s).1 ++ [_]).length = k + 1
    rw [List.length_append, listS_len bs k s]; rfl
theorem listS_none (bs : List UInt8) : ∀ k, (listS bs k none).2 = none
  | 0 => rfl
  | k + 1 => by
    show (insS bs (listS bs k none).2).2 = none
    rw [listS_none bs k]; rfl
/-- Behind a fault all is lost. -/
theorem listS_lost {bs : List UInt8} {k : Nat} {s : Option Nat} (h : (listS bs k s).2 = none) : ∀ d, (listS bs (k + d) s).2 = none
  | 0 => h
  | d + 1 => by
    show (insS bs (listS bs (k + d) s).2).2 = none
    rw [listS_lost h d]; rfl
theorem listS_get {bs : List UInt8} {s : Option Nat} {k : Nat} : ∀ {n : Nat}, k < n → (listS bs n s).1[k]? = some (insS bs (listS bs k s).2).1
  | 0, h => absurd h (Nat.not_lt_zero _)
  | n + 1, h => by
    show ((listS bs n s).1 ++ [(insS bs (listS bs n s).2).1])[k]? = _
    rcases Nat.lt_or_ge k n with h1 | h1
    · rw [List.getElem?_append_left (by rw [listS_len]; exact h1), listS_get h1]
    · obtain rfl : k = n := by omega
      rw [List.getElem?_append_right (by rw [listS_len]; omega), listS_len, Nat.sub_self]; rfl
theorem numS_le (bs : List UInt8) (most : Nat) (s : Option Nat) : (numS bs most s).1 ≤ most := by
  cases s with
  | none => exact Nat.zero_le _
  | some a =>
    unfold numS
    dsimp only
    split
    · rename_i h; exact h.2
    · exact Nat.zero_le _
theorem readP_lost {bs : List UInt8} (h : (numS bs 30 (some 0)).2 = none) : readP bs = none := by
  unfold readP
  dsimp only
  rw [h, listS_none, if_neg (fun h => by cases h.1)]
theorem readP_lost_at {bs : List UInt8} {k : Nat} (hk : k < (numS bs 30 (some 0)).1) (h : (insS bs (listS bs k (numS bs 30 (some 0)).2).2).2 = none) : readP bs = none := by
  unfold readP
  dsimp only
  have h1 : (listS bs (k + 1) (numS bs 30 (some 0)).2).2 = none := h
  have h2 := listS_lost h1 ((numS bs 30 (some 0)).1 - (k + 1))
  rw [show k + 1 + ((numS bs 30 (some 0)).1 - (k + 1)) = (numS bs 30 (some 0)).1 by omega] at h2
  rw [h2, if_neg (fun h => by cases h.1)]
theorem readP_op {bs : List UInt8} {k : Nat} (hk : k < (numS bs 30 (some 0)).1) (h : 11 < (insS bs (listS bs k (numS bs 30 (some 0)).2).2).1.op) : readP bs = none := by
  unfold readP
  dsimp only
  have h1 := listS_get (bs := bs) (s := (numS bs 30 (some 0)).2) hk
  have h2 : mayB (listS bs (numS bs 30 (some 0)).1 (numS bs 30 (some 0)).2).1 = false := mayB_no h1 (insB_op (fun h => by omega))
  rw [h2, if_neg (fun h => by cases h.2)]

/-! What is written is read. -/
theorem numS_form (pre rest : List UInt8) (n most : Nat) (h : n < 18446744073709551616) (hm : n ≤ most) : numS (pre ++ (form n ++ rest)) most (some pre.length) = (n, some (pre ++ form n).length) := by
  unfold numS
  dsimp only
  rw [readU_form pre rest n h, if_pos ⟨rfl, hm⟩]
  dsimp only
  rw [Int.toNat_natCast, List.length_append]
theorem txtS_row (pre rest x : List UInt8) (h : x.length ≤ 40) : txtS (pre ++ (row x ++ rest)) (some pre.length) = (x, some (pre ++ row x).length) := by
  have h1 := readB_row pre rest x 40 (by omega)
  unfold txtS
  dsimp only
  rw [h1, if_pos (show (x.length : Int) ≤ 40 by omega), if_pos rfl]
  dsimp only
  rw [Int.toNat_natCast, List.length_append]

end Go.Proofs.YtglfakglcoffkaaDoor

namespace Go.Proofs.YtglfakglcoffkaaDoor
open Go.RowKit

/-- The reader lies in block b: what it reads, and where it is, if no fault was met. -/
def RdAt (w : World) (b : Nat) (A : Option Addr) (bs : List UInt8) (c : Nat) (s : Option Nat) : Prop :=
  ∃ (at_ : Nat) (wr : Bool), Blk w b #[.slice A bs.length c, .int .i64 at_, .bool wr] 104 ∧ s = if wr then none else some at_
theorem numS_ok {bs : List UInt8} {most k n : Nat} {x : Int} (h : readU bs k = (n, x, 0)) (hn : n ≤ most) : numS bs most (some k) = (n, some x.toNat) := by
  unfold numS
  dsimp only
  rw [h, if_pos ⟨rfl, hn⟩]
theorem numS_no {bs : List UInt8} {most k n : Nat} {x e : Int} (h : readU bs k = (n, x, e)) (hn : ¬ (e = 0 ∧ n ≤ most)) : numS bs most (some k) = (0, none) := by
  unfold numS
  dsimp only
  rw [h, if_neg hn]
theorem txtS_ok {bs l : List UInt8} {k : Nat} {x : Int} (h : readB bs k 40 = (l, x, 0)) : txtS bs (some k) = (l, some x.toNat) := by
  unfold txtS
  dsimp only
  rw [h, if_pos rfl]
theorem txtS_no {bs l : List UInt8} {k : Nat} {x e : Int} (h : readB bs k 40 = (l, x, e)) (hn : e ≠ 0) : txtS bs (some k) = ([], none) := by
  unfold txtS
  dsimp only
  rw [h, if_neg hn]
theorem readB_place (bs : List UInt8) (k : Nat) (most : Int) (h : (readB bs k most).2.2 = 0) : 0 ≤ (readB bs k most).2.1 := by
  unfold readB at h ⊢
  have hw := readC_well bs k most
  by_cases h0 : (readC bs k most).2.2 = 0
  · rw [if_pos h0] at h ⊢
    have := hw.ok h0
    by_cases h1 : (bs.length : Int) - (readC bs k most).2.1 < ((readC bs k most).1 : Int)
    · rw [if_pos h1] at h; cases h
    · rw [if_neg h1]; dsimp only; omega
  · rw [if_neg h0] at h; exact absurd h h0

set_option maxHeartbeats 8000000 in
set_option maxRecDepth 100000 in
theorem number_any (b B : Nat) (A : Option Addr) (bs : List UInt8) (c : Nat) (s : Option Nat) (most : Nat) (w : World) (hs : RdAt w b A bs c s) (hr : Reads w B 1 A bs.length (byteVals bs)) (hB : B ≤ w.heap.size)
    (hcap : bs.length ≤ c) (hl : bs.length ≤ 1000000) (hm : most ≤ 9223372036854775807) :
    Calls Tryd.prog 74 #[.pointer (some ⟨b, 0, none⟩), .int .u64 most] w fun e w' => e = .returned (.int .i64 (numS bs most s).1) ∧ RdAt w' b A bs c (numS bs most s).2 ∧ Chg (some b) w w' := by
  obtain ⟨at_, wr, hb, rfl⟩ := hs
  have x0 : w.cell? ⟨b, 0, none⟩ = some (.slice A bs.length c) := hb.cell 0
  have x1 : w.cell? ⟨b, 1, none⟩ = some (.int .i64 at_) := hb.cell 1
  have x2 : w.cell? ⟨b, 2, none⟩ = some (.bool wr) := hb.cell 2
  have y1 : w.frozen? ⟨b, 1, none⟩ = false := hb.frozen 1
  have y2 : w.frozen? ⟨b, 2, none⟩ = false := hb.frozen 2
  have HB := Lib.hid hb
  cases wr
  rotate_left
  · clear hb
    rw [if_pos rfl]
    go_enter Tryd.func74, Tryd.ntmps74
    go_wp2_with fail
    go_ret
    exact ⟨rfl, ⟨at_, true, HB.out, rfl⟩, Chg.refl _ _⟩
  rw [if_neg (by decide)]
  have HU := Lib.hid (uint_any A bs c at_ w.drew (hr.more hB).drew hcap hl)
  obtain ⟨n, nx, er, hq⟩ : ∃ n nx er, readU bs at_ = (n, nx, er) := ⟨_, _, _, rfl⟩
  have hw := readU_well bs at_
  rw [hq] at HU hw
  have HQ := Lib.hid hq
  have htop := hw.top
  have hok := hw.ok
  dsimp only at htop hok
  have HG : Hid (Chg (some b) w w.drew) := (Chg.refl _ _).drew
  clear hb hq hw hr
  by_cases hgood : er = 0 ∧ n ≤ most
  · obtain ⟨rfl, hn⟩ := hgood
    have hres := numS_ok HQ.out hn
    rw [hres]
    have hnx := (hok rfl)
    obtain ⟨N2, hN2⟩ : ∃ N2 : Nat, nx = N2 := ⟨nx.toNat, by omega⟩
    subst hN2
    have dm : decide (most < n) = false := by rw [decide_eq_false_iff_not]; omega
    have hw64 : wrap64 (n : Int) = (n : Int) := by go_arith
    clear hres hnx hok hn htop
    go_enter Tryd.func74, Tryd.ntmps74
    go_upto_region 3 with fail
    refine wp_region_held_drew (S := fun v => v = w.drew) (by kernel_rfl) rfl (fun _ => ?_)
    have x0 : w.drew.cell? ⟨b, 0, none⟩ = some (.slice A bs.length c) := x0
    have x1 : w.drew.cell? ⟨b, 1, none⟩ = some (.int .i64 at_) := x1
    have y1 : w.drew.frozen? ⟨b, 1, none⟩ = false := y1
    have HB : Hid (Blk w.drew b #[.slice A bs.length c, .int .i64 at_, .bool false] 104) := HB.out.drew
    generalize w.drew = v0 at *
    refine wpAnyH_take (i := 0) (oi := ⟨some 13, _, _, _, _, _⟩) (v := ?_) rfl (by kernel_rfl) (by kernel_rfl) (by kernel_rfl) (fun _ _ _ h => h) (Or.inl ⟨by rfl, ?_⟩) (by assumption) ?_
    rotate_left
    · intro w hSw; (try dsimp only at hSw); go_simp; (try with_reducible rfl)
    try simp only [Act.put, List.setIfInBounds_toArray, List.set_cons_zero, List.set_cons_succ]
    refine wpAnyH_take (i := 1) (oi := ⟨some 14, _, _, _, _, _⟩) (v := ?_) rfl (by kernel_rfl) (by kernel_rfl) (by kernel_rfl) (fun _ _ _ h => h) (Or.inl ⟨by rfl, ?_⟩) (by assumption) ?_
    rotate_left
    · intro w hSw; (try dsimp only at hSw); go_simp; (try with_reducible rfl)
    try simp only [Act.put, List.setIfInBounds_toArray, List.set_cons_zero, List.set_cons_succ]
    refine wpAnyH_take (i := 2) (oi := ⟨some 15, _, _, _, _, _⟩) (v := ?_) rfl (by kernel_rfl) (by kernel_rfl) (by kernel_rfl) (fun _ _ _ h => h) (Or.inl ⟨by rfl, ?_⟩) (by assumption) ?_
    rotate_left
    · intro w hSw; (try dsimp only at hSw); go_simp; (try with_reducible rfl)
    try simp only [Act.put, List.setIfInBounds_toArray, List.set_cons_zero, List.set_cons_succ]
    refine wpAnyH_take (i := 3) (oi := ⟨some 16, _, _, _, _, _⟩) (v := .slice A bs.length c) rfl (by kernel_rfl) (by kernel_rfl) (by kernel_rfl) (fun _ _ _ h => h) (Or.inl ⟨by rfl, ?_⟩) (by assumption) ?_
    · intro v hSv; subst hSv; go_simp
    try simp only [Act.put, List.setIfInBounds_toArray, List.set_cons_zero, List.set_cons_succ]
    refine wpAnyH_take (i := 4) (oi := ⟨some 17, _, _, _, _, _⟩) (v := ?_) rfl (by kernel_rfl) (by kernel_rfl) (by kernel_rfl) (fun _ _ _ h => h) (Or.inl ⟨by rfl, ?_⟩) (by assumption) ?_
    rotate_left
    · intro w hSw; (try dsimp only at hSw); go_simp; (try with_reducible rfl)
    try simp only [Act.put, List.setIfInBounds_toArray, List.set_cons_zero, List.set_cons_succ]
    refine wpAnyH_take (i := 5) (oi := ⟨some 18, _, _, _, _, _⟩) (v := ?_) rfl (by kernel_rfl) (by kernel_rfl) (by kernel_rfl) (fun _ _ _ h => h) (Or.inl ⟨by rfl, ?_⟩) (by assumption) ?_
    rotate_left
    · intro w hSw; (try dsimp only at hSw); go_simp; (try with_reducible rfl)
    try simp only [Act.put, List.setIfInBounds_toArray, List.set_cons_zero, List.set_cons_succ]
    refine wpAnyH_take (i := 6) (oi := ⟨some 19, _, _, _, _, _⟩) (v := ?_) rfl (by kernel_rfl) (by kernel_rfl) (by kernel_rfl) (fun _ _ _ h => h) (Or.inl ⟨by rfl, ?_⟩) (by assumption) ?_
    rotate_left
    · intro w hSw; (try dsimp only at hSw); go_simp; (try with_reducible rfl)
    try simp only [Act.put, List.setIfInBounds_toArray, List.set_cons_zero, List.set_cons_succ]
    refine wpAnyH_take (i := 7) (oi := ⟨some 20, _, _, _, _, _⟩) (v := .int .i64 at_) rfl (by kernel_rfl) (by kernel_rfl) (by kernel_rfl) (fun _ _ _ h => h) (Or.inl ⟨by rfl, ?_⟩) (by assumption) ?_
    · intro v hSv; subst hSv; go_simp
    try simp only [Act.put, List.setIfInBounds_toArray, List.set_cons_zero, List.set_cons_succ]
    refine wpAnyH_ready (rs := [8]) (by kernel_rfl) (by simp) ?_
    refine AllReadyH.cons (o := ⟨some 21, _, _, _, _, _⟩) rfl (fun K hK => ?_) (AllReadyH.nil)
    go_simp
    go_at_call 65
    refine HU.out.mono ?_
    rintro e v1 ⟨rfl, rfl⟩
    go_wp2_with fail
    refine hK.out _ _ (by first | assumption | rfl) (fun _ => ?_)
    clear hK K
    try simp only [Act.put, List.setIfInBounds_toArray, List.set_cons_zero, List.set_cons_succ]
    refine wpAnyH_take (i := 9) (oi := ⟨some 12, _, _, _, _, _⟩) (v := ?_) rfl (by kernel_rfl) (by kernel_rfl) (by kernel_rfl) (fun _ _ _ h => h) (Or.inl ⟨by rfl, ?_⟩) (by assumption) ?_
    rotate_left
    · intro w hSw; (try dsimp only at hSw); go_simp; (try with_reducible rfl)
    try simp only [Act.put, List.setIfInBounds_toArray, List.set_cons_zero, List.set_cons_succ]
    refine wpAnyH_take (i := 10) (oi := ⟨some 22, _, _, _, _, _⟩) (v := ?_) rfl (by kernel_rfl) (by kernel_rfl) (by kernel_rfl) (fun _ _ _ h => h) (Or.inl ⟨by rfl, ?_⟩) (by assumption) ?_
    rotate_left
    · intro w hSw; (try dsimp only at hSw); go_simp; (try with_reducible rfl)
    try simp only [Act.put, List.setIfInBounds_toArray, List.set_cons_zero, List.set_cons_succ]
    refine wpAnyH_take (i := 11) (oi := ⟨some 23, _, _, _, _, _⟩) (v := ?_) rfl (by kernel_rfl) (by kernel_rfl) (by kernel_rfl) (fun _ _ _ h => h) (Or.inl ⟨by rfl, ?_⟩) (by assumption) ?_
    rotate_left
    · intro w hSw; (try dsimp only at hSw); go_simp; (try with_reducible rfl)
    try simp only [Act.put, List.setIfInBounds_toArray, List.set_cons_zero, List.set_cons_succ]
    refine wpAnyH_take (i := 12) (oi := ⟨some 24, _, _, _, _, _⟩) (v := ?_) rfl (by kernel_rfl) (by kernel_rfl) (by kernel_rfl) (fun _ _ _ h => h) (Or.inl ⟨by rfl, ?_⟩) (by assumption) ?_
    rotate_left
    · intro w hSw; (try dsimp only at hSw); go_simp; (try with_reducible rfl)
    try simp only [Act.put, List.setIfInBounds_toArray, List.set_cons_zero, List.set_cons_succ]
    refine wpAnyH_take (i := 13) (oi := ⟨some 5, _, _, _, _, _⟩) (v := ?_) rfl (by kernel_rfl) (by kernel_rfl) (by kernel_rfl) (fun _ _ _ h => h) (Or.inl ⟨by rfl, ?_⟩) (by assumption) ?_
    rotate_left
    · intro w hSw; (try dsimp only at hSw); go_simp; (try with_reducible rfl)
    try simp only [Act.put, List.setIfInBounds_toArray, List.set_cons_zero, List.set_cons_succ]
    refine wpAnyH_take (i := 14) (oi := ⟨some 6, _, _, _, _, _⟩) (v := ?_) rfl (by kernel_rfl) (by kernel_rfl) (by kernel_rfl) (fun _ _ _ h => h) (Or.inl ⟨by rfl, ?_⟩) (by assumption) ?_
    rotate_left
    · intro w hSw; (try dsimp only at hSw); go_simp; (try with_reducible rfl)
    try simp only [Act.put, List.setIfInBounds_toArray, List.set_cons_zero, List.set_cons_succ]
    refine wpAnyH_take (i := 15) (oi := ⟨some 7, _, _, _, _, _⟩) (v := ?_) rfl (by kernel_rfl) (by kernel_rfl) (by kernel_rfl) (fun _ _ _ h => h) (Or.inl ⟨by rfl, ?_⟩) (by assumption) ?_
    rotate_left
    · intro w hSw; (try dsimp only at hSw); go_simp; (try with_reducible rfl)
    try simp only [Act.put, List.setIfInBounds_toArray, List.set_cons_zero, List.set_cons_succ]
    refine wpAnyH_done (by kernel_rfl) ?_ _
    try simp only [Act.put]
    go_wp2_with fail
    go_ret
    exact ⟨rfl, ⟨N2, false, HB.out.set 1 _, rfl⟩, HG.out.setCell 1 _⟩
  · have hres := numS_no HQ.out hgood
    rw [hres]
    clear hres
    by_cases he : er = 0
    · subst he
      have dm : decide (most < n) = true := by rw [decide_eq_true_eq]; omega
      clear hok hgood htop
      go_enter Tryd.func74, Tryd.ntmps74
      go_upto_region 3 with fail
      refine wp_region_held_drew (S := fun v => v = w.drew) (by kernel_rfl) rfl (fun _ => ?_)
      have x0 : w.drew.cell? ⟨b, 0, none⟩ = some (.slice A bs.length c) := x0
      have x1 : w.drew.cell? ⟨b, 1, none⟩ = some (.int .i64 at_) := x1
      have y2 : w.drew.frozen? ⟨b, 2, none⟩ = false := y2
      have x2 : w.drew.cell? ⟨b, 2, none⟩ = some (.bool false) := x2
      have HB : Hid (Blk w.drew b #[.slice A bs.length c, .int .i64 at_, .bool false] 104) := HB.out.drew
      generalize w.drew = v0 at *
      refine wpAnyH_take (i := 0) (oi := ⟨some 13, _, _, _, _, _⟩) (v := ?_) rfl (by kernel_rfl) (by kernel_rfl) (by kernel_rfl) (fun _ _ _ h => h) (Or.inl ⟨by rfl, ?_⟩) (by assumption) ?_
      rotate_left
      · intro w hSw; (try dsimp only at hSw); go_simp; (try with_reducible rfl)
      try simp only [Act.put, List.setIfInBounds_toArray, List.set_cons_zero, List.set_cons_succ]
      refine wpAnyH_take (i := 1) (oi := ⟨some 14, _, _, _, _, _⟩) (v := ?_) rfl (by kernel_rfl) (by kernel_rfl) (by kernel_rfl) (fun _ _ _ h => h) (Or.inl ⟨by rfl, ?_⟩) (by assumption) ?_
      rotate_left
      · intro w hSw; (try dsimp only at hSw); go_simp; (try with_reducible rfl)
      try simp only [Act.put, List.setIfInBounds_toArray, List.set_cons_zero, List.set_cons_succ]
      refine wpAnyH_take (i := 2) (oi := ⟨some 15, _, _, _, _, _⟩) (v := ?_) rfl (by kernel_rfl) (by kernel_rfl) (by kernel_rfl) (fun _ _ _ h => h) (Or.inl ⟨by rfl, ?_⟩) (by assumption) ?_
      rotate_left
      · intro w hSw; (try dsimp only at hSw); go_simp; (try with_reducible rfl)
      try simp only [Act.put, List.setIfInBounds_toArray, List.set_cons_zero, List.set_cons_succ]
      refine wpAnyH_take (i := 3) (oi := ⟨some 16, _, _, _, _, _⟩) (v := .slice A bs.length c) rfl (by kernel_rfl) (by kernel_rfl) (by kernel_rfl) (fun _ _ _ h => h) (Or.inl ⟨by rfl, ?_⟩) (by assumption) ?_
      · intro v hSv; subst hSv; go_simp
      try simp only [Act.put, List.setIfInBounds_toArray, List.set_cons_zero, List.set_cons_succ]
      refine wpAnyH_take (i := 4) (oi := ⟨some 17, _, _, _, _, _⟩) (v := ?_) rfl (by kernel_rfl) (by kernel_rfl) (by kernel_rfl) (fun _ _ _ h => h) (Or.inl ⟨by rfl, ?_⟩) (by assumption) ?_
      rotate_left
      · intro w hSw; (try dsimp only at hSw); go_simp; (try with_reducible rfl)
      try simp only [Act.put, List.setIfInBounds_toArray, List.set_cons_zero, List.set_cons_succ]
      refine wpAnyH_take (i := 5) (oi := ⟨some 18, _, _, _, _, _⟩) (v := ?_) rfl (by kernel_rfl) (by kernel_rfl) (by kernel_rfl) (fun _ _ _ h => h) (Or.inl ⟨by rfl, ?_⟩) (by assumption) ?_
      rotate_left
      · intro w hSw; (try dsimp only at hSw); go_simp; (try with_reducible rfl)
      try simp only [Act.put, List.setIfInBounds_toArray, List.set_cons_zero, List.set_cons_succ]
      refine wpAnyH_take (i := 6) (oi := ⟨some 19, _, _, _, _, _⟩) (v := ?_) rfl (by kernel_rfl) (by kernel_rfl) (by kernel_rfl) (fun _ _ _ h => h) (Or.inl ⟨by rfl, ?_⟩) (by assumption) ?_
      rotate_left
      · intro w hSw; (try dsimp only at hSw); go_simp; (try with_reducible rfl)
      try simp only [Act.put, List.setIfInBounds_toArray, List.set_cons_zero, List.set_cons_succ]
      refine wpAnyH_take (i := 7) (oi := ⟨some 20, _, _, _, _, _⟩) (v := .int .i64 at_) rfl (by kernel_rfl) (by kernel_rfl) (by kernel_rfl) (fun _ _ _ h => h) (Or.inl ⟨by rfl, ?_⟩) (by assumption) ?_
      · intro v hSv; subst hSv; go_simp
      try simp only [Act.put, List.setIfInBounds_toArray, List.set_cons_zero, List.set_cons_succ]
      refine wpAnyH_ready (rs := [8]) (by kernel_rfl) (by simp) ?_
      refine AllReadyH.cons (o := ⟨some 21, _, _, _, _, _⟩) rfl (fun K hK => ?_) (AllReadyH.nil)
      go_simp
      go_at_call 65
      refine HU.out.mono ?_
      rintro e v1 ⟨rfl, rfl⟩
      go_wp2_with fail
      refine hK.out _ _ (by first | assumption | rfl) (fun _ => ?_)
      clear hK K
      try simp only [Act.put, List.setIfInBounds_toArray, List.set_cons_zero, List.set_cons_succ]
      refine wpAnyH_take (i := 9) (oi := ⟨some 12, _, _, _, _, _⟩) (v := ?_) rfl (by kernel_rfl) (by kernel_rfl) (by kernel_rfl) (fun _ _ _ h => h) (Or.inl ⟨by rfl, ?_⟩) (by assumption) ?_
      rotate_left
      · intro w hSw; (try dsimp only at hSw); go_simp; (try with_reducible rfl)
      try simp only [Act.put, List.setIfInBounds_toArray, List.set_cons_zero, List.set_cons_succ]
      refine wpAnyH_take (i := 10) (oi := ⟨some 22, _, _, _, _, _⟩) (v := ?_) rfl (by kernel_rfl) (by kernel_rfl) (by kernel_rfl) (fun _ _ _ h => h) (Or.inl ⟨by rfl, ?_⟩) (by assumption) ?_
      rotate_left
      · intro w hSw; (try dsimp only at hSw); go_simp; (try with_reducible rfl)
      try simp only [Act.put, List.setIfInBounds_toArray, List.set_cons_zero, List.set_cons_succ]
      refine wpAnyH_take (i := 11) (oi := ⟨some 23, _, _, _, _, _⟩) (v := ?_) rfl (by kernel_rfl) (by kernel_rfl) (by kernel_rfl) (fun _ _ _ h => h) (Or.inl ⟨by rfl, ?_⟩) (by assumption) ?_
      rotate_left
      · intro w hSw; (try dsimp only at hSw); go_simp; (try with_reducible rfl)
      try simp only [Act.put, List.setIfInBounds_toArray, List.set_cons_zero, List.set_cons_succ]
      refine wpAnyH_take (i := 12) (oi := ⟨some 24, _, _, _, _, _⟩) (v := ?_) rfl (by kernel_rfl) (by kernel_rfl) (by kernel_rfl) (fun _ _ _ h => h) (Or.inl ⟨by rfl, ?_⟩) (by assumption) ?_
      rotate_left
      · intro w hSw; (try dsimp only at hSw); go_simp; (try with_reducible rfl)
      try simp only [Act.put, List.setIfInBounds_toArray, List.set_cons_zero, List.set_cons_succ]
      refine wpAnyH_take (i := 13) (oi := ⟨some 5, _, _, _, _, _⟩) (v := ?_) rfl (by kernel_rfl) (by kernel_rfl) (by kernel_rfl) (fun _ _ _ h => h) (Or.inl ⟨by rfl, ?_⟩) (by assumption) ?_
      rotate_left
      · intro w hSw; (try dsimp only at hSw); go_simp; (try with_reducible rfl)
      try simp only [Act.put, List.setIfInBounds_toArray, List.set_cons_zero, List.set_cons_succ]
      refine wpAnyH_take (i := 14) (oi := ⟨some 6, _, _, _, _, _⟩) (v := ?_) rfl (by kernel_rfl) (by kernel_rfl) (by kernel_rfl) (fun _ _ _ h => h) (Or.inl ⟨by rfl, ?_⟩) (by assumption) ?_
      rotate_left
      · intro w hSw; (try dsimp only at hSw); go_simp; (try with_reducible rfl)
      try simp only [Act.put, List.setIfInBounds_toArray, List.set_cons_zero, List.set_cons_succ]
      refine wpAnyH_take (i := 15) (oi := ⟨some 7, _, _, _, _, _⟩) (v := ?_) rfl (by kernel_rfl) (by kernel_rfl) (by kernel_rfl) (fun _ _ _ h => h) (Or.inl ⟨by rfl, ?_⟩) (by assumption) ?_
      rotate_left
      · intro w hSw; (try dsimp only at hSw); go_simp; (try with_reducible rfl)
      try simp only [Act.put, List.setIfInBounds_toArray, List.set_cons_zero, List.set_cons_succ]
      refine wpAnyH_done (by kernel_rfl) ?_ _
      try simp only [Act.put]
      go_wp2_with fail
      go_ret
      exact ⟨rfl, ⟨at_, true, HB.out.set 2 _, rfl⟩, HG.out.setCell 2 _⟩
    · have d0 : (er != 0) = true := by rw [bne_iff_ne]; exact he
      have d1 : (er == 0) = false := by rw [beq_eq_false_iff_ne]; exact he
      clear hok hgood htop he
      go_enter Tryd.func74, Tryd.ntmps74
      go_upto_region 3 with fail
      refine wp_region_held_drew (S := fun v => v = w.drew) (by kernel_rfl) rfl (fun _ => ?_)
      have x0 : w.drew.cell? ⟨b, 0, none⟩ = some (.slice A bs.length c) := x0
      have x1 : w.drew.cell? ⟨b, 1, none⟩ = some (.int .i64 at_) := x1
      have y2 : w.drew.frozen? ⟨b, 2, none⟩ = false := y2
      have x2 : w.drew.cell? ⟨b, 2, none⟩ = some (.bool false) := x2
      have HB : Hid (Blk w.drew b #[.slice A bs.length c, .int .i64 at_, .bool false] 104) := HB.out.drew
      generalize w.drew = v0 at *
      refine wpAnyH_take (i := 0) (oi := ⟨some 13, _, _, _, _, _⟩) (v := ?_) rfl (by kernel_rfl) (by kernel_rfl) (by kernel_rfl) (fun _ _ _ h => h) (Or.inl ⟨by rfl, ?_⟩) (by assumption) ?_
      rotate_left
      · intro w hSw; (try dsimp only at hSw); go_simp; (try with_reducible rfl)
      try simp only [Act.put, List.setIfInBounds_toArray, List.set_cons_zero, List.set_cons_succ]
      refine wpAnyH_take (i := 1) (oi := ⟨some 14, _, _, _, _, _⟩) (v := ?_) rfl (by kernel_rfl) (by kernel_rfl) (by kernel_rfl) (fun _ _ _ h => h) (Or.inl ⟨by rfl, ?_⟩) (by assumption) ?_
      rotate_left
      · intro w hSw; (try dsimp only at hSw); go_simp; (try with_reducible rfl)
      try simp only [Act.put, List.setIfInBounds_toArray, List.set_cons_zero, List.set_cons_succ]
      refine wpAnyH_take (i := 2) (oi := ⟨some 15, _, _, _, _, _⟩) (v := ?_) rfl (by kernel_rfl) (by kernel_rfl) (by kernel_rfl) (fun _ _ _ h => h) (Or.inl ⟨by rfl, ?_⟩) (by assumption) ?_
      rotate_left
      · intro w hSw; (try dsimp only at hSw); go_simp; (try with_reducible rfl)
      try simp only [Act.put, List.setIfInBounds_toArray, List.set_cons_zero, List.set_cons_succ]
      refine wpAnyH_take (i := 3) (oi := ⟨some 16, _, _, _, _, _⟩) (v := .slice A bs.length c) rfl (by kernel_rfl) (by kernel_rfl) (by kernel_rfl) (fun _ _ _ h => h) (Or.inl ⟨by rfl, ?_⟩) (by assumption) ?_
      · intro v hSv; subst hSv; go_simp
      try simp only [Act.put, List.setIfInBounds_toArray, List.set_cons_zero, List.set_cons_succ]
      refine wpAnyH_take (i := 4) (oi := ⟨some 17, _, _, _, _, _⟩) (v := ?_) rfl (by kernel_rfl) (by kernel_rfl) (by kernel_rfl) (fun _ _ _ h => h) (Or.inl ⟨by rfl, ?_⟩) (by assumption) ?_
      rotate_left
      · intro w hSw; (try dsimp only at hSw); go_simp; (try with_reducible rfl)
      try simp only [Act.put, List.setIfInBounds_toArray, List.set_cons_zero, List.set_cons_succ]
      refine wpAnyH_take (i := 5) (oi := ⟨some 18, _, _, _, _, _⟩) (v := ?_) rfl (by kernel_rfl) (by kernel_rfl) (by kernel_rfl) (fun _ _ _ h => h) (Or.inl ⟨by rfl, ?_⟩) (by assumption) ?_
      rotate_left
      · intro w hSw; (try dsimp only at hSw); go_simp; (try with_reducible rfl)
      try simp only [Act.put, List.setIfInBounds_toArray, List.set_cons_zero, List.set_cons_succ]
      refine wpAnyH_take (i := 6) (oi := ⟨some 19, _, _, _, _, _⟩) (v := ?_) rfl (by kernel_rfl) (by kernel_rfl) (by kernel_rfl) (fun _ _ _ h => h) (Or.inl ⟨by rfl, ?_⟩) (by assumption) ?_
      rotate_left
      · intro w hSw; (try dsimp only at hSw); go_simp; (try with_reducible rfl)
      try simp only [Act.put, List.setIfInBounds_toArray, List.set_cons_zero, List.set_cons_succ]
      refine wpAnyH_take (i := 7) (oi := ⟨some 20, _, _, _, _, _⟩) (v := .int .i64 at_) rfl (by kernel_rfl) (by kernel_rfl) (by kernel_rfl) (fun _ _ _ h => h) (Or.inl ⟨by rfl, ?_⟩) (by assumption) ?_
      · intro v hSv; subst hSv; go_simp
      try simp only [Act.put, List.setIfInBounds_toArray, List.set_cons_zero, List.set_cons_succ]
      refine wpAnyH_ready (rs := [8]) (by kernel_rfl) (by simp) ?_
      refine AllReadyH.cons (o := ⟨some 21, _, _, _, _, _⟩) rfl (fun K hK => ?_) (AllReadyH.nil)
      go_simp
      go_at_call 65
      refine HU.out.mono ?_
      rintro e v1 ⟨rfl, rfl⟩
      go_wp2_with fail
      refine hK.out _ _ (by first | assumption | rfl) (fun _ => ?_)
      clear hK K
      try simp only [Act.put, List.setIfInBounds_toArray, List.set_cons_zero, List.set_cons_succ]
      refine wpAnyH_take (i := 9) (oi := ⟨some 12, _, _, _, _, _⟩) (v := ?_) rfl (by kernel_rfl) (by kernel_rfl) (by kernel_rfl) (fun _ _ _ h => h) (Or.inl ⟨by rfl, ?_⟩) (by assumption) ?_
      rotate_left
      · intro w hSw; (try dsimp only at hSw); go_simp; (try with_reducible rfl)
      try simp only [Act.put, List.setIfInBounds_toArray, List.set_cons_zero, List.set_cons_succ]
      refine wpAnyH_take (i := 10) (oi := ⟨some 22, _, _, _, _, _⟩) (v := ?_) rfl (by kernel_rfl) (by kernel_rfl) (by kernel_rfl) (fun _ _ _ h => h) (Or.inl ⟨by rfl, ?_⟩) (by assumption) ?_
      rotate_left
      · intro w hSw; (try dsimp only at hSw); go_simp; (try with_reducible rfl)
      try simp only [Act.put, List.setIfInBounds_toArray, List.set_cons_zero, List.set_cons_succ]
      refine wpAnyH_take (i := 11) (oi := ⟨some 23, _, _, _, _, _⟩) (v := ?_) rfl (by kernel_rfl) (by kernel_rfl) (by kernel_rfl) (fun _ _ _ h => h) (Or.inl ⟨by rfl, ?_⟩) (by assumption) ?_
      rotate_left
      · intro w hSw; (try dsimp only at hSw); go_simp; (try with_reducible rfl)
      try simp only [Act.put, List.setIfInBounds_toArray, List.set_cons_zero, List.set_cons_succ]
      refine wpAnyH_take (i := 12) (oi := ⟨some 24, _, _, _, _, _⟩) (v := ?_) rfl (by kernel_rfl) (by kernel_rfl) (by kernel_rfl) (fun _ _ _ h => h) (Or.inl ⟨by rfl, ?_⟩) (by assumption) ?_
      rotate_left
      · intro w hSw; (try dsimp only at hSw); go_simp; (try with_reducible rfl)
      try simp only [Act.put, List.setIfInBounds_toArray, List.set_cons_zero, List.set_cons_succ]
      refine wpAnyH_take (i := 13) (oi := ⟨some 5, _, _, _, _, _⟩) (v := ?_) rfl (by kernel_rfl) (by kernel_rfl) (by kernel_rfl) (fun _ _ _ h => h) (Or.inl ⟨by rfl, ?_⟩) (by assumption) ?_
      rotate_left
      · intro w hSw; (try dsimp only at hSw); go_simp; (try with_reducible rfl)
      try simp only [Act.put, List.setIfInBounds_toArray, List.set_cons_zero, List.set_cons_succ]
      refine wpAnyH_take (i := 14) (oi := ⟨some 6, _, _, _, _, _⟩) (v := ?_) rfl (by kernel_rfl) (by kernel_rfl) (by kernel_rfl) (fun _ _ _ h => h) (Or.inl ⟨by rfl, ?_⟩) (by assumption) ?_
      rotate_left
      · intro w hSw; (try dsimp only at hSw); go_simp; (try with_reducible rfl)
      try simp only [Act.put, List.setIfInBounds_toArray, List.set_cons_zero, List.set_cons_succ]
      refine wpAnyH_take (i := 15) (oi := ⟨some 7, _, _, _, _, _⟩) (v := ?_) rfl (by kernel_rfl) (by kernel_rfl) (by kernel_rfl) (fun _ _ _ h => h) (Or.inl ⟨by rfl, ?_⟩) (by assumption) ?_
      rotate_left
      · intro w hSw; (try dsimp only at hSw); go_simp; (try with_reducible rfl)
      try simp only [Act.put, List.setIfInBounds_toArray, List.set_cons_zero, List.set_cons_succ]
      refine wpAnyH_done (by kernel_rfl) ?_ _
      try simp only [Act.put]
      go_wp2_with fail
      go_ret
      exact ⟨rfl, ⟨at_, true, HB.out.set 2 _, rfl⟩, HG.out.setCell 2 _⟩

set_option maxHeartbeats 8000000 in
set_option maxRecDepth 100000 in
theorem text_rd (b B : Nat) (A : Option Addr) (bs : List UInt8) (c : Nat) (s : Option Nat) (w : World) (hs : RdAt w b A bs c s) (hr : Reads w B 1 A bs.length (byteVals bs)) (hB : B ≤ w.heap.size)
    (hcap : bs.length ≤ c) (hl : bs.length ≤ 1000000) :
    Calls Tryd.prog 101 #[.pointer (some ⟨b, 0, none⟩)] w fun e w' => e = .returned (.string ⟨(txtS bs s).1.toArray⟩) ∧ RdAt w' b A bs c (txtS bs s).2 ∧ Chg (some b) w w' := by
  obtain ⟨at_, wr, hb, rfl⟩ := hs
  have x0 : w.cell? ⟨b, 0, none⟩ = some (.slice A bs.length c) := hb.cell 0
  have x1 : w.cell? ⟨b, 1, none⟩ = some (.int .i64 at_) := hb.cell 1
  have x2 : w.cell? ⟨b, 2, none⟩ = some (.bool wr) := hb.cell 2
  have HB := Lib.hid hb
  cases wr
  rotate_left
  · clear hb
    rw [if_pos rfl]
    go_enter Tryd.func101, Tryd.ntmps101
    go_wp2_with fail
    go_ret
    exact ⟨rfl, ⟨at_, true, HB.out, rfl⟩, Chg.refl _ _⟩
  rw [if_neg (by decide)]
  have HU := Lib.hid (bytes_any A bs c at_ 40 w.drew (hr.more hB).drew hcap hl (by decide))
  obtain ⟨l, nx, er, hq⟩ : ∃ l nx er, readB bs at_ 40 = (l, nx, er) := ⟨_, _, _, rfl⟩
  have hnn := readB_place bs at_ 40
  rw [hq] at HU hnn
  dsimp only at hnn
  have HQ := Lib.hid hq
  have HG : Hid (Chg (some b) w w.drew) := (Chg.refl _ _).drew
  have hblt : b < w.drew.heap.size := hb.lt
  clear hb hq hr
  by_cases he : er = 0
  · subst he
    have hres := txtS_ok HQ.out
    rw [hres]
    have hnx := (hnn rfl)
    obtain ⟨N2, hN2⟩ : ∃ N2 : Nat, nx = N2 := ⟨nx.toNat, by omega⟩
    subst hN2
    clear hres hnx hnn
    go_enter Tryd.func101, Tryd.ntmps101
    go_upto_region 3 with fail
    refine wp_region_held_drew (S := fun v => v.cell? ⟨b, 0, none⟩ = some (.slice A bs.length c) ∧ v.cell? ⟨b, 1, none⟩ = some (.int .i64 at_)) (by kernel_rfl) ⟨x0, x1⟩ (fun _ => ?_)
    have x0 : w.drew.cell? ⟨b, 0, none⟩ = some (.slice A bs.length c) := x0
    have x1 : w.drew.cell? ⟨b, 1, none⟩ = some (.int .i64 at_) := x1
    have HB : Hid (Blk w.drew b #[.slice A bs.length c, .int .i64 at_, .bool false] 104) := HB.out.drew
    generalize w.drew = v0 at *
    refine wpAnyH_take (i := 0) (oi := ⟨some 11, _, _, _, _, _⟩) (v := ?_) rfl (by kernel_rfl) (by kernel_rfl) (by kernel_rfl) (fun _ _ _ h => h) (Or.inl ⟨by rfl, ?_⟩) (by assumption) ?_
    rotate_left
    · intro w hSw; (try dsimp only at hSw); go_simp; (try with_reducible rfl)
    try simp only [Act.put, List.setIfInBounds_toArray, List.set_cons_zero, List.set_cons_succ]
    refine wpAnyH_take (i := 1) (oi := ⟨some 12, _, _, _, _, _⟩) (v := ?_) rfl (by kernel_rfl) (by kernel_rfl) (by kernel_rfl) (fun _ _ _ h => h) (Or.inl ⟨by rfl, ?_⟩) (by assumption) ?_
    rotate_left
    · intro w hSw; (try dsimp only at hSw); go_simp; (try with_reducible rfl)
    try simp only [Act.put, List.setIfInBounds_toArray, List.set_cons_zero, List.set_cons_succ]
    refine wpAnyH_take (i := 2) (oi := ⟨some 13, _, _, _, _, _⟩) (v := ?_) rfl (by kernel_rfl) (by kernel_rfl) (by kernel_rfl) (fun _ _ _ h => h) (Or.inl ⟨by rfl, ?_⟩) (by assumption) ?_
    rotate_left
    · intro w hSw; (try dsimp only at hSw); go_simp; (try with_reducible rfl)
    try simp only [Act.put, List.setIfInBounds_toArray, List.set_cons_zero, List.set_cons_succ]
    refine wpAnyH_take (i := 3) (oi := ⟨some 14, _, _, _, _, _⟩) (v := .slice A bs.length c) rfl (by kernel_rfl) (by kernel_rfl) (by kernel_rfl) (fun _ _ _ h => h) (Or.inl ⟨by rfl, ?_⟩) (by assumption) ?_
    · intro v hSv; obtain ⟨q0, q1⟩ := hSv; go_simp
    try simp only [Act.put, List.setIfInBounds_toArray, List.set_cons_zero, List.set_cons_succ]
    refine wpAnyH_take (i := 4) (oi := ⟨some 15, _, _, _, _, _⟩) (v := ?_) rfl (by kernel_rfl) (by kernel_rfl) (by kernel_rfl) (fun _ _ _ h => h) (Or.inl ⟨by rfl, ?_⟩) (by assumption) ?_
    rotate_left
    · intro w hSw; (try dsimp only at hSw); go_simp; (try with_reducible rfl)
    try simp only [Act.put, List.setIfInBounds_toArray, List.set_cons_zero, List.set_cons_succ]
    refine wpAnyH_take (i := 5) (oi := ⟨some 16, _, _, _, _, _⟩) (v := ?_) rfl (by kernel_rfl) (by kernel_rfl) (by kernel_rfl) (fun _ _ _ h => h) (Or.inl ⟨by rfl, ?_⟩) (by assumption) ?_
    rotate_left
    · intro w hSw; (try dsimp only at hSw); go_simp; (try with_reducible rfl)
    try simp only [Act.put, List.setIfInBounds_toArray, List.set_cons_zero, List.set_cons_succ]
    refine wpAnyH_take (i := 6) (oi := ⟨some 17, _, _, _, _, _⟩) (v := ?_) rfl (by kernel_rfl) (by kernel_rfl) (by kernel_rfl) (fun _ _ _ h => h) (Or.inl ⟨by rfl, ?_⟩) (by assumption) ?_
    rotate_left
    · intro w hSw; (try dsimp only at hSw); go_simp; (try with_reducible rfl)
    try simp only [Act.put, List.setIfInBounds_toArray, List.set_cons_zero, List.set_cons_succ]
    refine wpAnyH_take (i := 7) (oi := ⟨some 18, _, _, _, _, _⟩) (v := .int .i64 at_) rfl (by kernel_rfl) (by kernel_rfl) (by kernel_rfl) (fun _ _ _ h => h) (Or.inl ⟨by rfl, ?_⟩) (by assumption) ?_
    · intro v hSv; obtain ⟨q0, q1⟩ := hSv; go_simp
    try simp only [Act.put, List.setIfInBounds_toArray, List.set_cons_zero, List.set_cons_succ]
    refine wpAnyH_ready (rs := [8]) (by kernel_rfl) (by simp) ?_
    refine AllReadyH.cons (o := ⟨some 19, _, _, _, _, _⟩) rfl (fun K hK => ?_) (AllReadyH.nil)
    go_simp
    go_at_call 66
    refine HU.out.mono ?_
    rintro e v1 ⟨A1, n1, c1, rfl, hn1, hown1, hb1⟩
    have HB1 := Lib.hid (HB.out.chg (c := none) ⟨hb1.os, hb1.tape, hb1.output, hb1.size, fun k hk _ => hb1.block k hk⟩ (by simp))
    have HG1 : Hid (Chg (some b) w v1) := HG.out.trans (Chg.weaken ⟨hb1.os, hb1.tape, hb1.output, hb1.size, fun k hk _ => hb1.block k hk⟩)
    have hcv := conv_own v1 hown1
    have z1 : v1.frozen? ⟨b, 1, none⟩ = false := HB1.out.frozen 1
    have z2 : v1.frozen? ⟨b, 2, none⟩ = false := HB1.out.frozen 2
    have w1 : v1.cell? ⟨b, 1, none⟩ = some (.int .i64 at_) := HB1.out.cell 1
    have w2 : v1.cell? ⟨b, 2, none⟩ = some (.bool false) := HB1.out.cell 2
    dsimp only at hcv
    have HCV : Hid (∀ u, (Reads u u.heap.size 1 A1 n1 (byteVals l)) → (convert 22 9 (.slice A1 n1 c1)).run Tryd.prog u = .ok (.string ⟨l.toArray⟩) u) := fun u hu => conv_reads u hu
    have HOW := Lib.hid hown1
    clear hown1 hb1 hn1 hcv
    go_wp2_with fail
    refine hK.out _ _ ⟨HB1.out.cell 0, HB1.out.cell 1⟩ (fun _ => ?_)
    clear hK K
    try simp only [Act.put, List.setIfInBounds_toArray, List.set_cons_zero, List.set_cons_succ]
    refine wpAnyH_take (i := 9) (oi := ⟨some 10, _, _, _, _, _⟩) (v := ?_) rfl (by kernel_rfl) (by kernel_rfl) (by kernel_rfl) (fun _ _ _ h => h) (Or.inl ⟨by rfl, ?_⟩) (by assumption) ?_
    rotate_left
    · intro w hSw; (try dsimp only at hSw); go_simp; (try with_reducible rfl)
    try simp only [Act.put, List.setIfInBounds_toArray, List.set_cons_zero, List.set_cons_succ]
    refine wpAnyH_take (i := 10) (oi := ⟨some 20, _, _, _, _, _⟩) (v := ?_) rfl (by kernel_rfl) (by kernel_rfl) (by kernel_rfl) (fun _ _ _ h => h) (Or.inl ⟨by rfl, ?_⟩) (by assumption) ?_
    rotate_left
    · intro w hSw; (try dsimp only at hSw); go_simp; (try with_reducible rfl)
    try simp only [Act.put, List.setIfInBounds_toArray, List.set_cons_zero, List.set_cons_succ]
    refine wpAnyH_take (i := 11) (oi := ⟨some 21, _, _, _, _, _⟩) (v := ?_) rfl (by kernel_rfl) (by kernel_rfl) (by kernel_rfl) (fun _ _ _ h => h) (Or.inl ⟨by rfl, ?_⟩) (by assumption) ?_
    rotate_left
    · intro w hSw; (try dsimp only at hSw); go_simp; (try with_reducible rfl)
    try simp only [Act.put, List.setIfInBounds_toArray, List.set_cons_zero, List.set_cons_succ]
    refine wpAnyH_take (i := 12) (oi := ⟨some 22, _, _, _, _, _⟩) (v := ?_) rfl (by kernel_rfl) (by kernel_rfl) (by kernel_rfl) (fun _ _ _ h => h) (Or.inl ⟨by rfl, ?_⟩) (by assumption) ?_
    rotate_left
    · intro w hSw; (try dsimp only at hSw); go_simp; (try with_reducible rfl)
    try simp only [Act.put, List.setIfInBounds_toArray, List.set_cons_zero, List.set_cons_succ]
    refine wpAnyH_take (i := 13) (oi := ⟨some 3, _, _, _, _, _⟩) (v := ?_) rfl (by kernel_rfl) (by kernel_rfl) (by kernel_rfl) (fun _ _ _ h => h) (Or.inl ⟨by rfl, ?_⟩) (by assumption) ?_
    rotate_left
    · intro w hSw; (try dsimp only at hSw); go_simp; (try with_reducible rfl)
    try simp only [Act.put, List.setIfInBounds_toArray, List.set_cons_zero, List.set_cons_succ]
    refine wpAnyH_take (i := 14) (oi := ⟨some 4, _, _, _, _, _⟩) (v := ?_) rfl (by kernel_rfl) (by kernel_rfl) (by kernel_rfl) (fun _ _ _ h => h) (Or.inl ⟨by rfl, ?_⟩) (by assumption) ?_
    rotate_left
    · intro w hSw; (try dsimp only at hSw); go_simp; (try with_reducible rfl)
    try simp only [Act.put, List.setIfInBounds_toArray, List.set_cons_zero, List.set_cons_succ]
    refine wpAnyH_take (i := 15) (oi := ⟨some 5, _, _, _, _, _⟩) (v := ?_) rfl (by kernel_rfl) (by kernel_rfl) (by kernel_rfl) (fun _ _ _ h => h) (Or.inl ⟨by rfl, ?_⟩) (by assumption) ?_
    rotate_left
    · intro w hSw; (try dsimp only at hSw); go_simp; (try with_reducible rfl)
    try simp only [Act.put, List.setIfInBounds_toArray, List.set_cons_zero, List.set_cons_succ]
    refine wpAnyH_done (by kernel_rfl) ?_ _
    try simp only [Act.put]
    have hgs : Chg (some b) v1 (v1.setCell ⟨b, 1, none⟩ (.int .i64 N2)) := (Chg.refl _ _).setCell 1 _
    have hkp := World.ownsRow.kept HOW.out hgs (.inr (by intro hh; have h1 := (HOW.out.lt b hh).1; omega))
    have hcx := conv_own _ hkp
    clear hgs hkp
    go_wp2_with fail
    go_ret
    exact ⟨rfl, ⟨N2, false, HB1.out.set 1 _, rfl⟩, HG1.out.setCell 1 _⟩
  · have hres := txtS_no HQ.out he
    rw [hres]
    have d0 : (er != 0) = true := by rw [bne_iff_ne]; exact he
    have d1 : (er == 0) = false := by rw [beq_eq_false_iff_ne]; exact he
    clear hres he hnn
    go_enter Tryd.func101, Tryd.ntmps101
    go_upto_region 3 with fail
    refine wp_region_held_drew (S := fun v => v.cell? ⟨b, 0, none⟩ = some (.slice A bs.length c) ∧ v.cell? ⟨b, 1, none⟩ = some (.int .i64 at_)) (by kernel_rfl) ⟨x0, x1⟩ (fun _ => ?_)
    have x0 : w.drew.cell? ⟨b, 0, none⟩ = some (.slice A bs.length c) := x0
    have x1 : w.drew.cell? ⟨b, 1, none⟩ = some (.int .i64 at_) := x1
    have HB : Hid (Blk w.drew b #[.slice A bs.length c, .int .i64 at_, .bool false] 104) := HB.out.drew
    generalize w.drew = v0 at *
    refine wpAnyH_take (i := 0) (oi := ⟨some 11, _, _, _, _, _⟩) (v := ?_) rfl (by kernel_rfl) (by kernel_rfl) (by kernel_rfl) (fun _ _ _ h => h) (Or.inl ⟨by rfl, ?_⟩) (by assumption) ?_
    rotate_left
    · intro w hSw; (try dsimp only at hSw); go_simp; (try with_reducible rfl)
    try simp only [Act.put, List.setIfInBounds_toArray, List.set_cons_zero, List.set_cons_succ]
    refine wpAnyH_take (i := 1) (oi := ⟨some 12, _, _, _, _, _⟩) (v := ?_) rfl (by kernel_rfl) (by kernel_rfl) (by kernel_rfl) (fun _ _ _ h => h) (Or.inl ⟨by rfl, ?_⟩) (by assumption) ?_
    rotate_left
    · intro w hSw; (try dsimp only at hSw); go_simp; (try with_reducible rfl)
    try simp only [Act.put, List.setIfInBounds_toArray, List.set_cons_zero, List.set_cons_succ]
    refine wpAnyH_take (i := 2) (oi := ⟨some 13, _, _, _, _, _⟩) (v := ?_) rfl (by kernel_rfl) (by kernel_rfl) (by kernel_rfl) (fun _ _ _ h => h) (Or.inl ⟨by rfl, ?_⟩) (by assumption) ?_
    rotate_left
    · intro w hSw; (try dsimp only at hSw); go_simp; (try with_reducible rfl)
    try simp only [Act.put, List.setIfInBounds_toArray, List.set_cons_zero, List.set_cons_succ]
    refine wpAnyH_take (i := 3) (oi := ⟨some 14, _, _, _, _, _⟩) (v := .slice A bs.length c) rfl (by kernel_rfl) (by kernel_rfl) (by kernel_rfl) (fun _ _ _ h => h) (Or.inl ⟨by rfl, ?_⟩) (by assumption) ?_
    · intro v hSv; obtain ⟨q0, q1⟩ := hSv; go_simp
    try simp only [Act.put, List.setIfInBounds_toArray, List.set_cons_zero, List.set_cons_succ]
    refine wpAnyH_take (i := 4) (oi := ⟨some 15, _, _, _, _, _⟩) (v := ?_) rfl (by kernel_rfl) (by kernel_rfl) (by kernel_rfl) (fun _ _ _ h => h) (Or.inl ⟨by rfl, ?_⟩) (by assumption) ?_
    rotate_left
    · intro w hSw; (try dsimp only at hSw); go_simp; (try with_reducible rfl)
    try simp only [Act.put, List.setIfInBounds_toArray, List.set_cons_zero, List.set_cons_succ]
    refine wpAnyH_take (i := 5) (oi := ⟨some 16, _, _, _, _, _⟩) (v := ?_) rfl (by kernel_rfl) (by kernel_rfl) (by kernel_rfl) (fun _ _ _ h => h) (Or.inl ⟨by rfl, ?_⟩) (by assumption) ?_
    rotate_left
    · intro w hSw; (try dsimp only at hSw); go_simp; (try with_reducible rfl)
    try simp only [Act.put, List.setIfInBounds_toArray, List.set_cons_zero, List.set_cons_succ]
    refine wpAnyH_take (i := 6) (oi := ⟨some 17, _, _, _, _, _⟩) (v := ?_) rfl (by kernel_rfl) (by kernel_rfl) (by kernel_rfl) (fun _ _ _ h => h) (Or.inl ⟨by rfl, ?_⟩) (by assumption) ?_
    rotate_left
    · intro w hSw; (try dsimp only at hSw); go_simp; (try with_reducible rfl)
    try simp only [Act.put, List.setIfInBounds_toArray, List.set_cons_zero, List.set_cons_succ]
    refine wpAnyH_take (i := 7) (oi := ⟨some 18, _, _, _, _, _⟩) (v := .int .i64 at_) rfl (by kernel_rfl) (by kernel_rfl) (by kernel_rfl) (fun _ _ _ h => h) (Or.inl ⟨by rfl, ?_⟩) (by assumption) ?_
    · intro v hSv; obtain ⟨q0, q1⟩ := hSv; go_simp
    try simp only [Act.put, List.setIfInBounds_toArray, List.set_cons_zero, List.set_cons_succ]
    refine wpAnyH_ready (rs := [8]) (by kernel_rfl) (by simp) ?_
    refine AllReadyH.cons (o := ⟨some 19, _, _, _, _, _⟩) rfl (fun K hK => ?_) (AllReadyH.nil)
    go_simp
    go_at_call 66
    refine HU.out.mono ?_
    rintro e v1 ⟨A1, n1, c1, rfl, hn1, hown1, hb1⟩
    have HB1 := Lib.hid (HB.out.chg (c := none) ⟨hb1.os, hb1.tape, hb1.output, hb1.size, fun k hk _ => hb1.block k hk⟩ (by simp))
    have HG1 : Hid (Chg (some b) w v1) := HG.out.trans (Chg.weaken ⟨hb1.os, hb1.tape, hb1.output, hb1.size, fun k hk _ => hb1.block k hk⟩)
    have hcv := conv_own v1 hown1
    have z1 : v1.frozen? ⟨b, 1, none⟩ = false := HB1.out.frozen 1
    have z2 : v1.frozen? ⟨b, 2, none⟩ = false := HB1.out.frozen 2
    have w1 : v1.cell? ⟨b, 1, none⟩ = some (.int .i64 at_) := HB1.out.cell 1
    have w2 : v1.cell? ⟨b, 2, none⟩ = some (.bool false) := HB1.out.cell 2
    dsimp only at hcv
    have HCV : Hid (∀ u, (Reads u u.heap.size 1 A1 n1 (byteVals l)) → (convert 22 9 (.slice A1 n1 c1)).run Tryd.prog u = .ok (.string ⟨l.toArray⟩) u) := fun u hu => conv_reads u hu
    have HOW := Lib.hid hown1
    clear hown1 hb1 hn1 hcv
    go_wp2_with fail
    refine hK.out _ _ ⟨HB1.out.cell 0, HB1.out.cell 1⟩ (fun _ => ?_)
    clear hK K
    try simp only [Act.put, List.setIfInBounds_toArray, List.set_cons_zero, List.set_cons_succ]
    refine wpAnyH_take (i := 9) (oi := ⟨some 10, _, _, _, _, _⟩) (v := ?_) rfl (by kernel_rfl) (by kernel_rfl) (by kernel_rfl) (fun _ _ _ h => h) (Or.inl ⟨by rfl, ?_⟩) (by assumption) ?_
    rotate_left
    · intro w hSw; (try dsimp only at hSw); go_simp; (try with_reducible rfl)
    try simp only [Act.put, List.setIfInBounds_toArray, List.set_cons_zero, List.set_cons_succ]
    refine wpAnyH_take (i := 10) (oi := ⟨some 20, _, _, _, _, _⟩) (v := ?_) rfl (by kernel_rfl) (by kernel_rfl) (by kernel_rfl) (fun _ _ _ h => h) (Or.inl ⟨by rfl, ?_⟩) (by assumption) ?_
    rotate_left
    · intro w hSw; (try dsimp only at hSw); go_simp; (try with_reducible rfl)
    try simp only [Act.put, List.setIfInBounds_toArray, List.set_cons_zero, List.set_cons_succ]
    refine wpAnyH_take (i := 11) (oi := ⟨some 21, _, _, _, _, _⟩) (v := ?_) rfl (by kernel_rfl) (by kernel_rfl) (by kernel_rfl) (fun _ _ _ h => h) (Or.inl ⟨by rfl, ?_⟩) (by assumption) ?_
    rotate_left
    · intro w hSw; (try dsimp only at hSw); go_simp; (try with_reducible rfl)
    try simp only [Act.put, List.setIfInBounds_toArray, List.set_cons_zero, List.set_cons_succ]
    refine wpAnyH_take (i := 12) (oi := ⟨some 22, _, _, _, _, _⟩) (v := ?_) rfl (by kernel_rfl) (by kernel_rfl) (by kernel_rfl) (fun _ _ _ h => h) (Or.inl ⟨by rfl, ?_⟩) (by assumption) ?_
    rotate_left
    · intro w hSw; (try dsimp only at hSw); go_simp; (try with_reducible rfl)
    try simp only [Act.put, List.setIfInBounds_toArray, List.set_cons_zero, List.set_cons_succ]
    refine wpAnyH_take (i := 13) (oi := ⟨some 3, _, _, _, _, _⟩) (v := ?_) rfl (by kernel_rfl) (by kernel_rfl) (by kernel_rfl) (fun _ _ _ h => h) (Or.inl ⟨by rfl, ?_⟩) (by assumption) ?_
    rotate_left
    · intro w hSw; (try dsimp only at hSw); go_simp; (try with_reducible rfl)
    try simp only [Act.put, List.setIfInBounds_toArray, List.set_cons_zero, List.set_cons_succ]
    refine wpAnyH_take (i := 14) (oi := ⟨some 4, _, _, _, _, _⟩) (v := ?_) rfl (by kernel_rfl) (by kernel_rfl) (by kernel_rfl) (fun _ _ _ h => h) (Or.inl ⟨by rfl, ?_⟩) (by assumption) ?_
    rotate_left
    · intro w hSw; (try dsimp only at hSw); go_simp; (try with_reducible rfl)
    try simp only [Act.put, List.setIfInBounds_toArray, List.set_cons_zero, List.set_cons_succ]
    refine wpAnyH_take (i := 15) (oi := ⟨some 5, _, _, _, _, _⟩) (v := ?_) rfl (by kernel_rfl) (by kernel_rfl) (by kernel_rfl) (fun _ _ _ h => h) (Or.inl ⟨by rfl, ?_⟩) (by assumption) ?_
    rotate_left
    · intro w hSw; (try dsimp only at hSw); go_simp; (try with_reducible rfl)
    try simp only [Act.put, List.setIfInBounds_toArray, List.set_cons_zero, List.set_cons_succ]
    refine wpAnyH_done (by kernel_rfl) ?_ _
    try simp only [Act.put]
    go_wp2_with fail
    go_ret
    exact ⟨rfl, ⟨at_, true, HB1.out.set 2 _, rfl⟩, HG1.out.setCell 2 _⟩

theorem RdAt.chg {w w' : World} {b : Nat} {d : Option Nat} {A : Option Addr} {bs : List UInt8} {c : Nat} {s : Option Nat} (h : RdAt w b A bs c s) (g : Chg d w w') (hd : some b ≠ d) : RdAt w' b A bs c s := by
  obtain ⟨a, r, h1, h2⟩ := h
  exact ⟨a, r, h1.chg g hd, h2⟩
theorem Tryd.results75 : Tryd.f75.results = #[.cell 2 61] := by kernel_rfl

set_option maxHeartbeats 8000000 in
set_option maxRecDepth 100000 in
theorem instr_any (b B : Nat) (A : Option Addr) (bs : List UInt8) (c : Nat) (s : Option Nat) (w : World) (hs : RdAt w b A bs c s) (hr : Reads w B 1 A bs.length (byteVals bs)) (hB : B ≤ b) (hbw : b < w.heap.size)
    (hcap : bs.length ≤ c) (hl : bs.length ≤ 1000000) :
    Calls Tryd.prog 75 #[.pointer (some ⟨b, 0, none⟩)] w fun e w' => e = .returned (.agg (insCells (insS bs s).1).toArray) ∧ RdAt w' b A bs c (insS bs s).2 ∧ Chg (some b) w w' := by
  have HR : Hid (∀ v, Chg (some b) w v → Reads v B 1 A bs.length (byteVals bs)) := fun v g => hr.grown g (by omega) (fun g hg => by injection hg with hg; omega)
  have HN : Hid (∀ (t : Option Nat) (m : Nat) (v : World), m ≤ 9223372036854775807 → RdAt v b A bs c t → Chg (some b) w v → Calls Tryd.prog 74 #[.pointer (some ⟨b, 0, none⟩), .int .u64 m] v fun e w' => e = .returned (.int .i64 (numS bs m t).1) ∧ RdAt w' b A bs c (numS bs m t).2 ∧ Chg (some b) v w') :=
    fun t m v hm h g => number_any b B A bs c t m v h (HR.out v g) (by have := g.size; omega) hcap hl hm
  have HT : Hid (∀ (t : Option Nat) (v : World), RdAt v b A bs c t → Chg (some b) w v → Calls Tryd.prog 101 #[.pointer (some ⟨b, 0, none⟩)] v fun e w' => e = .returned (.string ⟨(txtS bs t).1.toArray⟩) ∧ RdAt w' b A bs c (txtS bs t).2 ∧ Chg (some b) v w') :=
    fun t v h g => text_rd b B A bs c t v h (HR.out v g) (by have := g.size; omega) hcap hl
  have HI : Hid (insS bs s = (⟨(numS bs 255 s).1, (txtS bs (numS bs 255 s).2).1, (txtS bs (txtS bs (numS bs 255 s).2).2).1, (txtS bs (txtS bs (txtS bs (numS bs 255 s).2).2).2).1, (numS bs 2000 (txtS bs (txtS bs (txtS bs (numS bs 255 s).2).2).2).2).1, (numS bs 2000 (numS bs 2000 (txtS bs (txtS bs (txtS bs (numS bs 255 s).2).2).2).2).2).1⟩, (numS bs 2000 (numS bs 2000 (txtS bs (txtS bs (txtS bs (numS bs 255 s).2).2).2).2).2).2)) := rfl
  have HS := Lib.hid hs
  have hlo := numS_le bs 255 s
  generalize insS bs s = R at *
  obtain ⟨c1, s1, e1⟩ : ∃ x y, numS bs 255 s = (x, y) := ⟨_, _, rfl⟩
  rw [e1] at HI hlo
  dsimp only at HI hlo
  obtain ⟨c2, s2, e2⟩ : ∃ x y, txtS bs s1 = (x, y) := ⟨_, _, rfl⟩
  rw [e2] at HI
  dsimp only at HI
  obtain ⟨c3, s3, e3⟩ : ∃ x y, txtS bs s2 = (x, y) := ⟨_, _, rfl⟩
  rw [e3] at HI
  dsimp only at HI
  obtain ⟨c4, s4, e4⟩ : ∃ x y, txtS bs s3 = (x, y) := ⟨_, _, rfl⟩
  rw [e4] at HI
  dsimp only at HI
  obtain ⟨c5, s5, e5⟩ : ∃ x y, numS bs 2000 s4 = (x, y) := ⟨_, _, rfl⟩
  rw [e5] at HI
  dsimp only at HI
  obtain ⟨c6, s6, e6⟩ : ∃ x y, numS bs 2000 s5 = (x, y) := ⟨_, _, rfl⟩
  rw [e6] at HI
  dsimp only at HI
  have HN1 := Lib.hid (fun v => HN.out s 255 v (by decide))
  have HT2 := Lib.hid (fun v => HT.out s1 v)
  have HT3 := Lib.hid (fun v => HT.out s2 v)
  have HT4 := Lib.hid (fun v => HT.out s3 v)
  have HN5 := Lib.hid (fun v => HN.out s4 2000 v (by decide))
  have HN6 := Lib.hid (fun v => HN.out s5 2000 v (by decide))
  rw [e1] at HN1
  rw [e2] at HT2
  rw [e3] at HT3
  rw [e4] at HT4
  rw [e5] at HN5
  rw [e6] at HN6
  dsimp only at HN1 HT2 HT3 HT4 HN5 HN6
  rw [HI.out]
  unfold insCells
  dsimp only
  clear HI e1 e2 e3 e4 e5 e6 hs hr HN HT HR
  have hw8 : IntKind.u8.wrap (c1 : Int) = (c1 : Int) := by rw [IntKind.wrap_u8]; omega
  have hbne : b ≠ w.heap.size := by omega
  clear hlo
  go_enter Tryd.func75, Tryd.ntmps75
  go_upto_region 1 with fail
  obtain ⟨zc, hzc⟩ : ∃ zc : Array Value, zc = #[.int .u8 0, .string ⟨#[]⟩, .string ⟨#[]⟩, .string ⟨#[]⟩, .int .i64 0, .int .i64 0] := ⟨_, rfl⟩
  rw [← hzc]
  have HG0 := Lib.hid ((Chg.refl (some b) w).alloc (.cells zc 61 (0, 0)))
  have HS0 := Lib.hid (HS.out.chg ((Chg.refl none w).alloc (.cells zc 61 (0, 0))) (by simp))
  have HZ0 := Lib.hid (blk_newAt w zc 61 rfl)
  have HW0 : Hid (w.heap.size < (w.alloc (.cells zc 61 (0, 0))).heap.size) := by show _ < _; simp
  generalize w.alloc (.cells zc 61 (0, 0)) = v0 at *
  have HBN := Lib.hid hbne
  have HZS : Hid (zc.size = 6) := by rw [hzc]; rfl
  clear hbne hzc HS hbw
  generalize hP : w.heap.size = P0 at *
  go_wp2_with fail
  refine (HN1.out _ HS0.out HG0.out).mono ?_
  rintro e v1 ⟨rfl, hs1, hg1⟩
  have HS1 := Lib.hid hs1
  have HG1 := Lib.hid (HG0.out.trans hg1)
  have HZ1 := Lib.hid (HZ0.out.chg hg1 (by simp; exact fun h => HBN.out h.symm))
  clear hs1 hg1
  go_wp2_with fail
  refine (HT2.out _ HS1.out HG1.out).mono ?_
  rintro e v2 ⟨rfl, hs2, hg2⟩
  have HS2 := Lib.hid hs2
  have HG2 := Lib.hid (HG1.out.trans hg2)
  have HZ2 := Lib.hid (HZ1.out.chg hg2 (by simp; exact fun h => HBN.out h.symm))
  clear hs2 hg2
  go_wp2_with fail
  refine (HT3.out _ HS2.out HG2.out).mono ?_
  rintro e v3 ⟨rfl, hs3, hg3⟩
  have HS3 := Lib.hid hs3
  have HG3 := Lib.hid (HG2.out.trans hg3)
  have HZ3 := Lib.hid (HZ2.out.chg hg3 (by simp; exact fun h => HBN.out h.symm))
  clear hs3 hg3
  go_wp2_with fail
  refine (HT4.out _ HS3.out HG3.out).mono ?_
  rintro e v4 ⟨rfl, hs4, hg4⟩
  have HS4 := Lib.hid hs4
  have HG4 := Lib.hid (HG3.out.trans hg4)
  have HZ4 := Lib.hid (HZ3.out.chg hg4 (by simp; exact fun h => HBN.out h.symm))
  clear hs4 hg4
  go_wp2_with fail
  refine (HN5.out _ HS4.out HG4.out).mono ?_
  rintro e v5 ⟨rfl, hs5, hg5⟩
  have HS5 := Lib.hid hs5
  have HG5 := Lib.hid (HG4.out.trans hg5)
  have HZ5 := Lib.hid (HZ4.out.chg hg5 (by simp; exact fun h => HBN.out h.symm))
  clear hs5 hg5
  go_wp2_with fail
  refine (HN6.out _ HS5.out HG5.out).mono ?_
  rintro e v6 ⟨rfl, hs6, hg6⟩
  have HS6 := Lib.hid hs6
  have HG6 := Lib.hid (HG5.out.trans hg6)
  have HZ6 := Lib.hid (HZ5.out.chg hg6 (by simp; exact fun h => HBN.out h.symm))
  clear hs6 hg6
  have HONE : Hid ((#[.int .u8 c1, .string ⟨c2.toArray⟩, .string ⟨c3.toArray⟩, .string ⟨c4.toArray⟩, .int .i64 c5, .int .i64 c6] : Array Value).all (·.oneCell') = true) := by show _ = _; simp [Value.oneCell']
  have HINF : Hid ((Tryd.prog.info? 61).map (·.size) = some 6) := by show _ = _; kernel_rfl
  have hgr : Chg (some P0) v6 (v6.setRow P0 #[.int .u8 c1, .string ⟨c2.toArray⟩, .string ⟨c3.toArray⟩, .string ⟨c4.toArray⟩, .int .i64 c5, .int .i64 c6]) := ⟨rfl, rfl, rfl, by simp [World.setRow], fun i _ hn => setRow_other _ _ i _ (by simpa using hn)⟩
  have HGR := Lib.hid hgr
  have HPW : Hid (w.heap.size ≤ P0) := Nat.le_of_eq hP
  clear hgr hP
  go_wp2_with (refine wpList_store_row rfl 61 _ _ rfl P0 #[.int .u8 c1, .string ⟨c2.toArray⟩, .string ⟨c3.toArray⟩, .string ⟨c4.toArray⟩, .int .i64 c5, .int .i64 c6] rfl rfl 61 zc HZ6.out HINF.out HZS.out HONE.out ?_)
  refine bodyPost_ret (results_cell_row (p := 2) (ty := 61) Tryd.results75 _ _ P0 61 #[.int .u8 c1, .string ⟨c2.toArray⟩, .string ⟨c3.toArray⟩, .string ⟨c4.toArray⟩, .int .i64 c5, .int .i64 c6] (0, 0) _ rfl (setRow_heap _ _ _ _ _ _ HZ6.out) Tryd.underlying61 rfl HINF.out) rfl ⟨rfl, ?_, ?_⟩
  · exact HS6.out.chg HGR.out (by simp; exact HBN.out)
  · exact Chg.own (b := P0) HG6.out HGR.out HPW.out

end Go.Proofs.YtglfakglcoffkaaDoor

namespace Go.Proofs.YtglfakglcoffkaaDoor
open Go.RowKit

theorem wbe_add : ∀ k a v, wbe k (a * 256 ^ k + v) = wbe k v
  | 0, _, _ => rfl
  | k + 1, a, v => by
    have e0 : a * 256 ^ (k + 1) + v = (a * 256) * 256 ^ k + v := by rw [Nat.pow_succ, Nat.mul_assoc, Nat.mul_comm 256]
    rw [e0, wbe, wbe, wbe_add k (a * 256) v]
    have e1 : (a * 256 * 256 ^ k + v) / 256 ^ k = a * 256 + v / 256 ^ k := by
      rw [Nat.mul_comm (a * 256), Nat.mul_add_div (Nat.pow_pos (by omega))]
    rw [e1]
    have e2 : UInt8.ofNat (a * 256 + v / 256 ^ k) = UInt8.ofNat (v / 256 ^ k) := by
      apply UInt8.toNat_inj.1
      rw [UInt8.toNat_ofNat', UInt8.toNat_ofNat']
      omega
    rw [e2]
theorem wbe_val : ∀ l : List UInt8, wbe l.length (valW l) = l
  | [] => rfl
  | c :: l => by
    rw [List.length_cons, wbe, val_cons]
    have h := valW_lt l
    have e1 : (c.toNat * 256 ^ l.length + valW l) / 256 ^ l.length = c.toNat := by
      rw [Nat.mul_comm, Nat.mul_add_div (Nat.pow_pos (by omega)), Nat.div_eq_of_lt h, Nat.add_zero]
    rw [e1, UInt8.ofNat_toNat, wbe_add, wbe_val l]
theorem nb_is {n k : Nat} (h : n < 18446744073709551616) (h1 : 1 ≤ k) (hlo : 256 ^ (k - 1) ≤ n) (hhi : n < 256 ^ k) : nb n = k := by
  have h0 : n ≠ 0 := by have := Nat.pow_pos (n := k - 1) (show 0 < 256 by omega); omega
  obtain ⟨g1, g2⟩ := nb_ge n h h0
  have g3 := lt_nb n h
  have a1 : nb n - 1 < k := (Nat.pow_lt_pow_iff_right (by omega : 1 < 256)).1 (Nat.lt_of_le_of_lt g2 hhi)
  have a2 : k - 1 < nb n := (Nat.pow_lt_pow_iff_right (by omega : 1 < 256)).1 (Nat.lt_of_le_of_lt hlo g3)
  omega
/-- A number that is read was written so. -/
theorem readU_was {bs : List UInt8} {k n : Nat} {x : Int} (h : readU bs k = (n, x, 0)) : ∃ k' : Nat, x = k' ∧ k ≤ k' ∧ k' ≤ bs.length ∧ bs.take k' = bs.take k ++ form n := by
  have hwell := readU_well bs k
  rw [h] at hwell
  have hr := hwell.ok rfl
  have htop := hwell.top
  dsimp only at hr htop
  have hkl : k ≤ bs.length := by omega
  unfold readU at h
  rw [if_neg (by omega), Int.toNat_natCast] at h
  have key : ∀ m, (bs.drop k).take m = form n → x = ((k + m : Nat) : Int) → ∃ k' : Nat, x = k' ∧ k ≤ k' ∧ k' ≤ bs.length ∧ bs.take k' = bs.take k ++ form n := fun m e1 e2 =>
    ⟨k + m, e2, by omega, by omega, by rw [List.take_add, e1]⟩
  generalize bs.drop k = r at h key
  match r, h, key with
  | [], h, _ => simp [readTail] at h
  | c :: t, h, key =>
    unfold readTail at h
    dsimp only at h
    by_cases h8 : 8 < c.toNat
    · rw [if_pos h8] at h; simp at h
    rw [if_neg h8] at h
    unfold digits at h
    by_cases hc0 : c.toNat = 0
    · rw [if_pos hc0] at h
      simp only [Prod.mk.injEq, and_true] at h
      obtain ⟨rfl, rfl⟩ := h
      refine key 1 ?_ (by omega)
      have e : c = 0 := UInt8.toNat_inj.1 (by rw [hc0]; rfl)
      rw [e]; rfl
    rw [if_neg hc0] at h
    match t, h, key with
    | [], h, _ => simp at h
    | d :: t, h, key =>
      dsimp only at h
      by_cases hd : d.toNat = 0
      · rw [if_pos hd] at h; simp at h
      rw [if_neg hd] at h
      by_cases hl : (d :: t).length < c.toNat
      · rw [if_pos hl] at h; simp at h
      rw [if_neg hl] at h
      simp only [Prod.mk.injEq, and_true] at h
      obtain ⟨hv, hx⟩ := h
      obtain ⟨j, hj⟩ : ∃ j, c.toNat = j + 1 := ⟨c.toNat - 1, by omega⟩
      have htk : (d :: t).take c.toNat = d :: t.take j := by rw [hj, List.take_succ_cons]
      have hlen : (d :: t.take j).length = c.toNat := by
        rw [← htk, List.length_take]; omega
      have hjl : (t.take j).length = j := by simp only [List.length_cons] at hlen; omega
      rw [htk] at hv
      have hnb : nb n = c.toNat := by
        refine nb_is htop (by omega) ?_ ?_
        · rw [← hv, val_cons, hjl, hj, Nat.add_sub_cancel]
          have : 1 * 256 ^ j ≤ d.toNat * 256 ^ j := Nat.mul_le_mul_right _ (by omega)
          omega
        · rw [← hv, ← hlen]; exact valW_lt _
      refine key (1 + c.toNat) ?_ (by omega)
      unfold form
      rw [hnb, UInt8.ofNat_toNat, Nat.add_comm, List.take_succ_cons, htk, ← hv, ← hlen, wbe_val]
theorem numS_was {bs : List UInt8} {most k n k' : Nat} (h : numS bs most (some k) = (n, some k')) : k ≤ k' ∧ k' ≤ bs.length ∧ n ≤ most ∧ bs.take k' = bs.take k ++ form n := by
  unfold numS at h
  dsimp only at h
  by_cases hc : (readU bs k).2.2 = 0 ∧ (readU bs k).1 ≤ most
  · rw [if_pos hc] at h
    obtain ⟨m, x, e, hq⟩ : ∃ m x e, readU bs k = (m, x, e) := ⟨_, _, _, rfl⟩
    rw [hq] at h hc
    simp only [Prod.mk.injEq, Option.some.injEq] at h
    obtain ⟨rfl, rfl⟩ := h
    obtain ⟨he, hm⟩ := hc
    dsimp only at he hm
    subst he
    obtain ⟨k2, rfl, h1, h2, h3⟩ := readU_was hq
    rw [Int.toNat_natCast]
    exact ⟨h1, h2, hm, h3⟩
  · rw [if_neg hc] at h; simp at h
theorem txtS_was {bs l : List UInt8} {k k' : Nat} (h : txtS bs (some k) = (l, some k')) : k ≤ k' ∧ k' ≤ bs.length ∧ l.length ≤ 40 ∧ bs.take k' = bs.take k ++ row l := by
  unfold txtS at h
  dsimp only at h
  by_cases hc : (readB bs k 40).2.2 = 0
  · rw [if_pos hc] at h
    unfold readB at h hc
    by_cases h0 : (readC bs k 40).2.2 = 0
    · rw [if_pos h0] at h hc
      by_cases h1 : (bs.length : Int) - (readC bs k 40).2.1 < ((readC bs k 40).1 : Int)
      · rw [if_pos h1] at hc; cases hc
      · rw [if_neg h1] at h
        obtain ⟨m, x, e, hq⟩ : ∃ m x e, readC bs k 40 = (m, x, e) := ⟨_, _, _, rfl⟩
        rw [hq] at h h0 h1
        dsimp only at h h0 h1
        subst h0
        simp only [Prod.mk.injEq, Option.some.injEq] at h
        obtain ⟨h2, h3⟩ := h
        have hU : readU bs k = (m, x, 0) ∧ m ≤ 40 := by
          unfold readC at hq
          by_cases g0 : (readU bs k).2.2 = 0
          · rw [if_pos g0] at hq
            by_cases g1 : (40 : Int) < 0 ∨ (40 : Int) < ((readU bs k).1 : Int)
            · rw [if_pos g1] at hq; simp at hq
            · rw [if_neg g1] at hq
              rw [hq] at g1
              dsimp only at g1
              exact ⟨hq, by omega⟩
          · rw [if_neg g0] at hq
            simp only [Prod.mk.injEq] at hq
            exact absurd hq.2.2 g0
        obtain ⟨k2, rfl, g1, g2, g3⟩ := readU_was hU.1
        rw [Int.toNat_natCast] at h2
        have hll : l.length = m := by rw [← h2, List.length_take, List.length_drop]; omega
        have hk' : k' = k2 + m := by omega
        subst hk'
        refine ⟨by omega, by omega, by omega, ?_⟩
        rw [List.take_add, g3, h2]
        unfold row
        rw [hll, List.append_assoc]
    · rw [if_neg h0] at hc; exact absurd hc h0
  · rw [if_neg hc] at h; simp at h

end Go.Proofs.YtglfakglcoffkaaDoor

namespace Go.Proofs.YtglfakglcoffkaaDoor
open Go.RowKit

/-- What Read tells. -/
def ToldP (w : World) (r : Option (List Ins)) (e : Ending) (w' : World) : Prop :=
  (r = none ∧ e = .returned (.tuple #[.slice none 0 0, .int .i64 5]) ∧ Chg none w w') ∨
  (∃ L A c, r = some L ∧ e = .returned (.tuple #[.slice A L.length c, .int .i64 0]) ∧ RowsAt w' 6 A insCells L ∧ L.length ≤ c ∧ L.length ≤ 30 ∧ (∀ x ∈ L, x.fits) ∧ Chg none w w')

theorem txtS_le (bs : List UInt8) (s : Option Nat) : (txtS bs s).1.length ≤ 40 := by
  cases s with
  | none => exact Nat.zero_le _
  | some k =>
    obtain ⟨l, e, h⟩ : ∃ l e, txtS bs (some k) = (l, e) := ⟨_, _, rfl⟩
    rw [h]
    cases e with
    | none =>
      unfold txtS at h
      dsimp only at h
      split at h
      · simp at h
      · simp only [Prod.mk.injEq] at h; rw [← h.1]; exact Nat.zero_le _
    | some k' => exact (txtS_was h).2.2.1
theorem insS_fits (bs : List UInt8) (s : Option Nat) : (insS bs s).1.fits := by
  unfold insS
  dsimp only
  have h1 := numS_le bs 255 s
  refine ⟨by show (numS bs 255 s).1 < 256; omega, ?_, ?_, ?_, ?_, ?_⟩
  · exact Nat.le_trans (txtS_le _ _) (by decide)
  · exact Nat.le_trans (txtS_le _ _) (by decide)
  · exact Nat.le_trans (txtS_le _ _) (by decide)
  · dsimp only
    have := numS_le bs 2000 (txtS bs (txtS bs (txtS bs (numS bs 255 s).2).2).2).2
    omega
  · dsimp only
    have := numS_le bs 2000 (numS bs 2000 (txtS bs (txtS bs (txtS bs (numS bs 255 s).2).2).2).2).2
    omega
theorem listS_fits (bs : List UInt8) (s : Option Nat) (n : Nat) : ∀ x ∈ (listS bs n s).1, x.fits := by
  induction n with
  | zero => intro x hx; cases hx
  | succ n ih =>
    intro x hx
    rcases List.mem_append.1 (show x ∈ (listS bs n s).1 ++ [(insS bs (listS bs n s).2).1] from hx) with h | h
    · exact ih x h
    · rw [List.mem_singleton.1 h]; exact insS_fits _ _

set_option maxHeartbeats 16000000 in
set_option maxRecDepth 100000 in
theorem read_any (A : Option Addr) (bs : List UInt8) (c : Nat) (w : World) (hr : Reads w w.heap.size 1 A bs.length (byteVals bs)) (hcap : bs.length ≤ c) (hl : bs.length ≤ 1000000) (hF : Flds w) :
    Calls Tryd.prog 39 #[.slice A bs.length c] w (ToldP w (readP bs)) := by
  obtain ⟨i0, hi, hz0, hz1, hz2⟩ := info_parts Tryd.info61
  have HR : Hid (∀ v, Chg none w v → Reads v w.heap.size 1 A bs.length (byteVals bs)) := fun v g => hr.below (g.belowNone (Nat.le_refl _))
  have HF : Hid (∀ v, Chg none w v → Flds v) := fun v g => hF.chg g
  have HRP : Hid (readP bs = if (listS bs (numS bs 30 (some 0)).1 (numS bs 30 (some 0)).2).2 = some bs.length ∧ mayB (listS bs (numS bs 30 (some 0)).1 (numS bs 30 (some 0)).2).1 = true then some (listS bs (numS bs 30 (some 0)).1 (numS bs 30 (some 0)).2).1 else none) := rfl
  have hnle := numS_le bs 30 (some 0)
  have HNU : Hid (∀ v, Chg none w v → RdAt v w.heap.size A bs c (some 0) → w.heap.size ≤ v.heap.size → Calls Tryd.prog 74 #[.pointer (some ⟨w.heap.size, 0, none⟩), .int .u64 30] v fun e w' => e = .returned (.int .i64 (numS bs 30 (some 0)).1) ∧ RdAt w' w.heap.size A bs c (numS bs 30 (some 0)).2 ∧ Chg (some w.heap.size) v w') :=
    fun v g h h2 => number_any w.heap.size w.heap.size A bs c (some 0) 30 v h (HR.out v g) h2 hcap hl (by decide)
  have HIN : Hid (∀ s v, Chg none w v → RdAt v w.heap.size A bs c s → w.heap.size < v.heap.size → Calls Tryd.prog 75 #[.pointer (some ⟨w.heap.size, 0, none⟩)] v fun e w' => e = .returned (.agg (insCells (insS bs s).1).toArray) ∧ RdAt w' w.heap.size A bs c (insS bs s).2 ∧ Chg (some w.heap.size) v w') :=
    fun s v g h h2 => instr_any w.heap.size w.heap.size A bs c s v h (HR.out v g) (Nat.le_refl _) h2 hcap hl
  generalize readP bs = RP at *
  obtain ⟨n, s0, hns⟩ : ∃ n s0, numS bs 30 (some 0) = (n, s0) := ⟨_, _, rfl⟩
  rw [hns] at HRP hnle HNU
  dsimp only at HRP hnle HNU
  clear hns hr hF
  go_enter Tryd.func39, Tryd.ntmps39
  go_upto_region 2 with fail
  have HB0 : Hid (RdAt (w.alloc (.cells #[.slice A bs.length c, .int .i64 0, .bool false] 104)) w.heap.size A bs c (some 0)) := ⟨0, false, blk_newAt w _ 104 rfl, rfl⟩
  have HG0 : Hid (Chg none w (w.alloc (.cells #[.slice A bs.length c, .int .i64 0, .bool false] 104))) := (Chg.refl _ _).alloc _
  have HSZ0 : Hid (w.heap.size < (w.alloc (.cells #[.slice A bs.length c, .int .i64 0, .bool false] 104)).heap.size) := by show _ < _; simp
  generalize w.alloc (.cells #[.slice A bs.length c, .int .i64 0, .bool false] 104) = v0 at *
  obtain ⟨P0, hP⟩ : ∃ P0, P0 = w.heap.size := ⟨_, rfl⟩
  have HP := Lib.hid hP
  rw [← hP] at HB0 HNU HIN HSZ0 ⊢
  clear hP
  go_wp2_with fail
  refine (HNU.out _ HG0.out HB0.out (Nat.le_of_lt HSZ0.out)).mono ?_
  rintro e v1 ⟨rfl, hs1, hg1⟩
  have HS1 := Lib.hid hs1
  have HG1 : Hid (Chg none w v1) := Chg.own (b := P0) HG0.out hg1 (Nat.le_of_eq HP.out.symm)
  have HZ1 : Hid (P0 < v1.heap.size) := Nat.lt_of_lt_of_le HSZ0.out hg1.size
  clear hs1 hg1 HNU HB0 HG0 HSZ0
  go_wp2_with fail
  go_loopw [6, 11] (fun s6 s11 wr => ∃ (k : Nat) (A1 : Option Addr) (c1 : Nat), s11 = .int .i64 k ∧ s6 = .slice A1 k c1 ∧ Hid (k ≤ n) ∧ Hid (wr.ownsRow (P0 + 1) 61 6 (.slice A1 k c1) k ((listS bs k s0).1.flatMap insCells)) ∧ Hid (RdAt wr P0 A bs c (listS bs k s0).2) ∧ Hid (Chg none w wr) ∧ Hid (P0 < wr.heap.size)) (fun _ s11 _ => n - (intOf s11).toNat)
  case atStart => exact ⟨0, none, 0, rfl, rfl, Lib.hid (Nat.zero_le _), Lib.hid (World.ownsRow_nil _ _ _ _), HS1, HG1, HZ1⟩
  case round =>
    obtain ⟨k, A1, c1, rfl, rfl, H1, H2, H3, H4, H5⟩ := hrel
    by_cases hlt : k < n
    · have hd : decide ((k : Int) < (n : Int)) = true := by rw [decide_eq_true_eq]; omega
      have HLT := Lib.hid hlt
      have HI1 := Lib.hid (HIN.out (listS bs k s0).2 wr H4.out H3.out H5.out)
      have HLS : Hid ((listS bs (k + 1) s0).1 = (listS bs k s0).1 ++ [(insS bs (listS bs k s0).2).1] ∧ (listS bs (k + 1) s0).2 = (insS bs (listS bs k s0).2).2) := ⟨rfl, rfl⟩
      obtain ⟨R1, hR1⟩ : ∃ R1, R1 = listS bs (k + 1) s0 := ⟨_, rfl⟩
      rw [← hR1] at HLS
      have HR1 := Lib.hid hR1
      clear hR1
      generalize insS bs (listS bs k s0).2 = RI at *
      have hfit : ∀ v : World, Reads (v.alloc (.cells (insCells RI.1).toArray 61 (0, 0))) (v.alloc (.cells (insCells RI.1).toArray 61 (0, 0))).heap.size 6 (some ⟨v.heap.size, 0, none⟩) 1 (insCells RI.1) := fun v => by
        have h := reads_lit61 v [RI.1]
        simp only [List.flatMap_cons, List.flatMap_nil, List.append_nil, List.length_cons, List.length_nil, Nat.zero_add] at h
        exact h
      have HFI := Lib.hid hfit
      have hone : ∀ u ∈ insCells RI.1, u.oneCell' = true := fun u hu => insCells_one (L := [RI.1]) u (by simpa using hu)
      have HON := Lib.hid hone
      clear hlt hfit hone
      obtain ⟨x1, x2⟩ := RI
      dsimp only at HI1 HLS HFI HON
      obtain ⟨xo, xa, xb, xc, xn, xm⟩ := x1
      unfold insCells at HI1 HFI HON
      dsimp only at HI1 HFI HON
      go_wp2_with fail
      refine HI1.out.mono ?_
      rintro e v2 ⟨rfl, hs2, hg2⟩
      have HS2 := Lib.hid hs2
      have HG2 : Hid (Chg none w v2) := Chg.own (b := P0) H4.out hg2 (Nat.le_of_eq HP.out.symm)
      have HO2 := Lib.hid (World.ownsRow.kept H2.out hg2 (.inr (by intro hh; have := (H2.out.lt P0 hh).1; omega)))
      have HZ2 : Hid (P0 < v2.heap.size) := Nat.lt_of_lt_of_le H5.out hg2.size
      have HSE : Hid (∀ o : Obj, P0 + 1 ≤ (v2.alloc o).heap.size) := fun o => Nat.le_trans HZ2.out ((Chg.refl none v2).alloc o).size
      clear hs2 hg2 HI1
      have hn30 : k < 30 := Nat.lt_of_lt_of_le HLT.out hnle
      go_wp2_with (at_builtin; refine wpList_append_any _ rfl (.tmp 13) (.tmp 15) 52 rfl (P0 + 1) 61 i0 (.agg #[.int .u8 0, .string ⟨#[]⟩, .string ⟨#[]⟩, .string ⟨#[]⟩, .int .i64 0, .int .i64 0]) 6 72 Tryd.underlying52 hi hz0 hz1 hz2 rfl (by decide) _ k ((listS bs k s0).1.flatMap insCells) rfl (HO2.out.alloc _) _ (some ⟨v2.heap.size, 0, none⟩) 1 1 _ rfl (HFI.out v2) HON.out (by unfold maxLen; omega) (by omega) (HSE.out _) ?_)
      intro v3 w3 hown3 hgr3 _
      obtain ⟨A3, c3, rfl⟩ := own_slice hown3
      have HG3 : Hid (Chg none w w3) := own_chg (HG2.out.alloc _) (HO2.out.alloc _) (by rw [HP.out]; omega) hgr3
      have hdiff : some P0 ≠ (Value.slice A1 k c1).ownBlock := fun hh => by have := (HO2.out.lt P0 hh.symm).1; omega
      have HS3 : Hid (RdAt w3 P0 A bs c R1.2) := by
        show RdAt w3 P0 A bs c R1.2
        rw [HLS.out.2]
        exact (HS2.out.chg ((Chg.refl none v2).alloc _) (by simp)).chg hgr3 hdiff
      have HZ3 : Hid (P0 < w3.heap.size) := Nat.lt_of_lt_of_le (Nat.lt_of_lt_of_le HZ2.out ((Chg.refl none v2).alloc _).size) hgr3.size
      have HO3 : Hid (w3.ownsRow (P0 + 1) 61 6 (.slice A3 (k + 1) c3) (k + 1) (R1.1.flatMap insCells)) := by
        show World.ownsRow _ _ _ _ _ _ _
        rw [HLS.out.1, List.flatMap_append]
        exact hown3
      clear hown3 hgr3 hdiff HO2 HFI HON HSE HG2 HS2 hn30
      go_wp2_with fail
      go_roundw
      case rel => exact ⟨k + 1, A3, c3, by first | rfl | (simp; done), rfl, Lib.hid HLT.out, by rw [← HR1.out]; exact HO3, by rw [← HR1.out]; exact HS3, HG3, HZ3⟩
      case measure =>
        have := HLT.out
        first | omega | (simp only [intOf]; omega) | (simp [intOf]; omega)
    · have hd : decide (k < n) = false := by rw [decide_eq_false_iff_not]; exact hlt
      have hkn : k = n := by have := H1.out; omega
      have hrp := HRP.out
      have hown := H2.out
      obtain ⟨at_, wr_, hblk, hsE⟩ := H3.out
      subst hkn
      rw [hsE] at hrp
      clear hlt
      have x1 : wr.cell? ⟨P0, 1, none⟩ = some (.int .i64 at_) := hblk.cell 1
      have x2 : wr.cell? ⟨P0, 2, none⟩ = some (.bool wr_) := hblk.cell 2
      obtain ⟨hrow, hnl, hnc⟩ := rows_of_own hown
      have hfit := listS_fits bs s0 k
      have hlen := listS_len bs k s0
      generalize (listS bs k s0).1 = L at *
      have hmy := may_any L A1 c1 wr hrow hfit (by omega) (HF.out wr H4.out)
      rw [hlen] at hmy
      have HMY := Lib.hid hmy
      have HROW := Lib.hid hrow
      have HFIT := Lib.hid hfit
      have HLEN := Lib.hid hlen
      have HNC := Lib.hid hnc
      have HNL := Lib.hid hnle
      clear hmy hrow hfit hlen hnl hnc hnle hown hblk hsE H1 H2 H3 H5 HIN HR HF
      cases wr_
      rotate_left
      · have hno : RP = none := by rw [hrp]; exact if_neg (fun h => by cases h.1)
        have HNO := Lib.hid hno
        clear hrp hno
        go_wp2_with fail
        go_ret2
        exact .inl ⟨HNO.out, rfl, H4.out⟩
      by_cases hat : at_ = bs.length
      rotate_left
      · have dne : ((at_ : Int) != (bs.length : Int)) = true := by rw [bne_iff_ne]; omega
        have hno : RP = none := by rw [hrp]; exact if_neg (fun h => hat (by have := h.1; rw [if_neg (by decide)] at this; exact Option.some.inj this))
        have HNO := Lib.hid hno
        clear hrp hno hat
        go_wp2_with fail
        go_ret2
        exact .inl ⟨HNO.out, rfl, H4.out⟩
      have dne : ((at_ : Int) != (bs.length : Int)) = false := by rw [bne_eq_false_iff_eq]; omega
      by_cases hmb : mayB L = true
      · have hyes : RP = some L := by rw [hrp]; exact if_pos ⟨by rw [if_neg (by decide), hat], hmb⟩
        have HYES := Lib.hid hyes
        rw [hmb] at HMY
        clear hrp hyes hat hmb
        go_wp2_with fail
        refine HMY.out.mono ?_
        rintro e w9 ⟨rfl, g9⟩
        have G9 := Lib.hid g9
        clear g9
        go_wp2_with fail
        go_ret2
        exact .inr ⟨L, A1, c1, HYES.out, by rw [HLEN.out]; rfl, HROW.out.chg G9.out, by rw [HLEN.out]; exact HNC.out, by rw [HLEN.out]; exact HNL.out, HFIT.out, H4.out.trans G9.out⟩
      · have hmb' : mayB L = false := by simpa using hmb
        have hno : RP = none := by rw [hrp]; exact if_neg (fun h => hmb h.2)
        have HNO := Lib.hid hno
        rw [hmb'] at HMY
        clear hrp hno hat hmb hmb'
        go_wp2_with fail
        refine HMY.out.mono ?_
        rintro e w9 ⟨rfl, g9⟩
        have G9 := Lib.hid g9
        clear g9
        go_wp2_with fail
        go_ret2
        exact .inl ⟨HNO.out, rfl, H4.out.trans G9.out⟩

end Go.Proofs.YtglfakglcoffkaaDoor

namespace Go.Proofs.YtglfakglcoffkaaDoor
open Go.RowKit

theorem path_len {s : List UInt8} (h : pathB s = true) : s.length ≤ 40 := by
  unfold pathB at h
  simp only [Bool.and_eq_true, decide_eq_true_eq] at h
  exact h.1.2
theorem empty_len {s : List UInt8} (h : s.isEmpty = true) : s.length ≤ 40 := by
  cases s with
  | nil => exact Nat.zero_le _
  | cons a l => cases h
/-- What may be is small. -/
structure Ins.small (x : Ins) : Prop where
  op : x.op ≤ 11
  a : x.a.length ≤ 40
  b : x.b.length ≤ 40
  c : x.c.length ≤ 40
  n : 0 ≤ x.n ∧ x.n ≤ 2000
  m : 0 ≤ x.m ∧ x.m ≤ 2000
theorem insB_small {x : Ins} {p : Int} (h : insB x p = true) (hp : p ≤ 30) : x.small := by
  have hin := insB_in h
  obtain ⟨op, a, b, c, n, m⟩ := x
  dsimp only at hin
  rcases (show op = 1 ∨ op = 2 ∨ op = 3 ∨ op = 4 ∨ op = 5 ∨ op = 6 ∨ op = 7 ∨ op = 8 ∨ op = 9 ∨ op = 10 ∨ op = 11 by omega) with rfl | rfl | rfl | rfl | rfl | rfl | rfl | rfl | rfl | rfl | rfl
  · rw [insB_1] at h
    simp only [Bool.and_eq_true, beq_iff_eq] at h
    obtain ⟨z1, z2, z3, z4, z5⟩ := h
    exact ⟨by dsimp only; omega, path_len z1, path_len z2, empty_len z3, by dsimp only; omega, by dsimp only; omega⟩
  · rw [insB_2] at h
    simp only [Bool.and_eq_true, beq_iff_eq] at h
    obtain ⟨z1, z2, z3, z4, z5⟩ := h
    exact ⟨by dsimp only; omega, path_len z1, path_len z2, path_len z3, by dsimp only; omega, by dsimp only; omega⟩
  · rw [insB_3] at h
    simp only [Bool.and_eq_true, decide_eq_true_eq] at h
    obtain ⟨z1, z2, z3, ⟨z4, z5⟩, z6, z7⟩ := h
    exact ⟨by dsimp only; omega, path_len z1, path_len z2, empty_len z3, ⟨z4, z5⟩, ⟨z6, z7⟩⟩
  · rw [insB_4] at h
    simp only [Bool.and_eq_true, decide_eq_true_eq, beq_iff_eq] at h
    obtain ⟨z1, ⟨z2, z3⟩, z4, z5, z6⟩ := h
    exact ⟨by dsimp only; omega, path_len z1, z3, z4, by dsimp only; omega, by dsimp only; omega⟩
  · rw [insB_5] at h
    simp only [Bool.and_eq_true, beq_iff_eq] at h
    obtain ⟨z1, z2, z3, z4, z5⟩ := h
    exact ⟨by dsimp only; omega, path_len z1, empty_len z2, empty_len z3, by dsimp only; omega, by dsimp only; omega⟩
  · rw [insB_6] at h
    simp only [Bool.and_eq_true, beq_iff_eq] at h
    obtain ⟨z1, z2, z3, z4, z5⟩ := h
    exact ⟨by dsimp only; omega, path_len z1, path_len z2, empty_len z3, by dsimp only; omega, by dsimp only; omega⟩
  · rw [insB_7] at h
    simp only [Bool.and_eq_true, beq_iff_eq] at h
    obtain ⟨z1, z2, z3, z4, z5⟩ := h
    exact ⟨by dsimp only; omega, path_len z1, path_len z2, empty_len z3, by dsimp only; omega, by dsimp only; omega⟩
  · rw [insB_8] at h
    simp only [Bool.and_eq_true, decide_eq_true_eq, beq_iff_eq] at h
    obtain ⟨z1, z2, z3, ⟨z4, z4b⟩, z5⟩ := h
    exact ⟨by dsimp only; omega, empty_len z1, empty_len z2, empty_len z3, by dsimp only; omega, by dsimp only; omega⟩
  · rw [insB_9] at h
    simp only [Bool.and_eq_true, decide_eq_true_eq, beq_iff_eq] at h
    obtain ⟨z1, z2, z3, ⟨z4, z4b⟩, z5⟩ := h
    exact ⟨by dsimp only; omega, path_len z1, empty_len z2, empty_len z3, by dsimp only; omega, by dsimp only; omega⟩
  · rw [insB_10] at h
    simp only [Bool.and_eq_true, decide_eq_true_eq, beq_iff_eq] at h
    obtain ⟨z1, z2, z3, ⟨z4, z4b⟩, z5⟩ := h
    exact ⟨by dsimp only; omega, path_len z1, path_len z2, empty_len z3, by dsimp only; omega, by dsimp only; omega⟩
  · rw [insB_11] at h
    have e := (sameIns_iff _ _).1 h
    injection e with _ e1 e2 e3 e4 e5
    subst e1 e2 e3 e4 e5
    exact ⟨by decide, by decide, by decide, by decide, by decide, by decide⟩

theorem insF_len {x : Ins} (h : x.small) : (insF x).length ≤ 300 := by
  unfold insF
  have h1 := form_small x.op (by have := h.op; omega)
  have h2 := row_len x.a (by have := h.a; omega)
  have h3 := row_len x.b (by have := h.b; omega)
  have h4 := row_len x.c (by have := h.c; omega)
  have h5 := form_small x.n.toNat (by have := h.n; omega)
  have h6 := form_small x.m.toNat (by have := h.m; omega)
  have ha := h.a
  have hb := h.b
  have hc := h.c
  simp only [List.length_append]
  omega
theorem flat_small : ∀ L : List Ins, (∀ x ∈ L, x.small) → (L.flatMap insF).length ≤ 300 * L.length
  | [], _ => by simp
  | x :: L, h => by
    rw [List.flatMap_cons, List.length_append, List.length_cons]
    have h1 := insF_len (h x (by simp))
    have h2 := flat_small L (fun y hy => h y (by simp [hy]))
    omega
theorem mayB_small {L : List Ins} (h : mayB L = true) : L.length ≤ 30 ∧ ∀ x ∈ L, x.small := by
  obtain ⟨h1, h2⟩ := mayB_parts h
  exact ⟨h1, fun x hx => insB_small (h2 x hx) (by omega)⟩
/-- What is written of the first k. -/
def partB (L : List Ins) (k : Nat) : List UInt8 := form L.length ++ (L.take k).flatMap insF
theorem partB_succ {L : List Ins} {k : Nat} {x : Ins} (h : L[k]? = some x) : partB L (k + 1) = partB L k ++ insF x := by
  unfold partB
  rw [List.take_add_one, h]
  simp
theorem partB_all {L : List Ins} {k : Nat} (h : L.length ≤ k) : partB L k = progB L := by
  unfold partB progB
  rw [List.take_of_length_le h]
theorem partB_len {L : List Ins} (h : mayB L = true) (k : Nat) : (partB L k).length ≤ 10000 := by
  obtain ⟨h1, h2⟩ := mayB_small h
  unfold partB
  rw [List.length_append]
  have h3 := form_small L.length (by omega)
  have h4 := flat_small (L.take k) (fun x hx => h2 x (List.mem_of_mem_take hx))
  rw [List.length_take] at h4
  omega

end Go.Proofs.YtglfakglcoffkaaDoor

namespace Go.Proofs.YtglfakglcoffkaaDoor
open Go.RowKit

theorem index100_0 (w : World) (a b c : ByteArray) : (Instr.index 100 (.agg #[.string a, .string b, .string c]) (.int .i64 0)).run Tryd.prog w = .ok (.string a) w := by
  have u := Tryd.underlying100
  have a1 := Tryd.isAgg9
  have z1 := Tryd.sizeOf9
  unfold Instr.index part
  go_simp
theorem index100_1 (w : World) (a b c : ByteArray) : (Instr.index 100 (.agg #[.string a, .string b, .string c]) (.int .i64 1)).run Tryd.prog w = .ok (.string b) w := by
  have u := Tryd.underlying100
  have a1 := Tryd.isAgg9
  have z1 := Tryd.sizeOf9
  unfold Instr.index part
  go_simp
theorem index100_2 (w : World) (a b c : ByteArray) : (Instr.index 100 (.agg #[.string a, .string b, .string c]) (.int .i64 2)).run Tryd.prog w = .ok (.string c) w := by
  have u := Tryd.underlying100
  have a1 := Tryd.isAgg9
  have z1 := Tryd.sizeOf9
  unfold Instr.index part
  go_simp
theorem index101_0 (w : World) (a b : Int) : (Instr.index 101 (.agg #[.int .i64 a, .int .i64 b]) (.int .i64 0)).run Tryd.prog w = .ok (.int .i64 a) w := by
  have u := Tryd.underlying101
  have a1 := Tryd.isAgg3
  have z1 := Tryd.sizeOf3
  unfold Instr.index part
  go_simp
theorem index101_1 (w : World) (a b : Int) : (Instr.index 101 (.agg #[.int .i64 a, .int .i64 b]) (.int .i64 1)).run Tryd.prog w = .ok (.int .i64 b) w := by
  have u := Tryd.underlying101
  have a1 := Tryd.isAgg3
  have z1 := Tryd.sizeOf3
  unfold Instr.index part
  go_simp


end Go.Proofs.YtglfakglcoffkaaDoor

namespace Go.Proofs.YtglfakglcoffkaaDoor
open Go.RowKit

set_option maxHeartbeats 8000000 in
set_option maxRecDepth 100000 in
theorem bytes_no (L : List Ins) (A : Option Addr) (c : Nat) (w : World) (hr : RowsAt w 6 A insCells L) (hx : ∀ x ∈ L, x.fits) (hl : L.length ≤ 9223372036854775807) (hF : Flds w) (hm : mayB L = false) :
    Calls Tryd.prog 34 #[.slice A L.length c] w fun e w' => e = .returned (.tuple #[.slice none 0 0, .int .i64 2]) ∧ Chg none w w' := by
  have HM := Lib.hid (may_any L A c w hr hx hl hF)
  rw [hm] at HM
  clear hr hx hl hF hm
  go_enter Tryd.func34, Tryd.ntmps34
  go_wp2_with fail
  refine HM.out.mono ?_
  rintro e w1 ⟨rfl, g1⟩
  go_wp2_with fail
  go_ret2
  exact ⟨rfl, g1⟩

set_option maxHeartbeats 32000000 in
set_option maxRecDepth 100000 in
theorem bytes_yes (L : List Ins) (A : Option Addr) (c : Nat) (w : World) (hr : RowsAt w 6 A insCells L) (hx : ∀ x ∈ L, x.fits) (hF : Flds w) (hm : mayB L = true) :
    Calls Tryd.prog 34 #[.slice A L.length c] w fun e w' => ∃ A' n c', e = .returned (.tuple #[.slice A' n c', .int .i64 0]) ∧ ByAt w w' A' n c' (progB L) := by
  have hl : L.length ≤ 30 := (mayB_small hm).1
  have HSM := Lib.hid (mayB_small hm).2
  have HMY := Lib.hid (may_any L A c w hr hx (by omega) hF)
  rw [hm] at HMY
  have HR : Hid (∀ v, Chg none w v → RowsAt v 6 A insCells L) := fun v g => hr.chg g
  have HPL : Hid (∀ k, (partB L k).length ≤ 10000) := partB_len hm
  have HU : Hid (∀ (v : World) (A : Option Addr) (n c : Nat) (bs : List UInt8) (m : Nat), ByAt w v A n c bs → bs.length ≤ 20000 → m < 18446744073709551616 →
      Calls Tryd.prog 61 #[.slice A n c, .int .u64 m] v fun e w' => ∃ A' n' c', e = .returned (.slice A' n' c') ∧ ByAt w w' A' n' c' (bs ++ form m) ∧ Chg none v w') := fun v A n c bs m h h1 h2 => put_u m h (by omega) h2
  have HB : Hid (∀ (v : World) (A : Option Addr) (n c : Nat) (bs : List UInt8) (Ax : Option Addr) (x : List UInt8) (cx : Nat), ByAt w v A n c bs → bs.length ≤ 20000 → Reads v v.heap.size 1 Ax x.length (byteVals x) → x.length ≤ 40 →
      Calls Tryd.prog 62 #[.slice A n c, .slice Ax x.length cx] v fun e w' => ∃ A' n' c', e = .returned (.slice A' n' c') ∧ ByAt w w' A' n' c' (bs ++ row x) ∧ Chg none v w') := fun v A n c bs Ax x cx h h1 h2 h3 => put_b Ax x cx h (by omega) h2 (by omega)
  clear hr hx hF hm
  have hwl : IntKind.u64.wrap (L.length : Int) = (L.length : Int) := by rw [IntKind.wrap_u64]; omega
  go_enter Tryd.func34, Tryd.ntmps34
  go_wp2_with fail
  refine HMY.out.mono ?_
  rintro e w1 ⟨rfl, g1⟩
  have B1 : Hid (ByAt w w1 none 0 0 []) := ⟨rfl, World.ownsRow_nil _ _ _ _, g1⟩
  have HU1 := Lib.hid (HU.out w1 none 0 0 [] L.length B1.out (by simp) (by omega))
  clear g1 HMY
  go_wp2_with fail
  refine HU1.out.mono ?_
  rintro e w2 ⟨A2, n2, c2, rfl, hb2, -⟩
  have B2 : Hid (ByAt w w2 A2 n2 c2 (partB L 0)) := by
    show ByAt _ _ _ _ _ _
    have e : partB L 0 = [] ++ form L.length := by unfold partB; simp
    rw [e]; exact hb2
  clear hb2 HU1 B1 hwl
  go_wp2_with fail
  go_loopw [4, 20] (fun s4 s20 wr => ∃ (k : Nat) (A1 : Option Addr) (n1 c1 : Nat), s20 = .int .i64 k ∧ s4 = .slice A1 n1 c1 ∧ Hid (k ≤ L.length) ∧ Hid (ByAt w wr A1 n1 c1 (partB L k))) (fun _ s20 _ => L.length - (intOf s20).toNat)
  case atStart => exact ⟨0, A2, n2, c2, rfl, rfl, Lib.hid (Nat.zero_le _), B2⟩
  case round =>
    obtain ⟨k, A1, n1, c1, rfl, rfl, H1, H2⟩ := hrel
    by_cases hlt : k < L.length
    · have hd : decide ((k : Int) < (L.length : Int)) = true := by rw [decide_eq_true_eq]; omega
      obtain ⟨x, hkx⟩ : ∃ x, L[k]? = some x := ⟨_, List.getElem?_eq_getElem hlt⟩
      have hne : L ≠ [] := by intro e; subst e; simp at hlt
      have HRW := Lib.hid (HR.out wr H2.out.2.2)
      obtain ⟨b, off, rfl, -, -⟩ := HRW.out hne
      obtain ⟨hb, x0, x1, x2, x3, x4, x5⟩ := HRW.out.six hkx
      have HLT := Lib.hid hlt
      have HSX := Lib.hid (HSM.out x (List.mem_of_getElem? hkx))
      have HPS := Lib.hid (partB_succ hkx)
      obtain ⟨V0, hV⟩ : ∃ V0, V0 = wr := ⟨_, rfl⟩
      rw [← hV] at hb x0 x1 x2 x3 x4 x5 H2 ⊢
      clear hV hkx hne HRW HR hlt HSM B2
      obtain ⟨op, sa, sb, sc, xn, xm⟩ := x
      dsimp only at x0 x1 x2 x3 x4 x5
      obtain ⟨xN, rfl⟩ : ∃ xN : Nat, xn = xN := ⟨xn.toNat, by have := HSX.out.n; dsimp only at this; omega⟩
      obtain ⟨xM, rfl⟩ : ∃ xM : Nat, xm = xM := ⟨xm.toNat, by have := HSX.out.m; dsimp only at this; omega⟩
      have hopw : IntKind.u64.wrap (op : Int) = (op : Int) := by have := HSX.out.op; dsimp only at this; rw [IntKind.wrap_u64]; omega
      go_upto_region 7 with fail
      have HG0 : Hid (Chg none V0 (V0.alloc (.cells #[.int .u8 op, .string ⟨sa.toArray⟩, .string ⟨sb.toArray⟩, .string ⟨sc.toArray⟩, .int .i64 (xN : Nat), .int .i64 (xM : Nat)] 61))) := (Chg.refl _ _).alloc _
      have HX0 : Hid (Blk (V0.alloc (.cells #[.int .u8 op, .string ⟨sa.toArray⟩, .string ⟨sb.toArray⟩, .string ⟨sc.toArray⟩, .int .i64 (xN : Nat), .int .i64 (xM : Nat)] 61)) V0.heap.size #[.int .u8 op, .string ⟨sa.toArray⟩, .string ⟨sb.toArray⟩, .string ⟨sc.toArray⟩, .int .i64 (xN : Nat), .int .i64 (xM : Nat)] 61) := blk_newAt _ _ _ rfl
      generalize V0.alloc (.cells #[.int .u8 op, .string ⟨sa.toArray⟩, .string ⟨sb.toArray⟩, .string ⟨sc.toArray⟩, .int .i64 (xN : Nat), .int .i64 (xM : Nat)] 61) = W0 at *
      have B0 := Lib.hid (H2.out.chg HG0.out)
      have HBX : Hid (∀ v, Chg none W0 v → Blk v V0.heap.size #[.int .u8 op, .string ⟨sa.toArray⟩, .string ⟨sb.toArray⟩, .string ⟨sc.toArray⟩, .int .i64 (xN : Nat), .int .i64 (xM : Nat)] 61) := fun v g => HX0.out.chg g (by simp)
      have q0 : W0.cell? ⟨V0.heap.size, 0, none⟩ = some (.int .u8 op) := HX0.out.cell 0
      have HU2 := Lib.hid (HU.out W0 A1 n1 c1 (partB L k) op B0.out (by have := HPL.out k; omega) (by have := HSX.out.op; dsimp only at this; omega))
      clear HX0 HG0 x0 x1 x2 x3 x4 x5 hb H2
      generalize V0.heap.size = PX at *
      go_wp2_with fail
      refine HU2.out.mono ?_
      rintro e v3 ⟨A3, n3, c3, rfl, hb3, hg3⟩
      have B3 : Hid (ByAt w v3 A3 n3 c3 (partB L k ++ (form op ++ ([sa, sb, sc].take 0).flatMap row))) := by
        show ByAt _ _ _ _ _ _
        simpa using hb3
      have G3 := Lib.hid hg3
      have q1 : v3.cell? ⟨PX, 1, none⟩ = some (.string ⟨sa.toArray⟩) := (HBX.out v3 hg3).cell 1
      have q2 : v3.cell? ⟨PX, 2, none⟩ = some (.string ⟨sb.toArray⟩) := (HBX.out v3 hg3).cell 2
      have q3 : v3.cell? ⟨PX, 3, none⟩ = some (.string ⟨sc.toArray⟩) := (HBX.out v3 hg3).cell 3
      clear hb3 hg3 HU2 q0 hopw
      go_wp2_with fail
      clear q1 q2 q3
      go_loopw [4, 36] (fun s4 s36 wq => ∃ (j : Nat) (A4 : Option Addr) (n4 c4 : Nat), s36 = .int .i64 j ∧ s4 = .slice A4 n4 c4 ∧ Hid (j ≤ 3) ∧ Hid (ByAt w wq A4 n4 c4 (partB L k ++ (form op ++ ([sa, sb, sc].take j).flatMap row))) ∧ Hid (Chg none W0 wq)) (fun _ s36 _ => 3 - (intOf s36).toNat)
      case atStart => exact ⟨0, A3, n3, c3, rfl, rfl, Lib.hid (by decide), B3, G3⟩
      case round =>
        obtain ⟨j, A4, n4, c4, rfl, rfl, J1, J2, J3⟩ := hrel
        have hj3 := J1.out
        clear B3 G3
        rcases (show j = 0 ∨ j = 1 ∨ j = 2 ∨ j = 3 by omega) with rfl | rfl | rfl | hje
        · clear hj3
          have ix := fun v => index100_0 v ⟨sa.toArray⟩ ⟨sb.toArray⟩ ⟨sc.toArray⟩
          have cs := fun v => conv_sb sa v
          have hrd := sb_reads sa wr
          have hcg := sb_chg ⟨sa.toArray⟩ wr
          have HB5 := fun cx => HB.out (Lib.bytesWorld wr 5 ⟨sa.toArray⟩) A4 n4 c4 _ (some ⟨wr.heap.size, 0, none⟩) sa cx (J2.out.chg hcg) (by
            have h1 := HPL.out k
            have h2 := form_small op (by have := HSX.out.op; dsimp only at this; omega)
            have h3 := row_len sa (by have := HSX.out.a; dsimp only at this; omega)
            have h4 := row_len sb (by have := HSX.out.b; dsimp only at this; omega)
            have h5 := HSX.out.a
            have h6 := HSX.out.b
            dsimp only at h5 h6
            simp only [List.length_append, List.take_zero, List.flatMap_nil, List.length_nil]
            omega) hrd HSX.out.a
          have HB6 := Lib.hid HB5
          have HCG := Lib.hid (J3.out.trans hcg)
          clear hrd hcg HB5
          go_wp2_with fail
          refine (HB6.out _).mono ?_
          rintro e v5 ⟨A5, n5, c5, rfl, hb5, hg5⟩
          have B5 : Hid (ByAt w v5 A5 n5 c5 (partB L k ++ (form op ++ ([sa, sb, sc].take 1).flatMap row))) := by
            show ByAt _ _ _ _ _ _
            simpa using hb5
          have G5 := Lib.hid (HCG.out.trans hg5)
          clear hb5 hg5 ix cs
          go_wp2_with fail
          go_roundw
          case rel => exact ⟨1, A5, n5, c5, by first | rfl | (simp; done), rfl, Lib.hid (by decide), B5, G5⟩
          case measure => first | omega | (simp only [intOf]; omega) | (simp [intOf]; done)
        · clear hj3
          have ix := fun v => index100_1 v ⟨sa.toArray⟩ ⟨sb.toArray⟩ ⟨sc.toArray⟩
          have cs := fun v => conv_sb sb v
          have hrd := sb_reads sb wr
          have hcg := sb_chg ⟨sb.toArray⟩ wr
          have HB5 := fun cx => HB.out (Lib.bytesWorld wr 5 ⟨sb.toArray⟩) A4 n4 c4 _ (some ⟨wr.heap.size, 0, none⟩) sb cx (J2.out.chg hcg) (by
            have h1 := HPL.out k
            have h2 := form_small op (by have := HSX.out.op; dsimp only at this; omega)
            have h3 := row_len sa (by have := HSX.out.a; dsimp only at this; omega)
            have h4 := row_len sb (by have := HSX.out.b; dsimp only at this; omega)
            have h5 := HSX.out.a
            have h6 := HSX.out.b
            dsimp only at h5 h6
            simp only [List.length_append, List.take_succ_cons, List.take_zero, List.flatMap_cons, List.flatMap_nil, List.length_nil]
            omega) hrd HSX.out.b
          have HB6 := Lib.hid HB5
          have HCG := Lib.hid (J3.out.trans hcg)
          clear hrd hcg HB5
          go_wp2_with fail
          refine (HB6.out _).mono ?_
          rintro e v5 ⟨A5, n5, c5, rfl, hb5, hg5⟩
          have B5 : Hid (ByAt w v5 A5 n5 c5 (partB L k ++ (form op ++ ([sa, sb, sc].take 2).flatMap row))) := by
            show ByAt _ _ _ _ _ _
            simpa using hb5
          have G5 := Lib.hid (HCG.out.trans hg5)
          clear hb5 hg5 ix cs
          go_wp2_with fail
          go_roundw
          case rel => exact ⟨2, A5, n5, c5, by first | rfl | (simp; done), rfl, Lib.hid (by decide), B5, G5⟩
          case measure => first | omega | (simp only [intOf]; omega) | (simp [intOf]; done)
        · clear hj3
          have ix := fun v => index100_2 v ⟨sa.toArray⟩ ⟨sb.toArray⟩ ⟨sc.toArray⟩
          have cs := fun v => conv_sb sc v
          have hrd := sb_reads sc wr
          have hcg := sb_chg ⟨sc.toArray⟩ wr
          have HB5 := fun cx => HB.out (Lib.bytesWorld wr 5 ⟨sc.toArray⟩) A4 n4 c4 _ (some ⟨wr.heap.size, 0, none⟩) sc cx (J2.out.chg hcg) (by
            have h1 := HPL.out k
            have h2 := form_small op (by have := HSX.out.op; dsimp only at this; omega)
            have h3 := row_len sa (by have := HSX.out.a; dsimp only at this; omega)
            have h4 := row_len sb (by have := HSX.out.b; dsimp only at this; omega)
            have h5 := HSX.out.a
            have h6 := HSX.out.b
            dsimp only at h5 h6
            simp only [List.length_append, List.take_succ_cons, List.take_zero, List.flatMap_cons, List.flatMap_nil, List.length_nil]
            omega) hrd HSX.out.c
          have HB6 := Lib.hid HB5
          have HCG := Lib.hid (J3.out.trans hcg)
          clear hrd hcg HB5
          go_wp2_with fail
          refine (HB6.out _).mono ?_
          rintro e v5 ⟨A5, n5, c5, rfl, hb5, hg5⟩
          have B5 : Hid (ByAt w v5 A5 n5 c5 (partB L k ++ (form op ++ ([sa, sb, sc].take 3).flatMap row))) := by
            show ByAt _ _ _ _ _ _
            simpa using hb5
          have G5 := Lib.hid (HCG.out.trans hg5)
          clear hb5 hg5 ix cs
          go_wp2_with fail
          go_roundw
          case rel => exact ⟨3, A5, n5, c5, by first | rfl | (simp; done), rfl, Lib.hid (by decide), B5, G5⟩
          case measure => first | omega | (simp only [intOf]; omega) | (simp [intOf]; done)
        · clear hj3
          have hd3 : decide (j < 3) = false := by rw [decide_eq_false_iff_not]; omega
          have hd4 : decide ((j : Int) < 3) = false := by rw [decide_eq_false_iff_not]; omega
          rw [hje] at J2
          clear hje J1
          have r4 : wr.cell? ⟨PX, 4, none⟩ = some (.int .i64 (xN : Nat)) := (HBX.out wr J3.out).cell 4
          have r5 : wr.cell? ⟨PX, 5, none⟩ = some (.int .i64 (xM : Nat)) := (HBX.out wr J3.out).cell 5
          have J2' : Hid (ByAt w wr A4 n4 c4 (partB L k ++ (form op ++ (row sa ++ (row sb ++ (row sc ++ ([(xN : Int), (xM : Int)].take 0).flatMap fun z => form z.toNat)))))) := by
            show ByAt _ _ _ _ _ _
            simpa using J2.out
          clear J2
          go_wp2_with fail
          clear r4 r5
          go_loopw [4, 49] (fun s4 s49 wq => ∃ (i : Nat) (A7 : Option Addr) (n7 c7 : Nat), s49 = .int .i64 i ∧ s4 = .slice A7 n7 c7 ∧ Hid (i ≤ 2) ∧ Hid (ByAt w wq A7 n7 c7 (partB L k ++ (form op ++ (row sa ++ (row sb ++ (row sc ++ ([(xN : Int), (xM : Int)].take i).flatMap fun z => form z.toNat))))))) (fun _ s49 _ => 2 - (intOf s49).toNat)
          case atStart => exact ⟨0, A4, n4, c4, rfl, rfl, Lib.hid (by decide), J2'⟩
          case round =>
            clear J2' J3
            obtain ⟨i, A7, n7, c7, rfl, rfl, I1, I2⟩ := hrel
            have hi3 := I1.out
            rcases (show i = 0 ∨ i = 1 ∨ i = 2 by omega) with rfl | rfl | rfl
            · clear hi3
              have ix := fun v => index101_0 v xN xM
              have hnn : 0 ≤ (xN : Int) ∧ (xN : Int) ≤ 2000 := HSX.out.n
              have hww : IntKind.u64.wrap ((xN : Nat) : Int) = ((xN : Nat) : Int) := by rw [IntKind.wrap_u64]; omega
              have HU6 := Lib.hid (HU.out wr A7 n7 c7 _ xN I2.out (by
                have h1 := HPL.out k
                have h2 := form_small op (by have := HSX.out.op; dsimp only at this; omega)
                have h3 := row_len sa (by have := HSX.out.a; dsimp only at this; omega)
                have h4 := row_len sb (by have := HSX.out.b; dsimp only at this; omega)
                have h7 := row_len sc (by have := HSX.out.c; dsimp only at this; omega)
                have h5 := HSX.out.a
                have h6 := HSX.out.b
                have h8 := HSX.out.c
                have h10 := HSX.out.n
                have h9 := form_small xN (by dsimp only at h10; omega)
                dsimp only at h5 h6 h8
                simp only [List.length_append, List.take_zero, List.flatMap_nil, List.length_nil]
                omega) (by omega))
              clear hnn
              go_wp2_with fail
              refine HU6.out.mono ?_
              rintro e v8 ⟨A8, n8, c8, rfl, hb8, hg8⟩
              have B8 : Hid (ByAt w v8 A8 n8 c8 (partB L k ++ (form op ++ (row sa ++ (row sb ++ (row sc ++ ([(xN : Int), (xM : Int)].take 1).flatMap fun z => form z.toNat)))))) := by
                show ByAt _ _ _ _ _ _
                simpa using hb8
              clear hb8 hg8 ix hww
              go_wp2_with fail
              go_roundw
              case rel => exact ⟨1, A8, n8, c8, by first | rfl | (simp; done), rfl, Lib.hid (by decide), B8⟩
              case measure => first | omega | (simp only [intOf]; omega) | (simp [intOf]; done)
            · clear hi3
              have ix := fun v => index101_1 v xN xM
              have hnn : 0 ≤ (xM : Int) ∧ (xM : Int) ≤ 2000 := HSX.out.m
              have hww : IntKind.u64.wrap ((xM : Nat) : Int) = ((xM : Nat) : Int) := by rw [IntKind.wrap_u64]; omega
              have HU6 := Lib.hid (HU.out wr A7 n7 c7 _ xM I2.out (by
                have h1 := HPL.out k
                have h2 := form_small op (by have := HSX.out.op; dsimp only at this; omega)
                have h3 := row_len sa (by have := HSX.out.a; dsimp only at this; omega)
                have h4 := row_len sb (by have := HSX.out.b; dsimp only at this; omega)
                have h7 := row_len sc (by have := HSX.out.c; dsimp only at this; omega)
                have h5 := HSX.out.a
                have h6 := HSX.out.b
                have h8 := HSX.out.c
                have h10 := HSX.out.n
                have h9 := form_small xN (by dsimp only at h10; omega)
                dsimp only at h5 h6 h8
                simp only [List.length_append, List.take_succ_cons, List.take_zero, List.flatMap_cons, List.flatMap_nil, List.length_nil, Int.toNat_natCast]
                omega) (by omega))
              clear hnn
              go_wp2_with fail
              refine HU6.out.mono ?_
              rintro e v8 ⟨A8, n8, c8, rfl, hb8, hg8⟩
              have B8 : Hid (ByAt w v8 A8 n8 c8 (partB L k ++ (form op ++ (row sa ++ (row sb ++ (row sc ++ ([(xN : Int), (xM : Int)].take 2).flatMap fun z => form z.toNat)))))) := by
                show ByAt _ _ _ _ _ _
                simpa using hb8
              clear hb8 hg8 ix hww
              go_wp2_with fail
              go_roundw
              case rel => exact ⟨2, A8, n8, c8, by first | rfl | (simp; done), rfl, Lib.hid (by decide), B8⟩
              case measure => first | omega | (simp only [intOf]; omega) | (simp [intOf]; done)
            · clear hi3
              have I2' : Hid (ByAt w wr A7 n7 c7 (partB L (k + 1))) := by
                show ByAt _ _ _ _ _ _
                rw [HPS.out]
                unfold insF
                simpa using I2.out
              clear I2
              go_wp2_with fail
              go_roundw
              case rel => exact ⟨k + 1, A7, n7, c7, by first | rfl | (simp; done), rfl, Lib.hid HLT.out, I2'⟩
              case measure =>
                have := HLT.out
                first | omega | (simp only [intOf]; omega) | (simp [intOf]; omega)
    · have hd : decide (k < L.length) = false := by rw [decide_eq_false_iff_not]; exact hlt
      have I2' : Hid (ByAt w wr A1 n1 c1 (progB L)) := by
        show ByAt _ _ _ _ _ _
        rw [← partB_all (k := k) (by omega)]; exact H2.out
      clear hlt H2
      go_wp2_with fail
      go_ret2
      exact ⟨A1, n1, c1, rfl, I2'.out⟩

end Go.Proofs.YtglfakglcoffkaaDoor

namespace Go.Proofs.YtglfakglcoffkaaDoor
open Go.RowKit

theorem numS_at {bs pre rest : List UInt8} {n most k : Nat} (h : bs = pre ++ (form n ++ rest)) (hk : k = pre.length) (hn : n < 18446744073709551616) (hm : n ≤ most) : numS bs most (some k) = (n, some (pre ++ form n).length) := by
  subst h hk; exact numS_form pre rest n most hn hm
theorem txtS_at {bs pre rest x : List UInt8} {k : Nat} (h : bs = pre ++ (row x ++ rest)) (hk : k = pre.length) (hx : x.length ≤ 40) : txtS bs (some k) = (x, some (pre ++ row x).length) := by
  subst h hk; exact txtS_row pre rest x hx
theorem insS_form {bs pre rest : List UInt8} {x : Ins} {k : Nat} (h : bs = pre ++ (insF x ++ rest)) (hk : k = pre.length) (hx : x.small) : insS bs (some k) = (x, some (pre ++ insF x).length) := by
  obtain ⟨op, a, b, c, n, m⟩ := x
  obtain ⟨N, rfl⟩ : ∃ N : Nat, n = N := ⟨n.toNat, by have := hx.n; dsimp only at this; omega⟩
  obtain ⟨M, rfl⟩ : ∃ M : Nat, m = M := ⟨m.toNat, by have := hx.m; dsimp only at this; omega⟩
  have hop := hx.op
  have ha := hx.a
  have hb := hx.b
  have hc := hx.c
  have hn := hx.n
  have hm := hx.m
  dsimp only at hop ha hb hc hn hm
  unfold insF at h ⊢
  dsimp only at h ⊢
  rw [Int.toNat_natCast, Int.toNat_natCast] at h ⊢
  simp only [List.append_assoc] at h
  unfold insS
  have e1 := numS_at (most := 255) h hk (by omega) (by omega)
  rw [e1]
  dsimp only
  have h2 : bs = (pre ++ form op) ++ (row a ++ (row b ++ (row c ++ (form N ++ (form M ++ rest))))) := by rw [h]; simp only [List.append_assoc]
  have e2 := txtS_at h2 rfl ha
  rw [e2]
  dsimp only
  have h3 : bs = (pre ++ form op ++ row a) ++ (row b ++ (row c ++ (form N ++ (form M ++ rest)))) := by rw [h]; simp only [List.append_assoc]
  have e3 := txtS_at h3 rfl hb
  rw [e3]
  dsimp only
  have h4 : bs = (pre ++ form op ++ row a ++ row b) ++ (row c ++ (form N ++ (form M ++ rest))) := by rw [h]; simp only [List.append_assoc]
  have e4 := txtS_at h4 rfl hc
  rw [e4]
  dsimp only
  have h5 : bs = (pre ++ form op ++ row a ++ row b ++ row c) ++ (form N ++ (form M ++ rest)) := by rw [h]; simp only [List.append_assoc]
  have e5 := numS_at (most := 2000) h5 rfl (by omega) (by omega)
  rw [e5]
  dsimp only
  have h6 : bs = (pre ++ form op ++ row a ++ row b ++ row c ++ form N) ++ (form M ++ rest) := by rw [h]; simp only [List.append_assoc]
  have e6 := numS_at (most := 2000) h6 rfl (by omega) (by omega)
  rw [e6]
  simp only [List.append_assoc]
theorem listS_form {bs pre rest : List UInt8} {L : List Ins} (h : bs = pre ++ (L.flatMap insF ++ rest)) (hL : ∀ x ∈ L, x.small) : ∀ k, k ≤ L.length → listS bs k (some pre.length) = (L.take k, some (pre ++ (L.take k).flatMap insF).length)
  | 0, _ => by simp [listS]
  | k + 1, hk => by
    have ih := listS_form h hL k (by omega)
    obtain ⟨x, hx⟩ : ∃ x, L[k]? = some x := ⟨_, List.getElem?_eq_getElem (by omega)⟩
    have ht : L.take (k + 1) = L.take k ++ [x] := by rw [List.take_add_one, hx]; rfl
    have hs : L = L.take k ++ (x :: L.drop (k + 1)) := by
      have h1 := List.getElem?_eq_some_iff.1 hx
      rw [← h1.2, ← List.drop_eq_getElem_cons h1.1, List.take_append_drop]
    have hb : bs = (pre ++ (L.take k).flatMap insF) ++ (insF x ++ ((L.drop (k + 1)).flatMap insF ++ rest)) := by
      rw [h]
      have e : L.flatMap insF = (L.take k).flatMap insF ++ (insF x ++ (L.drop (k + 1)).flatMap insF) := by
        conv => lhs; rw [hs]
        rw [List.flatMap_append, List.flatMap_cons]
      rw [e]
      simp only [List.append_assoc]
    have hi := insS_form hb rfl (hL x (List.mem_of_getElem? hx))
    show ((listS bs k (some pre.length)).1 ++ [(insS bs (listS bs k (some pre.length)).2).1], (insS bs (listS bs k (some pre.length)).2).2) = _
    rw [ih]
    dsimp only
    rw [hi, ht]
    simp only [List.flatMap_append, List.flatMap_cons, List.flatMap_nil, List.append_nil, List.append_assoc]
theorem readP_prog {L : List Ins} (h : mayB L = true) (rest : List UInt8) : readP (progB L ++ rest) = if rest = [] then some L else none := by
  obtain ⟨h1, h2⟩ := mayB_small h
  have hb : progB L ++ rest = [] ++ (form L.length ++ (L.flatMap insF ++ rest)) := by unfold progB; simp
  have hb2 : progB L ++ rest = form L.length ++ (L.flatMap insF ++ rest) := by unfold progB; simp
  have e1 := numS_at (most := 30) (k := 0) hb rfl (by omega) h1
  unfold readP
  rw [e1]
  dsimp only
  rw [List.nil_append]
  have e2 := listS_form hb2 h2 L.length (Nat.le_refl _)
  rw [e2]
  dsimp only
  rw [List.take_length]
  have e3 : (form L.length ++ L.flatMap insF) = progB L := rfl
  rw [e3]
  by_cases hr : rest = []
  · rw [if_pos hr, if_pos ⟨by rw [hr, List.append_nil], h⟩]
  · rw [if_neg hr, if_neg]
    intro hh
    have := Option.some.inj hh.1
    rw [List.length_append] at this
    exact hr (List.eq_nil_of_length_eq_zero (by omega))
theorem insS_was {bs : List UInt8} {k k' : Nat} {x : Ins} (h : insS bs (some k) = (x, some k')) : k ≤ k' ∧ k' ≤ bs.length ∧ bs.take k' = bs.take k ++ insF x := by
  unfold insS at h
  obtain ⟨o, s1, e1⟩ : ∃ x y, numS bs 255 (some k) = (x, y) := ⟨_, _, rfl⟩
  rw [e1] at h
  dsimp only at h
  obtain ⟨a, s2, e2⟩ : ∃ x y, txtS bs s1 = (x, y) := ⟨_, _, rfl⟩
  rw [e2] at h
  dsimp only at h
  obtain ⟨b, s3, e3⟩ : ∃ x y, txtS bs s2 = (x, y) := ⟨_, _, rfl⟩
  rw [e3] at h
  dsimp only at h
  obtain ⟨c, s4, e4⟩ : ∃ x y, txtS bs s3 = (x, y) := ⟨_, _, rfl⟩
  rw [e4] at h
  dsimp only at h
  obtain ⟨n, s5, e5⟩ : ∃ x y, numS bs 2000 s4 = (x, y) := ⟨_, _, rfl⟩
  rw [e5] at h
  dsimp only at h
  obtain ⟨m, s6, e6⟩ : ∃ x y, numS bs 2000 s5 = (x, y) := ⟨_, _, rfl⟩
  rw [e6] at h
  simp only [Prod.mk.injEq] at h
  obtain ⟨rfl, rfl⟩ := h
  cases s5 with
  | none => cases e6
  | some k5 =>
  cases s4 with
  | none => cases e5
  | some k4 =>
  cases s3 with
  | none => cases e4
  | some k3 =>
  cases s2 with
  | none => cases e3
  | some k2 =>
  cases s1 with
  | none => cases e2
  | some k1 =>
  obtain ⟨p1, q1, _, r1⟩ := numS_was e1
  obtain ⟨p2, q2, _, r2⟩ := txtS_was e2
  obtain ⟨p3, q3, _, r3⟩ := txtS_was e3
  obtain ⟨p4, q4, _, r4⟩ := txtS_was e4
  obtain ⟨p5, q5, _, r5⟩ := numS_was e5
  obtain ⟨p6, q6, _, r6⟩ := numS_was e6
  refine ⟨by omega, q6, ?_⟩
  unfold insF
  dsimp only
  rw [r6, r5, r4, r3, r2, r1, Int.toNat_natCast, Int.toNat_natCast]
  simp only [List.append_assoc]
theorem listS_was {bs : List UInt8} {k : Nat} : ∀ (n : Nat) {k' : Nat}, k ≤ bs.length → (listS bs n (some k)).2 = some k' → k' ≤ bs.length ∧ bs.take k' = bs.take k ++ (listS bs n (some k)).1.flatMap insF
  | 0, k', hk, h => by
    obtain rfl := Option.some.inj h
    exact ⟨hk, by simp [listS]⟩
  | n + 1, k', hk, h => by
    have h' : (insS bs (listS bs n (some k)).2).2 = some k' := h
    obtain ⟨s, hs⟩ : ∃ s, (listS bs n (some k)).2 = s := ⟨_, rfl⟩
    rw [hs] at h'
    cases s with
    | none => cases h'
    | some k1 =>
      obtain ⟨g1, g2⟩ := listS_was n hk hs
      obtain ⟨x, hx⟩ : ∃ x, insS bs (some k1) = (x, some k') := ⟨(insS bs (some k1)).1, by rw [← h']⟩
      obtain ⟨_, q1, q2⟩ := insS_was hx
      refine ⟨q1, ?_⟩
      show _ = _ ++ ((listS bs n (some k)).1 ++ [(insS bs (listS bs n (some k)).2).1]).flatMap insF
      rw [hs, hx, q2, g2, List.flatMap_append]
      simp
theorem readP_was {bs : List UInt8} {L : List Ins} (h : readP bs = some L) : bs = progB L ∧ mayB L = true := by
  unfold readP at h
  obtain ⟨n, s, e1⟩ : ∃ x y, numS bs 30 (some 0) = (x, y) := ⟨_, _, rfl⟩
  rw [e1] at h
  dsimp only at h
  by_cases hc : (listS bs n s).2 = some bs.length ∧ mayB (listS bs n s).1 = true
  · rw [if_pos hc] at h
    have hL := Option.some.inj h
    cases s with
    | none => rw [listS_none] at hc; cases hc.1
    | some k =>
      obtain ⟨_, q1, _, r1⟩ := numS_was e1
      obtain ⟨_, g2⟩ := listS_was n q1 hc.1
      rw [List.take_length, r1, List.take_zero, List.nil_append, hL] at g2
      refine ⟨?_, by rw [← hL]; exact hc.2⟩
      unfold progB
      rw [g2, ← hL, listS_len]
  · rw [if_neg hc] at h; cases h
theorem readP_self {L : List Ins} (h : mayB L = true) : readP (progB L) = some L := by
  have := readP_prog h []
  rwa [List.append_nil, if_pos rfl] at this
theorem prog_inj {L M : List Ins} (hL : mayB L = true) (hM : mayB M = true) : progB L = progB M ↔ L = M := by
  constructor
  · intro h
    have h1 := readP_self hL
    rw [h, readP_self hM] at h1
    exact (Option.some.inj h1).symm
  · intro h; rw [h]
theorem readP_more {bs : List UInt8} {L : List Ins} (h : readP bs = some L) (y : UInt8) : readP (bs ++ [y]) = none := by
  obtain ⟨h1, h2⟩ := readP_was h
  rw [h1, readP_prog h2, if_neg (by simp)]
theorem readP_pos {bs : List UInt8} {L : List Ins} (h : readP bs = some L) : 0 < bs.length := by
  rw [(readP_was h).1]
  unfold progB
  rw [List.length_append, form_len]; omega
theorem readP_less {bs : List UInt8} {L : List Ins} (h : readP bs = some L) : readP (bs.take (bs.length - 1)) = none := by
  have hp := readP_pos h
  cases hm : readP (bs.take (bs.length - 1)) with
  | none => rfl
  | some M =>
    have h1 : bs = bs.take (bs.length - 1) ++ [bs[bs.length - 1]'(by omega)] := by
      rw [← List.take_succ_eq_append_getElem (by omega), Nat.sub_add_cancel hp, List.take_length]
    have h2 := readP_more hm (bs[bs.length - 1]'(by omega))
    rw [← h1, h] at h2
    cases h2

end Go.Proofs.YtglfakglcoffkaaDoor
