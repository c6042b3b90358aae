/-
  AdvertsPlays: what stands between two calls.
-/
import Derived.Test.YtkcammaccgkflaaDoorSU
import Derived.Test.YtkcammaccgkflaaDoorTJ
namespace Go.Proofs.YtkcammaccgkflaaDoor
open Go.RowKit

theorem hash_lt {w : World} {x : Nat} (h : HashAt w x) : x < w.heap.size := by
  have := h.1 0 _ (by rw [List.getElem?_map]; rfl)
  exact World.block_lt_of_cell? w _ this
theorem hash_kept {S : Nat → Prop} {w w' : World} {x : Nat} (h : HashAt w x) (hk : Kept S w w') (hn : ¬ S x) : HashAt w' x := by
  have hlt := hash_lt h
  have e : w'.heap[x]? = w.heap[x]? := hk.block x hlt hn
  refine ⟨fun j v hj => ?_, fun j v hj => ?_⟩
  · rw [← h.1 j v hj]; unfold World.cell?; rw [e]
  · rw [← h.2 j v hj]; unfold World.cell?; rw [e]
theorem range_kept {S : Nat → Prop} {w w' : World} {b o : Nat} {cs : List Value} (h : w.rangeAt b o cs) (hk : Kept S w w') (hb : b < w.heap.size) (hn : ¬ S b) : w'.rangeAt b o cs := fun j v hj => by
  rw [← h j v hj]; unfold World.cell?; rw [hk.block b hb hn]
/-- What lies beside the sets: the document's row, the key's box, the hash. -/
structure Beside (w u : World) (R : List Att) (A' : Option Addr) (c' pK : Nat) (key : Dg) (px : Nat) : Prop where
  row : u.ownsRow w.heap.size 46 97 (.slice A' R.length c') R.length (R.flatMap attCells)
  kl : pK < u.heap.size
  kr : u.rangeAt pK 0 (byteVals key.1)
  hx : HashAt u px
def off (S : Nat → Prop) (A' : Option Addr) (pK px : Nat) : Prop := (∀ b, A' = some b → ¬ S b.block) ∧ ¬ S pK ∧ ¬ S px
theorem Beside.kept {w u v : World} {R : List Att} {A' : Option Addr} {c' pK px : Nat} {key : Dg} {S : Nat → Prop} (h : Beside w u R A' c' pK key px) (hk : Kept S u v) (ho : off S A' pK px) : Beside w v R A' c' pK key px :=
  ⟨own_keep h.row hk (fun g hg => by obtain ⟨o, s, e⟩ := own_addr hg; exact ho.1 _ e), Nat.lt_of_lt_of_le h.kl hk.size, range_kept h.kr hk h.kl ho.2.1, hash_kept h.hx hk ho.2.2⟩
theorem Beside.chg {w u v : World} {R : List Att} {A' : Option Addr} {c' pK px : Nat} {key : Dg} (h : Beside w u R A' c' pK key px) (g : Chg none u v) : Beside w v R A' c' pK key px :=
  h.kept (Kept.of_chg g) ⟨fun _ _ e => (by cases e), fun e => (by cases e), fun e => (by cases e)⟩
theorem Beside.lt {w u : World} {R : List Att} {A' : Option Addr} {c' pK px : Nat} {key : Dg} (h : Beside w u R A' c' pK key px) {b : Addr} (e : A' = some b) : b.block < u.heap.size := by
  rcases h.row.2 with ⟨e1, -⟩ | ⟨g, cap, cur, e1, -, hgg, -⟩
  · injection e1 with e1 _ _; rw [e] at e1; cases e1
  · injection e1 with e1 _ _
    rw [e] at e1
    injection e1 with e1
    rw [e1]; exact (Array.getElem?_eq_some_iff.1 hgg).1
def PlayI (w u : World) (ps : Nat) (S R : List Att) (A' : Option Addr) (c' pK : Nat) (key : Dg) (px : Nat) : Prop :=
  ∃ A c, SetAt u w.heap.size ps A c S ∧ Beside w u R A' c' pK key px ∧ off (setS ps A) A' pK px ∧ Chg none w u
theorem PlayI.chg {w u v : World} {ps : Nat} {S R : List Att} {A' : Option Addr} {c' pK px : Nat} {key : Dg} (h : PlayI w u ps S R A' c' pK key px) (g : Chg none u v) : PlayI w v ps S R A' c' pK key px := by
  obtain ⟨A, c, h1, h2, h3, h4⟩ := h
  exact ⟨A, c, h1.chg g, h2.chg g, h3, h4.trans g⟩
theorem PlayI.new {w u : World} {ps : Nat} {S R : List Att} {A' : Option Addr} {c' pK px : Nat} {key : Dg} (h : PlayI w u ps S R A' c' pK key px) : SetNew w u ps S := by
  obtain ⟨A, c, h1, h2, h3, h4⟩ := h
  exact ⟨A, c, h1, h4⟩
theorem PlayI.bes {w u : World} {ps : Nat} {S R : List Att} {A' : Option Addr} {c' pK px : Nat} {key : Dg} (h : PlayI w u ps S R A' c' pK key px) : Beside w u R A' c' pK key px := by
  obtain ⟨A, c, h1, h2, h3, h4⟩ := h
  exact h2
theorem PlayI.refadd {w u : World} {ps : Nat} {S R : List Att} {A' : Option Addr} {c' pK px : Nat} {key : Dg} (h : PlayI w u ps S R A' c' pK key px) (ok : OkA R) (a : Att) (ha : Big a.n) :
    Calls Tryd.prog 44 #[.slice A' R.length c', .agg (attCells a).toArray] u fun e v => ∃ A1 c1, e = .returned (.tuple #[.slice A1 (addM R a).1.length c1, .int .i64 (addM R a).2]) ∧ PlayI w v ps S (addM R a).1 A1 c1 pK key px := by
  obtain ⟨A, c, h1, h2, h3, h4⟩ := h
  refine (refadd_any u _ A' c' R a h2.row h4.size ok ha).mono fun e v k => ?_
  obtain ⟨A1, c1, e1, k1, k2, k3⟩ := k
  refine ⟨A1, c1, e1, A, c, h1.chg k2, ⟨k1, (h2.chg k2).kl, (h2.chg k2).kr, (h2.chg k2).hx⟩, ⟨fun b eb hs => ?_, h3.2⟩, h4.trans k2⟩
  rcases k3 with rfl | k3
  · exact h3.1 b eb hs
  · have := (h1.fresh _ hs).2
    have := k3 b eb
    omega
theorem PlayI.add {w u : World} {ps : Nat} {S R : List Att} {A' : Option Addr} {c' pK px : Nat} {key : Dg} (h : PlayI w u ps S R A' c' pK key px) (ok : OkA S) (a : Att) :
    Calls Tryd.prog 45 #[.pointer (some ⟨ps, 0, none⟩), .agg (attCells a).toArray] u fun e v => e = .returned (.int .i64 (addM S a).2) ∧ PlayI w v ps (addM S a).1 R A' c' pK key px := by
  obtain ⟨A, c, h1, h2, h3, h4⟩ := h
  refine (add_any u _ ps A c S a h1 ok).mono fun e v k => ?_
  obtain ⟨e1, A2, c2, k2, k3, k4⟩ := k
  have key : ∀ x, x < u.heap.size → ¬ setS ps A x → ¬ setS ps A2 x := fun x hx hn hs => by
    rcases hs with rfl | hs
    · exact hn (.inl rfl)
    · rcases k4 with rfl | ⟨g, e2, hg⟩
      · exact hn (.inr hs)
      · rw [hs] at e2
        injection e2 with e2
        injection e2 with e2 _ _
        omega
  exact ⟨e1, A2, c2, k2, h2.kept k3 h3, ⟨fun b eb => key _ (h2.lt eb) (h3.1 b eb), key _ h2.kl h3.2.1, key _ (hash_lt h2.hx) h3.2.2⟩, Kept.fresh h4 k3 fun i hi => (h1.fresh i hi).1⟩
/-- Behind a copy, while the old set is there too. -/
def PlayC (w u : World) (ps pn : Nat) (S R : List Att) (A' : Option Addr) (c' pK : Nat) (key : Dg) (px : Nat) : Prop :=
  ∃ A c A2 c2, SetAt u w.heap.size ps A c S ∧ SetAt u w.heap.size pn A2 c2 S ∧ (∀ g, setS pn A2 g → ¬ setS ps A g) ∧ Beside w u R A' c' pK key px ∧ off (setS ps A) A' pK px ∧ off (setS pn A2) A' pK px ∧ Chg none w u
theorem PlayI.copy {w u : World} {ps : Nat} {S R : List Att} {A' : Option Addr} {c' pK px : Nat} {key : Dg} (h : PlayI w u ps S R A' c' pK key px) (ok : OkA S) :
    Calls Tryd.prog 47 #[.pointer (some ⟨ps, 0, none⟩)] u fun e v => ∃ pn, e = .returned (.pointer (some ⟨pn, 0, none⟩)) ∧ PlayC w v ps pn S R A' c' pK key px := by
  obtain ⟨A, c, h1, h2, h3, h4⟩ := h
  refine (copy_any u _ ps A c S h1 (by have := ok.len; omega)).mono fun e v k => ?_
  obtain ⟨pn, A2, c2, e1, k2, k3⟩ := k
  have fr : ∀ x, x < u.heap.size → ¬ setS pn A2 x := fun x hx hs => by have := (k2.fresh x hs).1; omega
  exact ⟨pn, e1, A, c, A2, c2, h1.chg k3, k2.mono h4.size, fun g hg hs => fr g (h1.fresh g hs).2 hg, h2.chg k3, h3, ⟨fun b eb => fr _ (h2.lt eb), fr _ h2.kl, fr _ (hash_lt h2.hx)⟩, h4.trans k3⟩
theorem PlayC.junk {w u : World} {ps pn : Nat} {S R : List Att} {A' : Option Addr} {c' pK px : Nat} {key : Dg} (h : PlayC w u ps pn S R A' c' pK key px) (ok : OkA S) (a : Att) :
    Calls Tryd.prog 45 #[.pointer (some ⟨ps, 0, none⟩), .agg (attCells a).toArray] u fun e v => (∃ z, e = .returned (.int .i64 z)) ∧ PlayI w v pn S R A' c' pK key px := by
  obtain ⟨A, c, A2, c2, h1, h2, h3, h4, h5, h6, h7⟩ := h
  refine (add_any u _ ps A c S a h1 ok).mono fun e v k => ?_
  obtain ⟨e1, A3, c3, k2, k3, k4⟩ := k
  exact ⟨⟨_, e1⟩, A2, c2, h2.kept k3 h3, h4.kept k3 h5, h6, Kept.fresh h7 k3 fun i hi => (h1.fresh i hi).1⟩
theorem mem_put {S : List Att} {a : Att} (hp : posA S a ≤ S.length) (h : ¬ 200 ≤ posA S a) : a ∈ putA S a := by
  unfold putA
  refine List.mem_of_getElem? (i := posA S a) ?_
  rw [List.getElem?_take_of_lt (by omega), List.getElem?_append_right (by rw [List.length_take]; omega), List.length_take, show posA S a - min (posA S a) S.length = 0 by omega]
  rfl
/-- What Add tells, and whether the result is there behind it. -/
theorem add_told {S : List Att} (ok : OkA S) (a : Att) : ((addM S a).2 = 0 ∧ decide (a ∈ (addM S a).1) = true) ∨ ((addM S a).2 = 7 ∧ decide (a ∈ (addM S a).1) = true) ∨ ((addM S a).2 = 2 ∧ decide (a ∈ (addM S a).1) = false) ∨ ((addM S a).2 = 8 ∧ decide (a ∈ (addM S a).1) = false) := by
  unfold addM
  cases hm : mayB a.n with
  | false =>
    rw [if_neg (by decide)]
    exact .inr (.inr (.inl ⟨rfl, decide_eq_false fun h => by have := ok.may a h; rw [hm] at this; cases this⟩))
  | true =>
    rw [if_pos rfl]
    by_cases h1 : a ∈ S
    · rw [if_pos h1]; exact .inr (.inl ⟨rfl, decide_eq_true h1⟩)
    · rw [if_neg h1]
      by_cases h2 : 200 ≤ posA S a
      · rw [if_pos h2]; exact .inr (.inr (.inr ⟨rfl, decide_eq_false h1⟩))
      · rw [if_neg h2]; exact .inl ⟨rfl, decide_eq_true (mem_put (sort_at ok.sort a).1 h2)⟩
def keyJ : Dg := ⟨9 :: 9 :: 9 :: zeros 29, by decide⟩
def attJ : Att := ⟨keyJ, zeroDg, 4999, zeroDg⟩
theorem built30j : Tryd.prog.built 30 [(0, .int .u8 9), (1, .int .u8 9), (2, .int .u8 9)] = some (byteVals keyJ.1).toArray := by kernel_rfl
theorem built46j : Tryd.prog.built 46 [(0, .agg (byteVals keyJ.1).toArray), (2, .int .i64 4999)] = some (attCells attJ).toArray := by kernel_rfl
theorem own_empty46' (w : World) (B : Nat) (hB : B ≤ w.heap.size) : (w.alloc (.cells #[] 46 (0, 0))).ownsRow B 46 97 (.slice (some ⟨w.heap.size, 0, none⟩) 0 0) 0 (([] : List Att).flatMap attCells) :=
  ⟨rfl, .inr ⟨w.heap.size, 0, #[], rfl, hB, heap_alloc_new w _, Nat.le_refl _, by unfold maxLen; decide, rfl, rfl⟩⟩

end Go.Proofs.YtkcammaccgkflaaDoor
