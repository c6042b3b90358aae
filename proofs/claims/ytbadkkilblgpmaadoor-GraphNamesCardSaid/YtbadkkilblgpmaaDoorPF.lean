/-
  Package program: an instruction; two instructions held against each other; the cells of a list of instructions.
-/
import Derived.Test.YtbadkkilblgpmaaDoorPC
import Derived.Test.YtbadkkilblgpmaaDoorW
import Derived.Laws.StructEq
namespace Go.Proofs.YtbadkkilblgpmaaDoor
open Go.RowKit

structure Ins where
  op : Nat
  a : List UInt8
  b : List UInt8
  c : List UInt8
  n : Int
  m : Int

instance : Inhabited Ins := ⟨⟨0, [], [], [], 0, 0⟩⟩

/-- The six cells of an instruction. -/
def insCells (x : Ins) : List Value := [.int .u8 x.op, .string ⟨x.a.toArray⟩, .string ⟨x.b.toArray⟩, .string ⟨x.c.toArray⟩, .int .i64 x.n, .int .i64 x.m]

/-- What every instruction in memory is. -/
structure Ins.fits (x : Ins) : Prop where
  op : x.op < 256
  a : x.a.length ≤ 9223372036854775807
  b : x.b.length ≤ 9223372036854775807
  c : x.c.length ≤ 9223372036854775807
  n : -9223372036854775808 ≤ x.n ∧ x.n ≤ 9223372036854775807
  m : -9223372036854775808 ≤ x.m ∧ x.m ≤ 9223372036854775807

def sameIns (x y : Ins) : Bool := x.op == y.op && (x.a == y.a && (x.b == y.b && (x.c == y.c && (x.n == y.n && x.m == y.m))))
theorem sameIns_iff (x y : Ins) : sameIns x y = true ↔ x = y := by
  obtain ⟨o, a, b, c, n, m⟩ := x
  obtain ⟨o', a', b', c', n', m'⟩ := y
  unfold sameIns
  simp only [Bool.and_eq_true, beq_iff_eq, Ins.mk.injEq]

theorem Tryd.und61 : Tryd.prog.underlying 61 = some (.struct (Tryd.prog.fieldsOf 61)) := by kernel_rfl
theorem Tryd.held61 : Tryd.prog.stoodInHeld 61 = false := by kernel_rfl
theorem guard61 : Tryd.prog.eqGuardType Tryd.prog.depth 61 = false := by kernel_rfl

set_option maxHeartbeats 4000000 in
theorem eql61 (x y : Ins) (w : World) : (binOp .eql 61 (.agg (insCells x).toArray) (.agg (insCells y).toArray)).run Tryd.prog w = .ok (.bool (sameIns x y)) w := by
  obtain ⟨o, a, b, c, n, m⟩ := x
  obtain ⟨o', a', b', c', n', m'⟩ := y
  have h5 := fun (x y : Int) (w : World) => run_equalIn_int (P := Tryd.prog) w 9998 5 .u8 .u8 x y Tryd.underlying5
  have h9 := fun (x y : ByteArray) (w : World) => run_equalIn_string (P := Tryd.prog) w 9998 9 x y Tryd.underlying9
  have h3 := fun (x y : Int) (w : World) => run_equalIn_int (P := Tryd.prog) w 9998 3 .i64 .i64 x y Tryd.underlying3
  simp only [Nat.reduceAdd] at h5 h9 h3
  have a3 := Tryd.isAgg3
  have a5 := Tryd.isAgg5
  have a9 := Tryd.isAgg9
  rw [run_eql_struct, show (10000 : Nat) = 9999 + 1 from rfl, run_equalIn_agg w 9999 61 _ _ Tryd.und61 Tryd.held61]
  simp only [Program.fieldsOf, Tryd.underlying61]
  unfold insCells sameIns
  have ho : ((o : Int) == (o' : Int)) = (o == o') := by
    by_cases h : o = o'
    · subst h; simp
    · have h1 : (o == o') = false := by rw [beq_eq_false_iff_ne]; exact h
      have h2 : ((o : Int) == (o' : Int)) = false := by rw [beq_eq_false_iff_ne]; omega
      rw [h1, h2]
  simp only [Op.eqFields, part, Sem.run_bind, Sem.run_ite, a3, a5, a9, Result.andThen_ok, Sem.run_pure]
  simp [Sem.run_pure, h3, h5, h9, ho, ByteArray.toList_mk]
  by_cases e0 : o = o' <;> by_cases e1 : a = a' <;> by_cases e2 : b = b' <;> by_cases e3 : c = c' <;> by_cases e4 : n = n' <;> by_cases e5 : m = m' <;> simp [*]

theorem neq61 (x y : Ins) (w : World) : (binOp .neq 61 (.agg (insCells x).toArray) (.agg (insCells y).toArray)).run Tryd.prog w = .ok (.bool (!sameIns x y)) w := by
  have h := eql61 x y w
  rw [run_eql_struct] at h
  rw [run_neq_struct]
  revert h
  generalize (Op.equalIn 10000 61 (.agg (insCells x).toArray) (.agg (insCells y).toArray)).run Tryd.prog w = R
  intro h
  cases R with
  | ok v w' =>
    simp only [Result.andThen] at h ⊢
    injection h with h1 h2
    injection h1 with h1
    rw [h1, h2]
  | _ => cases h

/-- The six cells of an element of a list of instructions. -/
theorem RowsAt.six {w : World} {b off : Nat} {L : List Ins} (h : RowsAt w 6 (some ⟨b, off, none⟩) insCells L) {i : Nat} {x : Ins} (hi : L[i]? = some x) :
    b < w.heap.size ∧ w.cell? ⟨b, off + i * 6, none⟩ = some (.int .u8 x.op) ∧ w.cell? ⟨b, off + i * 6 + 1, none⟩ = some (.string ⟨x.a.toArray⟩) ∧
    w.cell? ⟨b, off + i * 6 + 2, none⟩ = some (.string ⟨x.b.toArray⟩) ∧ w.cell? ⟨b, off + i * 6 + 3, none⟩ = some (.string ⟨x.c.toArray⟩) ∧
    w.cell? ⟨b, off + i * 6 + 4, none⟩ = some (.int .i64 x.n) ∧ w.cell? ⟨b, off + i * 6 + 5, none⟩ = some (.int .i64 x.m) := by
  obtain ⟨b', off', e, hb, hc⟩ := h (by intro e; subst e; simp at hi)
  obtain ⟨rfl, rfl, -⟩ : b = b' ∧ off = off' ∧ True := by
    injection e with e
    injection e with e1 e2
    exact ⟨e1, e2, trivial⟩
  refine ⟨hb, ?_, ?_, ?_, ?_, ?_, ?_⟩
  · exact hc i x hi 0 (by decide)
  · exact hc i x hi 1 (by decide)
  · exact hc i x hi 2 (by decide)
  · exact hc i x hi 3 (by decide)
  · exact hc i x hi 4 (by decide)
  · exact hc i x hi 5 (by decide)

theorem RowsAt.chg {α : Type} {w w' : World} {k : Nat} {A : Option Addr} {cells : α → List Value} {L : List α} (h : RowsAt w k A cells L) (hw : Chg none w w') : RowsAt w' k A cells L := by
  intro hne
  obtain ⟨b, off, rfl, hlt, hc⟩ := h hne
  refine ⟨b, off, rfl, Nat.lt_of_lt_of_le hlt hw.size, fun i a hi j hj => ?_⟩
  rw [← hc i a hi j hj]
  exact (hw.belowNone (B := w.heap.size) (Nat.le_refl _)).cell (p := ⟨b, _, none⟩) hlt

end Go.Proofs.YtbadkkilblgpmaaDoor
