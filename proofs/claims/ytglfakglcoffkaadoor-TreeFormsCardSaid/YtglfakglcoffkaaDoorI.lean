/-
  Eight words as a value: the i-th of them.
-/
import Derived.Test.YtglfakglcoffkaaDoorT
namespace Go.Proofs.YtglfakglcoffkaaDoor
open Go.RowKit

theorem index25_0 (w : World) (a b c d e f g h : Int) : (Instr.index 25 (.agg #[.int .u32 a, .int .u32 b, .int .u32 c, .int .u32 d, .int .u32 e, .int .u32 f, .int .u32 g, .int .u32 h]) (.int .i64 0)).run Tryd.prog w = .ok (.int .u32 a) w := by
  have u25 := Tryd.underlying25
  have z24 := Tryd.sizeOf24
  have a24 := Tryd.isAgg24
  unfold Instr.index part
  go_simp

theorem index25_1 (w : World) (a b c d e f g h : Int) : (Instr.index 25 (.agg #[.int .u32 a, .int .u32 b, .int .u32 c, .int .u32 d, .int .u32 e, .int .u32 f, .int .u32 g, .int .u32 h]) (.int .i64 1)).run Tryd.prog w = .ok (.int .u32 b) w := by
  have u25 := Tryd.underlying25
  have z24 := Tryd.sizeOf24
  have a24 := Tryd.isAgg24
  unfold Instr.index part
  go_simp

theorem index25_2 (w : World) (a b c d e f g h : Int) : (Instr.index 25 (.agg #[.int .u32 a, .int .u32 b, .int .u32 c, .int .u32 d, .int .u32 e, .int .u32 f, .int .u32 g, .int .u32 h]) (.int .i64 2)).run Tryd.prog w = .ok (.int .u32 c) w := by
  have u25 := Tryd.underlying25
  have z24 := Tryd.sizeOf24
  have a24 := Tryd.isAgg24
  unfold Instr.index part
  go_simp

theorem index25_3 (w : World) (a b c d e f g h : Int) : (Instr.index 25 (.agg #[.int .u32 a, .int .u32 b, .int .u32 c, .int .u32 d, .int .u32 e, .int .u32 f, .int .u32 g, .int .u32 h]) (.int .i64 3)).run Tryd.prog w = .ok (.int .u32 d) w := by
  have u25 := Tryd.underlying25
  have z24 := Tryd.sizeOf24
  have a24 := Tryd.isAgg24
  unfold Instr.index part
  go_simp

theorem index25_4 (w : World) (a b c d e f g h : Int) : (Instr.index 25 (.agg #[.int .u32 a, .int .u32 b, .int .u32 c, .int .u32 d, .int .u32 e, .int .u32 f, .int .u32 g, .int .u32 h]) (.int .i64 4)).run Tryd.prog w = .ok (.int .u32 e) w := by
  have u25 := Tryd.underlying25
  have z24 := Tryd.sizeOf24
  have a24 := Tryd.isAgg24
  unfold Instr.index part
  go_simp

theorem index25_5 (w : World) (a b c d e f g h : Int) : (Instr.index 25 (.agg #[.int .u32 a, .int .u32 b, .int .u32 c, .int .u32 d, .int .u32 e, .int .u32 f, .int .u32 g, .int .u32 h]) (.int .i64 5)).run Tryd.prog w = .ok (.int .u32 f) w := by
  have u25 := Tryd.underlying25
  have z24 := Tryd.sizeOf24
  have a24 := Tryd.isAgg24
  unfold Instr.index part
  go_simp

theorem index25_6 (w : World) (a b c d e f g h : Int) : (Instr.index 25 (.agg #[.int .u32 a, .int .u32 b, .int .u32 c, .int .u32 d, .int .u32 e, .int .u32 f, .int .u32 g, .int .u32 h]) (.int .i64 6)).run Tryd.prog w = .ok (.int .u32 g) w := by
  have u25 := Tryd.underlying25
  have z24 := Tryd.sizeOf24
  have a24 := Tryd.isAgg24
  unfold Instr.index part
  go_simp

theorem index25_7 (w : World) (a b c d e f g h : Int) : (Instr.index 25 (.agg #[.int .u32 a, .int .u32 b, .int .u32 c, .int .u32 d, .int .u32 e, .int .u32 f, .int .u32 g, .int .u32 h]) (.int .i64 7)).run Tryd.prog w = .ok (.int .u32 h) w := by
  have u25 := Tryd.underlying25
  have z24 := Tryd.sizeOf24
  have a24 := Tryd.isAgg24
  unfold Instr.index part
  go_simp

theorem index25_at (a b c d e f g h : Int) (j : Nat) (hj : j < 8) (w : World) : (Instr.index 25 (.agg #[.int .u32 a, .int .u32 b, .int .u32 c, .int .u32 d, .int .u32 e, .int .u32 f, .int .u32 g, .int .u32 h]) (.int .i64 j)).run Tryd.prog w = .ok (.int .u32 ([a, b, c, d, e, f, g, h].getD j 0)) w := by
  obtain rfl | rfl | rfl | rfl | rfl | rfl | rfl | rfl : j = 0 ∨ j = 1 ∨ j = 2 ∨ j = 3 ∨ j = 4 ∨ j = 5 ∨ j = 6 ∨ j = 7 := by omega
  · exact index25_0 w a b c d e f g h
  · exact index25_1 w a b c d e f g h
  · exact index25_2 w a b c d e f g h
  · exact index25_3 w a b c d e f g h
  · exact index25_4 w a b c d e f g h
  · exact index25_5 w a b c d e f g h
  · exact index25_6 w a b c d e f g h
  · exact index25_7 w a b c d e f g h

theorem wpList_moveTo {P : Program} {ops : Array Oper} {rest : List Oper} {o : Oper} {a : Act} {w : World} {Q : Exit → Act → World → Prop} (hg : o.guard = none) (x : Operand) (ho : o.op = .move x) (d : Option Tmp) (hd : o.dst = d) (v : Value) (hv : a.eval x = v)
    (h : wpList P ops Q rest (a.put d v) w) : wpList P ops Q (o :: rest) a w := by
  subst hd hv
  refine wpList_plain hg fun _ hK => ?_
  unfold Oper.wp execOp
  rw [ho]
  exact hK _ _ h

theorem built25 (a b c d e f g h : Int) : Tryd.prog.built 25 [(0, .int .u32 a), (1, .int .u32 b), (2, .int .u32 c), (3, .int .u32 d), (4, .int .u32 e), (5, .int .u32 f), (6, .int .u32 g), (7, .int .u32 h)] = some #[.int .u32 a, .int .u32 b, .int .u32 c, .int .u32 d, .int .u32 e, .int .u32 f, .int .u32 g, .int .u32 h] := by
  kernel_rfl

/-- The words, of which the first j have been added to. -/
def mixW (O X : List Int) (j : Nat) : List Int := (List.range 8).map fun i => if i < j then (O.getD i 0 + X.getD i 0) % 4294967296 else O.getD i 0
theorem mixW_len (O X : List Int) (j : Nat) : (mixW O X j).length = 8 := by simp [mixW]
theorem mixW_zero (O X : List Int) (h : O.length = 8) : mixW O X 0 = O := by
  apply List.ext_getElem?
  intro i
  by_cases hi : i < 8
  · simp [mixW, hi, List.getElem?_eq_getElem (show i < O.length by omega)]
  · rw [List.getElem?_eq_none (by rw [mixW_len]; omega), List.getElem?_eq_none (by omega)]
theorem mixW_at (O X : List Int) (j : Nat) (hj : j < 8) : (mixW O X j)[j]? = some (O.getD j 0) := by simp [mixW, hj]
theorem mixW_set (O X : List Int) (j : Nat) (hj : j < 8) : (mixW O X j).set j ((O.getD j 0 + X.getD j 0) % 4294967296) = mixW O X (j + 1) := by
  apply List.ext_getElem?
  intro i
  by_cases hi : i < 8
  · by_cases h : j = i
    · subst h
      rw [List.getElem?_set_self (by rw [mixW_len]; exact hj)]
      simp [mixW, hj]
    · rw [List.getElem?_set_ne h]
      simp only [mixW, List.getElem?_map, List.getElem?_range hi, Option.map_some, Option.some.injEq]
      by_cases h2 : i < j
      · rw [if_pos h2, if_pos (by omega)]
      · rw [if_neg h2, if_neg (by omega)]
  · rw [List.getElem?_eq_none (by rw [List.length_set, mixW_len]; omega), List.getElem?_eq_none (by rw [mixW_len]; omega)]

end Go.Proofs.YtglfakglcoffkaaDoor
