/-
  Package sha: take, where a block is begun and is not filled.
-/
import Derived.Test.YtglfakglcoffkaaDoorD3
namespace Go.Proofs.YtglfakglcoffkaaDoor
open Go.RowKit

theorem splice_mid (W8 rest xs : List Value) (h : Nat) (L0 T : Value) (h8 : W8.length = 8) (hr : rest.length = 64) (hx : h + xs.length ≤ 64) :
    splice (W8 ++ (rest ++ [L0, T])) (8 + h) xs = W8 ++ ((rest.take h ++ (xs ++ rest.drop (h + xs.length))) ++ [L0, T]) := by
  unfold splice
  rw [List.take_append, h8, show 8 + h - 8 = h by omega, List.take_of_length_le (by omega), List.take_append_of_le_length (by omega), List.drop_append, h8, show 8 + h + xs.length - 8 = h + xs.length by omega,
    List.drop_eq_nil_of_le (by omega), List.nil_append, List.drop_append_of_le_length (by omega)]
  simp only [List.append_assoc]
theorem mid_len (rest xs : List Value) (h : Nat) (hr : rest.length = 64) (hx : h + xs.length ≤ 64) : (rest.take h ++ (xs ++ rest.drop (h + xs.length))).length = 64 := by
  rw [List.length_append, List.length_append, List.length_take, List.length_drop]; omega
theorem cells_mid (W8 rest xs : List Value) (h : Nat) (L0 T L : Value) (h8 : W8.length = 8) (hr : rest.length = 64) (hx : h + xs.length ≤ 64) :
    (splice (W8 ++ (rest ++ [L0, T])) (8 + h) xs).set 72 L = W8 ++ ((rest.take h ++ (xs ++ rest.drop (h + xs.length))) ++ [L, T]) := by
  rw [splice_mid _ _ _ _ _ _ h8 hr hx, List.set_append_right _ _ (by omega), h8, List.set_append_right _ _ (by rw [mid_len _ _ _ hr hx]; omega), mid_len _ _ _ hr hx]
  rfl

set_option maxRecDepth 100000 in
set_option maxHeartbeats 4000000 in
theorem take_short (b : Nat) (W8 rest : List Value) (h0 tk : Nat) (A : Option Addr) (x : List UInt8) (c : Nat) (w : World) (h8 : W8.length = 8) (hr : rest.length = 64)
    (hb : BlkL w b (W8 ++ (rest ++ [.int .i64 h0, .int .u64 tk])) 79) (ht : tk + x.length < 18446744073709551616) (hA : Src w b A x) (_hc : x.length ≤ c) (hh : 0 < h0) (hx : h0 + x.length < 64) :
    Calls Tryd.prog 54 #[.pointer (some ⟨b, 0, none⟩), .slice A x.length c] w fun e w' => e = .returned (.tuple #[]) ∧
      BlkL w' b (W8 ++ ((rest.take h0 ++ (byteVals x ++ rest.drop (h0 + x.length))) ++ [.int .i64 ((h0 : Int) + x.length), .int .u64 ((tk : Int) + x.length)])) 79 ∧ Chg (some b) w w' := by
  have c72 : w.cell? ⟨b, 72, none⟩ = some (.int .i64 h0) := by
    rw [BlkL.cell hb, List.getElem?_append_right (by omega), h8, List.getElem?_append_right (by omega), hr]; rfl
  have c73 : w.cell? ⟨b, 73, none⟩ = some (.int .u64 tk) := by
    rw [BlkL.cell hb, List.getElem?_append_right (by omega), h8, List.getElem?_append_right (by omega), hr]; rfl
  have hfz := Blk.frozen hb
  have hlt := Blk.lt hb
  have hb1 := BlkL.set hb 73 (.int .u64 ((tk : Int) + x.length))
  rw [cells_taken _ _ _ _ _ h8 hr] at hb1
  have hg1 : Chg (some b) w (w.setCell ⟨b, 73, none⟩ (.int .u64 ((tk : Int) + x.length))) := (Chg.refl _ _).setCell _ _
  have hA1 := hA.chg hg1
  have hL2 : (byteVals x).length = x.length := byteVals_len x
  have hfit : 8 + h0 + (byteVals x).length ≤ (W8 ++ (rest ++ [Value.int .i64 h0, .int .u64 ((tk : Int) + x.length)])).length := by
    rw [List.length_append, List.length_append, h8, hr, hL2]; simp; omega
  obtain ⟨w2, hrun, hb2', g2⟩ := copy_runs (P := Tryd.prog) (w := (w.setCell ⟨b, 73, none⟩ (.int .u64 ((tk : Int) + x.length))).drew) 22 22 3 5 Tryd.underlying22 (by kernel_rfl) (some ⟨b, 8 + h0, none⟩) A (64 - h0) (64 - h0) x.length c b (8 + h0) _ 79 hb1 (byteVals x)
    (by rw [hL2]; exact (Nat.min_eq_left (by omega)).symm) (fun h0' => ⟨rfl, Src.source hA1 h0'⟩) hfit (byteVals_one _)
  rw [show goInt (byteVals x).length = .int .i64 x.length by rw [hL2]; rfl] at hrun
  have hfz2 := Blk.frozen hb2' 72
  have q72 : w2.cell? ⟨b, 72, none⟩ = some (.int .i64 h0) := by
    have hx64 : h0 + (byteVals x).length ≤ 64 := by rw [hL2]; omega
    rw [BlkL.cell hb2', splice_mid _ _ _ _ _ _ h8 hr hx64, List.getElem?_append_right (by omega), h8, List.getElem?_append_right (by rw [mid_len _ _ _ hr hx64]; omega), mid_len _ _ _ hr hx64]
    rfl
  have hfin := BlkL.set hb2' 72 (.int .i64 ((h0 : Int) + x.length))
  rw [cells_mid _ rest (byteVals x) h0 _ _ _ h8 hr (by rw [hL2]; omega), hL2] at hfin
  have hgf : Chg (some b) w (w2.setCell ⟨b, 72, none⟩ (.int .i64 ((h0 : Int) + x.length))) := ((hg1.drew).trans g2).setCell _ _
  have HFIN := Lib.hid hfin
  have HGF := Lib.hid hgf
  have d1 : decide ((h0 : Int) + (x.length : Int) < 64) = true := by simp; omega
  clear hfit hfin hgf hb2' g2 hb hb1 hg1 hA hA1 hL2
  have d2 : decide (h0 + x.length < 64) = true := by simp; omega
  have x1 : h0 ≤ 64 := by omega
  have x2 : (h0 : Int) ≤ 64 := by omega
  have x3 : ¬ 64 = h0 := by omega
  have x4 : ¬ 64 - h0 = 0 := by omega
  go_enter Tryd.func54, Tryd.ntmps54
  go_wp2_with fail
  go_region
  all_goals go_wp2_with fail
  all_goals
    first | (exfalso; omega) | (refine bodyPost_ret (results_none rfl _ _ _) rfl ⟨rfl, ?_, HGF.out⟩; have hf := HFIN.out; simpa only [List.append_assoc] using hf)

end Go.Proofs.YtglfakglcoffkaaDoor
