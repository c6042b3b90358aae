/-
  Package sha: take, where no block is begun and none is filled.
-/
import Derived.Test.YtglfakglcoffkaaDoorD0
import Derived.Test.YtglfakglcoffkaaDoorR
namespace Go.Proofs.YtglfakglcoffkaaDoor
open Go.RowKit

theorem cells_taken (W8 rest : List Value) (L0 T0 T : Value) (h8 : W8.length = 8) (hr : rest.length = 64) :
    (W8 ++ (rest ++ [L0, T0])).set 73 T = W8 ++ (rest ++ [L0, T]) := by
  rw [List.set_append_right _ _ (by omega), h8, List.set_append_right _ _ (by omega), hr]
  rfl

theorem cells_end (W8 rest xs : List Value) (L0 T L : Value) (h8 : W8.length = 8) (hr : rest.length = 64) (hx : xs.length ≤ 64) :
    (splice (W8 ++ (rest ++ [L0, T])) 8 xs).set 72 L = W8 ++ ((xs ++ rest.drop xs.length) ++ [L, T]) := by
  have e1 : splice (W8 ++ (rest ++ [L0, T])) 8 xs = W8 ++ ((xs ++ rest.drop xs.length) ++ [L0, T]) := by
    unfold splice
    rw [List.take_append_of_le_length (by omega), List.take_of_length_le (by omega), List.drop_append, h8, show 8 + xs.length - 8 = xs.length by omega, List.drop_eq_nil_of_le (by omega), List.nil_append,
      List.drop_append_of_le_length (by omega), List.append_assoc]
  rw [e1, List.set_append_right _ _ (by omega), h8, List.set_append_right _ _ (by rw [List.length_append, List.length_drop]; omega), show 72 - 8 - (xs ++ rest.drop xs.length).length = 0 by rw [List.length_append, List.length_drop]; omega]
  rfl

theorem copy_runs {P : Program} {w : World} (dT sT ty elem : TypeId) (hu : P.underlying dT = some (.slice elem)) (hsz : (P.info? elem).map (·.size) = some 1)
    (dp sp : Option Addr) (dLen dCap sLen sCap : Nat) (g off : Nat) (cur : List Value) (t : TypeId) (hg : BlkL w g cur t) (cs : List Value) (hn : cs.length = Nat.min sLen dLen)
    (hpos : 0 < cs.length → dp = some ⟨g, off, none⟩ ∧ ∃ ad, sp = some ad ∧ ∀ j v, cs[j]? = some v → w.cell? (ad.add j) = some v)
    (hfit : off + cs.length ≤ cur.length) (h1 : ∀ v ∈ cs, v.oneCell' = true) :
    ∃ w', (Builtin.copy_ #[dT, sT] ty #[.slice dp dLen dCap, .slice sp sLen sCap]).run P w = .ok (goInt cs.length) w' ∧ BlkL w' g (splice cur off cs) t ∧ Chg (some g) w w' := by
  by_cases h0 : cs.length = 0
  · obtain rfl : cs = [] := List.eq_nil_of_length_eq_zero h0
    exact ⟨w, run_copy_none (P := P) w dT sT ty elem dp sp dLen dCap sLen sCap hu hsz (by simpa using hn.symm), by simpa [splice] using hg, Chg.refl _ _⟩
  · obtain ⟨rfl, ad, rfl, hsrc⟩ := hpos (by omega)
    exact ⟨_, run_copy_row (P := P) w dT sT ty elem g off dLen dCap ad sLen sCap cur.toArray t cs hu hsz hg hn hsrc (by simpa using hfit) h1, by unfold BlkL Blk; simpa [splice] using setRow_heap w g _ _ t _ hg, chg_setRow _ _ _⟩

set_option maxRecDepth 100000 in
set_option maxHeartbeats 2000000 in
theorem take_zero (b : Nat) (W8 : List Value) (rest : List Value) (tk : Nat) (A : Option Addr) (x : List UInt8) (c : Nat) (w : World) (h8 : W8.length = 8) (hr : rest.length = 64)
    (hb : BlkL w b (W8 ++ (rest ++ [.int .i64 0, .int .u64 tk])) 79) (ht : tk + x.length < 18446744073709551616) (hx : x.length < 64) (hA : Reads w b 1 A x.length (byteVals x)) :
    Calls Tryd.prog 54 #[.pointer (some ⟨b, 0, none⟩), .slice A x.length c] w fun e w' => e = .returned (.tuple #[]) ∧
      BlkL w' b (W8 ++ ((byteVals x ++ rest.drop x.length) ++ [.int .i64 x.length, .int .u64 ((tk : Int) + x.length)])) 79 ∧ Chg (some b) w w' := by
  have c72 : w.cell? ⟨b, 72, none⟩ = some (.int .i64 0) := by
    rw [BlkL.cell hb, List.getElem?_append_right (by omega), h8, List.getElem?_append_right (by omega), hr]; rfl
  have c73 : w.cell? ⟨b, 73, none⟩ = some (.int .u64 tk) := by
    rw [BlkL.cell hb, List.getElem?_append_right (by omega), h8, List.getElem?_append_right (by omega), hr]; rfl
  have hfz := Blk.frozen hb
  have hlt := Blk.lt hb
  have d64 : decide ((64 : Int) ≤ (x.length : Int)) = false := by simp; omega
  have hb1 := BlkL.set hb 73 (.int .u64 ((tk : Int) + x.length))
  rw [cells_taken _ _ _ _ _ h8 hr] at hb1
  have hA1 : Reads (w.setCell ⟨b, 73, none⟩ (.int .u64 ((tk : Int) + x.length))) b 1 A x.length (byteVals x) := hA.setCell (Nat.le_refl _) _
  have hg1 : Chg (some b) w (w.setCell ⟨b, 73, none⟩ (.int .u64 ((tk : Int) + x.length))) := (Chg.refl _ _).setCell _ _
  have hend := cells_end W8 rest (byteVals x) (.int .i64 0) (.int .u64 ((tk : Int) + x.length)) (.int .i64 x.length) h8 hr (by rw [byteVals_len]; omega)
  have hn : (byteVals x).length = Nat.min x.length 64 := by rw [byteVals_len]; exact (Nat.min_eq_left (by omega)).symm
  have hfit : 8 + (byteVals x).length ≤ (W8 ++ (rest ++ [Value.int .i64 0, .int .u64 ((tk : Int) + x.length)])).length := by
    rw [List.length_append, List.length_append, h8, hr, byteVals_len]; simp; omega
  have hpos : 0 < (byteVals x).length → (some (⟨b, 8, none⟩ : Addr)) = some ⟨b, 8, none⟩ ∧ ∃ ad, A = some ad ∧ ∀ j v, (byteVals x)[j]? = some v → (w.setCell ⟨b, 73, none⟩ (.int .u64 ((tk : Int) + x.length))).cell? (ad.add j) = some v := by
    intro h0
    rw [byteVals_len] at h0
    obtain ⟨ad, h1, _, h2⟩ := hA1.2 h0
    exact ⟨rfl, ad, h1, h2⟩
  have hone := byteVals_one x
  obtain ⟨w2, hrun, hb2, g2⟩ := copy_runs (P := Tryd.prog) 22 22 3 5 Tryd.underlying22 (by kernel_rfl) (some ⟨b, 8, none⟩) A 64 64 x.length c b 8 _ 79 hb1 (byteVals x) hn hpos hfit hone
  have hL2 : (byteVals x).length = x.length := byteVals_len x
  rw [show goInt (byteVals x).length = .int .i64 x.length by rw [hL2]; rfl] at hrun
  have hfz2 := Blk.frozen hb2 72
  have hlen2 : (splice (W8 ++ (rest ++ [Value.int .i64 0, .int .u64 ((tk : Int) + x.length)])) 8 (byteVals x)).length = 74 := by
    rw [length_splice _ _ _ hfit, List.length_append, List.length_append, h8, hr]; rfl
  obtain ⟨v72, c72'⟩ : ∃ v, w2.cell? ⟨b, 72, none⟩ = some v := ⟨_, by rw [BlkL.cell hb2]; exact List.getElem?_eq_getElem (by rw [hlen2]; omega)⟩
  have hfin := BlkL.set hb2 72 (.int .i64 x.length)
  rw [hend, hL2] at hfin
  have hgf : Chg (some b) w (w2.setCell ⟨b, 72, none⟩ (.int .i64 x.length)) := (hg1.trans g2).setCell _ _
  have HFIN := Lib.hid hfin
  have HGF := Lib.hid hgf
  clear hb1 hn hpos hfit hone hend hA hA1 hb2 g2 hfin hgf hlen2 hL2 hb hg1
  go_enter Tryd.func54, Tryd.ntmps54
  go_wp2_with fail
  refine wp_loop_rounds 1 ?_
  rw [rounds_succ]
  go_wp2_with fail
  refine bodyPost_end (results_none rfl _ _ _) rfl ⟨rfl, HFIN.out, HGF.out⟩

end Go.Proofs.YtglfakglcoffkaaDoor
