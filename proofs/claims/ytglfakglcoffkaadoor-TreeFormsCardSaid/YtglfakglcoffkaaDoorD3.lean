/-
  Package sha: take, where no block is begun.
-/
import Derived.Test.YtglfakglcoffkaaDoorD1
import Derived.Test.YtglfakglcoffkaaDoorD2
namespace Go.Proofs.YtglfakglcoffkaaDoor
open Go.RowKit

def hashX (ws : List Int) (x : List UInt8) : Nat → List Int
  | 0 => ws
  | j + 1 => compress (hashX ws x j) ((x.drop (64 * j)).take 64)
theorem hashX_len (ws : List Int) (x : List UInt8) (h : ws.length = 8) : ∀ j, (hashX ws x j).length = 8
  | 0 => h
  | _ + 1 => compress_len _ _
def sliceLen : Value → Nat
  | .slice _ n _ => n
  | _ => 0

set_option maxRecDepth 100000 in
set_option maxHeartbeats 4000000 in
theorem take_al (b : Nat) (ws : List Int) (rest : List Value) (tk : Nat) (A : Option Addr) (x : List UInt8) (c : Nat) (w : World) (h8 : ws.length = 8) (hr : rest.length = 64)
    (hb : BlkL w b (ws.map u32v ++ (rest ++ [.int .i64 0, .int .u64 tk])) 79) (ht : tk + x.length < 18446744073709551616) (hA : Src w b A x) (hc : x.length ≤ c) (hT : Tabs w) (hb2 : 3 ≤ b) :
    Calls Tryd.prog 54 #[.pointer (some ⟨b, 0, none⟩), .slice A x.length c] w fun e w' => e = .returned (.tuple #[]) ∧
      BlkL w' b ((hashX ws x (x.length / 64)).map u32v ++ ((byteVals (x.drop (64 * (x.length / 64))) ++ rest.drop (x.length - 64 * (x.length / 64))) ++ [.int .i64 ((x.length - 64 * (x.length / 64) : Nat) : Int), .int .u64 ((tk : Int) + x.length)])) 79 ∧ Chg (some b) w w' := by
  have hm8 : (ws.map u32v).length = 8 := by simpa using h8
  have c72 : w.cell? ⟨b, 72, none⟩ = some (.int .i64 0) := by
    rw [BlkL.cell hb, List.getElem?_append_right (by omega), hm8, List.getElem?_append_right (by omega), hr]; rfl
  have c73 : w.cell? ⟨b, 73, none⟩ = some (.int .u64 tk) := by
    rw [BlkL.cell hb, List.getElem?_append_right (by omega), hm8, List.getElem?_append_right (by omega), hr]; rfl
  have hfz := Blk.frozen hb
  have hlt := Blk.lt hb
  have hb1 := BlkL.set hb 73 (.int .u64 ((tk : Int) + x.length))
  rw [cells_taken _ _ _ _ _ hm8 hr] at hb1
  have hg1 : Chg (some b) w (w.setCell ⟨b, 73, none⟩ (.int .u64 ((tk : Int) + x.length))) := (Chg.refl _ _).setCell _ _
  have hA1 := hA.chg hg1
  have hT1 := hT.chg hg1 (by simp; omega)
  clear hb hA hT
  go_enter Tryd.func54, Tryd.ntmps54
  go_wp2_with fail
  go_loopw [1] (fun s1 wr => ∃ (j : Nat) (Aj : Option Addr) (cj : Nat), 64 * j ≤ x.length ∧ s1 = .slice Aj (x.length - 64 * j) cj ∧ x.length - 64 * j ≤ cj ∧ Src wr b Aj (x.drop (64 * j)) ∧
    BlkL wr b ((hashX ws x j).map u32v ++ (rest ++ [.int .i64 0, .int .u64 ((tk : Int) + x.length)])) 79 ∧ Tabs wr ∧ Chg (some b) w wr) (fun s1 _ => sliceLen s1)
  case atStart => exact ⟨0, A, c, by omega, rfl, by omega, hA1, hb1, hT1, hg1⟩
  case round =>
    obtain ⟨j, Aj, cj, hj, rfl, hcj, hS, hbj, hTj, hgj⟩ := hrel
    by_cases h64 : 64 ≤ x.length - 64 * j
    · have hlen : (x.drop (64 * j)).length = x.length - 64 * j := List.length_drop
      obtain ⟨sb, so, rfl, hne, hsb, hcell⟩ := hS (by omega)
      have hcut := Src.cut hS (k := 64) (cap := cj) (by omega) (by omega)
      have htl : ((x.drop (64 * j)).take 64).length = 64 := by rw [List.length_take, hlen]; omega
      have HBL := Lib.hid (block_any (hashX ws x j) (rest ++ [.int .i64 0, .int .u64 ((tk : Int) + x.length)]) ((x.drop (64 * j)).take 64) b sb so cj wr (hashX_len ws x h8 j) hbj hTj htl hsb (fun i v hi => hcell i v (by
        rw [List.getElem?_take] at hi
        split at hi
        · exact hi
        · cases hi)))
      have HCUT := Lib.hid hcut
      clear hcut htl hcell
      go_wp2_with fail
      refine HBL.out.mono ?_
      rintro e w6 ⟨rfl, h6, g6⟩
      have hT6 := hTj.chg g6 (by simp; omega)
      have hg6 := hgj.trans g6
      have hS6 := Src.chg HCUT.out g6
      rw [List.drop_drop] at hS6
      go_wp2_with fail
      go_roundw
      case rel =>
        refine ⟨j + 1, _, cj - 64, by omega, ?_, by omega, hS6, h6, hT6, hg6⟩
        rw [show x.length - 64 * (j + 1) = x.length - 64 * j - 64 by omega, Option.map_some, Go.WideShapes.add_plain]
      case measure => first | (simp [sliceLen]; done) | (simp [sliceLen]; omega)
    · have hlen : (x.drop (64 * j)).length = x.length - 64 * j := List.length_drop
      have hj64 : j = x.length / 64 := by omega
      have d64 : decide ((64 : Int) ≤ ((x.length - 64 * j : Nat) : Int)) = false := by simp; omega
      have hw8 : ((hashX ws x j).map u32v).length = 8 := by rw [List.length_map]; exact hashX_len ws x h8 j
      have hL2 : (byteVals (x.drop (64 * j))).length = x.length - 64 * j := by rw [byteVals_len, hlen]
      have hfit : 8 + (byteVals (x.drop (64 * j))).length ≤ ((hashX ws x j).map u32v ++ (rest ++ [Value.int .i64 0, .int .u64 ((tk : Int) + x.length)])).length := by
        rw [List.length_append, List.length_append, hw8, hr, hL2]; simp; omega
      obtain ⟨w2, hrun, hb2', g2⟩ := copy_runs (P := Tryd.prog) 22 22 3 5 Tryd.underlying22 (by kernel_rfl) (some ⟨b, 8, none⟩) Aj 64 64 (x.length - 64 * j) cj b 8 _ 79 hbj (byteVals (x.drop (64 * j)))
        (by rw [hL2]; exact (Nat.min_eq_left (by omega)).symm) (fun h0 => ⟨rfl, Src.source hS h0⟩) hfit (byteVals_one _)
      rw [show goInt (byteVals (x.drop (64 * j))).length = .int .i64 ((x.length - 64 * j : Nat) : Int) by rw [hL2]; rfl] at hrun
      have hfz2 := Blk.frozen hb2' 72
      have hlen2 : (splice ((hashX ws x j).map u32v ++ (rest ++ [Value.int .i64 0, .int .u64 ((tk : Int) + x.length)])) 8 (byteVals (x.drop (64 * j)))).length = 74 := by
        rw [length_splice _ _ _ hfit, List.length_append, List.length_append, hw8, hr]; rfl
      obtain ⟨v72, c72'⟩ : ∃ v, w2.cell? ⟨b, 72, none⟩ = some v := ⟨_, by rw [BlkL.cell hb2']; exact List.getElem?_eq_getElem (by rw [hlen2]; omega)⟩
      have hfin := BlkL.set hb2' 72 (.int .i64 ((x.length - 64 * j : Nat) : Int))
      rw [cells_end _ rest (byteVals (x.drop (64 * j))) _ _ _ hw8 hr (by rw [hL2]; omega), hL2] at hfin
      have hgf : Chg (some b) w (w2.setCell ⟨b, 72, none⟩ (.int .i64 ((x.length - 64 * j : Nat) : Int))) := (hgj.trans g2).setCell _ _
      have HFIN := Lib.hid hfin
      have HGF := Lib.hid hgf
      have HJ := Lib.hid hj64
      clear hfit hfin hgf hlen2 hL2 hbj hb2' g2 hS hj64 hlen
      go_wp2_with fail
      refine bodyPost_end (results_none rfl _ _ _) rfl ⟨rfl, ?_, HGF.out⟩
      rw [← HJ.out]
      exact HFIN.out

end Go.Proofs.YtglfakglcoffkaaDoor
