/-
  Package sha: take, where the block that is begun is filled.
-/
import Derived.Test.YtglfakglcoffkaaDoorD4
namespace Go.Proofs.YtglfakglcoffkaaDoor
open Go.RowKit

set_option maxRecDepth 100000 in
set_option maxHeartbeats 8000000 in
theorem take_fill (b : Nat) (ws : List Int) (rest : List Value) (p : List UInt8) (h0 n tk : Nat) (A : Option Addr) (x : List UInt8) (c : Nat) (w : World) (h8 : ws.length = 8) (hr : rest.length = 64)
    (hrest : rest.take h0 = byteVals p) (hp : p.length = h0) (hn : h0 + n = 64) (hn0 : 0 < n) (hh : 0 < h0) (hnx : n ≤ x.length)
    (hb : BlkL w b (ws.map u32v ++ (rest ++ [.int .i64 h0, .int .u64 tk])) 79) (ht : tk + x.length < 18446744073709551616) (hA : Src w b A x) (hc : x.length ≤ c) (hT : Tabs w) (hb2 : 3 ≤ b) :
    Calls Tryd.prog 54 #[.pointer (some ⟨b, 0, none⟩), .slice A x.length c] w fun e w' => e = .returned (.tuple #[]) ∧
      BlkL w' b ((hashX (compress ws (p ++ x.take n)) (x.drop n) ((x.length - n) / 64)).map u32v ++ ((byteVals ((x.drop n).drop (64 * ((x.length - n) / 64))) ++ (byteVals (p ++ x.take n)).drop (x.length - n - 64 * ((x.length - n) / 64))) ++
        [.int .i64 ((x.length - n - 64 * ((x.length - n) / 64) : Nat) : Int), .int .u64 ((tk : Int) + x.length)])) 79 ∧ Chg (some b) w w' := by
  have hm8 : (ws.map u32v).length = 8 := by simpa using h8
  have c72 : w.cell? ⟨b, 72, none⟩ = some (.int .i64 h0) := by
    rw [BlkL.cell hb, List.getElem?_append_right (by omega), hm8, List.getElem?_append_right (by omega), hr]; rfl
  have c73 : w.cell? ⟨b, 73, none⟩ = some (.int .u64 tk) := by
    rw [BlkL.cell hb, List.getElem?_append_right (by omega), hm8, List.getElem?_append_right (by omega), hr]; rfl
  have hfz := Blk.frozen hb
  have hlt := Blk.lt hb
  have hb1 := BlkL.set hb 73 (.int .u64 ((tk : Int) + x.length))
  rw [cells_taken _ _ _ _ _ hm8 hr] at hb1
  have hg1 : Chg (some b) w (w.setCell ⟨b, 73, none⟩ (.int .u64 ((tk : Int) + x.length))) := (Chg.refl _ _).setCell _ _
  have hA1 := hA.chg hg1
  have hT1 := hT.chg hg1 (by simp; omega)
  have hxn : (x.take n).length = n := by rw [List.length_take]; omega
  have hL2 : (byteVals (x.take n)).length = n := by rw [byteVals_len, hxn]
  have hfit : 8 + h0 + (byteVals (x.take n)).length ≤ (ws.map u32v ++ (rest ++ [Value.int .i64 h0, .int .u64 ((tk : Int) + x.length)])).length := by
    rw [List.length_append, List.length_append, hm8, hr, hL2]; simp; omega
  have hsrc1 : 0 < (byteVals (x.take n)).length → (some (⟨b, 8 + h0, none⟩ : Addr)) = some ⟨b, 8 + h0, none⟩ ∧ ∃ ad, A = some ad ∧ ∀ j v, (byteVals (x.take n))[j]? = some v → (w.setCell ⟨b, 73, none⟩ (.int .u64 ((tk : Int) + x.length))).drew.cell? (ad.add j) = some v :=
    fun h0' => ⟨rfl, Src.source (hA1.first hn0) h0'⟩
  obtain ⟨w2, hrun, hb2', g2⟩ := copy_runs (P := Tryd.prog) (w := (w.setCell ⟨b, 73, none⟩ (.int .u64 ((tk : Int) + x.length))).drew) 22 22 3 5 Tryd.underlying22 (by kernel_rfl) (some ⟨b, 8 + h0, none⟩) A (64 - h0) (64 - h0) x.length c b (8 + h0) _ 79 hb1 (byteVals (x.take n))
    (by rw [hL2]; show n = min x.length (64 - h0); omega) hsrc1 hfit (byteVals_one _)
  rw [show goInt (byteVals (x.take n)).length = .int .i64 n by rw [hL2]; rfl] at hrun
  have hx64 : h0 + (byteVals (x.take n)).length ≤ 64 := by rw [hL2]; omega
  rw [splice_mid _ _ _ _ _ _ hm8 hr hx64] at hb2'
  have hmid : rest.take h0 ++ (byteVals (x.take n) ++ rest.drop (h0 + (byteVals (x.take n)).length)) = byteVals (p ++ x.take n) := by
    rw [List.drop_eq_nil_of_le (by rw [hL2]; omega), List.append_nil, hrest, byteVals_append]
  rw [hmid] at hb2'
  have hpl : (p ++ x.take n).length = 64 := by rw [List.length_append, hxn]; omega
  obtain ⟨q, hq⟩ : ∃ q, q = p ++ x.take n := ⟨_, rfl⟩
  rw [← hq] at hb2' hpl
  have hql : (byteVals q).length = 64 := by rw [byteVals_len, hpl]
  have hfz2 := Blk.frozen hb2' 72
  have q72 : w2.cell? ⟨b, 72, none⟩ = some (.int .i64 h0) := by
    rw [BlkL.cell hb2', List.getElem?_append_right (by omega), hm8, List.getElem?_append_right (by omega), hql]; rfl
  have hb3 := BlkL.set hb2' 72 (.int .i64 ((h0 : Int) + n))
  rw [List.set_append_right _ _ (by omega), hm8, List.set_append_right _ _ (by omega), hql, show (72 - 8 - 64) = 0 by rfl, List.set_cons_zero] at hb3
  have g3 : Chg (some b) w (w2.setCell ⟨b, 72, none⟩ (.int .i64 ((h0 : Int) + n))) := ((hg1.drew).trans g2).setCell _ _
  have g23 : Chg (some b) (w.setCell ⟨b, 73, none⟩ (.int .u64 ((tk : Int) + x.length))) (w2.setCell ⟨b, 72, none⟩ (.int .i64 ((h0 : Int) + n))) := (((Chg.refl _ _).drew).trans g2).setCell _ _
  have hT3 := hT1.chg g23 (by simp; omega)
  have hA3 := hA1.chg g23
  have hcut : Src (w2.setCell ⟨b, 72, none⟩ (.int .i64 ((h0 : Int) + n))) b (A.map (·.add n)) (x.drop n) := by
    by_cases hcn : c = n
    · intro h0'
      rw [List.length_drop] at h0'
      omega
    · have := Src.cut hA3 (k := n) (cap := c) hnx hc
      rwa [if_neg hcn] at this
  have HBL := Lib.hid (block_any ws (byteVals q ++ [.int .i64 ((h0 : Int) + n), .int .u64 ((tk : Int) + x.length)]) q b b 8 64 _ h8 hb3 hT3 hpl (Blk.lt hb3) (fun i v hi => by
    have hi64 : i < q.length := (List.getElem?_eq_some_iff.1 hi).1
    rw [BlkL.cell hb3, List.getElem?_append_right (by omega), hm8, show 8 + i - 8 = i by omega, List.getElem?_append_left (by omega)]
    exact byteVals_get hi))
  have c72' : (w2.setCell ⟨b, 72, none⟩ (.int .i64 ((h0 : Int) + n))).cell? ⟨b, 72, none⟩ = some (.int .i64 ((h0 : Int) + n)) := by
    rw [BlkL.cell hb3, List.getElem?_append_right (by omega), hm8, List.getElem?_append_right (by omega), hql]; rfl
  have hlt3 := Blk.lt hb3
  have HG3 := Lib.hid g3
  have HT3 := Lib.hid hT3
  have HCUT := Lib.hid hcut
  have HQ := Lib.hid hq
  have HQL := Lib.hid hql
  have HM8 := Lib.hid hm8
  have HN := Lib.hid hn
  have d1 : decide ((h0 : Int) + (n : Int) < 64) = false := by simp; omega
  have d2 : decide (h0 + n < 64) = false := by simp; omega
  have x1 : h0 ≤ 64 := by omega
  have x2 : (h0 : Int) ≤ 64 := by omega
  have x3 : ¬ 64 = h0 := by omega
  have x4 : ¬ 64 - h0 = 0 := by omega
  have x5 : (n : Int) ≤ (x.length : Int) := by omega
  have x6 : (h0 : Int) + n ≤ 64 := by omega
  clear hsrc1 hfit hb2' g2 hb hb1 hg1 hA hA1 hL2 hx64 hmid hT hT1 hT3 hA3 hcut hq hql hm8 g3 g23 hrest hp hb3 hxn hn hpl
  go_enter Tryd.func54, Tryd.ntmps54
  go_wp2_with fail
  go_region
  all_goals go_wp2_with fail
  all_goals
    refine HBL.out.mono ?_
    rintro e w6 ⟨rfl, h6, g6⟩
    have hT6 := HT3.out.chg g6 (by simp; omega)
    have hg6 := HG3.out.trans g6
    have hS6 := Src.chg HCUT.out g6
    have hlt6 := Blk.lt h6
    have hcn : n ≤ c := by omega
    clear HBL HCUT HT3 HG3 hrun c72 c73 q72 c72' hfz hfz2
    have HCS : Hid ((compress ws q).length = 8) := compress_len _ _
    obtain ⟨cw, hcw⟩ : ∃ cw, cw = compress ws q := ⟨_, rfl⟩
    rw [← hcw] at HCS h6
    have HCW := Lib.hid hcw
    obtain ⟨y, hy⟩ : ∃ y, y = x.drop n := ⟨_, rfl⟩
    rw [← hy] at hS6
    have HYL : Hid (y.length = x.length - n) := by rw [hy]; exact List.length_drop
    have HY := Lib.hid hy
    clear hcw hy
  all_goals go_wp2_with fail
  all_goals
    go_loopw [1] (fun s1 wr => ∃ (j : Nat) (Aj : Option Addr) (cj : Nat), 64 * j ≤ x.length - n ∧ s1 = .slice Aj (x.length - n - 64 * j) cj ∧ x.length - n - 64 * j ≤ cj ∧ Src wr b Aj (y.drop (64 * j)) ∧
      BlkL wr b ((hashX cw y j).map u32v ++ (byteVals q ++ [.int .i64 ((h0 : Int) + n), .int .u64 ((tk : Int) + x.length)])) 79 ∧ Tabs wr ∧ Chg (some b) w wr) (fun s1 _ => sliceLen s1)
    case atStart =>
      first
        | exact ⟨0, _, _, by omega, rfl, by omega, hS6, h6, hT6, hg6⟩
        | exact ⟨0, _, _, by omega, rfl, by omega, fun h0' => absurd h0' (by rw [List.length_drop, HYL.out]; omega), h6, hT6, hg6⟩
    case round =>
      obtain ⟨j, Aj, cj, hj, rfl, hcj, hS, hbj, hTj, hgj⟩ := hrel
      clear h6 hT6 hg6 hS6 g6 hlt6
      have hlen : (y.drop (64 * j)).length = x.length - n - 64 * j := by rw [List.length_drop, HYL.out]
      have hql := HQL.out
      by_cases h64 : 64 ≤ x.length - n - 64 * j
      · obtain ⟨sb, so, rfl, hne, hsb, hcell⟩ := hS (by omega)
        have hcut := Src.cut hS (k := 64) (cap := cj) (by omega) (by omega)
        have htl : ((y.drop (64 * j)).take 64).length = 64 := by rw [List.length_take, hlen]; omega
        have HBL := Lib.hid (block_any (hashX cw y j) (byteVals q ++ [.int .i64 ((h0 : Int) + n), .int .u64 ((tk : Int) + x.length)]) ((y.drop (64 * j)).take 64) b sb so cj wr (hashX_len cw y HCS.out j) hbj hTj htl hsb (fun i v hi => hcell i v (by
          rw [List.getElem?_take] at hi
          split at hi
          · exact hi
          · cases hi)))
        have HCUT := Lib.hid hcut
        clear hcut htl hcell hql hlen
        go_wp2_with fail
        all_goals
          refine HBL.out.mono ?_
          rintro e w6 ⟨rfl, h6, g6⟩
          have hT6 := hTj.chg g6 (by simp; omega)
          have hg6 := hgj.trans g6
          have hS6 := Src.chg HCUT.out g6
          rw [List.drop_drop] at hS6
          go_wp2_with fail
          go_roundw
          case rel =>
            refine ⟨j + 1, _, cj - 64, by omega, ?_, by omega, hS6, h6, hT6, hg6⟩
            rw [show x.length - n - 64 * (j + 1) = x.length - n - 64 * j - 64 by omega, Option.map_some, Go.WideShapes.add_plain]
          case measure => first | (simp [sliceLen]; done) | (simp [sliceLen]; omega)
      · have hj64 : j = (x.length - n) / 64 := by omega
        have d64 : decide ((64 : Int) ≤ ((x.length - n - 64 * j : Nat) : Int)) = false := by simp; omega
        have hw8 : ((hashX cw y j).map u32v).length = 8 := by rw [List.length_map]; exact hashX_len cw y HCS.out j
        have hL2 : (byteVals (y.drop (64 * j))).length = x.length - n - 64 * j := by rw [byteVals_len, hlen]
        have hfit : 8 + (byteVals (y.drop (64 * j))).length ≤ ((hashX cw y j).map u32v ++ (byteVals q ++ [Value.int .i64 ((h0 : Int) + n), .int .u64 ((tk : Int) + x.length)])).length := by
          rw [List.length_append, List.length_append, hw8, hql, hL2]; simp; omega
        obtain ⟨w2', hrun, hb2', g2⟩ := copy_runs (P := Tryd.prog) 22 22 3 5 Tryd.underlying22 (by kernel_rfl) (some ⟨b, 8, none⟩) Aj 64 64 (x.length - n - 64 * j) cj b 8 _ 79 hbj (byteVals (y.drop (64 * j)))
          (by rw [hL2]; exact (Nat.min_eq_left (by omega)).symm) (fun h0 => ⟨rfl, Src.source hS h0⟩) hfit (byteVals_one _)
        rw [show goInt (byteVals (y.drop (64 * j))).length = .int .i64 ((x.length - n - 64 * j : Nat) : Int) by rw [hL2]; rfl] at hrun
        have hfz2 := Blk.frozen hb2' 72
        have hlen2 : (splice ((hashX cw y j).map u32v ++ (byteVals q ++ [Value.int .i64 ((h0 : Int) + n), .int .u64 ((tk : Int) + x.length)])) 8 (byteVals (y.drop (64 * j)))).length = 74 := by
          rw [length_splice _ _ _ hfit, List.length_append, List.length_append, hw8, hql]; rfl
        obtain ⟨v72, c72'⟩ : ∃ v, w2'.cell? ⟨b, 72, none⟩ = some v := ⟨_, by rw [BlkL.cell hb2']; exact List.getElem?_eq_getElem (by rw [hlen2]; omega)⟩
        have hfin := BlkL.set hb2' 72 (.int .i64 ((x.length - n - 64 * j : Nat) : Int))
        rw [cells_end _ (byteVals q) (byteVals (y.drop (64 * j))) _ _ _ hw8 hql (by rw [hL2]; omega), hL2] at hfin
        have hgf : Chg (some b) w (w2'.setCell ⟨b, 72, none⟩ (.int .i64 ((x.length - n - 64 * j : Nat) : Int))) := (hgj.trans g2).setCell _ _
        have HFIN := Lib.hid hfin
        have HGF := Lib.hid hgf
        have HJ := Lib.hid hj64
        clear hfit hfin hgf hlen2 hL2 hbj hb2' g2 hS hj64 hlen hw8 hql
        go_wp2_with fail
        refine bodyPost_end (results_none rfl _ _ _) rfl ⟨rfl, ?_, HGF.out⟩
        rw [← HJ.out, ← HQ.out, ← HCW.out, ← HY.out]
        exact HFIN.out

end Go.Proofs.YtglfakglcoffkaaDoor
