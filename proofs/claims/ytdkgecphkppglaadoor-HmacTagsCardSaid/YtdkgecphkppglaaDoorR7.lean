/-
  The document's digest: a block's round.
-/
import Derived.Test.YtdkgecphkppglaaDoorD0
import Derived.Test.YtdkgecphkppglaaDoorRA
import Derived.Test.YtdkgecphkppglaaDoorRB
namespace Go.Proofs.YtdkgecphkppglaaDoor
open Go.RowKit

theorem wcells_zero_at (bs : List UInt8) (t : Nat) (h : t < 64) : (wcells bs t)[t]? = some (.int .u32 0) := by
  rw [wcells, List.getElem?_append_right (by simp [schedN_len]), List.length_map, schedN_len, Nat.sub_self, show 64 - t = (64 - (t + 1)) + 1 by omega, List.replicate_succ]; rfl
def noW8 : List Value := List.replicate 8 (.int .u32 0)
/-- The words of a block, of which the one at t is made of i of its bytes. -/
def wpart (bs : List UInt8) (t i : Nat) : List Value := (wcells bs t).set t (.int .u32 (partW bs t i : Nat))
theorem wpart_zero (bs : List UInt8) (t : Nat) (h : t < 64) : wpart bs t 0 = wcells bs t := by
  unfold wpart
  apply List.ext_getElem?
  intro j
  by_cases hj : t = j
  · subst hj
    rw [List.getElem?_set_self (by rw [wcells_len _ _ (by omega)]; exact h), wcells_zero_at _ _ h]; rfl
  · rw [List.getElem?_set_ne hj]
theorem wpart_all (bs : List UInt8) (t : Nat) (h : t < 16) : wpart bs t 4 = wcells bs (t + 1) := by
  unfold wpart
  rw [← wcells_set bs t (by omega), if_pos h, partW_word]; rfl
theorem wpart_at (bs : List UInt8) (t i : Nat) (h : t < 64) : (wpart bs t i)[t]? = some (.int .u32 (partW bs t i : Nat)) := by
  unfold wpart
  rw [List.getElem?_set_self (by rw [wcells_len _ _ (by omega)]; exact h)]
theorem wpart_set (bs : List UInt8) (t i j : Nat) : (wpart bs t i).set t (.int .u32 (partW bs t j : Nat)) = wpart bs t j := by
  unfold wpart; rw [List.set_set]


theorem wpList_runTo {P : Program} {ops : Array Oper} {rest : List Oper} {o : Oper} {a : Act} {w : World} {Q : Exit → Act → World → Prop} (hg : o.guard = none) (d : Option Tmp) (hd : o.dst = d) (v : Value)
    (hrun : (execOp a.eval o).run P w = .ok (.value v) w) (h : wpList P ops Q rest (a.put d v) w) : wpList P ops Q (o :: rest) a w := by
  subst hd
  refine wpList_plain hg fun _ hK => ?_
  unfold Oper.wp
  rw [hrun]
  exact hK _ _ h
theorem sum4 (a b c d : Int) : ((((a + b) % 4294967296 + c) % 4294967296) + d) % 4294967296 = (a + b + c + d) % 4294967296 := by omega
/-- The eight words of a state. -/
def stL (s : St) : List Int := [s.a, s.b, s.c, s.d, s.e, s.f, s.g, s.h]
def stV (s : St) : List Value := [.int .u32 s.a, .int .u32 s.b, .int .u32 s.c, .int .u32 s.d, .int .u32 s.e, .int .u32 s.f, .int .u32 s.g, .int .u32 s.h]
theorem stV_stL (s : St) : stV s = (stL s).map u32v := rfl
theorem stV_ofL (ws : List Int) (h : ws.length = 8) : stV (ofL ws) = ws.map u32v := by
  match ws, h with
  | [a, b, c, d, e, f, g, k], _ => rfl
theorem row8_facts (ws : List Int) (h : ws.length = 8) : (ws.map u32v).toArray.size = 8 ∧ (ws.map u32v).toArray.all (·.oneCell') = true := by
  have hs : (ws.map u32v).toArray.size = 8 := by rw [List.size_toArray, List.length_map, h]
  refine ⟨hs, Array.all_eq_true_iff_forall_mem.2 (fun v hv => ?_)⟩
  obtain ⟨x, _, rfl⟩ := List.mem_map.1 (by simpa using hv : v ∈ ws.map u32v)
  rfl
theorem u32_at (L : List Int) (i : Nat) (h : i < L.length) : (L.map u32v)[i]? = some (.int .u32 (L.getD i 0)) := by
  rw [List.getElem?_map, List.getD_eq_getElem?_getD, List.getElem?_eq_getElem h]; rfl
theorem ofL_e (ws : List Int) (hr : ∀ i, 0 ≤ ws.getD i 0 ∧ ws.getD i 0 < 4294967296) : 0 ≤ (ofL ws).e ∧ (ofL ws).e < 4294967296 := hr 4
theorem rounds_e {s0 : St} (h : 0 ≤ s0.e ∧ s0.e < 4294967296) (W : List Int) : ∀ n, 0 ≤ (rounds s0 W n).e ∧ (rounds s0 W n).e < 4294967296
  | 0 => h
  | n + 1 => ⟨Int.emod_nonneg _ (by omega), Int.emod_lt_of_pos _ (by omega)⟩
theorem not_maxZ (x : Int) (h : 0 ≤ x ∧ x < 4294967296) : IntKind.u32.wrap (4294967295 - x) = bits .xor .u32 IntKind.u32.max x := by
  obtain ⟨n, rfl⟩ : ∃ n : Nat, x = (n : Int) := ⟨x.toNat, by omega⟩
  rw [not_max n (by omega), IntKind.wrap_u32]; omega
theorem step_of2 {xa xb xc xd xe xf xg xh kk ww T1 T2 : Int} (hT : T1 = t1 ⟨xa, xb, xc, xd, xe, xf, xg, xh⟩ kk ww)
    (h2 : T2 = IntKind.u32.wrap (bits .xor .u32 (bits .xor .u32 (rotr xa 2) (rotr xa 13)) (rotr xa 22) + bits .xor .u32 (bits .xor .u32 (bits .and .u32 xa xb) (bits .and .u32 xa xc)) (bits .and .u32 xb xc))) :
    (⟨(T1 + T2) % 4294967296, xa, xb, xc, (xd + T1) % 4294967296, xe, xf, xg⟩ : St) = step ⟨xa, xb, xc, xd, xe, xf, xg, xh⟩ kk ww := by
  rw [h2, IntKind.wrap_u32]; exact step_eq hT
theorem mix_compress (ws : List Int) (bs : List UInt8) (h : ws.length = 8) (s : St) (hs : s = rounds (ofL ws) (schedN bs 64) 64) : compress ws bs = mixW (stL s) ws 8 := by
  unfold compress
  rw [← hs]
  clear hs
  match ws, h with
  | [a, b, c, d, e, f, g, k], _ => simp [addW, mixW, List.range_succ, stL, Int.add_comm]

set_option maxRecDepth 100000 in
set_option maxHeartbeats 16000000 in
theorem blockr_any (ws : List Int) (bs : List UInt8) (sb so sc : Nat) (w : World) (hw : ws.length = 8) (hr8 : ∀ i, 0 ≤ ws.getD i 0 ∧ ws.getD i 0 < 4294967296) (hl : bs.length = 64) (hsb : sb < w.heap.size)
    (hsrc : ∀ j c, bs[j]? = some c → w.cell? ⟨sb, so + j, none⟩ = some (.int .u8 c.toNat)) :
    Calls Tryd.prog 43 #[.agg (ws.map u32v).toArray, .agg (K0.map u32v).toArray, .slice (some ⟨sb, so, none⟩) 64 sc] w fun e w' => e = .returned (.agg ((compress ws bs).map u32v).toArray) ∧ Chg none w w' := by
  obtain ⟨W4, hW4⟩ : ∃ W4, W4 = (((w.alloc (.cells (ws.map u32v).toArray 25)).alloc (.cells (K0.map u32v).toArray 26)).alloc (.cells (noW8).toArray 25)).alloc (.cells (wcells bs 0).toArray 26) := ⟨_, rfl⟩
  have HW4 : Hid ((((w.alloc (.cells (ws.map u32v).toArray 25)).alloc (.cells (K0.map u32v).toArray 26)).alloc (.cells #[Value.int IntKind.u32 0, Value.int IntKind.u32 0, Value.int IntKind.u32 0, Value.int IntKind.u32 0, Value.int IntKind.u32 0, Value.int IntKind.u32 0, Value.int IntKind.u32 0, Value.int IntKind.u32 0] 25)).alloc (.cells #[Value.int IntKind.u32 0, Value.int IntKind.u32 0, Value.int IntKind.u32 0, Value.int IntKind.u32 0, Value.int IntKind.u32 0, Value.int IntKind.u32 0, Value.int IntKind.u32 0, Value.int IntKind.u32 0, Value.int IntKind.u32 0, Value.int IntKind.u32 0, Value.int IntKind.u32 0, Value.int IntKind.u32 0, Value.int IntKind.u32 0, Value.int IntKind.u32 0, Value.int IntKind.u32 0, Value.int IntKind.u32 0, Value.int IntKind.u32 0, Value.int IntKind.u32 0, Value.int IntKind.u32 0, Value.int IntKind.u32 0, Value.int IntKind.u32 0, Value.int IntKind.u32 0, Value.int IntKind.u32 0, Value.int IntKind.u32 0, Value.int IntKind.u32 0, Value.int IntKind.u32 0, Value.int IntKind.u32 0, Value.int IntKind.u32 0, Value.int IntKind.u32 0, Value.int IntKind.u32 0, Value.int IntKind.u32 0, Value.int IntKind.u32 0, Value.int IntKind.u32 0, Value.int IntKind.u32 0, Value.int IntKind.u32 0, Value.int IntKind.u32 0, Value.int IntKind.u32 0, Value.int IntKind.u32 0, Value.int IntKind.u32 0, Value.int IntKind.u32 0, Value.int IntKind.u32 0, Value.int IntKind.u32 0, Value.int IntKind.u32 0, Value.int IntKind.u32 0, Value.int IntKind.u32 0, Value.int IntKind.u32 0, Value.int IntKind.u32 0, Value.int IntKind.u32 0, Value.int IntKind.u32 0, Value.int IntKind.u32 0, Value.int IntKind.u32 0, Value.int IntKind.u32 0, Value.int IntKind.u32 0, Value.int IntKind.u32 0, Value.int IntKind.u32 0, Value.int IntKind.u32 0, Value.int IntKind.u32 0, Value.int IntKind.u32 0, Value.int IntKind.u32 0, Value.int IntKind.u32 0, Value.int IntKind.u32 0, Value.int IntKind.u32 0, Value.int IntKind.u32 0, Value.int IntKind.u32 0] 26) = W4) := hW4.symm
  have g0 : Chg none w W4 := by rw [hW4]; exact ((((Chg.refl _ _).alloc _).alloc _).alloc _).alloc _
  have bH : BlkL W4 w.heap.size (ws.map u32v) 25 := by rw [hW4]; exact Blk.alloc (Blk.alloc (Blk.alloc (Blk.new _ _ _) _) _) _
  have bK : BlkL W4 (w.heap.size + 1) (K0.map u32v) 26 := by rw [hW4]; exact Blk.alloc (Blk.alloc (Blk.newAt _ _ (by simp)) _) _
  have bR : BlkL W4 (w.heap.size + 1 + 1) (noW8) 25 := by rw [hW4]; exact Blk.alloc (Blk.newAt _ _ (by simp)) _
  have bW : BlkL W4 (w.heap.size + 1 + 1 + 1) (wcells bs 0) 26 := by rw [hW4]; exact Blk.newAt _ _ (by simp)
  have hHK : w.heap.size < w.heap.size + 1 := by omega
  have hKR : w.heap.size + 1 < w.heap.size + 1 + 1 := by omega
  have hRW : w.heap.size + 1 + 1 < w.heap.size + 1 + 1 + 1 := by omega
  have HS := Lib.hid (fun W (g : Chg none w W) i (hi : i < 64) => (show W.cell? ⟨sb, so + i, none⟩ = some (.int .u8 ((bs.getD i 0).toNat : Int)) from World.grownBy.cell g (by
    rw [hsrc i _ (List.getElem?_eq_getElem (by omega))]
    simp [List.getD_eq_getElem?_getD, hl, hi]) (by simp)))
  obtain ⟨WA, hWA⟩ : ∃ WA, WA = (ws.map u32v).toArray := ⟨_, rfl⟩
  obtain ⟨KA, hKA⟩ : ∃ KA, KA = (K0.map u32v).toArray := ⟨_, rfl⟩
  rw [← hWA, ← hKA]
  rw [← hWA, ← hKA] at HW4
  have hle : w.heap.size ≤ w.heap.size := Nat.le_refl _
  have HR8 := Lib.hid hr8
  clear hr8 hW4 hWA hKA hsrc
  go_enter Tryd.func43, Tryd.ntmps43
  go_upto_block 0 with fail
  rw [HW4.out]
  clear HW4
  generalize w.heap.size + 1 + 1 + 1 = pW at *
  generalize w.heap.size + 1 + 1 = pR at *
  generalize w.heap.size + 1 = pK at *
  generalize hpH : w.heap.size = pH at *
  have HPH := Lib.hid hpH
  clear hpH
  go_cut [8, 9] (fun _ _ wx => BlkL wx pW (wcells bs 16) 26 ∧ BlkL wx pH (ws.map u32v) 25 ∧ BlkL wx pK (K0.map u32v) 26 ∧ BlkL wx pR (noW8) 25 ∧ Chg none w wx)
  case first =>
    go_wp2_with fail
    go_loopw [8, 9] (fun s8 _ wr => ∃ t : Nat, t ≤ 16 ∧ s8 = .int .i64 t ∧ BlkL wr pW (wcells bs t) 26 ∧ BlkL wr pH (ws.map u32v) 25 ∧ BlkL wr pK (K0.map u32v) 26 ∧ BlkL wr pR (noW8) 25 ∧ Chg none w wr) (fun s8 _ _ => 16 - (intOf s8).toNat)
    case atStart => exact ⟨0, by omega, rfl, bW, bH, bK, bR, g0⟩
    case round =>
      obtain ⟨t, ht, rfl, bWt, bHt, bKt, bRt, gt⟩ := hrel
      clear bW bH bK bR g0
      by_cases hlt : t < 16
      · have hz := wpart_zero bs t (by omega)
        rw [← hz] at bWt
        have HWA := Lib.hid (wpart_all bs t hlt)
        clear hz
        go_wp2_with fail
        obtain ⟨wo, rfl⟩ : ∃ wo : World, wo = wr := ⟨_, rfl⟩
        go_loopw [9] (fun s9 wq => ∃ i : Nat, i ≤ 4 ∧ s9 = .int .i64 i ∧ BlkL wq pW (wpart bs t i) 26 ∧ BlkL wq pH (ws.map u32v) 25 ∧ BlkL wq pK (K0.map u32v) 26 ∧ BlkL wq pR (noW8) 25 ∧ Chg none w wq) (fun s9 _ => 4 - (intOf s9).toNat)
        case atStart => exact ⟨0, by omega, rfl, bWt, bHt, bKt, bRt, gt⟩
        case round =>
          obtain ⟨i, hi, rfl, bW, bH, bK, bR, gi⟩ := hrel
          clear bWt bHt bKt bRt gt
          by_cases hlt4 : i < 4
          · have qW : wr.cell? ⟨pW, t, none⟩ = some (.int .u32 (partW bs t i : Nat)) := by rw [BlkL.cell bW, wpart_at _ _ _ (by omega)]
            have qB := HS.out wr gi (4 * t + i) (by omega)
            have hfz := Blk.frozen bW t
            have hbz := Blk.lt bW
            have hsz : sb < wr.heap.size := Nat.lt_of_lt_of_le hsb (by rw [← HPH.out]; exact gi.size)
            have hset := BlkL.set bW t (.int .u32 (partW bs t (i + 1) : Nat))
            rw [wpart_set] at hset
            have hpl := partW_lt bs t i
            have hpl3 : partW bs t i < 256 ^ 3 := Nat.lt_of_lt_of_le hpl (Nat.pow_le_pow_right (by decide) (by omega))
            have hcl : (bs.getD (4 * t + i) 0).toNat < 256 := UInt8.toNat_lt _
            have hps : partW bs t (i + 1) = partW bs t i * 256 + (bs.getD (4 * t + i) 0).toNat := rfl
            rw [hps] at hset
            generalize partW bs t i = P at *
            generalize (bs.getD (4 * t + i) 0).toNat = c at *
            have hw1 : IntKind.u32.wrap ((P : Int) * 256) = (P : Int) * 256 := IntWalk.u32_in _ (by omega)
            have hw2 : IntKind.u32.wrap ((P : Int) * 256 + (c : Int)) = (P : Int) * 256 + (c : Int) := IntWalk.u32_in _ (by omega)
            have hw0 : IntKind.u32.wrap (c : Int) = (c : Int) := IntWalk.u32_in _ (by omega)
            have hi1 : IntKind.i64.wrap (4 * (t : Int)) = 4 * (t : Int) := IntWalk.i64_in _ (by omega)
            have hi2 : IntKind.i64.wrap (4 * (t : Int) + (i : Int)) = 4 * (t : Int) + (i : Int) := IntWalk.i64_in _ (by omega)
            have hi3 : (0 : Int) ≤ 4 * (t : Int) + (i : Int) := by omega
            have hi4 : (4 * (t : Int) + (i : Int)).toNat = 4 * t + i := by omega
            have hi5 : 4 * (t : Int) + (i : Int) < 64 := by omega
            have t0 : (0 : Int) ≤ (t : Int) := by omega
            have t1 : (t : Int) < 64 := by omega
            have e1 : ((P * 256 + c : Nat) : Int) = (P : Int) * 256 + (c : Int) := by omega
            rw [e1] at hset
            have HSET := Lib.hid hset
            clear hset e1 hpl hps
            go_wp2_with fail
            go_region
            all_goals
              clear hw1 hw2 hw0 hi1 hi2 hi4
              go_wp2_with fail
              go_roundw
              case rel => exact ⟨i + 1, by omega, by go_num, HSET.out, Blk.setOther bH _ _ (by show pH ≠ pW; omega), Blk.setOther bK _ _ (by show pK ≠ pW; omega), Blk.setOther bR _ _ (by show pR ≠ pW; omega), by repeat (first | (with_reducible exact gi) | (with_reducible refine Chg.drew ?_) | (with_reducible refine Chg.setNew ?_ _ (by show w.heap.size ≤ pW; rw [HPH.out]; omega) _))⟩
              case measure => first | (simp [intOf]; done) | (simp [intOf]; omega)
          · obtain rfl : i = 4 := by omega
            rw [HWA.out] at bW
            go_wp2_with fail
            go_roundw
            case rel => exact ⟨t + 1, by omega, by go_num, bW, bH, bK, bR, gi⟩
            case measure => first | (simp [intOf]; done) | (simp [intOf]; omega)
      · have ht16 : t = 16 := by omega
        have hd16 : decide ((t : Int) < 16) = false := by simp; omega
        rw [ht16] at bWt
        clear ht16
        go_wp2_with fail
        go_meet
        exact ⟨bWt, bHt, bKt, bRt, gt⟩
  case rest =>
    obtain ⟨bWt, bHt, bKt, bRt, gt⟩ := hcut
    clear bW bH bK bR g0
    obtain ⟨wA, rfl⟩ : ∃ wA : World, wA = wc := ⟨_, rfl⟩
    have H7 := Lib.hid (fun W x => turn7 x W)
    have H18 := Lib.hid (fun W x => turn18 x W)
    have H17 := Lib.hid (fun W x => turn17 x W)
    have H19 := Lib.hid (fun W x => turn19 x W)
    go_upto_block 4 with fail
    go_cut [10, 11, 12] (fun _ _ _ wx => BlkL wx pW ((schedN bs 64).map u32v) 26 ∧ BlkL wx pH (ws.map u32v) 25 ∧ BlkL wx pK (K0.map u32v) 26 ∧ BlkL wx pR (noW8) 25 ∧ Chg none w wx)
    case first =>
      go_wp2_with fail
      go_loopw [10, 11, 12] (fun s10 _ _ wq => ∃ k : Nat, 16 ≤ k ∧ k ≤ 64 ∧ s10 = .int .i64 k ∧ BlkL wq pW (wcells bs k) 26 ∧ BlkL wq pH (ws.map u32v) 25 ∧ BlkL wq pK (K0.map u32v) 26 ∧ BlkL wq pR (noW8) 25 ∧ Chg none w wq) (fun s10 _ _ _ => 64 - (intOf s10).toNat)
      case atStart => exact ⟨16, by omega, by omega, rfl, bWt, bHt, bKt, bRt, gt⟩
      case round =>
        obtain ⟨k, hk0, hk1, rfl, bW, bH, bK, bR, gi⟩ := hrel
        clear bWt bHt bKt bRt gt
        by_cases hlt : k < 64
        · have q16 : wr.cell? ⟨pW, k - 16, none⟩ = some (.int .u32 ((schedN bs k).getD (k - 16) 0)) := by rw [BlkL.cell bW]; exact wcells_at bs k (k - 16) (by omega)
          have q15 : wr.cell? ⟨pW, k - 15, none⟩ = some (.int .u32 ((schedN bs k).getD (k - 15) 0)) := by rw [BlkL.cell bW]; exact wcells_at bs k (k - 15) (by omega)
          have q7 : wr.cell? ⟨pW, k - 7, none⟩ = some (.int .u32 ((schedN bs k).getD (k - 7) 0)) := by rw [BlkL.cell bW]; exact wcells_at bs k (k - 7) (by omega)
          have q2 : wr.cell? ⟨pW, k - 2, none⟩ = some (.int .u32 ((schedN bs k).getD (k - 2) 0)) := by rw [BlkL.cell bW]; exact wcells_at bs k (k - 2) (by omega)
          have hset := BlkL.set bW k (u32v (expand (schedN bs k) k))
          have hws := wcells_set bs k (by omega)
          rw [if_neg (by omega)] at hws
          rw [hws] at hset
          have cw : wr.cell? ⟨pW, k, none⟩ = some (.int .u32 0) := by rw [BlkL.cell bW]; exact wcells_zero_at bs k hlt
          have hfz := Blk.frozen bW k
          have hbz := Blk.lt bW
          unfold expand at hset
          generalize (schedN bs k).getD (k - 16) 0 = a16 at *
          generalize (schedN bs k).getD (k - 15) 0 = x at *
          generalize (schedN bs k).getD (k - 7) 0 = a7 at *
          generalize (schedN bs k).getD (k - 2) 0 = y at *
          have i16 : IntKind.i64.wrap ((k : Int) - 16) = (k : Int) - 16 := IntWalk.i64_in _ (by omega)
          have i15 : IntKind.i64.wrap ((k : Int) - 15) = (k : Int) - 15 := IntWalk.i64_in _ (by omega)
          have i7 : IntKind.i64.wrap ((k : Int) - 7) = (k : Int) - 7 := IntWalk.i64_in _ (by omega)
          have i2 : IntKind.i64.wrap ((k : Int) - 2) = (k : Int) - 2 := IntWalk.i64_in _ (by omega)
          have n16 : ((k : Int) - 16).toNat = k - 16 := by omega
          have n15 : ((k : Int) - 15).toNat = k - 15 := by omega
          have n7 : ((k : Int) - 7).toNat = k - 7 := by omega
          have n2 : ((k : Int) - 2).toNat = k - 2 := by omega
          have p16 : (0 : Int) ≤ (k : Int) - 16 := by omega
          have p15 : (0 : Int) ≤ (k : Int) - 15 := by omega
          have p7 : (0 : Int) ≤ (k : Int) - 7 := by omega
          have p2 : (0 : Int) ≤ (k : Int) - 2 := by omega
          have l16 : (k : Int) - 16 < 64 := by omega
          have r16 : (16 : Int) ≤ (k : Int) := by omega
          have r7 : (7 : Int) ≤ (k : Int) := by omega
          have l15 : (k : Int) - 15 < 64 := by omega
          have l7 : (k : Int) - 7 < 64 := by omega
          have l2 : (k : Int) - 2 < 64 := by omega
          have k0 : (0 : Int) ≤ (k : Int) := by omega
          have k64 : (k : Int) < 64 := by omega
          clear hws
          go_wp2_with fail
          go_upto_region 12 with (fail)
          go_cut [11, 12] (fun s11 s12 wx => s11 = .int .u32 x ∧ s12 = .int .u32 y ∧ wx = wr.drew)
          case first =>
            go_region
            all_goals
              go_wp2_with fail
              go_meet
              exact ⟨rfl, rfl, rfl⟩
          case rest =>
            obtain ⟨rfl, rfl, rfl⟩ := hcut
            clear i15 i2 n15 n2 p15 p2 l15 l2 q15 q2
            go_wp2_with fail
            have cw0 : wr.drew.drew.cell? ⟨pW, k, none⟩ = some (.int .u32 0) := cw
            have fz0 : wr.drew.drew.frozen? ⟨pW, k, none⟩ = false := hfz
            have bz0 : pW < wr.drew.drew.heap.size := hbz
            have S0 : wr.drew.drew.cell? ⟨pW, k - 16, none⟩ = some (.int .u32 a16) ∧ wr.drew.drew.cell? ⟨pW, k - 7, none⟩ = some (.int .u32 a7) := ⟨q16, q7⟩
            have gd0 : Chg none w wr.drew.drew := gi.drew.drew
            have bH0 : BlkL wr.drew.drew pH (ws.map u32v) 25 := bH
            have bK0 : BlkL wr.drew.drew pK (K0.map u32v) 26 := bK
            have bR0 : BlkL wr.drew.drew pR (noW8) 25 := bR
            have st0 : BlkL (wr.drew.drew.setCell ⟨pW, k, none⟩ (.int .u32 ((a16 + low x + a7 + high y) % 4294967296))) pW (wcells bs (k + 1)) 26 := hset
            rw [← sum4 a16 (low x) a7 (high y)] at st0
            have HST := Lib.hid st0
            refine wp_region_held_drew (S := fun w' => w'.cell? ⟨pW, k - 16, none⟩ = some (.int .u32 a16) ∧ w'.cell? ⟨pW, k - 7, none⟩ = some (.int .u32 a7)) (by kernel_rfl) ⟨q16, q7⟩ (fun _ => ?_)
            clear cw hfz hbz q16 q7 gi bH bK bR st0 hset bW
            generalize wr.drew.drew = v0 at *
            refine wpAnyH_take (i := 0) (oi := ⟨some 55, _, _, _, _, _⟩) (v := ?_) rfl (by kernel_rfl) (by kernel_rfl) (by kernel_rfl) (fun _ _ _ h => h) (Or.inl ⟨by rfl, ?_⟩) (by assumption) ?_
            rotate_left
            · intro w hSw; (try dsimp only at hSw); go_simp; (try with_reducible rfl)
            try simp only [Act.put, List.setIfInBounds_toArray, List.set_cons_zero, List.set_cons_succ]
            refine wpAnyH_take (i := 1) (oi := ⟨some 56, _, _, _, _, _⟩) (v := ?_) rfl (by kernel_rfl) (by kernel_rfl) (by kernel_rfl) (fun _ _ _ h => h) (Or.inl ⟨by rfl, ?_⟩) (by assumption) ?_
            rotate_left
            · intro w hSw; (try dsimp only at hSw); go_simp; (try with_reducible rfl)
            try simp only [Act.put, List.setIfInBounds_toArray, List.set_cons_zero, List.set_cons_succ]
            refine wpAnyH_take (i := 2) (oi := ⟨some 57, _, _, _, _, _⟩) (v := ?_) rfl (by kernel_rfl) (by kernel_rfl) (by kernel_rfl) (fun _ _ _ h => h) (Or.inl ⟨by rfl, ?_⟩) (by assumption) ?_
            rotate_left
            · intro w hSw; (try dsimp only at hSw); go_simp; (try with_reducible rfl)
            try simp only [Act.put, List.setIfInBounds_toArray, List.set_cons_zero, List.set_cons_succ]
            refine wpAnyH_take (i := 3) (oi := ⟨some 58, _, _, _, _, _⟩) (v := ?_) rfl (by kernel_rfl) (by kernel_rfl) (by kernel_rfl) (fun _ _ _ h => h) (Or.inl ⟨by rfl, ?_⟩) (by assumption) ?_
            rotate_left
            · intro w hSw; (try dsimp only at hSw); go_simp; (try with_reducible rfl)
            try simp only [Act.put, List.setIfInBounds_toArray, List.set_cons_zero, List.set_cons_succ]
            refine wpAnyH_take (i := 4) (oi := ⟨some 59, _, _, _, _, _⟩) (v := ?_) rfl (by kernel_rfl) (by kernel_rfl) (by kernel_rfl) (fun _ _ _ h => h) (Or.inl ⟨by rfl, ?_⟩) (by assumption) ?_
            rotate_left
            · intro w hSw; (try dsimp only at hSw); go_simp; (try with_reducible rfl)
            try simp only [Act.put, List.setIfInBounds_toArray, List.set_cons_zero, List.set_cons_succ]
            refine wpAnyH_take (i := 5) (oi := ⟨some 60, _, _, _, _, _⟩) (v := ?_) rfl (by kernel_rfl) (by kernel_rfl) (by kernel_rfl) (fun _ _ _ h => h) (Or.inl ⟨by rfl, ?_⟩) (by assumption) ?_
            rotate_left
            · intro w hSw; (try dsimp only at hSw); go_simp; (try with_reducible rfl)
            try simp only [Act.put, List.setIfInBounds_toArray, List.set_cons_zero, List.set_cons_succ]
            refine wpAnyH_take (i := 7) (oi := ⟨some 62, _, _, _, _, _⟩) (v := ?_) rfl (by kernel_rfl) (by kernel_rfl) (by kernel_rfl) (fun _ _ _ h => h) (Or.inl ⟨by rfl, ?_⟩) (by assumption) ?_
            rotate_left
            · intro w hSw; (try dsimp only at hSw); go_simp; (try with_reducible rfl)
            try simp only [Act.put, List.setIfInBounds_toArray, List.set_cons_zero, List.set_cons_succ]
            refine wpAnyH_take (i := 10) (oi := ⟨some 65, _, _, _, _, _⟩) (v := ?_) rfl (by kernel_rfl) (by kernel_rfl) (by kernel_rfl) (fun _ _ _ h => h) (Or.inl ⟨by rfl, ?_⟩) (by assumption) ?_
            rotate_left
            · intro w hSw; (try dsimp only at hSw); go_simp; (try with_reducible rfl)
            try simp only [Act.put, List.setIfInBounds_toArray, List.set_cons_zero, List.set_cons_succ]
            refine wpAnyH_take (i := 11) (oi := ⟨some 66, _, _, _, _, _⟩) (v := ?_) rfl (by kernel_rfl) (by kernel_rfl) (by kernel_rfl) (fun _ _ _ h => h) (Or.inl ⟨by rfl, ?_⟩) (by assumption) ?_
            rotate_left
            · intro w hSw; (try dsimp only at hSw); go_simp; (try with_reducible rfl)
            try simp only [Act.put, List.setIfInBounds_toArray, List.set_cons_zero, List.set_cons_succ]
            refine wpAnyH_take (i := 14) (oi := ⟨some 69, _, _, _, _, _⟩) (v := ?_) rfl (by kernel_rfl) (by kernel_rfl) (by kernel_rfl) (fun _ _ _ h => h) (Or.inl ⟨by rfl, ?_⟩) (by assumption) ?_
            rotate_left
            · intro w hSw; (try dsimp only at hSw); go_simp; (try with_reducible rfl)
            try simp only [Act.put, List.setIfInBounds_toArray, List.set_cons_zero, List.set_cons_succ]
            refine wpAnyH_take (i := 15) (oi := ⟨some 70, _, _, _, _, _⟩) (v := ?_) rfl (by kernel_rfl) (by kernel_rfl) (by kernel_rfl) (fun _ _ _ h => h) (Or.inl ⟨by rfl, ?_⟩) (by assumption) ?_
            rotate_left
            · intro w hSw; (try dsimp only at hSw); go_simp; (try with_reducible rfl)
            try simp only [Act.put, List.setIfInBounds_toArray, List.set_cons_zero, List.set_cons_succ]
            refine wpAnyH_take (i := 16) (oi := ⟨some 71, _, _, _, _, _⟩) (v := ?_) rfl (by kernel_rfl) (by kernel_rfl) (by kernel_rfl) (fun _ _ _ h => h) (Or.inl ⟨by rfl, ?_⟩) (by assumption) ?_
            rotate_left
            · intro w hSw; (try dsimp only at hSw); go_simp; (try with_reducible rfl)
            try simp only [Act.put, List.setIfInBounds_toArray, List.set_cons_zero, List.set_cons_succ]
            refine wpAnyH_take (i := 17) (oi := ⟨some 72, _, _, _, _, _⟩) (v := ?_) rfl (by kernel_rfl) (by kernel_rfl) (by kernel_rfl) (fun _ _ _ h => h) (Or.inl ⟨by rfl, ?_⟩) (by assumption) ?_
            rotate_left
            · intro w hSw; (try dsimp only at hSw); go_simp; (try with_reducible rfl)
            try simp only [Act.put, List.setIfInBounds_toArray, List.set_cons_zero, List.set_cons_succ]
            refine wpAnyH_take (i := 19) (oi := ⟨some 74, _, _, _, _, _⟩) (v := ?_) rfl (by kernel_rfl) (by kernel_rfl) (by kernel_rfl) (fun _ _ _ h => h) (Or.inl ⟨by rfl, ?_⟩) (by assumption) ?_
            rotate_left
            · intro w hSw; (try dsimp only at hSw); go_simp; (try with_reducible rfl)
            try simp only [Act.put, List.setIfInBounds_toArray, List.set_cons_zero, List.set_cons_succ]
            refine wpAnyH_take (i := 21) (oi := ⟨some 76, _, _, _, _, _⟩) (v := ?_) rfl (by kernel_rfl) (by kernel_rfl) (by kernel_rfl) (fun _ _ _ h => h) (Or.inl ⟨by rfl, ?_⟩) (by assumption) ?_
            rotate_left
            · intro w hSw; (try dsimp only at hSw); go_simp; (try with_reducible rfl)
            try simp only [Act.put, List.setIfInBounds_toArray, List.set_cons_zero, List.set_cons_succ]
            refine wpAnyH_take (i := 24) (oi := ⟨some 79, _, _, _, _, _⟩) (v := ?_) rfl (by kernel_rfl) (by kernel_rfl) (by kernel_rfl) (fun _ _ _ h => h) (Or.inl ⟨by rfl, ?_⟩) (by assumption) ?_
            rotate_left
            · intro w hSw; (try dsimp only at hSw); go_simp; (try with_reducible rfl)
            try simp only [Act.put, List.setIfInBounds_toArray, List.set_cons_zero, List.set_cons_succ]
            refine wpAnyH_take (i := 25) (oi := ⟨some 80, _, _, _, _, _⟩) (v := ?_) rfl (by kernel_rfl) (by kernel_rfl) (by kernel_rfl) (fun _ _ _ h => h) (Or.inl ⟨by rfl, ?_⟩) (by assumption) ?_
            rotate_left
            · intro w hSw; (try dsimp only at hSw); go_simp; (try with_reducible rfl)
            try simp only [Act.put, List.setIfInBounds_toArray, List.set_cons_zero, List.set_cons_succ]
            refine wpAnyH_ready (rs := [6]) (by kernel_rfl) (by simp) ?_
            refine AllReadyH.cons (o := ⟨some 61, _, _, _, _, _⟩) rfl (fun K hK => ?_) (AllReadyH.nil)
            go_simp
            go_at_call 69
            refine (H7.out _ _).mono ?_
            rintro e w' ⟨rfl, rfl⟩
            go_wp2_with fail
            refine hK.out _ _ S0 (fun _ => ?_)
            clear hK K
            try simp only [Act.put, List.setIfInBounds_toArray, List.set_cons_zero, List.set_cons_succ]
            refine wpAnyH_ready (rs := [8]) (by kernel_rfl) (by simp) ?_
            refine AllReadyH.cons (o := ⟨some 63, _, _, _, _, _⟩) rfl (fun K hK => ?_) (AllReadyH.nil)
            go_simp
            go_at_call 69
            refine (H18.out _ _).mono ?_
            rintro e w' ⟨rfl, rfl⟩
            go_wp2_with fail
            refine hK.out _ _ S0 (fun _ => ?_)
            clear hK K
            try simp only [Act.put, List.setIfInBounds_toArray, List.set_cons_zero, List.set_cons_succ]
            refine wpAnyH_take (i := 9) (oi := ⟨some 64, _, _, _, _, _⟩) (v := ?_) rfl (by kernel_rfl) (by kernel_rfl) (by kernel_rfl) (fun _ _ _ h => h) (Or.inl ⟨by rfl, ?_⟩) (by assumption) ?_
            rotate_left
            · intro w hSw; (try dsimp only at hSw); go_simp; (try with_reducible rfl)
            try simp only [Act.put, List.setIfInBounds_toArray, List.set_cons_zero, List.set_cons_succ]
            refine wpAnyH_take (i := 12) (oi := ⟨some 67, _, _, _, _, _⟩) (v := ?_) rfl (by kernel_rfl) (by kernel_rfl) (by kernel_rfl) (fun _ _ _ h => h) (Or.inl ⟨by rfl, ?_⟩) (by assumption) ?_
            rotate_left
            · intro w hSw; (try dsimp only at hSw); go_simp; (try with_reducible rfl)
            try simp only [Act.put, List.setIfInBounds_toArray, List.set_cons_zero, List.set_cons_succ]
            refine wpAnyH_take (i := 13) (oi := ⟨some 68, _, _, _, _, _⟩) (v := ?_) rfl (by kernel_rfl) (by kernel_rfl) (by kernel_rfl) (fun _ _ _ h => h) (Or.inl ⟨by rfl, ?_⟩) (by assumption) ?_
            rotate_left
            · intro w hSw; (try dsimp only at hSw); go_simp; (try with_reducible rfl)
            try simp only [Act.put, List.setIfInBounds_toArray, List.set_cons_zero, List.set_cons_succ]
            refine wpAnyH_take (i := 18) (oi := ⟨some 73, _, _, _, _, _⟩) (v := ?_) rfl (by kernel_rfl) (by kernel_rfl) (by kernel_rfl) (fun _ _ _ h => h) (Or.inl ⟨by rfl, ?_⟩) (by assumption) ?_
            rotate_left
            · intro w hSw; (try dsimp only at hSw); go_simp; (try with_reducible rfl)
            try simp only [Act.put, List.setIfInBounds_toArray, List.set_cons_zero, List.set_cons_succ]
            refine wpAnyH_ready (rs := [20]) (by kernel_rfl) (by simp) ?_
            refine AllReadyH.cons (o := ⟨some 75, _, _, _, _, _⟩) rfl (fun K hK => ?_) (AllReadyH.nil)
            go_simp
            go_at_call 69
            refine (H17.out _ _).mono ?_
            rintro e w' ⟨rfl, rfl⟩
            go_wp2_with fail
            refine hK.out _ _ S0 (fun _ => ?_)
            clear hK K
            try simp only [Act.put, List.setIfInBounds_toArray, List.set_cons_zero, List.set_cons_succ]
            refine wpAnyH_ready (rs := [22]) (by kernel_rfl) (by simp) ?_
            refine AllReadyH.cons (o := ⟨some 77, _, _, _, _, _⟩) rfl (fun K hK => ?_) (AllReadyH.nil)
            go_simp
            go_at_call 69
            refine (H19.out _ _).mono ?_
            rintro e w' ⟨rfl, rfl⟩
            go_wp2_with fail
            refine hK.out _ _ S0 (fun _ => ?_)
            clear hK K
            try simp only [Act.put, List.setIfInBounds_toArray, List.set_cons_zero, List.set_cons_succ]
            refine wpAnyH_take (i := 23) (oi := ⟨some 78, _, _, _, _, _⟩) (v := ?_) rfl (by kernel_rfl) (by kernel_rfl) (by kernel_rfl) (fun _ _ _ h => h) (Or.inl ⟨by rfl, ?_⟩) (by assumption) ?_
            rotate_left
            · intro w hSw; (try dsimp only at hSw); go_simp; (try with_reducible rfl)
            try simp only [Act.put, List.setIfInBounds_toArray, List.set_cons_zero, List.set_cons_succ]
            refine wpAnyH_take (i := 26) (oi := ⟨some 81, _, _, _, _, _⟩) (v := ?_) rfl (by kernel_rfl) (by kernel_rfl) (by kernel_rfl) (fun _ _ _ h => h) (Or.inl ⟨by rfl, ?_⟩) (by assumption) ?_
            rotate_left
            · intro w hSw; (try dsimp only at hSw); go_simp; (try with_reducible rfl)
            try simp only [Act.put, List.setIfInBounds_toArray, List.set_cons_zero, List.set_cons_succ]
            refine wpAnyH_take (i := 27) (oi := ⟨some 82, _, _, _, _, _⟩) (v := ?_) rfl (by kernel_rfl) (by kernel_rfl) (by kernel_rfl) (fun _ _ _ h => h) (Or.inl ⟨by rfl, ?_⟩) (by assumption) ?_
            rotate_left
            · intro w hSw; (try dsimp only at hSw); go_simp; (try with_reducible rfl)
            try simp only [Act.put, List.setIfInBounds_toArray, List.set_cons_zero, List.set_cons_succ]
            refine wpAnyH_take (i := 28) (oi := ⟨some 83, _, _, _, _, _⟩) (v := ?_) rfl (by kernel_rfl) (by kernel_rfl) (by kernel_rfl) (fun _ _ _ h => h) (Or.inl ⟨by rfl, ?_⟩) (by assumption) ?_
            rotate_left
            · intro w hSw; (try dsimp only at hSw); go_simp; (try with_reducible rfl)
            try simp only [Act.put, List.setIfInBounds_toArray, List.set_cons_zero, List.set_cons_succ]
            refine wpAnyH_ready (rs := [29]) (by kernel_rfl) (by simp) ?_
            refine AllReadyH.cons (o := ⟨none, _, _, _, _, _⟩) rfl (fun K hK => ?_) (AllReadyH.nil)
            go_simp
            refine hK.out _ _ (by exact ⟨(World.cell?_setCell_other _ ⟨pW, k, none⟩ ⟨pW, k - 16, none⟩ _ (by intro e; injection e with e1 e2; omega)).trans S0.1, (World.cell?_setCell_other _ ⟨pW, k, none⟩ ⟨pW, k - 7, none⟩ _ (by intro e; injection e with e1 e2; omega)).trans S0.2⟩) (fun _ => ?_)
            clear hK K
            refine wpAnyH_done (by kernel_rfl) ?_ _
            go_wp2_with fail
            go_roundw
            case rel => exact ⟨k + 1, by omega, by omega, by go_num, by exact HST.out, Blk.setOther bH0 _ _ (by show pH ≠ pW; omega), Blk.setOther bK0 _ _ (by show pK ≠ pW; omega), Blk.setOther bR0 _ _ (by show pR ≠ pW; omega), gd0.setNew _ (by show w.heap.size ≤ pW; rw [HPH.out]; omega) _⟩
            case measure => first | (simp [intOf]; done) | (simp [intOf]; omega)
        · have hk64 : k = 64 := by omega
          have hfin : wcells bs 64 = (schedN bs 64).map u32v := by simp [wcells]
          have hd64 : decide ((k : Int) < 64) = false := by simp; omega
          rw [hk64, hfin] at bW
          clear hk64 hfin
          go_wp2_with fail
          go_meet
          exact ⟨bW, bH, bK, bR, gi⟩
    case rest =>
      obtain ⟨bW, bH, bK, bR, gi⟩ := hcut
      clear bWt bHt bKt bRt gt H7 H18 H17 H19
      obtain ⟨wr, rfl⟩ : ∃ wr : World, wr = wc := ⟨_, rfl⟩
      obtain ⟨SW, hSW⟩ : ∃ SW, SW = schedN bs 64 := ⟨_, rfl⟩
      have hSl : SW.length = 64 := by rw [hSW]; exact schedN_len bs 64
      rw [← hSW] at bW
      have HSW := Lib.hid hSW
      have HSL := Lib.hid hSl
      obtain ⟨hw8, how8⟩ := row8_facts ws hw
      have HI8 : Hid ((Tryd.prog.info? 25).map (·.size) = some (ws.map u32v).toArray.size) := by rw [hw8]; show _ = _; kernel_rfl
      have HO8 := Lib.hid how8
      have HC8 := Lib.hid hw8
      have hrow : wr.heap[pH]? = some (.cells (ws.map u32v).toArray 25 (0, 0)) := bH
      have HN8 := Lib.hid (heap_alloc_new wr (.cells #[Value.int IntKind.u32 0, Value.int IntKind.u32 0, Value.int IntKind.u32 0, Value.int IntKind.u32 0, Value.int IntKind.u32 0, Value.int IntKind.u32 0, Value.int IntKind.u32 0, Value.int IntKind.u32 0] 25))
      obtain ⟨w2, hw2⟩ : ∃ w2 : World, w2 = (wr.alloc (.cells #[Value.int IntKind.u32 0, Value.int IntKind.u32 0, Value.int IntKind.u32 0, Value.int IntKind.u32 0, Value.int IntKind.u32 0, Value.int IntKind.u32 0, Value.int IntKind.u32 0, Value.int IntKind.u32 0] 25)).setRow wr.heap.size (ws.map u32v).toArray := ⟨_, rfl⟩
      have HW2 : Hid ((wr.alloc (.cells #[Value.int IntKind.u32 0, Value.int IntKind.u32 0, Value.int IntKind.u32 0, Value.int IntKind.u32 0, Value.int IntKind.u32 0, Value.int IntKind.u32 0, Value.int IntKind.u32 0, Value.int IntKind.u32 0] 25)).setRow wr.heap.size (ws.map u32v).toArray = w2) := hw2.symm
      have bS2 : BlkL w2 wr.heap.size (stV (ofL ws)) 25 := by rw [hw2, stV_ofL ws hw]; exact setRow_heap _ _ _ _ _ _ (heap_alloc_new _ _)
      have g12 : Chg none wr w2 := by
        rw [hw2]
        exact Chg.own (b := wr.heap.size) ((Chg.refl none wr).alloc _) (chg_setRow _ _ _) (Nat.le_refl _)
      have g02 : Chg none w w2 := gi.trans g12
      have bW2 := Blk.chg bW g12 (by simp)
      have bH2 := Blk.chg bH g12 (by simp)
      have bK2 := Blk.chg bK g12 (by simp)
      have bR2 := Blk.chg bR g12 (by simp)
      have hpS : pW < wr.heap.size := Blk.lt bW
      have hpSw : w.heap.size ≤ wr.heap.size := gi.size
      have HE := Lib.hid (ofL_e ws HR8.out)
      clear HR8 hw2 hSW hSl hw8 how8 bW bH bK bR gi g12
      go_upto_region 15 with (first
        | (refine wpList_load_row rfl 25 _ rfl pH rfl 25 _ (0, 0) _ hrow Tryd.underlying25 rfl HI8.out ?_)
        | (refine wpList_store_row rfl 25 _ _ rfl wr.heap.size (ws.map u32v).toArray rfl rfl 25 _ HN8.out HI8.out (by rw [HC8.out]; rfl) HO8.out ?_))
      rw [HW2.out]
      clear HW2 HN8 hrow HI8 HO8 HC8
      generalize wr.heap.size = pS at *
      have H2 := Lib.hid (fun W x => turn2 x W)
      have H6 := Lib.hid (fun W x => turn6 x W)
      have H11 := Lib.hid (fun W x => turn11 x W)
      have H13 := Lib.hid (fun W x => turn13 x W)
      have H22 := Lib.hid (fun W x => turn22 x W)
      have H25 := Lib.hid (fun W x => turn25 x W)
      have HI25 : Hid (∀ cs : Array Value, cs.size = 8 → (Tryd.prog.info? 25).map (·.size) = some cs.size) := by
        show ∀ cs : Array Value, cs.size = 8 → _
        intro cs h; rw [h]; kernel_rfl
      go_upto_block 6 with fail
      go_cut [14, 15, 16, 17, 18] (fun _ _ _ _ _ wx => ∃ s : St, Hid (s = rounds (ofL ws) SW 64) ∧ BlkL wx pS (stV s) 25 ∧ BlkL wx pH (ws.map u32v) 25 ∧ BlkL wx pR (noW8) 25 ∧ Chg none w wx)
      case first =>
        go_wp2_with fail
        go_loopw [14, 15, 16, 17, 18] (fun s14 _ _ _ _ wq => ∃ (t : Nat) (s : St), t ≤ 64 ∧ s14 = .int .i64 t ∧ Hid (s = rounds (ofL ws) SW t) ∧ BlkL wq pS (stV s) 25 ∧ BlkL wq pW (SW.map u32v) 26 ∧ BlkL wq pH (ws.map u32v) 25 ∧ BlkL wq pK (K0.map u32v) 26 ∧ BlkL wq pR (noW8) 25 ∧ Chg none w wq) (fun s14 _ _ _ _ _ => 64 - (intOf s14).toNat)
        case atStart => exact ⟨0, ofL ws, by omega, rfl, rfl, bS2, bW2, bH2, bK2, bR2, g02⟩
        case round =>
          obtain ⟨t, s, ht, rfl, HS2, bS, bW, bH, bK, bR, gi⟩ := hrel
          clear bS2 bW2 bH2 bK2 bR2 g02
          by_cases hlt : t < 64
          · as_aux_lemma =>
              obtain ⟨kk, hkk⟩ : ∃ kk, kk = K0.getD t 0 := ⟨_, rfl⟩
              obtain ⟨ww, hww⟩ : ∃ ww, ww = SW.getD t 0 := ⟨_, rfl⟩
              have HKK := Lib.hid hkk
              have HWW := Lib.hid hww
              have ck : wr.cell? ⟨pK, t, none⟩ = some (.int .u32 kk) := by rw [hkk, BlkL.cell bK]; exact u32_at K0 t hlt
              have cw : wr.cell? ⟨pW, t, none⟩ = some (.int .u32 ww) := by rw [hww, BlkL.cell bW]; exact u32_at SW t (by rw [HSL.out]; exact hlt)
              have hee := rounds_e (s0 := ofL ws) HE.out SW t
              rw [← HS2.out] at hee
              clear hkk hww
              obtain ⟨xa, xb, xc, xd, xe, xf, xg, xh⟩ := s
              have HNM : Hid (IntKind.u32.wrap (4294967295 - xe) = bits .xor .u32 IntKind.u32.max xe) := not_maxZ xe hee
              have qa : wr.cell? ⟨pS, 0, none⟩ = some (.int .u32 xa) := by rw [BlkL.cell bS]; rfl
              have qb : wr.cell? ⟨pS, 1, none⟩ = some (.int .u32 xb) := by rw [BlkL.cell bS]; rfl
              have qc : wr.cell? ⟨pS, 2, none⟩ = some (.int .u32 xc) := by rw [BlkL.cell bS]; rfl
              have qd : wr.cell? ⟨pS, 3, none⟩ = some (.int .u32 xd) := by rw [BlkL.cell bS]; rfl
              have qe : wr.cell? ⟨pS, 4, none⟩ = some (.int .u32 xe) := by rw [BlkL.cell bS]; rfl
              have qf : wr.cell? ⟨pS, 5, none⟩ = some (.int .u32 xf) := by rw [BlkL.cell bS]; rfl
              have qg : wr.cell? ⟨pS, 6, none⟩ = some (.int .u32 xg) := by rw [BlkL.cell bS]; rfl
              have qh : wr.cell? ⟨pS, 7, none⟩ = some (.int .u32 xh) := by rw [BlkL.cell bS]; rfl
              have ti0 : (0 : Int) ≤ (t : Int) := by omega
              have ti1 : (t : Int) < 64 := by omega
              obtain ⟨T1, hT1⟩ : ∃ T1, T1 = t1 ⟨xa, xb, xc, xd, xe, xf, xg, xh⟩ kk ww := ⟨_, rfl⟩
              obtain ⟨T2, hT2⟩ : ∃ T2, T2 = IntKind.u32.wrap (bits .xor .u32 (bits .xor .u32 (rotr xa 2) (rotr xa 13)) (rotr xa 22) + bits .xor .u32 (bits .xor .u32 (bits .and .u32 xa xb) (bits .and .u32 xa xc)) (bits .and .u32 xb xc)) := ⟨_, rfl⟩
              have HT1 := Lib.hid hT1
              have HT2 := Lib.hid hT2
              clear hT1 hT2 hee hw HE HSL
              go_upto_region 18 with (fail)
              go_cut [15, 16] (fun s15 s16 wx => s15 = .int .u32 xe ∧ s16 = .int .u32 xa ∧ wx = wr.drew)
              case first =>
                clear qb qc qd qf qg qh ck cw
                go_region
                all_goals
                  go_wp2_with fail
                  go_meet
                  exact ⟨rfl, rfl, rfl⟩
              case rest =>
                obtain ⟨rfl, rfl, rfl⟩ := hcut
                go_wp2_with fail
                go_cut [17] (fun s17 wx => s17 = .int .u32 T1 ∧ wx = wr.drew.drew)
                case first =>
                  refine wp_region_held_drew (S := fun w' => w'.cell? ⟨pS, 7, none⟩ = some (.int .u32 xh) ∧ w'.cell? ⟨pS, 5, none⟩ = some (.int .u32 xf) ∧ w'.cell? ⟨pS, 6, none⟩ = some (.int .u32 xg) ∧ w'.cell? ⟨pK, t, none⟩ = some (.int .u32 kk) ∧ w'.cell? ⟨pW, t, none⟩ = some (.int .u32 ww)) (by kernel_rfl) ⟨qh, qf, qg, ck, cw⟩ (fun _ => ?_)
                  have S0 : wr.drew.drew.cell? ⟨pS, 7, none⟩ = some (.int .u32 xh) ∧ wr.drew.drew.cell? ⟨pS, 5, none⟩ = some (.int .u32 xf) ∧ wr.drew.drew.cell? ⟨pS, 6, none⟩ = some (.int .u32 xg) ∧ wr.drew.drew.cell? ⟨pK, t, none⟩ = some (.int .u32 kk) ∧ wr.drew.drew.cell? ⟨pW, t, none⟩ = some (.int .u32 ww) := ⟨qh, qf, qg, ck, cw⟩
                  clear qa qb qc qd qe qf qg qh ck cw bS bW bH bK bR gi HT2 HKK HWW HS2
                  generalize wr.drew.drew = v0 at *
                  refine wpAnyH_take (i := 0) (oi := ⟨some 93, _, _, _, _, _⟩) (v := ?_) rfl (by kernel_rfl) (by kernel_rfl) (by kernel_rfl) (fun _ _ _ h => h) (Or.inl ⟨by rfl, ?_⟩) (by assumption) ?_
                  rotate_left
                  · intro w hSw; (try dsimp only at hSw); go_simp; (try with_reducible rfl)
                  try simp only [Act.put, List.setIfInBounds_toArray, List.set_cons_zero, List.set_cons_succ]
                  refine wpAnyH_take (i := 1) (oi := ⟨some 94, _, _, _, _, _⟩) (v := ?_) rfl (by kernel_rfl) (by kernel_rfl) (by kernel_rfl) (fun _ _ _ h => h) (Or.inl ⟨by rfl, ?_⟩) (by assumption) ?_
                  rotate_left
                  · intro w hSw; (try dsimp only at hSw); go_simp; (try with_reducible rfl)
                  try simp only [Act.put, List.setIfInBounds_toArray, List.set_cons_zero, List.set_cons_succ]
                  refine wpAnyH_take (i := 2) (oi := ⟨some 95, _, _, _, _, _⟩) (v := ?_) rfl (by kernel_rfl) (by kernel_rfl) (by kernel_rfl) (fun _ _ _ h => h) (Or.inl ⟨by rfl, ?_⟩) (by assumption) ?_
                  rotate_left
                  · intro w hSw; (try dsimp only at hSw); go_simp; (try with_reducible rfl)
                  try simp only [Act.put, List.setIfInBounds_toArray, List.set_cons_zero, List.set_cons_succ]
                  refine wpAnyH_take (i := 4) (oi := ⟨some 97, _, _, _, _, _⟩) (v := ?_) rfl (by kernel_rfl) (by kernel_rfl) (by kernel_rfl) (fun _ _ _ h => h) (Or.inl ⟨by rfl, ?_⟩) (by assumption) ?_
                  rotate_left
                  · intro w hSw; (try dsimp only at hSw); go_simp; (try with_reducible rfl)
                  try simp only [Act.put, List.setIfInBounds_toArray, List.set_cons_zero, List.set_cons_succ]
                  refine wpAnyH_take (i := 7) (oi := ⟨some 100, _, _, _, _, _⟩) (v := ?_) rfl (by kernel_rfl) (by kernel_rfl) (by kernel_rfl) (fun _ _ _ h => h) (Or.inl ⟨by rfl, ?_⟩) (by assumption) ?_
                  rotate_left
                  · intro w hSw; (try dsimp only at hSw); go_simp; (try with_reducible rfl)
                  try simp only [Act.put, List.setIfInBounds_toArray, List.set_cons_zero, List.set_cons_succ]
                  refine wpAnyH_take (i := 11) (oi := ⟨some 104, _, _, _, _, _⟩) (v := ?_) rfl (by kernel_rfl) (by kernel_rfl) (by kernel_rfl) (fun _ _ _ h => h) (Or.inl ⟨by rfl, ?_⟩) (by assumption) ?_
                  rotate_left
                  · intro w hSw; (try dsimp only at hSw); go_simp; (try with_reducible rfl)
                  try simp only [Act.put, List.setIfInBounds_toArray, List.set_cons_zero, List.set_cons_succ]
                  refine wpAnyH_take (i := 12) (oi := ⟨some 105, _, _, _, _, _⟩) (v := ?_) rfl (by kernel_rfl) (by kernel_rfl) (by kernel_rfl) (fun _ _ _ h => h) (Or.inl ⟨by rfl, ?_⟩) (by assumption) ?_
                  rotate_left
                  · intro w hSw; (try dsimp only at hSw); go_simp; (try with_reducible rfl)
                  try simp only [Act.put, List.setIfInBounds_toArray, List.set_cons_zero, List.set_cons_succ]
                  refine wpAnyH_take (i := 13) (oi := ⟨some 106, _, _, _, _, _⟩) (v := ?_) rfl (by kernel_rfl) (by kernel_rfl) (by kernel_rfl) (fun _ _ _ h => h) (Or.inl ⟨by rfl, ?_⟩) (by assumption) ?_
                  rotate_left
                  · intro w hSw; (try dsimp only at hSw); go_simp; (try with_reducible rfl)
                  try simp only [Act.put, List.setIfInBounds_toArray, List.set_cons_zero, List.set_cons_succ]
                  refine wpAnyH_take (i := 14) (oi := ⟨some 107, _, _, _, _, _⟩) (v := ?_) rfl (by kernel_rfl) (by kernel_rfl) (by kernel_rfl) (fun _ _ _ h => h) (Or.inl ⟨by rfl, ?_⟩) (by assumption) ?_
                  rotate_left
                  · intro w hSw; (try dsimp only at hSw); go_simp; (try with_reducible rfl)
                  try simp only [Act.put, List.setIfInBounds_toArray, List.set_cons_zero, List.set_cons_succ]
                  refine wpAnyH_take (i := 15) (oi := ⟨some 108, _, _, _, _, _⟩) (v := ?_) rfl (by kernel_rfl) (by kernel_rfl) (by kernel_rfl) (fun _ _ _ h => h) (Or.inl ⟨by rfl, ?_⟩) (by assumption) ?_
                  rotate_left
                  · intro w hSw; (try dsimp only at hSw); go_simp; (try with_reducible rfl)
                  try simp only [Act.put, List.setIfInBounds_toArray, List.set_cons_zero, List.set_cons_succ]
                  refine wpAnyH_take (i := 16) (oi := ⟨some 109, _, _, _, _, _⟩) (v := ?_) rfl (by kernel_rfl) (by kernel_rfl) (by kernel_rfl) (fun _ _ _ h => h) (Or.inl ⟨by rfl, ?_⟩) (by assumption) ?_
                  rotate_left
                  · intro w hSw; (try dsimp only at hSw); go_simp; (try with_reducible rfl)
                  try simp only [Act.put, List.setIfInBounds_toArray, List.set_cons_zero, List.set_cons_succ]
                  refine wpAnyH_take (i := 17) (oi := ⟨some 110, _, _, _, _, _⟩) (v := ?_) rfl (by kernel_rfl) (by kernel_rfl) (by kernel_rfl) (fun _ _ _ h => h) (Or.inl ⟨by rfl, ?_⟩) (by assumption) ?_
                  rotate_left
                  · intro w hSw; (try dsimp only at hSw); go_simp; (try with_reducible rfl)
                  try simp only [Act.put, List.setIfInBounds_toArray, List.set_cons_zero, List.set_cons_succ]
                  refine wpAnyH_take (i := 18) (oi := ⟨some 111, _, _, _, _, _⟩) (v := ?_) rfl (by kernel_rfl) (by kernel_rfl) (by kernel_rfl) (fun _ _ _ h => h) (Or.inl ⟨by rfl, ?_⟩) (by assumption) ?_
                  rotate_left
                  · intro w hSw; (try dsimp only at hSw); go_simp; (try with_reducible rfl)
                  try simp only [Act.put, List.setIfInBounds_toArray, List.set_cons_zero, List.set_cons_succ]
                  refine wpAnyH_take (i := 19) (oi := ⟨some 112, _, _, _, _, _⟩) (v := ?_) rfl (by kernel_rfl) (by kernel_rfl) (by kernel_rfl) (fun _ _ _ h => h) (Or.inl ⟨by rfl, ?_⟩) (by assumption) ?_
                  rotate_left
                  · intro w hSw; (try dsimp only at hSw); go_simp; (try with_reducible rfl)
                  try simp only [Act.put, List.setIfInBounds_toArray, List.set_cons_zero, List.set_cons_succ]
                  refine wpAnyH_take (i := 20) (oi := ⟨some 113, _, _, _, _, _⟩) (v := ?_) rfl (by kernel_rfl) (by kernel_rfl) (by kernel_rfl) (fun _ _ _ h => h) (Or.inl ⟨by rfl, ?_⟩) (by assumption) ?_
                  rotate_left
                  · intro w hSw; (try dsimp only at hSw); go_simp; (try with_reducible rfl)
                  try simp only [Act.put, List.setIfInBounds_toArray, List.set_cons_zero, List.set_cons_succ]
                  refine wpAnyH_take (i := 22) (oi := ⟨some 115, _, _, _, _, _⟩) (v := ?_) rfl (by kernel_rfl) (by kernel_rfl) (by kernel_rfl) (fun _ _ _ h => h) (Or.inl ⟨by rfl, ?_⟩) (by assumption) ?_
                  rotate_left
                  · intro w hSw; (try dsimp only at hSw); go_simp; (try with_reducible rfl)
                  try simp only [Act.put, List.setIfInBounds_toArray, List.set_cons_zero, List.set_cons_succ]
                  refine wpAnyH_take (i := 23) (oi := ⟨some 116, _, _, _, _, _⟩) (v := ?_) rfl (by kernel_rfl) (by kernel_rfl) (by kernel_rfl) (fun _ _ _ h => h) (Or.inl ⟨by rfl, ?_⟩) (by assumption) ?_
                  rotate_left
                  · intro w hSw; (try dsimp only at hSw); go_simp; (try with_reducible rfl)
                  try simp only [Act.put, List.setIfInBounds_toArray, List.set_cons_zero, List.set_cons_succ]
                  refine wpAnyH_take (i := 24) (oi := ⟨some 117, _, _, _, _, _⟩) (v := ?_) rfl (by kernel_rfl) (by kernel_rfl) (by kernel_rfl) (fun _ _ _ h => h) (Or.inl ⟨by rfl, ?_⟩) (by assumption) ?_
                  rotate_left
                  · intro w hSw; (try dsimp only at hSw); go_simp; (try with_reducible rfl)
                  try simp only [Act.put, List.setIfInBounds_toArray, List.set_cons_zero, List.set_cons_succ]
                  refine wpAnyH_take (i := 26) (oi := ⟨some 119, _, _, _, _, _⟩) (v := ?_) rfl (by kernel_rfl) (by kernel_rfl) (by kernel_rfl) (fun _ _ _ h => h) (Or.inl ⟨by rfl, ?_⟩) (by assumption) ?_
                  rotate_left
                  · intro w hSw; (try dsimp only at hSw); go_simp; (try with_reducible rfl)
                  try simp only [Act.put, List.setIfInBounds_toArray, List.set_cons_zero, List.set_cons_succ]
                  refine wpAnyH_take (i := 27) (oi := ⟨some 120, _, _, _, _, _⟩) (v := ?_) rfl (by kernel_rfl) (by kernel_rfl) (by kernel_rfl) (fun _ _ _ h => h) (Or.inl ⟨by rfl, ?_⟩) (by assumption) ?_
                  rotate_left
                  · intro w hSw; (try dsimp only at hSw); go_simp; (try with_reducible rfl)
                  try simp only [Act.put, List.setIfInBounds_toArray, List.set_cons_zero, List.set_cons_succ]
                  refine wpAnyH_take (i := 28) (oi := ⟨some 121, _, _, _, _, _⟩) (v := ?_) rfl (by kernel_rfl) (by kernel_rfl) (by kernel_rfl) (fun _ _ _ h => h) (Or.inl ⟨by rfl, ?_⟩) (by assumption) ?_
                  rotate_left
                  · intro w hSw; (try dsimp only at hSw); go_simp; (try with_reducible rfl)
                  try simp only [Act.put, List.setIfInBounds_toArray, List.set_cons_zero, List.set_cons_succ]
                  refine wpAnyH_ready (rs := [3]) (by kernel_rfl) (by simp) ?_
                  refine AllReadyH.cons (o := ⟨some 96, _, _, _, _, _⟩) rfl (fun K hK => ?_) (AllReadyH.nil)
                  go_simp
                  go_at_call 69
                  refine (H6.out _ _).mono ?_
                  rintro e w' ⟨rfl, rfl⟩
                  go_wp2_with fail
                  refine hK.out _ _ S0 (fun _ => ?_)
                  clear hK K
                  try simp only [Act.put, List.setIfInBounds_toArray, List.set_cons_zero, List.set_cons_succ]
                  refine wpAnyH_ready (rs := [5]) (by kernel_rfl) (by simp) ?_
                  refine AllReadyH.cons (o := ⟨some 98, _, _, _, _, _⟩) rfl (fun K hK => ?_) (AllReadyH.nil)
                  go_simp
                  go_at_call 69
                  refine (H11.out _ _).mono ?_
                  rintro e w' ⟨rfl, rfl⟩
                  go_wp2_with fail
                  refine hK.out _ _ S0 (fun _ => ?_)
                  clear hK K
                  try simp only [Act.put, List.setIfInBounds_toArray, List.set_cons_zero, List.set_cons_succ]
                  refine wpAnyH_take (i := 6) (oi := ⟨some 99, _, _, _, _, _⟩) (v := ?_) rfl (by kernel_rfl) (by kernel_rfl) (by kernel_rfl) (fun _ _ _ h => h) (Or.inl ⟨by rfl, ?_⟩) (by assumption) ?_
                  rotate_left
                  · intro w hSw; (try dsimp only at hSw); go_simp; (try with_reducible rfl)
                  try simp only [Act.put, List.setIfInBounds_toArray, List.set_cons_zero, List.set_cons_succ]
                  refine wpAnyH_ready (rs := [8]) (by kernel_rfl) (by simp) ?_
                  refine AllReadyH.cons (o := ⟨some 101, _, _, _, _, _⟩) rfl (fun K hK => ?_) (AllReadyH.nil)
                  go_simp
                  go_at_call 69
                  refine (H25.out _ _).mono ?_
                  rintro e w' ⟨rfl, rfl⟩
                  go_wp2_with fail
                  refine hK.out _ _ S0 (fun _ => ?_)
                  clear hK K
                  try simp only [Act.put, List.setIfInBounds_toArray, List.set_cons_zero, List.set_cons_succ]
                  refine wpAnyH_take (i := 9) (oi := ⟨some 102, _, _, _, _, _⟩) (v := ?_) rfl (by kernel_rfl) (by kernel_rfl) (by kernel_rfl) (fun _ _ _ h => h) (Or.inl ⟨by rfl, ?_⟩) (by assumption) ?_
                  rotate_left
                  · intro w hSw; (try dsimp only at hSw); go_simp; (try with_reducible rfl)
                  try simp only [Act.put, List.setIfInBounds_toArray, List.set_cons_zero, List.set_cons_succ]
                  refine wpAnyH_take (i := 10) (oi := ⟨some 103, _, _, _, _, _⟩) (v := ?_) rfl (by kernel_rfl) (by kernel_rfl) (by kernel_rfl) (fun _ _ _ h => h) (Or.inl ⟨by rfl, ?_⟩) (by assumption) ?_
                  rotate_left
                  · intro w hSw; (try dsimp only at hSw); go_simp; (try with_reducible rfl)
                  try simp only [Act.put, List.setIfInBounds_toArray, List.set_cons_zero, List.set_cons_succ]
                  refine wpAnyH_take (i := 21) (oi := ⟨some 114, _, _, _, _, _⟩) (v := ?_) rfl (by kernel_rfl) (by kernel_rfl) (by kernel_rfl) (fun _ _ _ h => h) (Or.inl ⟨by rfl, ?_⟩) (by assumption) ?_
                  rotate_left
                  · intro w hSw; (try dsimp only at hSw); go_simp; (try with_reducible rfl)
                  try simp only [Act.put, List.setIfInBounds_toArray, List.set_cons_zero, List.set_cons_succ]
                  refine wpAnyH_take (i := 25) (oi := ⟨some 118, _, _, _, _, _⟩) (v := ?_) rfl (by kernel_rfl) (by kernel_rfl) (by kernel_rfl) (fun _ _ _ h => h) (Or.inl ⟨by rfl, ?_⟩) (by assumption) ?_
                  rotate_left
                  · intro w hSw; (try dsimp only at hSw); go_simp; (try with_reducible rfl)
                  try simp only [Act.put, List.setIfInBounds_toArray, List.set_cons_zero, List.set_cons_succ]
                  refine wpAnyH_take (i := 29) (oi := ⟨some 122, _, _, _, _, _⟩) (v := ?_) rfl (by kernel_rfl) (by kernel_rfl) (by kernel_rfl) (fun _ _ _ h => h) (Or.inl ⟨by rfl, ?_⟩) (by assumption) ?_
                  rotate_left
                  · intro w hSw; (try dsimp only at hSw); go_simp; (try with_reducible rfl)
                  try simp only [Act.put, List.setIfInBounds_toArray, List.set_cons_zero, List.set_cons_succ]
                  refine wpAnyH_take (i := 30) (oi := ⟨some 17, _, _, _, _, _⟩) (v := ?_) rfl (by kernel_rfl) (by kernel_rfl) (by kernel_rfl) (fun _ _ _ h => h) (Or.inl ⟨by rfl, ?_⟩) (by assumption) ?_
                  rotate_left
                  · intro w hSw; (try dsimp only at hSw); go_simp; (try with_reducible rfl)
                  try simp only [Act.put, List.setIfInBounds_toArray, List.set_cons_zero, List.set_cons_succ]
                  refine wpAnyH_done (by kernel_rfl) ?_ _
                  go_wp2_with fail
                  go_meet
                  exact ⟨by rw [HT1.out, t1, ← HNM.out], rfl⟩
                case rest =>
                  obtain ⟨rfl, rfl⟩ := hcut
                  clear HNM
                  go_wp2_with fail
                  go_cut [18] (fun s18 wx => s18 = .int .u32 T2 ∧ wx = wr.drew.drew.drew)
                  case first =>
                    refine wp_region_held_drew (S := fun w' => w'.cell? ⟨pS, 1, none⟩ = some (.int .u32 xb) ∧ w'.cell? ⟨pS, 2, none⟩ = some (.int .u32 xc)) (by kernel_rfl) ⟨qb, qc⟩ (fun _ => ?_)
                    have S0 : wr.drew.drew.drew.cell? ⟨pS, 1, none⟩ = some (.int .u32 xb) ∧ wr.drew.drew.drew.cell? ⟨pS, 2, none⟩ = some (.int .u32 xc) := ⟨qb, qc⟩
                    clear qa qb qc qd qe qf qg qh ck cw bS bW bH bK bR gi HT1 HKK HWW HS2
                    generalize wr.drew.drew.drew = v0 at *
                    refine wpAnyH_take (i := 0) (oi := ⟨some 123, _, _, _, _, _⟩) (v := ?_) rfl (by kernel_rfl) (by kernel_rfl) (by kernel_rfl) (fun _ _ _ h => h) (Or.inl ⟨by rfl, ?_⟩) (by assumption) ?_
                    rotate_left
                    · intro w hSw; (try dsimp only at hSw); go_simp; (try with_reducible rfl)
                    try simp only [Act.put, List.setIfInBounds_toArray, List.set_cons_zero, List.set_cons_succ]
                    refine wpAnyH_take (i := 2) (oi := ⟨some 125, _, _, _, _, _⟩) (v := ?_) rfl (by kernel_rfl) (by kernel_rfl) (by kernel_rfl) (fun _ _ _ h => h) (Or.inl ⟨by rfl, ?_⟩) (by assumption) ?_
                    rotate_left
                    · intro w hSw; (try dsimp only at hSw); go_simp; (try with_reducible rfl)
                    try simp only [Act.put, List.setIfInBounds_toArray, List.set_cons_zero, List.set_cons_succ]
                    refine wpAnyH_take (i := 5) (oi := ⟨some 128, _, _, _, _, _⟩) (v := ?_) rfl (by kernel_rfl) (by kernel_rfl) (by kernel_rfl) (fun _ _ _ h => h) (Or.inl ⟨by rfl, ?_⟩) (by assumption) ?_
                    rotate_left
                    · intro w hSw; (try dsimp only at hSw); go_simp; (try with_reducible rfl)
                    try simp only [Act.put, List.setIfInBounds_toArray, List.set_cons_zero, List.set_cons_succ]
                    refine wpAnyH_take (i := 8) (oi := ⟨some 131, _, _, _, _, _⟩) (v := ?_) rfl (by kernel_rfl) (by kernel_rfl) (by kernel_rfl) (fun _ _ _ h => h) (Or.inl ⟨by rfl, ?_⟩) (by assumption) ?_
                    rotate_left
                    · intro w hSw; (try dsimp only at hSw); go_simp; (try with_reducible rfl)
                    try simp only [Act.put, List.setIfInBounds_toArray, List.set_cons_zero, List.set_cons_succ]
                    refine wpAnyH_take (i := 9) (oi := ⟨some 132, _, _, _, _, _⟩) (v := ?_) rfl (by kernel_rfl) (by kernel_rfl) (by kernel_rfl) (fun _ _ _ h => h) (Or.inl ⟨by rfl, ?_⟩) (by assumption) ?_
                    rotate_left
                    · intro w hSw; (try dsimp only at hSw); go_simp; (try with_reducible rfl)
                    try simp only [Act.put, List.setIfInBounds_toArray, List.set_cons_zero, List.set_cons_succ]
                    refine wpAnyH_take (i := 10) (oi := ⟨some 133, _, _, _, _, _⟩) (v := ?_) rfl (by kernel_rfl) (by kernel_rfl) (by kernel_rfl) (fun _ _ _ h => h) (Or.inl ⟨by rfl, ?_⟩) (by assumption) ?_
                    rotate_left
                    · intro w hSw; (try dsimp only at hSw); go_simp; (try with_reducible rfl)
                    try simp only [Act.put, List.setIfInBounds_toArray, List.set_cons_zero, List.set_cons_succ]
                    refine wpAnyH_take (i := 11) (oi := ⟨some 134, _, _, _, _, _⟩) (v := ?_) rfl (by kernel_rfl) (by kernel_rfl) (by kernel_rfl) (fun _ _ _ h => h) (Or.inl ⟨by rfl, ?_⟩) (by assumption) ?_
                    rotate_left
                    · intro w hSw; (try dsimp only at hSw); go_simp; (try with_reducible rfl)
                    try simp only [Act.put, List.setIfInBounds_toArray, List.set_cons_zero, List.set_cons_succ]
                    refine wpAnyH_take (i := 12) (oi := ⟨some 135, _, _, _, _, _⟩) (v := ?_) rfl (by kernel_rfl) (by kernel_rfl) (by kernel_rfl) (fun _ _ _ h => h) (Or.inl ⟨by rfl, ?_⟩) (by assumption) ?_
                    rotate_left
                    · intro w hSw; (try dsimp only at hSw); go_simp; (try with_reducible rfl)
                    try simp only [Act.put, List.setIfInBounds_toArray, List.set_cons_zero, List.set_cons_succ]
                    refine wpAnyH_take (i := 13) (oi := ⟨some 136, _, _, _, _, _⟩) (v := ?_) rfl (by kernel_rfl) (by kernel_rfl) (by kernel_rfl) (fun _ _ _ h => h) (Or.inl ⟨by rfl, ?_⟩) (by assumption) ?_
                    rotate_left
                    · intro w hSw; (try dsimp only at hSw); go_simp; (try with_reducible rfl)
                    try simp only [Act.put, List.setIfInBounds_toArray, List.set_cons_zero, List.set_cons_succ]
                    refine wpAnyH_take (i := 14) (oi := ⟨some 137, _, _, _, _, _⟩) (v := ?_) rfl (by kernel_rfl) (by kernel_rfl) (by kernel_rfl) (fun _ _ _ h => h) (Or.inl ⟨by rfl, ?_⟩) (by assumption) ?_
                    rotate_left
                    · intro w hSw; (try dsimp only at hSw); go_simp; (try with_reducible rfl)
                    try simp only [Act.put, List.setIfInBounds_toArray, List.set_cons_zero, List.set_cons_succ]
                    refine wpAnyH_take (i := 15) (oi := ⟨some 138, _, _, _, _, _⟩) (v := ?_) rfl (by kernel_rfl) (by kernel_rfl) (by kernel_rfl) (fun _ _ _ h => h) (Or.inl ⟨by rfl, ?_⟩) (by assumption) ?_
                    rotate_left
                    · intro w hSw; (try dsimp only at hSw); go_simp; (try with_reducible rfl)
                    try simp only [Act.put, List.setIfInBounds_toArray, List.set_cons_zero, List.set_cons_succ]
                    refine wpAnyH_take (i := 16) (oi := ⟨some 139, _, _, _, _, _⟩) (v := ?_) rfl (by kernel_rfl) (by kernel_rfl) (by kernel_rfl) (fun _ _ _ h => h) (Or.inl ⟨by rfl, ?_⟩) (by assumption) ?_
                    rotate_left
                    · intro w hSw; (try dsimp only at hSw); go_simp; (try with_reducible rfl)
                    try simp only [Act.put, List.setIfInBounds_toArray, List.set_cons_zero, List.set_cons_succ]
                    refine wpAnyH_take (i := 17) (oi := ⟨some 140, _, _, _, _, _⟩) (v := ?_) rfl (by kernel_rfl) (by kernel_rfl) (by kernel_rfl) (fun _ _ _ h => h) (Or.inl ⟨by rfl, ?_⟩) (by assumption) ?_
                    rotate_left
                    · intro w hSw; (try dsimp only at hSw); go_simp; (try with_reducible rfl)
                    try simp only [Act.put, List.setIfInBounds_toArray, List.set_cons_zero, List.set_cons_succ]
                    refine wpAnyH_take (i := 18) (oi := ⟨some 141, _, _, _, _, _⟩) (v := ?_) rfl (by kernel_rfl) (by kernel_rfl) (by kernel_rfl) (fun _ _ _ h => h) (Or.inl ⟨by rfl, ?_⟩) (by assumption) ?_
                    rotate_left
                    · intro w hSw; (try dsimp only at hSw); go_simp; (try with_reducible rfl)
                    try simp only [Act.put, List.setIfInBounds_toArray, List.set_cons_zero, List.set_cons_succ]
                    refine wpAnyH_take (i := 19) (oi := ⟨some 142, _, _, _, _, _⟩) (v := ?_) rfl (by kernel_rfl) (by kernel_rfl) (by kernel_rfl) (fun _ _ _ h => h) (Or.inl ⟨by rfl, ?_⟩) (by assumption) ?_
                    rotate_left
                    · intro w hSw; (try dsimp only at hSw); go_simp; (try with_reducible rfl)
                    try simp only [Act.put, List.setIfInBounds_toArray, List.set_cons_zero, List.set_cons_succ]
                    refine wpAnyH_take (i := 20) (oi := ⟨some 143, _, _, _, _, _⟩) (v := ?_) rfl (by kernel_rfl) (by kernel_rfl) (by kernel_rfl) (fun _ _ _ h => h) (Or.inl ⟨by rfl, ?_⟩) (by assumption) ?_
                    rotate_left
                    · intro w hSw; (try dsimp only at hSw); go_simp; (try with_reducible rfl)
                    try simp only [Act.put, List.setIfInBounds_toArray, List.set_cons_zero, List.set_cons_succ]
                    refine wpAnyH_take (i := 21) (oi := ⟨some 144, _, _, _, _, _⟩) (v := ?_) rfl (by kernel_rfl) (by kernel_rfl) (by kernel_rfl) (fun _ _ _ h => h) (Or.inl ⟨by rfl, ?_⟩) (by assumption) ?_
                    rotate_left
                    · intro w hSw; (try dsimp only at hSw); go_simp; (try with_reducible rfl)
                    try simp only [Act.put, List.setIfInBounds_toArray, List.set_cons_zero, List.set_cons_succ]
                    refine wpAnyH_take (i := 22) (oi := ⟨some 145, _, _, _, _, _⟩) (v := ?_) rfl (by kernel_rfl) (by kernel_rfl) (by kernel_rfl) (fun _ _ _ h => h) (Or.inl ⟨by rfl, ?_⟩) (by assumption) ?_
                    rotate_left
                    · intro w hSw; (try dsimp only at hSw); go_simp; (try with_reducible rfl)
                    try simp only [Act.put, List.setIfInBounds_toArray, List.set_cons_zero, List.set_cons_succ]
                    refine wpAnyH_ready (rs := [1]) (by kernel_rfl) (by simp) ?_
                    refine AllReadyH.cons (o := ⟨some 124, _, _, _, _, _⟩) rfl (fun K hK => ?_) (AllReadyH.nil)
                    go_simp
                    go_at_call 69
                    refine (H2.out _ _).mono ?_
                    rintro e w' ⟨rfl, rfl⟩
                    go_wp2_with fail
                    refine hK.out _ _ S0 (fun _ => ?_)
                    clear hK K
                    try simp only [Act.put, List.setIfInBounds_toArray, List.set_cons_zero, List.set_cons_succ]
                    refine wpAnyH_ready (rs := [3]) (by kernel_rfl) (by simp) ?_
                    refine AllReadyH.cons (o := ⟨some 126, _, _, _, _, _⟩) rfl (fun K hK => ?_) (AllReadyH.nil)
                    go_simp
                    go_at_call 69
                    refine (H13.out _ _).mono ?_
                    rintro e w' ⟨rfl, rfl⟩
                    go_wp2_with fail
                    refine hK.out _ _ S0 (fun _ => ?_)
                    clear hK K
                    try simp only [Act.put, List.setIfInBounds_toArray, List.set_cons_zero, List.set_cons_succ]
                    refine wpAnyH_take (i := 4) (oi := ⟨some 127, _, _, _, _, _⟩) (v := ?_) rfl (by kernel_rfl) (by kernel_rfl) (by kernel_rfl) (fun _ _ _ h => h) (Or.inl ⟨by rfl, ?_⟩) (by assumption) ?_
                    rotate_left
                    · intro w hSw; (try dsimp only at hSw); go_simp; (try with_reducible rfl)
                    try simp only [Act.put, List.setIfInBounds_toArray, List.set_cons_zero, List.set_cons_succ]
                    refine wpAnyH_ready (rs := [6]) (by kernel_rfl) (by simp) ?_
                    refine AllReadyH.cons (o := ⟨some 129, _, _, _, _, _⟩) rfl (fun K hK => ?_) (AllReadyH.nil)
                    go_simp
                    go_at_call 69
                    refine (H22.out _ _).mono ?_
                    rintro e w' ⟨rfl, rfl⟩
                    go_wp2_with fail
                    refine hK.out _ _ S0 (fun _ => ?_)
                    clear hK K
                    try simp only [Act.put, List.setIfInBounds_toArray, List.set_cons_zero, List.set_cons_succ]
                    refine wpAnyH_take (i := 7) (oi := ⟨some 130, _, _, _, _, _⟩) (v := ?_) rfl (by kernel_rfl) (by kernel_rfl) (by kernel_rfl) (fun _ _ _ h => h) (Or.inl ⟨by rfl, ?_⟩) (by assumption) ?_
                    rotate_left
                    · intro w hSw; (try dsimp only at hSw); go_simp; (try with_reducible rfl)
                    try simp only [Act.put, List.setIfInBounds_toArray, List.set_cons_zero, List.set_cons_succ]
                    refine wpAnyH_take (i := 23) (oi := ⟨some 146, _, _, _, _, _⟩) (v := ?_) rfl (by kernel_rfl) (by kernel_rfl) (by kernel_rfl) (fun _ _ _ h => h) (Or.inl ⟨by rfl, ?_⟩) (by assumption) ?_
                    rotate_left
                    · intro w hSw; (try dsimp only at hSw); go_simp; (try with_reducible rfl)
                    try simp only [Act.put, List.setIfInBounds_toArray, List.set_cons_zero, List.set_cons_succ]
                    refine wpAnyH_take (i := 24) (oi := ⟨some 18, _, _, _, _, _⟩) (v := ?_) rfl (by kernel_rfl) (by kernel_rfl) (by kernel_rfl) (fun _ _ _ h => h) (Or.inl ⟨by rfl, ?_⟩) (by assumption) ?_
                    rotate_left
                    · intro w hSw; (try dsimp only at hSw); go_simp; (try with_reducible rfl)
                    try simp only [Act.put, List.setIfInBounds_toArray, List.set_cons_zero, List.set_cons_succ]
                    refine wpAnyH_done (by kernel_rfl) ?_ _
                    go_wp2_with fail
                    go_meet
                    exact ⟨by rw [HT2.out], rfl⟩
                  case rest =>
                    obtain ⟨rfl, rfl⟩ := hcut
                    clear ck cw H2 H6 H11 H13 H22 H25
                    have h25 := built25 ((T1 + T2) % 4294967296) xa xb xc ((xd + T1) % 4294967296) xe xf xg
                    have H25 := Lib.hid h25
                    have hrS : wr.drew.drew.drew.heap[pS]? = some (.cells (stV ⟨xa, xb, xc, xd, xe, xf, xg, xh⟩).toArray 25 (0, 0)) := bS
                    have HRS := Lib.hid hrS
                    clear h25 hrS
                    go_upto_region 21 with fail
                    refine wp_region_list ?_
                    refine wpList_moveTo rfl (.tmp 17) rfl (some 147) rfl (.int .u32 T1) rfl ?_
                    try simp only [Act.put, List.setIfInBounds_toArray, List.set_cons_zero, List.set_cons_succ]
                    refine wpList_moveTo rfl (.tmp 18) rfl (some 148) rfl (.int .u32 T2) rfl ?_
                    try simp only [Act.put, List.setIfInBounds_toArray, List.set_cons_zero, List.set_cons_succ]
                    refine wpList_runTo rfl (some 149) rfl (.int .u32 ((T1 + T2) % 4294967296)) (by go_simp; try rfl) ?_
                    try simp only [Act.put, List.setIfInBounds_toArray, List.set_cons_zero, List.set_cons_succ]
                    refine wpList_runTo rfl (some 150) rfl (.pointer (some ⟨pS, 0, none⟩)) (by go_simp; try rfl) ?_
                    try simp only [Act.put, List.setIfInBounds_toArray, List.set_cons_zero, List.set_cons_succ]
                    refine wpList_runTo rfl (some 151) rfl (.int .u32 xa) (by go_simp; try rfl) ?_
                    try simp only [Act.put, List.setIfInBounds_toArray, List.set_cons_zero, List.set_cons_succ]
                    refine wpList_runTo rfl (some 152) rfl (.pointer (some ⟨pS, 1, none⟩)) (by go_simp; try rfl) ?_
                    try simp only [Act.put, List.setIfInBounds_toArray, List.set_cons_zero, List.set_cons_succ]
                    refine wpList_runTo rfl (some 153) rfl (.int .u32 xb) (by go_simp; try rfl) ?_
                    try simp only [Act.put, List.setIfInBounds_toArray, List.set_cons_zero, List.set_cons_succ]
                    refine wpList_runTo rfl (some 154) rfl (.pointer (some ⟨pS, 2, none⟩)) (by go_simp; try rfl) ?_
                    try simp only [Act.put, List.setIfInBounds_toArray, List.set_cons_zero, List.set_cons_succ]
                    refine wpList_runTo rfl (some 155) rfl (.int .u32 xc) (by go_simp; try rfl) ?_
                    try simp only [Act.put, List.setIfInBounds_toArray, List.set_cons_zero, List.set_cons_succ]
                    refine wpList_runTo rfl (some 156) rfl (.pointer (some ⟨pS, 3, none⟩)) (by go_simp; try rfl) ?_
                    try simp only [Act.put, List.setIfInBounds_toArray, List.set_cons_zero, List.set_cons_succ]
                    refine wpList_runTo rfl (some 157) rfl (.int .u32 xd) (by go_simp; try rfl) ?_
                    try simp only [Act.put, List.setIfInBounds_toArray, List.set_cons_zero, List.set_cons_succ]
                    refine wpList_moveTo rfl (.tmp 17) rfl (some 158) rfl (.int .u32 T1) rfl ?_
                    try simp only [Act.put, List.setIfInBounds_toArray, List.set_cons_zero, List.set_cons_succ]
                    refine wpList_runTo rfl (some 159) rfl (.int .u32 ((xd + T1) % 4294967296)) (by go_simp; try rfl) ?_
                    try simp only [Act.put, List.setIfInBounds_toArray, List.set_cons_zero, List.set_cons_succ]
                    refine wpList_runTo rfl (some 160) rfl (.pointer (some ⟨pS, 4, none⟩)) (by go_simp; try rfl) ?_
                    try simp only [Act.put, List.setIfInBounds_toArray, List.set_cons_zero, List.set_cons_succ]
                    refine wpList_runTo rfl (some 161) rfl (.int .u32 xe) (by go_simp; try rfl) ?_
                    try simp only [Act.put, List.setIfInBounds_toArray, List.set_cons_zero, List.set_cons_succ]
                    refine wpList_runTo rfl (some 162) rfl (.pointer (some ⟨pS, 5, none⟩)) (by go_simp; try rfl) ?_
                    try simp only [Act.put, List.setIfInBounds_toArray, List.set_cons_zero, List.set_cons_succ]
                    refine wpList_runTo rfl (some 163) rfl (.int .u32 xf) (by go_simp; try rfl) ?_
                    try simp only [Act.put, List.setIfInBounds_toArray, List.set_cons_zero, List.set_cons_succ]
                    refine wpList_runTo rfl (some 164) rfl (.pointer (some ⟨pS, 6, none⟩)) (by go_simp; try rfl) ?_
                    try simp only [Act.put, List.setIfInBounds_toArray, List.set_cons_zero, List.set_cons_succ]
                    refine wpList_runTo rfl (some 165) rfl (.int .u32 xg) (by go_simp; try rfl) ?_
                    try simp only [Act.put, List.setIfInBounds_toArray, List.set_cons_zero, List.set_cons_succ]
                    refine wpList_buildTo rfl 25 _ rfl (some 166) rfl #[.int .u32 ((T1 + T2) % 4294967296), .int .u32 xa, .int .u32 xb, .int .u32 xc, .int .u32 ((xd + T1) % 4294967296), .int .u32 xe, .int .u32 xf, .int .u32 xg] (by simp only [List.map_toArray, List.map_cons, List.map_nil]; exact H25.out) ?_
                    try simp only [Act.put, List.setIfInBounds_toArray, List.set_cons_zero, List.set_cons_succ]
                    refine wpList_store_row rfl 25 _ _ rfl pS #[.int .u32 ((T1 + T2) % 4294967296), .int .u32 xa, .int .u32 xb, .int .u32 xc, .int .u32 ((xd + T1) % 4294967296), .int .u32 xe, .int .u32 xf, .int .u32 xg] rfl rfl 25 _ HRS.out (HI25.out _ rfl) (by rfl) (row8_facts [(T1 + T2) % 4294967296, xa, xb, xc, (xd + T1) % 4294967296, xe, xf, xg] rfl).2 ?_
                    try simp only [Act.put]
                    refine wpList_nil ?_
                    clear qa qb qc qd qe qf qg qh
                    have hst := rounds_step HS2.out HKK.out HWW.out (step_of2 HT1.out HT2.out)
                    have bSn : BlkL (wr.drew.drew.drew.setRow pS #[.int .u32 ((T1 + T2) % 4294967296), .int .u32 xa, .int .u32 xb, .int .u32 xc, .int .u32 ((xd + T1) % 4294967296), .int .u32 xe, .int .u32 xf, .int .u32 xg]) pS (stV ⟨(T1 + T2) % 4294967296, xa, xb, xc, (xd + T1) % 4294967296, xe, xf, xg⟩) 25 := setRow_heap _ _ _ _ _ _ HRS.out
                    have hc : Chg (some pS) wr (wr.drew.drew.drew.setRow pS #[.int .u32 ((T1 + T2) % 4294967296), .int .u32 xa, .int .u32 xb, .int .u32 xc, .int .u32 ((xd + T1) % 4294967296), .int .u32 xe, .int .u32 xf, .int .u32 xg]) := (Chg.refl _ _).drew.drew.drew.trans (chg_setRow _ _ _)
                    have bWn := Blk.chg bW hc (by simp; omega)
                    have bHn := Blk.chg bH hc (by simp; omega)
                    have bKn := Blk.chg bK hc (by simp; omega)
                    have bRn := Blk.chg bR hc (by simp; omega)
                    have gn : Chg none w _ := Chg.own (b := pS) gi hc hpSw
                    have HSN := Lib.hid hst
                    clear hst hc
                    go_wp2_with fail
                    go_roundw
                    case rel => exact ⟨t + 1, _, by omega, by go_num, HSN, bSn, bWn, bHn, bKn, bRn, gn⟩
                    case measure => first | (simp [intOf]; done) | (simp [intOf]; omega)
          · as_aux_lemma =>
              have ht64 : t = 64 := by omega
              have hd64 : decide ((t : Int) < 64) = false := by simp; omega
              rw [ht64] at HS2
              clear ht64
              go_wp2_with fail
              go_meet
              exact ⟨s, HS2, bS, bH, bR, gi⟩
      case rest =>
        obtain ⟨s, HS2, bS, bH, bR, gi⟩ := hcut
        clear bS2 bW2 bH2 bK2 bR2 g02
        have hx := HS2.out
        have hcmp := mix_compress ws bs hw s (by rw [hx, HSW.out])
        rw [stV_stL] at bS
        obtain ⟨X, hX⟩ : ∃ X, X = stL s := ⟨_, rfl⟩
        have hXl : X.length = 8 := by rw [hX]; rfl
        rw [← hX] at bS hcmp
        have HCMP := Lib.hid hcmp
        have hm0 := mixW_zero X ws hXl
        rw [← hm0] at bS
        have HWL := Lib.hid hw
        clear hx hcmp hX HS2 hXl hm0 H2 H6 H11 H13 H22 H25 HSW HSL HE
        go_wp2_with fail
        go_loopw [19] (fun s19 wq => ∃ j : Nat, j ≤ 8 ∧ s19 = .int .i64 j ∧ BlkL wq pS ((mixW X ws j).map u32v) 25 ∧ BlkL wq pH (ws.map u32v) 25 ∧ BlkL wq pR (noW8) 25 ∧ Chg none w wq) (fun s19 _ => 8 - (intOf s19).toNat)
        case atStart => exact ⟨0, by omega, rfl, bS, bH, bR, gi⟩
        case round =>
          obtain ⟨j, hj, rfl, bSj, bHj, bRj, gj⟩ := hrel
          clear bS bH bR gi
          by_cases hlt8 : j < 8
          · have cj : wr.cell? ⟨pS, j, none⟩ = some (.int .u32 (X.getD j 0)) := by rw [BlkL.cell bSj, List.getElem?_map, mixW_at _ _ _ hlt8]; rfl
            have ch : wr.cell? ⟨pH, j, none⟩ = some (.int .u32 (ws.getD j 0)) := by rw [BlkL.cell bHj]; exact u32_at ws j (by rw [HWL.out]; exact hlt8)
            have hfz := Blk.frozen bSj j
            have hset := BlkL.set bSj j (u32v ((X.getD j 0 + ws.getD j 0) % 4294967296))
            rw [← List.map_set, mixW_set _ _ _ hlt8] at hset
            have hHs := Blk.setOther bHj ⟨pS, j, none⟩ (u32v ((X.getD j 0 + ws.getD j 0) % 4294967296)) (by show pH ≠ pS; omega)
            have hRs := Blk.setOther bRj ⟨pS, j, none⟩ (u32v ((X.getD j 0 + ws.getD j 0) % 4294967296)) (by show pR ≠ pS; omega)
            have hgs := gj.setNew ⟨pS, j, none⟩ hpSw (.int .u32 ((X.getD j 0 + ws.getD j 0) % 4294967296))
            have hbz := Blk.lt bSj
            generalize X.getD j 0 = oj at *
            generalize ws.getD j 0 = xj at *
            have j0 : (0 : Int) ≤ (j : Int) := by omega
            have j8 : (j : Int) < 8 := by omega
            have HA := Lib.hid hset
            have HB := Lib.hid hHs
            have HC := Lib.hid hRs
            have HD := Lib.hid hgs
            clear hset hHs hRs hgs bSj bHj bRj gj
            go_wp2_with fail
            go_region
            all_goals
              go_wp2_with fail
              go_roundw
              case rel => exact ⟨j + 1, by omega, by go_num, by exact HA.out, by exact HB.out, by exact HC.out, by repeat (first | (with_reducible exact HD.out) | (with_reducible refine Chg.drew ?_))⟩
              case measure => first | (simp [intOf]; done) | (simp [intOf]; omega)
          · have hj8 : j = 8 := by omega
            have hd8 : decide ((j : Int) < 8) = false := by simp; omega
            rw [hj8, ← HCMP.out] at bSj
            clear hj8
            obtain ⟨C, hC⟩ : ∃ C, C = compress ws bs := ⟨_, rfl⟩
            have hCl : C.length = 8 := by rw [hC, HCMP.out, mixW_len]
            rw [← hC] at bSj
            have HCC := Lib.hid hC
            obtain ⟨hc8, hoc8⟩ := row8_facts C hCl
            have HIC := Lib.hid (HI25.out _ hc8)
            have HOC := Lib.hid hoc8
            have HSC := Lib.hid hc8
            have hrS : wr.heap[pS]? = some (.cells (C.map u32v).toArray 25 (0, 0)) := bSj
            have hrR : wr.heap[pR]? = some (.cells noW8.toArray 25 (0, 0)) := bRj
            have HRS := Lib.hid hrS
            have HRR := Lib.hid hrR
            clear hc8 hoc8 hC hCl HCMP hrS hrR
            go_wp2_with (first
              | (refine wpList_load_row rfl 25 _ rfl pS rfl 25 _ (0, 0) _ HRS.out Tryd.underlying25 rfl HIC.out ?_)
              | (refine wpList_store_row rfl 25 _ _ rfl pR (C.map u32v).toArray rfl rfl 25 _ HRR.out HIC.out (by rw [HSC.out]; rfl) HOC.out ?_))
            refine bodyPost_ret (results_cell_row (p := 6) (ty := 25) Tryd.results43 _ _ pR 25 (C.map u32v).toArray (0, 0) _ rfl (setRow_heap _ _ _ _ _ _ HRR.out) Tryd.underlying25 rfl HIC.out) rfl ⟨by rw [HCC.out], ?_⟩
            exact Chg.own (b := pR) gj (chg_setRow _ _ _) (by rw [HPH.out]; omega)

end Go.Proofs.YtdkgecphkppglaaDoor
