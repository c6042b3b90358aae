/-
  Package sha: the sixty-four words of a block.
-/
import Derived.Test.YtglfakglcoffkaaDoorS
import Derived.Laws.Rows
import Derived.Laws.Tables
namespace Go.Proofs.YtglfakglcoffkaaDoor
open Go.RowKit

theorem Blk.newAt {w : World} {n : Nat} (cs : Array Value) (T : TypeId) (h : n = w.heap.size) : Blk (w.alloc (.cells cs T)) n cs T := by
  rw [h]; exact Blk.new w cs T

def u32v (x : Int) : Value := .int .u32 x
def byteAt (bs : List UInt8) (i : Nat) : Int := ((bs.getD i 0).toNat : Int)

def wordAt (bs : List UInt8) (t : Nat) : Int :=
  bits .or .u32 (bits .or .u32 (bits .or .u32 (byteAt bs (4 * t) % 4294967296 * 16777216 % 4294967296) (byteAt bs (4 * t + 1) % 4294967296 * 65536 % 4294967296)) (byteAt bs (4 * t + 2) % 4294967296 * 256 % 4294967296)) (byteAt bs (4 * t + 3) % 4294967296)
def low (x : Int) : Int := bits .xor .u32 (bits .xor .u32 (rotr x 7) (rotr x 18)) (x / 8)
def high (x : Int) : Int := bits .xor .u32 (bits .xor .u32 (rotr x 17) (rotr x 19)) (x / 1024)
def expand (L : List Int) (n : Nat) : Int :=
  (L.getD (n - 16) 0 + low (L.getD (n - 15) 0) + L.getD (n - 7) 0 + high (L.getD (n - 2) 0)) % 4294967296
def schedN (bs : List UInt8) : Nat → List Int
  | 0 => []
  | n + 1 => schedN bs n ++ [if n < 16 then wordAt bs n else expand (schedN bs n) n]
theorem schedN_len (bs : List UInt8) : ∀ n, (schedN bs n).length = n
  | 0 => rfl
  | n + 1 => by rw [schedN, List.length_append, schedN_len bs n]; rfl
def wcells (bs : List UInt8) (k : Nat) : List Value := (schedN bs k).map u32v ++ List.replicate (64 - k) (.int .u32 0)
theorem wcells_len (bs : List UInt8) (k : Nat) (h : k ≤ 64) : (wcells bs k).length = 64 := by
  simp [wcells, schedN_len]; omega
theorem wcells_set (bs : List UInt8) (k : Nat) (h : k < 64) : (wcells bs k).set k (u32v (if k < 16 then wordAt bs k else expand (schedN bs k) k)) = wcells bs (k + 1) := by
  unfold wcells
  rw [List.set_append_right _ _ (by simp [schedN_len]), List.length_map, schedN_len, Nat.sub_self, show 64 - k = (64 - (k + 1)) + 1 by omega, List.replicate_succ, List.set_cons_zero, schedN, List.map_append, List.append_assoc]
  rfl
theorem wcells_at (bs : List UInt8) (k j : Nat) (h : j < k) : (wcells bs k)[j]? = some (u32v ((schedN bs k).getD j 0)) := by
  unfold wcells
  have hl : j < (schedN bs k).length := by rw [schedN_len]; exact h
  rw [List.getElem?_append_left (by simpa using hl), List.getElem?_map, List.getD_eq_getElem?_getD, List.getElem?_eq_getElem hl]
  rfl

set_option maxRecDepth 100000 in
set_option maxHeartbeats 4000000 in
theorem schedule_any (bs : List UInt8) (sb so sc : Nat) (w : World) (hl : bs.length = 64) (hsb : sb < w.heap.size)
    (hsrc : ∀ j c, bs[j]? = some c → w.cell? ⟨sb, so + j, none⟩ = some (.int .u8 c.toNat)) :
    Calls Tryd.prog 107 #[.slice (some ⟨sb, so, none⟩) 64 sc] w fun e w' => e = .returned (.agg ((schedN bs 64).map u32v).toArray) ∧ Chg none w w' := by
  have HS := Lib.hid (fun W (g : Chg none w W) i (hi : i < 64) => (show W.cell? ⟨sb, so + i, none⟩ = some (.int .u8 (byteAt bs i)) from World.grownBy.cell g (by
    rw [hsrc i _ (List.getElem?_eq_getElem (by omega))]
    simp [byteAt, List.getD_eq_getElem?_getD, hl, hi]) (by simp)))
  clear hsrc
  go_enter Tryd.func107, Tryd.ntmps107
  go_wp2_with fail
  go_loopw [10] (fun s10 wr => ∃ k : Nat, k ≤ 16 ∧ s10 = .int .i64 k ∧ BlkL wr (w.heap.size + 1) (wcells bs k) 26 ∧ w.heap.size < wr.heap.size ∧ BlkL wr w.heap.size (List.replicate 64 (Value.int .u32 0)) 26 ∧ Chg none w wr) (fun s10 _ => 16 - (intOf s10).toNat)
  case atStart => exact ⟨0, by omega, rfl, Blk.newAt _ _ (by simp), by simp; omega, Blk.alloc (Blk.newAt (List.replicate 64 (Value.int .u32 0)).toArray 26 rfl) _, ((Chg.refl _ _).alloc _).alloc _⟩
  case round =>
    obtain ⟨k, hk, rfl, hb, hz, hzr, hg⟩ := hrel
    by_cases hlt : k < 16
    · have hsz : sb < wr.heap.size := Nat.lt_of_lt_of_le hsb hg.size
      have c0 := HS.out _ hg (4 * k) (by omega)
      have c1 := HS.out _ hg (4 * k + 1) (by omega)
      have c2 := HS.out _ hg (4 * k + 2) (by omega)
      have c3 := HS.out _ hg (4 * k + 3) (by omega)
      have hbs := BlkL.set hb k (u32v (wordAt bs k))
      have hws := wcells_set bs k (by omega)
      rw [if_pos hlt] at hws
      rw [hws] at hbs
      have cw : wr.cell? ⟨w.heap.size + 1, k, none⟩ = some (.int .u32 0) := by
        rw [BlkL.cell hb, wcells, List.getElem?_append_right (by simp [schedN_len]), List.length_map, schedN_len, Nat.sub_self, show 64 - k = (64 - (k + 1)) + 1 by omega, List.replicate_succ]; rfl
      have hfz := Blk.frozen hb k
      have hbz := Blk.lt hb
      unfold wordAt at hbs
      clear hws
      go_wp2_with fail
      go_region
      all_goals
        go_wp2_with fail
        go_roundw
        case rel => exact ⟨k + 1, by omega, by go_num, hbs, by simpa [World.setCell] using hz, Blk.setOther hzr _ _ (by show w.heap.size ≠ w.heap.size + 1; omega), Chg.drew (hg.setNew _ (Nat.le_succ _) _)⟩
        case measure => first | (simp [intOf]; done) | (simp [intOf]; omega)
    · have hk16 : k = 16 := by omega
      rw [hk16] at hb
      have hd16 : decide ((k : Int) < 16) = false := by simp; omega
      clear hk16
      have hr7 := fun W x => right7 x W
      have hr18 := fun W x => right18 x W
      have hr17 := fun W x => right17 x W
      have hr19 := fun W x => right19 x W
      have H7 := Lib.hid hr7
      have H18 := Lib.hid hr18
      have H17 := Lib.hid hr17
      have H19 := Lib.hid hr19
      clear hr7 hr18 hr17 hr19
      go_wp2_with fail
      go_loopw [5] (fun s5 wq => ∃ k : Nat, 16 ≤ k ∧ k ≤ 64 ∧ s5 = .int .i64 k ∧ BlkL wq (w.heap.size + 1) (wcells bs k) 26 ∧ w.heap.size < wq.heap.size ∧ BlkL wq w.heap.size (List.replicate 64 (Value.int .u32 0)) 26 ∧ Chg none w wq) (fun s5 _ => 64 - (intOf s5).toNat)
      case atStart => exact ⟨16, by omega, by omega, rfl, hb, hz, hzr, hg⟩
      case round =>
        obtain ⟨k, hk0, hk1, rfl, hb, hz, hzr, hg⟩ := hrel
        by_cases hlt : k < 64
        · have q16 : wr.cell? ⟨w.heap.size + 1, k - 16, none⟩ = some (.int .u32 ((schedN bs k).getD (k - 16) 0)) := by rw [BlkL.cell hb]; exact wcells_at bs k (k - 16) (by omega)
          have q15 : wr.cell? ⟨w.heap.size + 1, k - 15, none⟩ = some (.int .u32 ((schedN bs k).getD (k - 15) 0)) := by rw [BlkL.cell hb]; exact wcells_at bs k (k - 15) (by omega)
          have q7 : wr.cell? ⟨w.heap.size + 1, k - 7, none⟩ = some (.int .u32 ((schedN bs k).getD (k - 7) 0)) := by rw [BlkL.cell hb]; exact wcells_at bs k (k - 7) (by omega)
          have q2 : wr.cell? ⟨w.heap.size + 1, k - 2, none⟩ = some (.int .u32 ((schedN bs k).getD (k - 2) 0)) := by rw [BlkL.cell hb]; exact wcells_at bs k (k - 2) (by omega)
          have hbs := BlkL.set hb k (u32v (expand (schedN bs k) k))
          have hws := wcells_set bs k (by omega)
          rw [if_neg (by omega)] at hws
          rw [hws] at hbs
          have cw : wr.cell? ⟨w.heap.size + 1, k, none⟩ = some (.int .u32 0) := by
            rw [BlkL.cell hb, wcells, List.getElem?_append_right (by simp [schedN_len]), List.length_map, schedN_len, Nat.sub_self, show 64 - k = (64 - (k + 1)) + 1 by omega, List.replicate_succ]; rfl
          have hfz := Blk.frozen hb k
          have hbz := Blk.lt hb
          have e16 : (k : Int) - 16 = ((k - 16 : Nat) : Int) := by omega
          have e15 : (k : Int) - 15 = ((k - 15 : Nat) : Int) := by omega
          have e7 : (k : Int) - 7 = ((k - 7 : Nat) : Int) := by omega
          have e2 : (k : Int) - 2 = ((k - 2 : Nat) : Int) := by omega
          unfold expand low high at hbs
          generalize (schedN bs k).getD (k - 16) 0 = x16 at *
          generalize (schedN bs k).getD (k - 15) 0 = x15 at *
          generalize (schedN bs k).getD (k - 7) 0 = x7 at *
          generalize (schedN bs k).getD (k - 2) 0 = x2 at *
          have l16 : k - 16 < 64 := by omega
          have l15 : k - 15 < 64 := by omega
          have l7 : k - 7 < 64 := by omega
          have l2 : k - 2 < 64 := by omega
          clear hws hb
          go_wp2_with fail
          go_region
          go_wp2_with fail
          refine (H7.out _ _).mono ?_
          rintro e w' ⟨rfl, rfl⟩
          go_wp2_with fail
          refine (H18.out _ _).mono ?_
          rintro e w' ⟨rfl, rfl⟩
          go_wp2_with fail
          refine (H17.out _ _).mono ?_
          rintro e w' ⟨rfl, rfl⟩
          go_wp2_with fail
          refine (H19.out _ _).mono ?_
          rintro e w' ⟨rfl, rfl⟩
          go_wp2_with fail
          go_region
          all_goals
            go_wp2_with fail
            go_roundw
            case rel => exact ⟨k + 1, by omega, by omega, by go_num, by exact hbs, by simpa [World.setCell] using hz, by exact (Blk.setOther hzr _ _ (by show w.heap.size ≠ w.heap.size + 1; omega)), by repeat (first | (with_reducible exact hg.setNew _ (Nat.le_succ _) _) | (with_reducible refine Chg.drew ?_))⟩
            case measure => first | (simp [intOf]; done) | (simp [intOf]; omega)
        · obtain rfl : k = 64 := by omega
          have hcs : (wcells bs 64).toArray.size = 64 := by simp [wcells_len]
          have hrow : wr.heap[w.heap.size + 1]? = some (.cells (wcells bs 64).toArray 26 (0, 0)) := hb
          have hfin : wcells bs 64 = (schedN bs 64).map u32v := by simp [wcells]
          have hres : wr.heap[w.heap.size]? = some (.cells (List.replicate 64 (Value.int .u32 0)).toArray 26 (0, 0)) := hzr
          have hone : (wcells bs 64).toArray.all (·.oneCell') = true := by
            simp [wcells, u32v]
            intro x _; rfl
          have hinf : (Tryd.prog.info? 26).map (·.size) = some (wcells bs 64).toArray.size := by rw [hcs]; kernel_rfl
          have HI := Lib.hid hinf
          have HO := Lib.hid hone
          have HC := Lib.hid hcs
          clear hinf hone hcs
          go_wp2_with (first | (refine wpList_load_row rfl 26 _ rfl (w.heap.size + 1) rfl 26 _ (0, 0) _ hrow Tryd.underlying26 rfl HI.out ?_) | (refine wpList_store_row rfl 26 _ _ rfl w.heap.size (wcells bs 64).toArray rfl rfl 26 _ hres HI.out (by rw [HC.out]; rfl) HO.out ?_))
          refine bodyPost_ret (results_cell_row (p := 2) (ty := 26) Tryd.results107 _ _ w.heap.size 26 (wcells bs 64).toArray (0, 0) _ rfl (setRow_heap _ _ _ _ _ _ hres) Tryd.underlying26 rfl HI.out) rfl ⟨by rw [hfin], ?_⟩
          exact Chg.own (b := w.heap.size) hg ⟨rfl, rfl, rfl, by simp [World.setRow], fun i _ hn => setRow_other _ _ i _ (by simpa using hn)⟩ (Nat.le_refl _)

end Go.Proofs.YtglfakglcoffkaaDoor
