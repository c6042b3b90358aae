/-
  Package sha: a block's round.
-/
import Derived.Test.YtglfakglcoffkaaDoorI
import Derived.Deep.RegionHeld3
import Derived.Deep.DeepCutAuto
import Derived.Deep.CutBlock
import Derived.Great.BuildSlice
namespace Go.Proofs.YtglfakglcoffkaaDoor
open Go.RowKit

def K0 : List Int := [1116352408, 1899447441, 3049323471, 3921009573, 961987163, 1508970993, 2453635748, 2870763221, 3624381080, 310598401, 607225278, 1426881987, 1925078388, 2162078206, 2614888103, 3248222580, 3835390401, 4022224774, 264347078, 604807628, 770255983, 1249150122, 1555081692, 1996064986, 2554220882, 2821834349, 2952996808, 3210313671, 3336571891, 3584528711, 113926993, 338241895, 666307205, 773529912, 1294757372, 1396182291, 1695183700, 1986661051, 2177026350, 2456956037, 2730485921, 2820302411, 3259730800, 3345764771, 3516065817, 3600352804, 4094571909, 275423344, 430227734, 506948616, 659060556, 883997877, 958139571, 1322822218, 1537002063, 1747873779, 1955562222, 2024104815, 2227730452, 2361852424, 2428436474, 2756734187, 3204031479, 3329325298]
def H0 : List Int := [1779033703, 3144134277, 1013904242, 2773480762, 1359893119, 2600822924, 528734635, 1541459225]

structure St where
  a : Int
  b : Int
  c : Int
  d : Int
  e : Int
  f : Int
  g : Int
  h : Int
def t1 (s : St) (k w : Int) : Int :=
  IntKind.u32.wrap (IntKind.u32.wrap (IntKind.u32.wrap (IntKind.u32.wrap (s.h + bits .xor .u32 (bits .xor .u32 (rotr s.e 6) (rotr s.e 11)) (rotr s.e 25)) + bits .xor .u32 (bits .and .u32 s.e s.f) (bits .and .u32 (bits .xor .u32 IntKind.u32.max s.e) s.g)) + k) + w)
def t2 (s : St) : Int := bits .xor .u32 (bits .xor .u32 (rotr s.a 2) (rotr s.a 13)) (rotr s.a 22) + bits .xor .u32 (bits .xor .u32 (bits .and .u32 s.a s.b) (bits .and .u32 s.a s.c)) (bits .and .u32 s.b s.c)
def step (s : St) (k w : Int) : St :=
  ⟨(t1 s k w + t2 s % 4294967296) % 4294967296, s.a, s.b, s.c, (s.d + t1 s k w) % 4294967296, s.e, s.f, s.g⟩
def rounds (s : St) (W : List Int) : Nat → St
  | 0 => s
  | n + 1 => step (rounds s W n) (K0.getD n 0) (W.getD n 0)

theorem rounds_step {s0 s s' : St} {W : List Int} {k : Nat} {kk ww : Int} (hs : s = rounds s0 W k) (hk : kk = K0.getD k 0) (hw : ww = W.getD k 0) (h' : s' = step s kk ww) : s' = rounds s0 W (k + 1) := by
  subst hs hk hw h'; rfl
theorem step_eq {xa xb xc xd xe xf xg xh kk ww T1 : Int} (hT : T1 = t1 ⟨xa, xb, xc, xd, xe, xf, xg, xh⟩ kk ww) :
    (⟨(T1 + (bits .xor .u32 (bits .xor .u32 (rotr xa 2) (rotr xa 13)) (rotr xa 22) + bits .xor .u32 (bits .xor .u32 (bits .and .u32 xa xb) (bits .and .u32 xa xc)) (bits .and .u32 xb xc)) % 4294967296) % 4294967296, xa, xb, xc, (xd + T1) % 4294967296, xe, xf, xg⟩ : St) = step ⟨xa, xb, xc, xd, xe, xf, xg, xh⟩ kk ww := by
  subst hT; rfl

def ofL (ws : List Int) : St := ⟨ws.getD 0 0, ws.getD 1 0, ws.getD 2 0, ws.getD 3 0, ws.getD 4 0, ws.getD 5 0, ws.getD 6 0, ws.getD 7 0⟩
def addW (ws : List Int) (s : St) : List Int :=
  [(ws.getD 0 0 + s.a) % 4294967296, (ws.getD 1 0 + s.b) % 4294967296, (ws.getD 2 0 + s.c) % 4294967296, (ws.getD 3 0 + s.d) % 4294967296,
    (ws.getD 4 0 + s.e) % 4294967296, (ws.getD 5 0 + s.f) % 4294967296, (ws.getD 6 0 + s.g) % 4294967296, (ws.getD 7 0 + s.h) % 4294967296]
/-- What a block makes of the eight words. -/
def compress (ws : List Int) (bs : List UInt8) : List Int := addW ws (rounds (ofL ws) (schedN bs 64) 64)

theorem compress_eq {a b c d e f g h : Int} {bs : List UInt8} {s : St} (hs : s = rounds ⟨a, b, c, d, e, f, g, h⟩ (schedN bs 64) 64) :
    compress [a, b, c, d, e, f, g, h] bs = [(a + s.a) % 4294967296, (b + s.b) % 4294967296, (c + s.c) % 4294967296, (d + s.d) % 4294967296, (e + s.e) % 4294967296, (f + s.f) % 4294967296, (g + s.g) % 4294967296, (h + s.h) % 4294967296] := by
  unfold compress addW ofL
  simp only [List.getD_cons_zero, List.getD_cons_succ]
  rw [← hs]

theorem mixW_compress {a b c d e f g h xa xb xc xd xe xf xg xh : Int} {bs : List UInt8} (hs : (⟨xa, xb, xc, xd, xe, xf, xg, xh⟩ : St) = rounds ⟨a, b, c, d, e, f, g, h⟩ (schedN bs 64) 64) :
    compress [a, b, c, d, e, f, g, h] bs = mixW [a, b, c, d, e, f, g, h] [xa, xb, xc, xd, xe, xf, xg, xh] 8 := by
  rw [compress_eq hs]
  simp [mixW, List.range_succ]

/-- The two tables, as the program's text has them. -/
structure Tabs (w : World) : Prop where
  h : ∀ i, i < 8 → w.cell? ⟨0, i, none⟩ = some (.int .u32 (H0.getD i 0))
  k : ∀ i, i < 64 → w.cell? ⟨2, i, none⟩ = some (.int .u32 (K0.getD i 0))
  lt : 3 ≤ w.heap.size

theorem Tabs.chg {w w' : World} {c : Option Nat} (h : Tabs w) (g : Chg c w w') (hc : ∀ b, c = some b → 3 ≤ b) : Tabs w' :=
  ⟨fun i hi => World.grownBy.cell g (h.h i hi) (fun e => by have := hc 0 e.symm; omega), fun i hi => World.grownBy.cell g (h.k i hi) (fun e => by have := hc 2 e.symm; omega), Nat.le_trans h.lt g.size⟩

set_option maxRecDepth 100000 in
set_option maxHeartbeats 8000000 in
theorem block_any (ws : List Int) (tl : List Value) (bs : List UInt8) (b sb so sc : Nat) (w : World) (hw : ws.length = 8) (hb : BlkL w b (ws.map u32v ++ tl) 79) (hT : Tabs w) (hl : bs.length = 64) (hsb : sb < w.heap.size)
    (hsrc : ∀ j c, bs[j]? = some c → w.cell? ⟨sb, so + j, none⟩ = some (.int .u8 c.toNat)) :
    Calls Tryd.prog 85 #[.pointer (some ⟨b, 0, none⟩), .slice (some ⟨sb, so, none⟩) 64 sc] w fun e w' => e = .returned (.tuple #[]) ∧ BlkL w' b ((compress ws bs).map u32v ++ tl) 79 ∧ Chg (some b) w w' := by
  have hSC := schedule_any bs sb so sc w hl hsb hsrc
  have hSl := schedN_len bs 64
  obtain ⟨SW, hSW⟩ : ∃ SW, SW = schedN bs 64 := ⟨_, rfl⟩
  have HSW := Lib.hid hSW
  rw [← hSW] at hSC hSl
  have HSC := Lib.hid hSC
  have HSL := Lib.hid hSl
  clear hSC hSl hSW
  have H2 := Lib.hid (fun W x => right2 x W)
  have H6 := Lib.hid (fun W x => right6 x W)
  have H11 := Lib.hid (fun W x => right11 x W)
  have H13 := Lib.hid (fun W x => right13 x W)
  have H22 := Lib.hid (fun W x => right22 x W)
  have H25 := Lib.hid (fun W x => right25 x W)
  have hinf : (Tryd.prog.info? 26).map (·.size) = some ((SW).map u32v).toArray.size := by
    rw [List.size_toArray, List.length_map, HSL.out]; kernel_rfl
  have hone : ((SW).map u32v).toArray.all (·.oneCell') = true := by
    simp [u32v]
    intro x _; rfl
  have hcs : ((SW).map u32v).toArray.size = 64 := by rw [List.size_toArray, List.length_map, HSL.out]
  have HI := Lib.hid hinf
  have HO := Lib.hid hone
  have HC := Lib.hid hcs
  clear hinf hone hcs hsrc
  obtain ⟨a0, b0, c0, d0, e0, f0, g0, h0, rfl⟩ : ∃ a b c d e f g h, ws = [a, b, c, d, e, f, g, h] := by
    match ws, hw with
    | [a, b, c, d, e, f, g, h], _ => exact ⟨a, b, c, d, e, f, g, h, rfl⟩
  go_enter Tryd.func85, Tryd.ntmps85
  go_wp2_with fail
  refine HSC.out.mono ?_
  rintro e w1 ⟨rfl, g1⟩
  have hb1 := Blk.chg hb g1 (by simp)
  have hT1 := hT.chg g1 (by simp)
  have hblt := Blk.lt hb1
  clear HSC
  go_wp2_with (refine wpList_store_row rfl 26 _ _ rfl w1.heap.size ((SW).map u32v).toArray rfl rfl 26 _ (heap_alloc_new _ _) HI.out (by rw [HC.out]; rfl) HO.out ?_)
  try simp only [Act.put]
  obtain ⟨w2, hw2⟩ : ∃ w2 : World, w2 = (w1.alloc (.cells (List.replicate 64 (Value.int .u32 0)).toArray 26)).setRow w1.heap.size ((SW).map u32v).toArray := ⟨_, rfl⟩
  have hsr : (w1.alloc (.cells (List.replicate 64 (Value.int .u32 0)).toArray 26)).setRow w1.heap.size ((SW).map u32v).toArray = w2 := hw2.symm
  have hwb : BlkL w2 w1.heap.size ((SW).map u32v) 26 := by rw [hw2]; exact setRow_heap _ _ _ _ _ _ (heap_alloc_new _ _)
  have g12 : Chg none w1 w2 := by
    rw [hw2]
    exact Chg.own (b := w1.heap.size) ((Chg.refl none w1).alloc _) ⟨rfl, rfl, rfl, by simp [World.setRow], fun i _ hn => setRow_other _ _ i _ (by simpa using hn)⟩ (Nat.le_refl _)
  have hb2 := Blk.chg hb1 g12 (by simp)
  have hT2 := hT1.chg g12 (by simp)
  have hne : b ≠ w1.heap.size := by omega
  generalize w1.heap.size = wb at *
  clear hw2 hb1 hT1 hblt
  show Code.wp _ _ _ _ ((w1.alloc (.cells (List.replicate 64 (Value.int .u32 0)).toArray 26)).setRow _ _)
  rw [hsr]
  have qa : w2.cell? ⟨b, 0, none⟩ = some (.int .u32 a0) := by rw [BlkL.cell hb2]; rfl
  have qb : w2.cell? ⟨b, 1, none⟩ = some (.int .u32 b0) := by rw [BlkL.cell hb2]; rfl
  have qc : w2.cell? ⟨b, 2, none⟩ = some (.int .u32 c0) := by rw [BlkL.cell hb2]; rfl
  have qd : w2.cell? ⟨b, 3, none⟩ = some (.int .u32 d0) := by rw [BlkL.cell hb2]; rfl
  have qe : w2.cell? ⟨b, 4, none⟩ = some (.int .u32 e0) := by rw [BlkL.cell hb2]; rfl
  have qf : w2.cell? ⟨b, 5, none⟩ = some (.int .u32 f0) := by rw [BlkL.cell hb2]; rfl
  have qg : w2.cell? ⟨b, 6, none⟩ = some (.int .u32 g0) := by rw [BlkL.cell hb2]; rfl
  have qh : w2.cell? ⟨b, 7, none⟩ = some (.int .u32 h0) := by rw [BlkL.cell hb2]; rfl
  go_wp2_with fail
  go_region
  go_wp2_with fail
  go_region
  go_wp2_with fail
  go_loopw [5, 6, 7, 8, 9, 10, 11, 12, 60] (fun s5 s6 s7 s8 s9 s10 s11 s12 s60 wr => ∃ (k : Nat) (s : St), k ≤ 64 ∧ s60 = .int .i64 k ∧ s = rounds ⟨a0, b0, c0, d0, e0, f0, g0, h0⟩ (SW) k ∧ s5 = .int .u32 s.a ∧ s6 = .int .u32 s.b ∧ s7 = .int .u32 s.c ∧ s8 = .int .u32 s.d ∧ s9 = .int .u32 s.e ∧ s10 = .int .u32 s.f ∧ s11 = .int .u32 s.g ∧ s12 = .int .u32 s.h ∧ Chg none w2 wr) (fun _ _ _ _ _ _ _ _ s60 _ => 64 - (intOf s60).toNat)
  case atStart => exact ⟨0, ⟨a0, b0, c0, d0, e0, f0, g0, h0⟩, by omega, rfl, rfl, rfl, rfl, rfl, rfl, rfl, rfl, rfl, rfl, by repeat (first | (with_reducible exact Chg.refl _ _) | (with_reducible refine Chg.drew ?_))⟩
  case round =>
    obtain ⟨k, s, hk, rfl, hs, rfl, rfl, rfl, rfl, rfl, rfl, rfl, rfl, hg⟩ := hrel
    by_cases hlt : k < 64
    · as_aux_lemma =>
        obtain ⟨kk, hkk⟩ : ∃ kk, kk = K0.getD k 0 := ⟨_, rfl⟩
        obtain ⟨ww, hww⟩ : ∃ ww, ww = (SW).getD k 0 := ⟨_, rfl⟩
        have HKK := Lib.hid hkk
        have HWW := Lib.hid hww
        have HS := Lib.hid hs
        have ck : wr.cell? ⟨2, k, none⟩ = some (.int .u32 kk) := by rw [hkk]; exact (hT2.chg hg (by simp)).k k hlt
        have cw : wr.cell? ⟨wb, k, none⟩ = some (.int .u32 ww) := by
          rw [hww, BlkL.cell (Blk.chg hwb hg (by simp)), List.getElem?_map, List.getD_eq_getElem?_getD, List.getElem?_eq_getElem (by rw [HSL.out]; exact hlt)]
          rfl
        clear hkk hww hs
        obtain ⟨xa, xb, xc, xd, xe, xf, xg, xh⟩ := s
        dsimp only
        go_wp2_with fail
        obtain ⟨T1, hT1⟩ : ∃ T1, T1 = t1 ⟨xa, xb, xc, xd, xe, xf, xg, xh⟩ kk ww := ⟨_, rfl⟩
        have HT1 := Lib.hid hT1
        unfold t1 at hT1
        dsimp only at hT1
        go_cut [14] (fun s14 wx => s14 = .int .u32 T1 ∧ wx = wr.drew)
        case first =>
          rename_i q1 k2 a4 q0 hh k1 a3 k0 a2 jj kp am an
          clear a2 a3 a4 HT1 HKK HWW HS hg hk qa qb qc qd qe qf qg qh hne hwb hsr hb2 hT2 g12 g1 hb hw HI HO HC H2 H13 H22 HSW HSL hT hl hsb
          as_aux_lemma =>
            refine wp_region_held_drew (S := fun w' => w'.cell? ⟨2, k, none⟩ = some (.int .u32 kk) ∧ w'.cell? ⟨wb, k, none⟩ = some (.int .u32 ww)) (by kernel_rfl) ⟨ck, cw⟩ (fun _ => ?_)
            refine wpAnyH_take (i := 0) (oi := ⟨some 63, _, _, _, _, _⟩) (v := ?_) rfl (by kernel_rfl) (by kernel_rfl) (by kernel_rfl) (fun _ _ _ h => h) (Or.inl ⟨by rfl, ?_⟩) (by assumption) ?_
            rotate_left
            · intro w hSw; (try dsimp only at hSw); go_simp; (try with_reducible rfl)
            try simp only [Act.put, List.setIfInBounds_toArray, List.set_cons_zero, List.set_cons_succ]
            refine wpAnyH_take (i := 1) (oi := ⟨some 64, _, _, _, _, _⟩) (v := ?_) rfl (by kernel_rfl) (by kernel_rfl) (by kernel_rfl) (fun _ _ _ h => h) (Or.inl ⟨by rfl, ?_⟩) (by assumption) ?_
            rotate_left
            · intro w hSw; (try dsimp only at hSw); go_simp; (try with_reducible rfl)
            try simp only [Act.put, List.setIfInBounds_toArray, List.set_cons_zero, List.set_cons_succ]
            refine wpAnyH_take (i := 3) (oi := ⟨some 66, _, _, _, _, _⟩) (v := ?_) rfl (by kernel_rfl) (by kernel_rfl) (by kernel_rfl) (fun _ _ _ h => h) (Or.inl ⟨by rfl, ?_⟩) (by assumption) ?_
            rotate_left
            · intro w hSw; (try dsimp only at hSw); go_simp; (try with_reducible rfl)
            try simp only [Act.put, List.setIfInBounds_toArray, List.set_cons_zero, List.set_cons_succ]
            refine wpAnyH_take (i := 6) (oi := ⟨some 69, _, _, _, _, _⟩) (v := ?_) rfl (by kernel_rfl) (by kernel_rfl) (by kernel_rfl) (fun _ _ _ h => h) (Or.inl ⟨by rfl, ?_⟩) (by assumption) ?_
            rotate_left
            · intro w hSw; (try dsimp only at hSw); go_simp; (try with_reducible rfl)
            try simp only [Act.put, List.setIfInBounds_toArray, List.set_cons_zero, List.set_cons_succ]
            refine wpAnyH_take (i := 10) (oi := ⟨some 73, _, _, _, _, _⟩) (v := ?_) rfl (by kernel_rfl) (by kernel_rfl) (by kernel_rfl) (fun _ _ _ h => h) (Or.inl ⟨by rfl, ?_⟩) (by assumption) ?_
            rotate_left
            · intro w hSw; (try dsimp only at hSw); go_simp; (try with_reducible rfl)
            try simp only [Act.put, List.setIfInBounds_toArray, List.set_cons_zero, List.set_cons_succ]
            refine wpAnyH_take (i := 11) (oi := ⟨some 74, _, _, _, _, _⟩) (v := ?_) rfl (by kernel_rfl) (by kernel_rfl) (by kernel_rfl) (fun _ _ _ h => h) (Or.inl ⟨by rfl, ?_⟩) (by assumption) ?_
            rotate_left
            · intro w hSw; (try dsimp only at hSw); go_simp; (try with_reducible rfl)
            try simp only [Act.put, List.setIfInBounds_toArray, List.set_cons_zero, List.set_cons_succ]
            refine wpAnyH_take (i := 12) (oi := ⟨some 75, _, _, _, _, _⟩) (v := ?_) rfl (by kernel_rfl) (by kernel_rfl) (by kernel_rfl) (fun _ _ _ h => h) (Or.inl ⟨by rfl, ?_⟩) (by assumption) ?_
            rotate_left
            · intro w hSw; (try dsimp only at hSw); go_simp; (try with_reducible rfl)
            try simp only [Act.put, List.setIfInBounds_toArray, List.set_cons_zero, List.set_cons_succ]
            refine wpAnyH_take (i := 13) (oi := ⟨some 76, _, _, _, _, _⟩) (v := ?_) rfl (by kernel_rfl) (by kernel_rfl) (by kernel_rfl) (fun _ _ _ h => h) (Or.inl ⟨by rfl, ?_⟩) (by assumption) ?_
            rotate_left
            · intro w hSw; (try dsimp only at hSw); go_simp; (try with_reducible rfl)
            try simp only [Act.put, List.setIfInBounds_toArray, List.set_cons_zero, List.set_cons_succ]
            refine wpAnyH_take (i := 14) (oi := ⟨some 77, _, _, _, _, _⟩) (v := ?_) rfl (by kernel_rfl) (by kernel_rfl) (by kernel_rfl) (fun _ _ _ h => h) (Or.inl ⟨by rfl, ?_⟩) (by assumption) ?_
            rotate_left
            · intro w hSw; (try dsimp only at hSw); go_simp; (try with_reducible rfl)
            try simp only [Act.put, List.setIfInBounds_toArray, List.set_cons_zero, List.set_cons_succ]
            refine wpAnyH_take (i := 15) (oi := ⟨some 78, _, _, _, _, _⟩) (v := ?_) rfl (by kernel_rfl) (by kernel_rfl) (by kernel_rfl) (fun _ _ _ h => h) (Or.inl ⟨by rfl, ?_⟩) (by assumption) ?_
            rotate_left
            · intro w hSw; (try dsimp only at hSw); go_simp; (try with_reducible rfl)
            try simp only [Act.put, List.setIfInBounds_toArray, List.set_cons_zero, List.set_cons_succ]
            refine wpAnyH_take (i := 16) (oi := ⟨some 79, _, _, _, _, _⟩) (v := ?_) rfl (by kernel_rfl) (by kernel_rfl) (by kernel_rfl) (fun _ _ _ h => h) (Or.inl ⟨by rfl, ?_⟩) (by assumption) ?_
            rotate_left
            · intro w hSw; (try dsimp only at hSw); go_simp; (try with_reducible rfl)
            try simp only [Act.put, List.setIfInBounds_toArray, List.set_cons_zero, List.set_cons_succ]
            refine wpAnyH_take (i := 17) (oi := ⟨some 80, _, _, _, _, _⟩) (v := ?_) rfl (by kernel_rfl) (by kernel_rfl) (by kernel_rfl) (fun _ _ _ h => h) (Or.inl ⟨by rfl, ?_⟩) (by assumption) ?_
            rotate_left
            · intro w hSw; (try dsimp only at hSw); go_simp; (try with_reducible rfl)
            try simp only [Act.put, List.setIfInBounds_toArray, List.set_cons_zero, List.set_cons_succ]
            refine wpAnyH_take (i := 19) (oi := ⟨some 82, _, _, _, _, _⟩) (v := ?_) rfl (by kernel_rfl) (by kernel_rfl) (by kernel_rfl) (fun _ _ _ h => h) (Or.inl ⟨by rfl, ?_⟩) (by assumption) ?_
            rotate_left
            · intro w hSw; (try dsimp only at hSw); go_simp; (try with_reducible rfl)
            try simp only [Act.put, List.setIfInBounds_toArray, List.set_cons_zero, List.set_cons_succ]
            refine wpAnyH_take (i := 20) (oi := ⟨some 83, _, _, _, _, _⟩) (v := ?_) rfl (by kernel_rfl) (by kernel_rfl) (by kernel_rfl) (fun _ _ _ h => h) (Or.inl ⟨by rfl, ?_⟩) (by assumption) ?_
            rotate_left
            · intro w hSw; (try dsimp only at hSw); go_simp; (try with_reducible rfl)
            try simp only [Act.put, List.setIfInBounds_toArray, List.set_cons_zero, List.set_cons_succ]
            refine wpAnyH_take (i := 21) (oi := ⟨some 84, _, _, _, _, _⟩) (v := ?_) rfl (by kernel_rfl) (by kernel_rfl) (by kernel_rfl) (fun _ _ _ h => h) (Or.inl ⟨by rfl, ?_⟩) (by assumption) ?_
            rotate_left
            · intro w hSw; (try dsimp only at hSw); go_simp; (try with_reducible rfl)
            try simp only [Act.put, List.setIfInBounds_toArray, List.set_cons_zero, List.set_cons_succ]
            refine wpAnyH_take (i := 23) (oi := ⟨some 86, _, _, _, _, _⟩) (v := ?_) rfl (by kernel_rfl) (by kernel_rfl) (by kernel_rfl) (fun _ _ _ h => h) (Or.inl ⟨by rfl, ?_⟩) (by assumption) ?_
            rotate_left
            · intro w hSw; (try dsimp only at hSw); go_simp; (try with_reducible rfl)
            try simp only [Act.put, List.setIfInBounds_toArray, List.set_cons_zero, List.set_cons_succ]
            refine wpAnyH_take (i := 24) (oi := ⟨some 87, _, _, _, _, _⟩) (v := ?_) rfl (by kernel_rfl) (by kernel_rfl) (by kernel_rfl) (fun _ _ _ h => h) (Or.inl ⟨by rfl, ?_⟩) (by assumption) ?_
            rotate_left
            · intro w hSw; (try dsimp only at hSw); go_simp; (try with_reducible rfl)
            try simp only [Act.put, List.setIfInBounds_toArray, List.set_cons_zero, List.set_cons_succ]
            refine wpAnyH_take (i := 25) (oi := ⟨some 88, _, _, _, _, _⟩) (v := ?_) rfl (by kernel_rfl) (by kernel_rfl) (by kernel_rfl) (fun _ _ _ h => h) (Or.inl ⟨by rfl, ?_⟩) (by assumption) ?_
            rotate_left
            · intro w hSw; (try dsimp only at hSw); go_simp; (try with_reducible rfl)
            try simp only [Act.put, List.setIfInBounds_toArray, List.set_cons_zero, List.set_cons_succ]
            refine wpAnyH_ready (rs := [2]) (by kernel_rfl) (by simp) ?_
            refine AllReadyH.cons (o := ⟨some 65, _, _, _, _, _⟩) rfl (fun K hK => ?_) ?_
            rotate_left
            · exact AllReadyH.nil
            go_simp
            go_at_call 108
            refine (H6.out _ _).mono ?_
            rintro e w' ⟨rfl, rfl⟩
            go_wp2_with fail
            refine hK.out _ _ ⟨ck, cw⟩ (fun _ => ?_)
            clear hK K
            try simp only [Act.put, List.setIfInBounds_toArray, List.set_cons_zero, List.set_cons_succ]
            refine wpAnyH_ready (rs := [4]) (by kernel_rfl) (by simp) ?_
            refine AllReadyH.cons (o := ⟨some 67, _, _, _, _, _⟩) rfl (fun K hK => ?_) ?_
            rotate_left
            · exact AllReadyH.nil
            go_simp
            go_at_call 108
            refine (H11.out _ _).mono ?_
            rintro e w' ⟨rfl, rfl⟩
            go_wp2_with fail
            refine hK.out _ _ ⟨ck, cw⟩ (fun _ => ?_)
            clear hK K
            try simp only [Act.put, List.setIfInBounds_toArray, List.set_cons_zero, List.set_cons_succ]
            refine wpAnyH_take (i := 5) (oi := ⟨some 68, _, _, _, _, _⟩) (v := ?_) rfl (by kernel_rfl) (by kernel_rfl) (by kernel_rfl) (fun _ _ _ h => h) (Or.inl ⟨by rfl, ?_⟩) (by assumption) ?_
            rotate_left
            · intro w hSw; (try dsimp only at hSw); go_simp; (try with_reducible rfl)
            try simp only [Act.put, List.setIfInBounds_toArray, List.set_cons_zero, List.set_cons_succ]
            refine wpAnyH_ready (rs := [7]) (by kernel_rfl) (by simp) ?_
            refine AllReadyH.cons (o := ⟨some 70, _, _, _, _, _⟩) rfl (fun K hK => ?_) ?_
            rotate_left
            · exact AllReadyH.nil
            go_simp
            go_at_call 108
            refine (H25.out _ _).mono ?_
            rintro e w' ⟨rfl, rfl⟩
            go_wp2_with fail
            refine hK.out _ _ ⟨ck, cw⟩ (fun _ => ?_)
            clear hK K
            try simp only [Act.put, List.setIfInBounds_toArray, List.set_cons_zero, List.set_cons_succ]
            refine wpAnyH_take (i := 8) (oi := ⟨some 71, _, _, _, _, _⟩) (v := ?_) rfl (by kernel_rfl) (by kernel_rfl) (by kernel_rfl) (fun _ _ _ h => h) (Or.inl ⟨by rfl, ?_⟩) (by assumption) ?_
            rotate_left
            · intro w hSw; (try dsimp only at hSw); go_simp; (try with_reducible rfl)
            try simp only [Act.put, List.setIfInBounds_toArray, List.set_cons_zero, List.set_cons_succ]
            refine wpAnyH_take (i := 9) (oi := ⟨some 72, _, _, _, _, _⟩) (v := ?_) rfl (by kernel_rfl) (by kernel_rfl) (by kernel_rfl) (fun _ _ _ h => h) (Or.inl ⟨by rfl, ?_⟩) (by assumption) ?_
            rotate_left
            · intro w hSw; (try dsimp only at hSw); go_simp; (try with_reducible rfl)
            try simp only [Act.put, List.setIfInBounds_toArray, List.set_cons_zero, List.set_cons_succ]
            refine wpAnyH_take (i := 18) (oi := ⟨some 81, _, _, _, _, _⟩) (v := ?_) rfl (by kernel_rfl) (by kernel_rfl) (by kernel_rfl) (fun _ _ _ h => h) (Or.inl ⟨by rfl, ?_⟩) (by assumption) ?_
            rotate_left
            · intro w hSw; (try dsimp only at hSw); go_simp; (try with_reducible rfl)
            try simp only [Act.put, List.setIfInBounds_toArray, List.set_cons_zero, List.set_cons_succ]
            refine wpAnyH_take (i := 22) (oi := ⟨some 85, _, _, _, _, _⟩) (v := ?_) rfl (by kernel_rfl) (by kernel_rfl) (by kernel_rfl) (fun _ _ _ h => h) (Or.inl ⟨by rfl, ?_⟩) (by assumption) ?_
            rotate_left
            · intro w hSw; (try dsimp only at hSw); go_simp; (try with_reducible rfl)
            try simp only [Act.put, List.setIfInBounds_toArray, List.set_cons_zero, List.set_cons_succ]
            refine wpAnyH_take (i := 26) (oi := ⟨some 89, _, _, _, _, _⟩) (v := ?_) rfl (by kernel_rfl) (by kernel_rfl) (by kernel_rfl) (fun _ _ _ h => h) (Or.inl ⟨by rfl, ?_⟩) (by assumption) ?_
            rotate_left
            · intro w hSw; (try dsimp only at hSw); go_simp; (try with_reducible rfl)
            try simp only [Act.put, List.setIfInBounds_toArray, List.set_cons_zero, List.set_cons_succ]
            refine wpAnyH_take (i := 27) (oi := ⟨some 14, _, _, _, _, _⟩) (v := ?_) rfl (by kernel_rfl) (by kernel_rfl) (by kernel_rfl) (fun _ _ _ h => h) (Or.inl ⟨by rfl, ?_⟩) (by assumption) ?_
            rotate_left
            · intro w hSw; (try dsimp only at hSw); go_simp; (try with_reducible rfl)
            try simp only [Act.put, List.setIfInBounds_toArray, List.set_cons_zero, List.set_cons_succ]
            refine wpAnyH_done (by kernel_rfl) ?_ _
            go_wp2_with fail
            go_meet
            exact ⟨by rw [hT1], rfl⟩
        case rest =>
          as_aux_lemma =>
            clear hT1
            obtain ⟨rfl, rfl⟩ := hcut
            go_wp2_with fail
            refine (H2.out _ _).mono ?_
            rintro e w' ⟨rfl, rfl⟩
            go_wp2_with fail
            refine (H13.out _ _).mono ?_
            rintro e w' ⟨rfl, rfl⟩
            go_wp2_with fail
            refine (H22.out _ _).mono ?_
            rintro e w' ⟨rfl, rfl⟩
            go_wp2_with fail
            go_roundw
            case rel =>
              have hst := rounds_step HS.out HKK.out HWW.out (step_eq HT1.out)
              exact ⟨k + 1, _, by omega, by go_num, hst, rfl, rfl, rfl, rfl, rfl, rfl, rfl, rfl, hg.drew⟩
            case measure => first | (simp [intOf]; done) | (simp [intOf]; omega)
    · as_aux_lemma =>
        have hd : decide ((k : Int) < 64) = false := by simp; omega
        have hk64 : k = 64 := by omega
        rw [hk64, HSW.out] at hs
        clear hk64
        have hbr := Blk.chg hb2 hg (by simp)
        have hfz := Blk.frozen hbr
        have ra := World.grownBy.cell hg qa (by simp)
        have rb := World.grownBy.cell hg qb (by simp)
        have rc := World.grownBy.cell hg qc (by simp)
        have rd := World.grownBy.cell hg qd (by simp)
        have re := World.grownBy.cell hg qe (by simp)
        have rf := World.grownBy.cell hg qf (by simp)
        have rg := World.grownBy.cell hg qg (by simp)
        have rh := World.grownBy.cell hg qh (by simp)
        have hgw : Chg (some b) w wr := ((g1.trans g12).trans hg).weaken
        have HS := Lib.hid hs
        clear hs qa qb qc qd qe qf qg qh
        obtain ⟨xa, xb, xc, xd, xe, xf, xg, xh⟩ := s
        dsimp only
        have hb25 := built25 xa xb xc xd xe xf xg xh
        go_upto_region 11 with fail
        go_cut [131, 132] (fun s131 s132 wx => s131 = .agg #[.int .u32 xa, .int .u32 xb, .int .u32 xc, .int .u32 xd, .int .u32 xe, .int .u32 xf, .int .u32 xg, .int .u32 xh] ∧ s132 = .int .i64 0 ∧ wx = wr)
        case first =>
          refine wp_region_list ?_
          refine wpList_moveTo rfl (.tmp 5) rfl (some 123) rfl (.int .u32 xa) rfl ?_
          try simp only [Act.put, List.setIfInBounds_toArray, List.set_cons_zero, List.set_cons_succ]
          refine wpList_moveTo rfl (.tmp 6) rfl (some 124) rfl (.int .u32 xb) rfl ?_
          try simp only [Act.put, List.setIfInBounds_toArray, List.set_cons_zero, List.set_cons_succ]
          refine wpList_moveTo rfl (.tmp 7) rfl (some 125) rfl (.int .u32 xc) rfl ?_
          try simp only [Act.put, List.setIfInBounds_toArray, List.set_cons_zero, List.set_cons_succ]
          refine wpList_moveTo rfl (.tmp 8) rfl (some 126) rfl (.int .u32 xd) rfl ?_
          try simp only [Act.put, List.setIfInBounds_toArray, List.set_cons_zero, List.set_cons_succ]
          refine wpList_moveTo rfl (.tmp 9) rfl (some 127) rfl (.int .u32 xe) rfl ?_
          try simp only [Act.put, List.setIfInBounds_toArray, List.set_cons_zero, List.set_cons_succ]
          refine wpList_moveTo rfl (.tmp 10) rfl (some 128) rfl (.int .u32 xf) rfl ?_
          try simp only [Act.put, List.setIfInBounds_toArray, List.set_cons_zero, List.set_cons_succ]
          refine wpList_moveTo rfl (.tmp 11) rfl (some 129) rfl (.int .u32 xg) rfl ?_
          try simp only [Act.put, List.setIfInBounds_toArray, List.set_cons_zero, List.set_cons_succ]
          refine wpList_moveTo rfl (.tmp 12) rfl (some 130) rfl (.int .u32 xh) rfl ?_
          try simp only [Act.put, List.setIfInBounds_toArray, List.set_cons_zero, List.set_cons_succ]
          refine wpList_buildTo rfl 25 _ rfl (some 131) rfl #[.int .u32 xa, .int .u32 xb, .int .u32 xc, .int .u32 xd, .int .u32 xe, .int .u32 xf, .int .u32 xg, .int .u32 xh] (by simp only [List.map_toArray, List.map_cons, List.map_nil]; exact hb25) ?_
          try simp only [Act.put, List.setIfInBounds_toArray, List.set_cons_zero, List.set_cons_succ]
          refine wpList_moveTo rfl (.const (.int .i64 0)) rfl (some 132) rfl (.int .i64 0) rfl ?_
          try simp only [Act.put, List.setIfInBounds_toArray, List.set_cons_zero, List.set_cons_succ]
          refine wpList_nil ?_
          go_wp2_with fail
          go_meet
          exact ⟨rfl, rfl, rfl⟩
        case rest =>
          obtain ⟨rfl, rfl, rfl⟩ := hcut
          clear hb25
          go_wp2_with fail
          have hm0 := mixW_zero [a0, b0, c0, d0, e0, f0, g0, h0] [xa, xb, xc, xd, xe, xf, xg, xh] rfl
          have HM0 := Lib.hid hm0
          clear hm0 ra rb rc rd re rf rg rh hfz
          go_loopw [132] (fun s132 wq => ∃ j : Nat, j ≤ 8 ∧ s132 = .int .i64 j ∧ BlkL wq b ((mixW [a0, b0, c0, d0, e0, f0, g0, h0] [xa, xb, xc, xd, xe, xf, xg, xh] j).map u32v ++ tl) 79 ∧ Chg (some b) w wq) (fun s132 _ => 8 - (intOf s132).toNat)
          case atStart => exact ⟨0, by omega, rfl, by rw [HM0.out]; exact hbr, hgw⟩
          case round =>
            obtain ⟨j, hj, rfl, hbq, hgq⟩ := hrel
            by_cases hlt2 : j < 8
            · as_aux_lemma =>
                have hjl : j < (mixW [a0, b0, c0, d0, e0, f0, g0, h0] [xa, xb, xc, xd, xe, xf, xg, xh] j).length := by rw [mixW_len]; exact hlt2
                have cj : wr.cell? ⟨b, j, none⟩ = some (.int .u32 ([a0, b0, c0, d0, e0, f0, g0, h0].getD j 0)) := by
                  rw [BlkL.cell hbq, List.getElem?_append_left (by simpa using hjl), List.getElem?_map, mixW_at _ _ _ hlt2]
                  rfl
                have hfz := Blk.frozen hbq j
                have ix := index25_at xa xb xc xd xe xf xg xh j hlt2
                have hset := BlkL.set hbq j (u32v (([a0, b0, c0, d0, e0, f0, g0, h0].getD j 0 + [xa, xb, xc, xd, xe, xf, xg, xh].getD j 0) % 4294967296))
                rw [List.set_append_left _ _ (by simpa using hjl), ← List.map_set, mixW_set _ _ _ hlt2] at hset
                generalize [a0, b0, c0, d0, e0, f0, g0, h0].getD j 0 = oj at *
                generalize [xa, xb, xc, xd, xe, xf, xg, xh].getD j 0 = xj at *
                clear hjl
                go_wp2_with fail
                go_region
                all_goals
                  go_wp2_with fail
                  go_roundw
                  case rel => exact ⟨j + 1, by omega, by go_num, by exact hset, by repeat (first | (with_reducible exact hgq) | (with_reducible refine Chg.drew ?_) | (with_reducible refine Chg.setCell ?_ _ _))⟩
                  case measure => first | (simp [intOf]; done) | (simp [intOf]; omega)
            · as_aux_lemma =>
                have hj8 : j = 8 := by omega
                have hd8 : decide ((j : Int) < 8) = false := by simp; omega
                rw [hj8] at hbq
                clear hj8
                go_wp2_with fail
                refine bodyPost_end (results_none rfl _ _ _) rfl ⟨rfl, ?_, hgq⟩
                have hcp := mixW_compress HS.out
                rw [hcp]
                exact hbq

end Go.Proofs.YtglfakglcoffkaaDoor
