/-
  The document's digest: Sum.
-/
import Derived.Test.YtdkgecphkppglaaDoorR5
import Derived.Test.YtdkgecphkppglaaDoorR6
import Derived.Test.YtdkgecphkppglaaDoorR7
namespace Go.Proofs.YtdkgecphkppglaaDoor
open Go.RowKit

theorem H0_rng : ∀ i, 0 ≤ H0.getD i 0 ∧ H0.getD i 0 < 4294967296 := by
  intro i
  by_cases h : i < 8
  · have : ∀ j, j < 8 → 0 ≤ H0.getD j 0 ∧ H0.getD j 0 < 4294967296 := by decide
    exact this i h
  · rw [List.getD_eq_getElem?_getD, List.getElem?_eq_none (by show 8 ≤ i; omega)]; decide
theorem compress_rng (ws : List Int) (bs : List UInt8) : ∀ i, 0 ≤ (compress ws bs).getD i 0 ∧ (compress ws bs).getD i 0 < 4294967296 := by
  intro i
  unfold compress
  generalize rounds (ofL ws) (schedN bs 64) 64 = s
  unfold addW
  match i with
  | 0 | 1 | 2 | 3 | 4 | 5 | 6 | 7 => exact ⟨Int.emod_nonneg _ (by decide), Int.emod_lt_of_pos _ (by decide)⟩
  | _ + 8 => rw [List.getD_eq_getElem?_getD, List.getElem?_eq_none (by simp)]; decide
theorem hashB_rng (m : List UInt8) : ∀ n i, 0 ≤ (hashB m n).getD i 0 ∧ (hashB m n).getD i 0 < 4294967296
  | 0 => H0_rng
  | _ + 1 => compress_rng _ _

theorem wordsBytes_at : ∀ (ws : List Int) (q r : Nat), q < ws.length → r < 4 → (wordsBytes ws).getD (4 * q + r) 0 = (wordBytes (ws.getD q 0)).getD r 0
  | [], _, _, h, _ => by simp at h
  | x :: ws, 0, r, _, hr => by
    unfold wordsBytes
    rw [List.flatMap_cons, List.getD_eq_getElem?_getD, List.getElem?_append_left (by simp [wordBytes]; omega), List.getD_eq_getElem?_getD]
    simp
  | x :: ws, q + 1, r, h, hr => by
    have ih := wordsBytes_at ws q r (by simpa using h) hr
    unfold wordsBytes at *
    rw [List.flatMap_cons, List.getD_eq_getElem?_getD, List.getElem?_append_right (by simp [wordBytes]; omega), ← List.getD_eq_getElem?_getD]
    rw [show 4 * (q + 1) + r - (wordBytes x).length = 4 * q + r by simp [wordBytes]; omega, ih]
    rfl

/-- A digest's cells, of which the first i are filled in. -/
def fillD (D : List UInt8) (i : Nat) : List Value := byteVals (D.take i) ++ List.replicate (D.length - i) (.int .u8 0)
theorem fillD_all (D : List UInt8) (n : Nat) (h : D.length = n) : fillD D n = byteVals D := by unfold fillD; rw [h, Nat.sub_self, List.take_of_length_le (by omega)]; simp
theorem fillD_zero (D : List UInt8) (h : D.length = 32) : (fillD D 0).toArray = zero32 := by unfold fillD; rw [h]; rfl
theorem fillD_len (D : List UInt8) (i : Nat) (h : i ≤ D.length) : (fillD D i).length = D.length := by
  unfold fillD; rw [List.length_append, byteVals_len, List.length_take, List.length_replicate]; omega
theorem fillD_at (D : List UInt8) (i : Nat) (h : i < D.length) : (fillD D i)[i]? = some (.int .u8 0) := by
  unfold fillD
  rw [List.getElem?_append_right (by rw [byteVals_len, List.length_take]; omega), byteVals_len, List.length_take, Nat.min_eq_left (by omega), Nat.sub_self, show D.length - i = (D.length - (i + 1)) + 1 by omega, List.replicate_succ]; rfl
theorem fillD_set (D : List UInt8) (i : Nat) (h : i < D.length) : (fillD D i).set i (.int .u8 ((D.getD i 0).toNat : Int)) = fillD D (i + 1) := by
  unfold fillD
  have hl : (byteVals (D.take i)).length = i := by rw [byteVals_len, List.length_take]; omega
  rw [List.set_append_right _ _ (by omega), hl, Nat.sub_self, show D.length - i = (D.length - (i + 1)) + 1 by omega, List.replicate_succ, List.set_cons_zero, List.take_succ_eq_append_getElem h, ← byteVals_append, List.append_assoc,
    List.getD_eq_getElem?_getD, List.getElem?_eq_getElem h]
  rfl

theorem own_bytes_cell {w : World} {base n c : Nat} {A : Option Addr} {L : List UInt8} (h : w.ownsRow base 5 1 (.slice A n c) n (byteVals L)) (hn : 0 < n) : ∃ g, A = some ⟨g, 0, none⟩ ∧ g < w.heap.size ∧ w.rangeAt g 0 (byteVals L) ∧ n ≤ c := by
  have hc : n ≤ c := by
    rcases h.2 with ⟨h1, h2⟩ | ⟨_, _, _, h1, _, _, _, _, _, _⟩
    · omega
    · injection h1; omega
  obtain ⟨g, cap, hv, _, hlt⟩ := h.form hn
  have hA : A = some ⟨g, 0, none⟩ ∧ c = cap := by injection hv with h1 _ h3; exact ⟨h1, h3⟩
  obtain ⟨rfl, _⟩ := hA
  refine ⟨g, rfl, hlt, fun j v hv => ?_, hc⟩
  have := h.cells (g := g) rfl j v hv
  rwa [Go.WideShapes.add_plain] at this

theorem cut64 (g n c i : Nat) (h1 : i + 64 ≤ n) (h2 : n ≤ c) (w : World) :
    (Instr.sliceAt 22 (.slice (some ⟨g, 0, none⟩) n c) (some (.int .i64 (i : Int))) (some (.int .i64 ((i : Int) + 64))) none).run Tryd.prog w = .ok (.slice (some ⟨g, i, none⟩) 64 (c - i)) w := by
  have h := cut_lo_hi (some ⟨g, 0, none⟩) n c i (i + 64) (by omega) (by omega) w
  rw [if_neg (by omega), show i + 64 - i = 64 by omega, Option.map_some, Go.WideShapes.add_plain, Nat.zero_add, show ((i + 64 : Nat) : Int) = (i : Int) + 64 by omega] at h
  exact h

set_option maxRecDepth 100000 in
set_option maxHeartbeats 16000000 in
theorem sumr_any (p : Prt) (w : World) (hp : p.ok w) (hn : p.x.length ≤ 1000000) :
    Calls Tryd.prog 18 #[.agg (H0.map u32v).toArray, .agg (K0.map u32v).toArray, .slice p.A p.x.length p.c] w fun e w' => e = .returned (.agg (byteVals (dig p.x)).toArray) ∧ Chg none w w' := by
  obtain ⟨P, hP⟩ : ∃ P, P = padded p.x := ⟨_, rfl⟩
  have hPm := padded_mod p.x
  have hPl : (padded p.x).length ≤ 1000072 := by rw [padded, List.length_append, padOf_len]; unfold noughts; omega
  rw [← hP] at hPm hPl
  obtain ⟨nb, hnb⟩ : ∃ nb, P.length = 64 * nb := ⟨P.length / 64, by omega⟩
  have hdg : dig p.x = wordsBytes (hashB P nb) := by unfold dig; rw [← hP, show P.length / 64 = nb by omega]
  have hh0 : (hashB P 0).map u32v = H0.map u32v := rfl
  obtain ⟨W3, hW3⟩ : ∃ W3, W3 = ((w.alloc (.cells (H0.map u32v).toArray 25)).alloc (.cells (K0.map u32v).toArray 26)).alloc (.cells zero32 30) := ⟨_, rfl⟩
  have HW3 : Hid (((w.alloc (.cells (H0.map u32v).toArray 25)).alloc (.cells (K0.map u32v).toArray 26)).alloc (.cells #[Value.int IntKind.u8 0, Value.int IntKind.u8 0, Value.int IntKind.u8 0, Value.int IntKind.u8 0, Value.int IntKind.u8 0, Value.int IntKind.u8 0, Value.int IntKind.u8 0, Value.int IntKind.u8 0, Value.int IntKind.u8 0, Value.int IntKind.u8 0, Value.int IntKind.u8 0, Value.int IntKind.u8 0, Value.int IntKind.u8 0, Value.int IntKind.u8 0, Value.int IntKind.u8 0, Value.int IntKind.u8 0, Value.int IntKind.u8 0, Value.int IntKind.u8 0, Value.int IntKind.u8 0, Value.int IntKind.u8 0, Value.int IntKind.u8 0, Value.int IntKind.u8 0, Value.int IntKind.u8 0, Value.int IntKind.u8 0, Value.int IntKind.u8 0, Value.int IntKind.u8 0, Value.int IntKind.u8 0, Value.int IntKind.u8 0, Value.int IntKind.u8 0, Value.int IntKind.u8 0, Value.int IntKind.u8 0, Value.int IntKind.u8 0] 30) = W3) := hW3.symm
  have g0 : Chg none w W3 := by rw [hW3]; exact (((Chg.refl _ _).alloc _).alloc _).alloc _
  have bH : BlkL W3 w.heap.size ((hashB P 0).map u32v) 25 := by rw [hW3, hh0]; exact Blk.alloc (Blk.alloc (Blk.new _ _ _) _) _
  have bK : BlkL W3 (w.heap.size + 1) (K0.map u32v) 26 := by rw [hW3]; exact Blk.alloc (Blk.newAt _ _ (by simp)) _
  have bR : Blk W3 (w.heap.size + 1 + 1) zero32 30 := by rw [hW3]; exact Blk.newAt _ _ (by simp)
  have HPD := Lib.hid (padded_any p W3 (hp.chg g0) hn)
  rw [← hP] at HPD
  obtain ⟨PL, hPL⟩ : ∃ PL, PL = P.length := ⟨_, rfl⟩
  unfold OwnPost at HPD
  rw [← hPL] at HPD hnb hPl
  have HNB := Lib.hid hnb
  have HPL := Lib.hid hPL
  have HDG := Lib.hid hdg
  have hHK : w.heap.size < w.heap.size + 1 := by omega
  have hKR : w.heap.size + 1 < w.heap.size + 1 + 1 := by omega
  have hle : w.heap.size ≤ w.heap.size := Nat.le_refl _
  have hRB : w.heap.size + 1 + 1 < W3.heap.size := Blk.lt bR
  obtain ⟨HA, hHA⟩ : ∃ HA, HA = (H0.map u32v).toArray := ⟨_, rfl⟩
  obtain ⟨KA, hKA⟩ : ∃ KA, KA = (K0.map u32v).toArray := ⟨_, rfl⟩
  rw [← hHA, ← hKA]
  rw [← hHA, ← hKA] at HW3
  have HKA := Lib.hid hKA
  have HI25 : Hid (∀ L : List Int, L.length = 8 → (Tryd.prog.info? 25).map (·.size) = some (L.map u32v).length) := by
    show ∀ L : List Int, L.length = 8 → _
    intro L h; rw [List.length_map, h]; kernel_rfl
  have HI26 : Hid ((Tryd.prog.info? 26).map (·.size) = some (K0.map u32v).length) := by show _ = _; kernel_rfl
  clear hP hPm hPL hnb hdg hh0 hW3 hHA hKA hp hn
  go_enter Tryd.func18, Tryd.ntmps18
  go_upto_region 1 with fail
  rw [HW3.out]
  clear HW3
  generalize w.heap.size + 1 + 1 = pR at *
  generalize w.heap.size + 1 = pK at *
  generalize hpH : w.heap.size = pH at *
  have HPH := Lib.hid hpH
  clear hpH
  go_wp2_with fail
  refine HPD.out.mono ?_
  rintro e w1 ⟨A1, c1, rfl, hown, g1⟩
  have bH1 := Blk.chg bH g1 (by simp)
  have bK1 := Blk.chg bK g1 (by simp)
  have bR1 := Blk.chg bR g1 (by simp)
  have g01 := g0.trans g1
  clear HPD bH bK bR g0 g1
  have HOWN := Lib.hid hown
  clear hown
  go_upto_block 0 with fail
  go_cut [8] (fun _ wx => BlkL wx pH ((hashB P nb).map u32v) 25 ∧ Blk wx pR zero32 30 ∧ Chg none w wx)
  case first =>
    go_wp2_with fail
    go_loopw [8] (fun s8 wr => ∃ j i : Nat, j ≤ nb ∧ Hid (i = 64 * j) ∧ i ≤ PL ∧ s8 = .int .i64 i ∧ BlkL wr pH ((hashB P j).map u32v) 25 ∧ BlkL wr pK (K0.map u32v) 26 ∧ Blk wr pR zero32 30 ∧ wr.ownsRow W3.heap.size 5 1 (.slice A1 PL c1) PL (byteVals P) ∧ Chg none w wr) (fun s8 _ => PL - (intOf s8).toNat)
    case atStart => exact ⟨0, 0, by omega, rfl, by omega, rfl, bH1, bK1, bR1, HOWN.out, g01⟩
    case round =>
      obtain ⟨j, i, hj, HIJ, hiP, rfl, bH, bK, bR, hown, gi⟩ := hrel
      clear bH1 bK1 bR1 HOWN g01
      by_cases hlt : i < PL
      · have hjn : j < nb := by have h1 := HIJ.out; have h2 := HNB.out; omega
        have hi64 : i + 64 ≤ PL := by have h1 := HIJ.out; have h2 := HNB.out; omega
        obtain ⟨g, hA, hgl, hgr, hcp⟩ := own_bytes_cell hown (by omega)
        subst hA
        have hgb : W3.heap.size ≤ g := (hown.lt g rfl).1
        have hcut := fun v => cut64 g PL c1 i hi64 hcp v
        obtain ⟨X, hX⟩ : ∃ X, X = hashB P j := ⟨_, rfl⟩
        obtain ⟨BS, hBS⟩ : ∃ BS, BS = (P.drop i).take 64 := ⟨_, rfl⟩
        have hBl : BS.length = 64 := by rw [hBS, List.length_take, List.length_drop, ← HPL.out]; omega
        have hXl : X.length = 8 := by rw [hX, hashB_len]
        have hXr := hashB_rng P j
        rw [← hX] at bH hXr
        have hnext : hashB P (j + 1) = compress X BS := by rw [hashB, ← hX, ← HIJ.out, ← hBS]
        have hsrc : ∀ v, Chg none wr v → ∀ q c, BS[q]? = some c → v.cell? ⟨g, i + q, none⟩ = some (.int .u8 c.toNat) := by
          intro v hv q c hq
          have hq64 : q < 64 := by have := (List.getElem?_eq_some_iff.1 hq).1; omega
          rw [hBS, List.getElem?_take_of_lt hq64, List.getElem?_drop] at hq
          have := hgr (i + q) _ (byteVals_get hq)
          rw [Nat.zero_add] at this
          exact World.grownBy.cell hv this (by simp)
        have HBK : Hid (∀ v, Chg none wr v → Calls Tryd.prog 43 #[.agg (X.map u32v).toArray, .agg (K0.map u32v).toArray, .slice (some ⟨g, i, none⟩) 64 (c1 - i)] v fun e w' => e = .returned (.agg ((compress X BS).map u32v).toArray) ∧ Chg none v w') :=
          fun v hv => blockr_any X BS g i (c1 - i) v hXl hXr hBl (Nat.lt_of_lt_of_le hgl hv.size) (hsrc v hv)
        have HIX := Lib.hid (HI25.out X hXl)
        obtain ⟨C, hC⟩ : ∃ C, C = compress X BS := ⟨_, rfl⟩
        have hCl : C.length = 8 := by rw [hC]; rfl
        rw [← hC] at HBK hnext
        obtain ⟨hc8, hoc8⟩ := row8_facts C hCl
        obtain ⟨hx8, _⟩ := row8_facts X hXl
        have HIC : Hid ((Tryd.prog.info? 25).map (·.size) = some (C.map u32v).toArray.size) := by rw [hc8]; show _ = _; kernel_rfl
        have HOC := Lib.hid hoc8
        have HZC : Hid ((X.map u32v).toArray.size = (C.map u32v).toArray.size) := by rw [hc8, hx8]; rfl
        have HNX := Lib.hid hnext
        have HIJ0 := HIJ
        have HOWN := Lib.hid hown
        have E0 : Chg none wr wr.drew := (Chg.refl _ _).drew
        have hSK : wr.drew.rangeAt pK 0 (K0.map u32v) := Blk.range (w := wr.drew) (T := 26) bK
        have hSH : wr.drew.rangeAt pH 0 (X.map u32v) := Blk.range (w := wr.drew) (T := 25) bH
        clear hC hCl hc8 hoc8 hx8 hnext hX hBS hBl hXl hXr hsrc hown HIJ hcp hgr
        have i0 : (0 : Int) ≤ (i : Int) := by omega
        have i1 : IntKind.i64.wrap ((i : Int) + 64) = (i : Int) + 64 := IntWalk.i64_in _ (by omega)
        go_wp2_with fail
        refine wp_region_held_drew (S := fun w' => w'.rangeAt pK 0 (K0.map u32v)) (by kernel_rfl) hSK (fun _ => ?_)
        refine wpAnyH_take (i := 1) (oi := ⟨some 20, _, _, _, _, _⟩) (v := .agg (K0.map u32v).toArray) rfl (by kernel_rfl) (by kernel_rfl) (by kernel_rfl) (fun _ _ _ h => h) (yieldsIf_load_mid (by rfl) 26 _ rfl pK 0 rfl (K0.map u32v) _ (fun _ h => h) Tryd.underlying26 rfl HI26.out) (by assumption) ?_
        try simp only [Act.put, List.setIfInBounds_toArray, List.set_cons_zero, List.set_cons_succ]
        refine wpAnyH_take (i := 2) (oi := ⟨some 21, _, _, _, _, _⟩) (v := ?_) rfl (by kernel_rfl) (by kernel_rfl) (by kernel_rfl) (fun _ _ _ h => h) (Or.inl ⟨by rfl, ?_⟩) (by assumption) ?_
        rotate_left
        · intro w hSw; (try dsimp only at hSw); go_simp; (try with_reducible rfl)
        try simp only [Act.put, List.setIfInBounds_toArray, List.set_cons_zero, List.set_cons_succ]
        refine wpAnyH_take (i := 3) (oi := ⟨some 22, _, _, _, _, _⟩) (v := ?_) rfl (by kernel_rfl) (by kernel_rfl) (by kernel_rfl) (fun _ _ _ h => h) (Or.inl ⟨by rfl, ?_⟩) (by assumption) ?_
        rotate_left
        · intro w hSw; (try dsimp only at hSw); go_simp; (try with_reducible rfl)
        try simp only [Act.put, List.setIfInBounds_toArray, List.set_cons_zero, List.set_cons_succ]
        refine wpAnyH_take (i := 4) (oi := ⟨some 23, _, _, _, _, _⟩) (v := ?_) rfl (by kernel_rfl) (by kernel_rfl) (by kernel_rfl) (fun _ _ _ h => h) (Or.inl ⟨by rfl, ?_⟩) (by assumption) ?_
        rotate_left
        · intro w hSw; (try dsimp only at hSw); go_simp; (try with_reducible rfl)
        try simp only [Act.put, List.setIfInBounds_toArray, List.set_cons_zero, List.set_cons_succ]
        refine wpAnyH_take (i := 5) (oi := ⟨some 24, _, _, _, _, _⟩) (v := ?_) rfl (by kernel_rfl) (by kernel_rfl) (by kernel_rfl) (fun _ _ _ h => h) (Or.inl ⟨by rfl, ?_⟩) (by assumption) ?_
        rotate_left
        · intro w hSw; (try dsimp only at hSw); go_simp; (try with_reducible rfl)
        try simp only [Act.put, List.setIfInBounds_toArray, List.set_cons_zero, List.set_cons_succ]
        refine wpAnyH_take (i := 6) (oi := ⟨some 25, _, _, _, _, _⟩) (v := ?_) rfl (by kernel_rfl) (by kernel_rfl) (by kernel_rfl) (fun _ _ _ h => h) (Or.inl ⟨by rfl, ?_⟩) (by assumption) ?_
        rotate_left
        · intro w hSw; (try dsimp only at hSw); go_simp; (try with_reducible rfl)
        try simp only [Act.put, List.setIfInBounds_toArray, List.set_cons_zero, List.set_cons_succ]
        refine wpAnyH_ready (rs := [0]) (by kernel_rfl) (by simp) ?_
        refine AllReadyH.cons (o := ⟨some 19, _, _, _, _, _⟩) rfl (fun K hK => ?_) (AllReadyH.nil)
        rw [if_pos (by rfl)]
        refine wp_load_mid 25 (.tmp 3) (by rfl) pH 0 (by rfl) (X.map u32v) _ hSH Tryd.underlying25 rfl HIX.out ?_
        refine hK.out _ _ hSK (fun _ => ?_)
        clear hK K
        try simp only [Act.put, List.setIfInBounds_toArray, List.set_cons_zero, List.set_cons_succ]
        refine wpAnyH_ready (rs := [7]) (by kernel_rfl) (by simp) ?_
        refine AllReadyH.cons (o := ⟨some 26, _, _, _, _, _⟩) rfl (fun K hK => ?_) (AllReadyH.nil)
        go_simp
        go_at_call 43
        refine (HBK.out _ E0).mono ?_
        rintro e v1 ⟨rfl, g1⟩
        have E1 := E0.trans g1
        have hSK1 := rangeAt_chg hSK g1 (by simp)
        go_wp2_with fail
        refine hK.out _ _ hSK1 (fun _ => ?_)
        clear hK K
        try simp only [Act.put, List.setIfInBounds_toArray, List.set_cons_zero, List.set_cons_succ]
        refine wpAnyH_ready (rs := [8]) (by kernel_rfl) (by simp) ?_
        refine AllReadyH.cons (o := ⟨none, _, _, _, _, _⟩) rfl (fun K hK => ?_) (AllReadyH.nil)
        rw [if_pos (by rfl)]
        have bH4 := Blk.chg bH E1 (by simp)
        have hSZ : (World.setRow v1 pH (C.map u32v).toArray).rangeAt pK 0 (K0.map u32v) := rangeAt_chg hSK1 (chg_setRow _ _ _) (by simp; omega)
        refine wp_store_row 25 (.tmp 3) (.tmp 26) (by rfl) pH (C.map u32v).toArray (by rfl) (by rfl) 25 _ bH4 HIC.out HZC.out HOC.out ?_
        refine hK.out _ _ hSZ (fun _ => ?_)
        clear hK K
        refine wpAnyH_done (by kernel_rfl) ?_ _
        have gC : Chg (some pH) wr (World.setRow v1 pH (C.map u32v).toArray) := (Chg.weaken E1).trans (chg_setRow _ _ _)
        have bHn : BlkL (World.setRow v1 pH (C.map u32v).toArray) pH ((hashB P (j + 1)).map u32v) 25 := by rw [HNX.out]; exact setRow_heap _ _ _ _ _ _ bH4
        have bKn := Blk.chg bK gC (by simp; omega)
        have bRn := Blk.chg bR gC (by simp; omega)
        have gn : Chg none w (World.setRow v1 pH (C.map u32v).toArray) := Chg.own (b := pH) gi gC (by rw [HPH.out]; exact Nat.le_refl _)
        have hon := HOWN.out.kept gC (by simp [Value.ownBlock]; omega)
        have HIJ2 : Hid (i + 64 = 64 * (j + 1)) := by have := HIJ0.out; show _ = _; omega
        have HON := Lib.hid hon
        clear hon gC
        go_wp2_with fail
        go_roundw
        case rel => exact ⟨j + 1, i + 64, by omega, HIJ2, by omega, by go_num, bHn, bKn, bRn, HON.out, gn⟩
        case measure => first | (simp [intOf]; done) | (simp [intOf]; omega)
      · have hij : i = PL := by omega
        have hjn : j = nb := by have h1 := HIJ.out; have h2 := HNB.out; omega
        have hd : decide (i < PL) = false := by simp; omega
        rw [hjn] at bH
        clear hij hjn hown
        go_wp2_with fail
        go_meet
        exact ⟨bH, bR, gi⟩
  case rest =>
    obtain ⟨bH, bR, gi⟩ := hcut
    clear bH1 bK1 bR1 HOWN g01
    obtain ⟨wA, rfl⟩ : ∃ wA : World, wA = wc := ⟨_, rfl⟩
    obtain ⟨X, hX⟩ : ∃ X, X = hashB P nb := ⟨_, rfl⟩
    obtain ⟨D, hD⟩ : ∃ D, D = wordsBytes X := ⟨_, rfl⟩
    have hXl : X.length = 8 := by rw [hX, hashB_len]
    have hXr := hashB_rng P nb
    rw [← hX] at bH hXr
    have hDl : D.length = 32 := by rw [hD, wordsBytes_len, hXl]
    have hdx := HDG.out
    rw [← hX, ← hD] at hdx
    have HDX := Lib.hid hdx
    have hdat : ∀ q r, q < 8 → r < 4 → D.getD (4 * q + r) 0 = (wordBytes (X.getD q 0)).getD r 0 := fun q r hq hr => by rw [hD]; exact wordsBytes_at X q r (by omega) hr
    have HDA := Lib.hid hdat
    have HDL := Lib.hid hDl
    have HXL := Lib.hid hXl
    have HXR := Lib.hid hXr
    have hfz0 := fillD_zero D hDl
    have HFZ : Hid (#[Value.int IntKind.u8 0, Value.int IntKind.u8 0, Value.int IntKind.u8 0, Value.int IntKind.u8 0, Value.int IntKind.u8 0, Value.int IntKind.u8 0, Value.int IntKind.u8 0, Value.int IntKind.u8 0, Value.int IntKind.u8 0, Value.int IntKind.u8 0, Value.int IntKind.u8 0, Value.int IntKind.u8 0, Value.int IntKind.u8 0, Value.int IntKind.u8 0, Value.int IntKind.u8 0, Value.int IntKind.u8 0, Value.int IntKind.u8 0, Value.int IntKind.u8 0, Value.int IntKind.u8 0, Value.int IntKind.u8 0, Value.int IntKind.u8 0, Value.int IntKind.u8 0, Value.int IntKind.u8 0, Value.int IntKind.u8 0, Value.int IntKind.u8 0, Value.int IntKind.u8 0, Value.int IntKind.u8 0, Value.int IntKind.u8 0, Value.int IntKind.u8 0, Value.int IntKind.u8 0, Value.int IntKind.u8 0, Value.int IntKind.u8 0] = (fillD D 0).toArray) := by rw [hfz0]; rfl
    have hpR : pR < wA.heap.size := Blk.lt bR
    have hpHl : pH < wA.heap.size := Blk.lt bH
    have bD0 : BlkL (wA.alloc (.cells (fillD D 0).toArray 30)) wA.heap.size (fillD D 0) 30 := Blk.new _ _ _
    have bH0 := Blk.alloc bH (.cells (fillD D 0).toArray 30)
    have bR0 := Blk.alloc bR (.cells (fillD D 0).toArray 30)
    have g0 := gi.alloc (.cells (fillD D 0).toArray 30)
    have hpD : w.heap.size ≤ wA.heap.size := gi.size
    clear hX hD hXl hXr hDl hdx hdat hfz0 bH bR gi HDG
    go_upto_region 7 with fail
    rw [HFZ.out]
    generalize wA.alloc (.cells (fillD D 0).toArray 30) = wB at *
    generalize wA.heap.size = pD at *
    go_wp2_with fail
    go_loopw [10] (fun s10 wr => ∃ i : Nat, i ≤ 32 ∧ s10 = .int .i64 i ∧ BlkL wr pD (fillD D i) 30 ∧ BlkL wr pH (X.map u32v) 25 ∧ Blk wr pR zero32 30 ∧ Chg none w wr) (fun s10 _ => 32 - (intOf s10).toNat)
    case atStart => exact ⟨0, by omega, rfl, bD0, bH0, bR0, g0⟩
    case round =>
      obtain ⟨i, hi, rfl, bD, bH, bR, gi⟩ := hrel
      clear bD0 bH0 bR0 g0
      by_cases hlt : i < 32
      · obtain ⟨q, r, hqr, hr4⟩ : ∃ q r, i = 4 * q + r ∧ r < 4 := ⟨i / 4, i % 4, by omega, by omega⟩
        have hq8 : q < 8 := by omega
        have hda := HDA.out q r hq8 hr4
        rw [← hqr] at hda
        have cH : wr.cell? ⟨pH, q, none⟩ = some (.int .u32 (X.getD q 0)) := by rw [BlkL.cell bH]; exact u32_at X q (by rw [HXL.out]; exact hq8)
        have hxr := HXR.out q
        have hset := BlkL.set bD i (.int .u8 ((D.getD i 0).toNat : Int))
        rw [fillD_set D i (by rw [HDL.out]; exact hlt), hda] at hset
        have cD : wr.cell? ⟨pD, i, none⟩ = some (.int .u8 0) := by rw [BlkL.cell bD]; exact fillD_at D i (by rw [HDL.out]; exact hlt)
        have hfz := Blk.frozen bD i
        have hbz := Blk.lt bD
        generalize X.getD q 0 = x at *
        have id0 : (i : Int) / 4 = (q : Int) := by omega
        have i0 : (0 : Int) ≤ (i : Int) := by omega
        have i32 : (i : Int) < 32 := by omega
        have q0 : (0 : Int) ≤ (q : Int) := by omega
        have q8 : (q : Int) < 8 := by omega
        have HQR := Lib.hid hqr
        clear hda hxr hqr
        obtain rfl | rfl | rfl | rfl : r = 0 ∨ r = 1 ∨ r = 2 ∨ r = 3 := by omega
        · have im0 : (i : Int) % 4 = 0 := by have := HQR.out; omega
          have hv : (((wordBytes x).getD 0 0).toNat : Int) = x / 16777216 % 256 := by show ((byteOf _).toNat : Int) = _; rw [byteOf_val]
          rw [hv] at hset
          have HS := Lib.hid hset
          clear hset hv
          go_wp2_with fail
          go_roundw
          case rel => exact ⟨i + 1, by omega, by go_num, by exact HS.out, Blk.setOther bH _ _ (by show pH ≠ pD; omega), Blk.setOther bR _ _ (by show pR ≠ pD; omega), gi.setNew _ (by show w.heap.size ≤ pD; exact hpD) _⟩
          case measure => first | (simp [intOf]; done) | (simp [intOf]; omega)
        · have im0 : (i : Int) % 4 = 1 := by have := HQR.out; omega
          have hv : (((wordBytes x).getD 1 0).toNat : Int) = x / 65536 % 256 := by show ((byteOf _).toNat : Int) = _; rw [byteOf_val]
          rw [hv] at hset
          have HS := Lib.hid hset
          clear hset hv
          go_wp2_with fail
          go_roundw
          case rel => exact ⟨i + 1, by omega, by go_num, by exact HS.out, Blk.setOther bH _ _ (by show pH ≠ pD; omega), Blk.setOther bR _ _ (by show pR ≠ pD; omega), gi.setNew _ (by show w.heap.size ≤ pD; exact hpD) _⟩
          case measure => first | (simp [intOf]; done) | (simp [intOf]; omega)
        · have im0 : (i : Int) % 4 = 2 := by have := HQR.out; omega
          have hv : (((wordBytes x).getD 2 0).toNat : Int) = x / 256 % 256 := by show ((byteOf _).toNat : Int) = _; rw [byteOf_val]
          rw [hv] at hset
          have HS := Lib.hid hset
          clear hset hv
          go_wp2_with fail
          go_roundw
          case rel => exact ⟨i + 1, by omega, by go_num, by exact HS.out, Blk.setOther bH _ _ (by show pH ≠ pD; omega), Blk.setOther bR _ _ (by show pR ≠ pD; omega), gi.setNew _ (by show w.heap.size ≤ pD; exact hpD) _⟩
          case measure => first | (simp [intOf]; done) | (simp [intOf]; omega)
        · have im0 : (i : Int) % 4 = 3 := by have := HQR.out; omega
          have hv : (((wordBytes x).getD 3 0).toNat : Int) = x % 256 := by show ((byteOf _).toNat : Int) = _; rw [byteOf_val]
          rw [hv] at hset
          have HS := Lib.hid hset
          clear hset hv
          go_wp2_with fail
          go_roundw
          case rel => exact ⟨i + 1, by omega, by go_num, by exact HS.out, Blk.setOther bH _ _ (by show pH ≠ pD; omega), Blk.setOther bR _ _ (by show pR ≠ pD; omega), gi.setNew _ (by show w.heap.size ≤ pD; exact hpD) _⟩
          case measure => first | (simp [intOf]; done) | (simp [intOf]; omega)
      · have hi32 : i = 32 := by omega
        have hd32 : decide ((i : Int) < 32) = false := by simp; omega
        rw [hi32, fillD_all D 32 HDL.out] at bD
        clear hi32
        obtain ⟨hds, hdo⟩ := row_facts D 32 HDL.out
        have HID : Hid ((Tryd.prog.info? 30).map (·.size) = some (byteVals D).toArray.size) := by rw [hds]; show _ = _; kernel_rfl
        have HZD : Hid (zero32.size = (byteVals D).toArray.size) := by rw [hds]; rfl
        have HOD := Lib.hid hdo
        have hrD : wr.heap[pD]? = some (.cells (byteVals D).toArray 30 (0, 0)) := bD
        have HRD := Lib.hid hrD
        have HRR := Lib.hid bR
        clear hds hdo hrD
        go_wp2_with (first
          | (refine wpList_load_row rfl 30 _ rfl pD rfl 30 _ (0, 0) _ HRD.out Tryd.underlying30 rfl HID.out ?_)
          | (refine wpList_store_row rfl 30 _ _ rfl pR (byteVals D).toArray rfl rfl 30 _ HRR.out HID.out HZD.out HOD.out ?_))
        refine bodyPost_ret (results_cell_row (p := 6) (ty := 30) Tryd.results18 _ _ pR 30 (byteVals D).toArray (0, 0) _ rfl (setRow_heap _ _ _ _ _ _ HRR.out) Tryd.underlying30 rfl HID.out) rfl ⟨by rw [HDX.out], ?_⟩
        exact Chg.own (b := pR) gi (chg_setRow _ _ _) (by rw [HPH.out]; omega)

end Go.Proofs.YtdkgecphkppglaaDoor
