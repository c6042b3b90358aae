/-
  The document's digest: the words of primes' roots.
-/
import Derived.Test.YtdkgecphkppglaaDoorR4
import Derived.Test.YtdkgecphkppglaaDoorRC
namespace Go.Proofs.YtdkgecphkppglaaDoor
open Go.RowKit

theorem results_two_rows {fn : Func} {p q : Tmp} {ty uy : TypeId} (h : fn.results = #[.cell p ty, .cell q uy]) (tmps : Array Value) (P : Program) (w : World) (g k : Nat) (cs ds : List Value) (d e : TypeDesc)
    (hp : tmps.getD p undef = .pointer (some ⟨g, 0, none⟩)) (hg : w.rangeAt g 0 cs) (hu : P.underlying ty = some d) (hd : d.isRow = true) (hi : (P.info? ty).map (·.size) = some cs.length)
    (hq : tmps.getD q undef = .pointer (some ⟨k, 0, none⟩)) (hk : w.rangeAt k 0 ds) (hu' : P.underlying uy = some e) (hd' : e.isRow = true) (hi' : (P.info? uy).map (·.size) = some ds.length) :
    (results fn tmps).run P w = .ok (.tuple #[.agg cs.toArray, .agg ds.toArray]) w := by
  have hp' : tmps[p]?.getD undef = .pointer (some ⟨g, 0, none⟩) := by simpa using hp
  have hq' : tmps[q]?.getD undef = .pointer (some ⟨k, 0, none⟩) := by simpa using hq
  simp [results, h, hp', hq', asAddr, run_loadVar_mid w g 0 ty cs d hg hu hd hi, run_loadVar_mid w k 0 uy ds e hk hu' hd' hi']

def fillTo (L : List Int) (i : Nat) : List Value := (L.take i).map u32v ++ List.replicate (L.length - i) (.int .u32 0)
theorem fillTo_zero (L : List Int) : fillTo L 0 = List.replicate L.length (.int .u32 0) := by simp [fillTo]
theorem fillTo_all (L : List Int) : fillTo L L.length = L.map u32v := by unfold fillTo; rw [List.take_length, Nat.sub_self]; simp
theorem fillTo_at (L : List Int) (i : Nat) (h : i < L.length) : (fillTo L i)[i]? = some (.int .u32 0) := by
  unfold fillTo
  rw [List.getElem?_append_right (by simp; omega), List.length_map, List.length_take, Nat.min_eq_left (by omega), Nat.sub_self, show L.length - i = (L.length - (i + 1)) + 1 by omega, List.replicate_succ]; rfl
theorem fillTo_set (L : List Int) (i : Nat) (h : i < L.length) : (fillTo L i).set i (u32v (L.getD i 0)) = fillTo L (i + 1) := by
  unfold fillTo
  have hl : ((L.take i).map u32v).length = i := by rw [List.length_map, List.length_take]; omega
  rw [List.set_append_right _ _ (by omega), hl, Nat.sub_self, show L.length - i = (L.length - (i + 1)) + 1 by omega, List.replicate_succ, List.set_cons_zero, List.take_succ_eq_append_getElem h, List.map_append, List.append_assoc,
    List.getD_eq_getElem?_getD, List.getElem?_eq_getElem h]
  rfl

def WordsPost (w : World) (e : Ending) (w' : World) : Prop := e = .returned (.tuple #[.agg (H0.map u32v).toArray, .agg (K0.map u32v).toArray]) ∧ Chg none w w'

theorem own_int_cell {w : World} {base n c : Nat} {A : Option Addr} {L : List Nat} (h : w.ownsRow base 3 1 (.slice A n c) n (ints L)) (hn : 0 < n) : ∃ g, A = some ⟨g, 0, none⟩ ∧ g < w.heap.size ∧ w.rangeAt g 0 (ints L) := by
  obtain ⟨g, cap, hv, _, hlt⟩ := h.form hn
  have hA : A = some ⟨g, 0, none⟩ := by injection hv
  subst hA
  refine ⟨g, rfl, hlt, fun j v hv => ?_⟩
  have := h.cells (g := g) rfl j v hv
  rwa [Go.WideShapes.add_plain] at this

set_option maxRecDepth 100000 in
set_option maxHeartbeats 8000000 in
theorem words_any (w : World) : Calls Tryd.prog 16 #[] w (WordsPost w) := by
  obtain ⟨W4, hW4⟩ : ∃ W4, W4 = (((w.alloc (.cells (fillTo H0 0).toArray 25)).alloc (.cells (fillTo K0 0).toArray 26)).alloc (.cells (fillTo H0 0).toArray 25)).alloc (.cells (fillTo K0 0).toArray 26) := ⟨_, rfl⟩
  have HW4 : Hid ((((w.alloc (.cells #[Value.int IntKind.u32 0, Value.int IntKind.u32 0, Value.int IntKind.u32 0, Value.int IntKind.u32 0, Value.int IntKind.u32 0, Value.int IntKind.u32 0, Value.int IntKind.u32 0, Value.int IntKind.u32 0] 25)).alloc (.cells #[Value.int IntKind.u32 0, Value.int IntKind.u32 0, Value.int IntKind.u32 0, Value.int IntKind.u32 0, Value.int IntKind.u32 0, Value.int IntKind.u32 0, Value.int IntKind.u32 0, Value.int IntKind.u32 0, Value.int IntKind.u32 0, Value.int IntKind.u32 0, Value.int IntKind.u32 0, Value.int IntKind.u32 0, Value.int IntKind.u32 0, Value.int IntKind.u32 0, Value.int IntKind.u32 0, Value.int IntKind.u32 0, Value.int IntKind.u32 0, Value.int IntKind.u32 0, Value.int IntKind.u32 0, Value.int IntKind.u32 0, Value.int IntKind.u32 0, Value.int IntKind.u32 0, Value.int IntKind.u32 0, Value.int IntKind.u32 0, Value.int IntKind.u32 0, Value.int IntKind.u32 0, Value.int IntKind.u32 0, Value.int IntKind.u32 0, Value.int IntKind.u32 0, Value.int IntKind.u32 0, Value.int IntKind.u32 0, Value.int IntKind.u32 0, Value.int IntKind.u32 0, Value.int IntKind.u32 0, Value.int IntKind.u32 0, Value.int IntKind.u32 0, Value.int IntKind.u32 0, Value.int IntKind.u32 0, Value.int IntKind.u32 0, Value.int IntKind.u32 0, Value.int IntKind.u32 0, Value.int IntKind.u32 0, Value.int IntKind.u32 0, Value.int IntKind.u32 0, Value.int IntKind.u32 0, Value.int IntKind.u32 0, Value.int IntKind.u32 0, Value.int IntKind.u32 0, Value.int IntKind.u32 0, Value.int IntKind.u32 0, Value.int IntKind.u32 0, Value.int IntKind.u32 0, Value.int IntKind.u32 0, Value.int IntKind.u32 0, Value.int IntKind.u32 0, Value.int IntKind.u32 0, Value.int IntKind.u32 0, Value.int IntKind.u32 0, Value.int IntKind.u32 0, Value.int IntKind.u32 0, Value.int IntKind.u32 0, Value.int IntKind.u32 0, Value.int IntKind.u32 0, Value.int IntKind.u32 0] 26)).alloc (.cells #[Value.int IntKind.u32 0, Value.int IntKind.u32 0, Value.int IntKind.u32 0, Value.int IntKind.u32 0, Value.int IntKind.u32 0, Value.int IntKind.u32 0, Value.int IntKind.u32 0, Value.int IntKind.u32 0] 25)).alloc (.cells #[Value.int IntKind.u32 0, Value.int IntKind.u32 0, Value.int IntKind.u32 0, Value.int IntKind.u32 0, Value.int IntKind.u32 0, Value.int IntKind.u32 0, Value.int IntKind.u32 0, Value.int IntKind.u32 0, Value.int IntKind.u32 0, Value.int IntKind.u32 0, Value.int IntKind.u32 0, Value.int IntKind.u32 0, Value.int IntKind.u32 0, Value.int IntKind.u32 0, Value.int IntKind.u32 0, Value.int IntKind.u32 0, Value.int IntKind.u32 0, Value.int IntKind.u32 0, Value.int IntKind.u32 0, Value.int IntKind.u32 0, Value.int IntKind.u32 0, Value.int IntKind.u32 0, Value.int IntKind.u32 0, Value.int IntKind.u32 0, Value.int IntKind.u32 0, Value.int IntKind.u32 0, Value.int IntKind.u32 0, Value.int IntKind.u32 0, Value.int IntKind.u32 0, Value.int IntKind.u32 0, Value.int IntKind.u32 0, Value.int IntKind.u32 0, Value.int IntKind.u32 0, Value.int IntKind.u32 0, Value.int IntKind.u32 0, Value.int IntKind.u32 0, Value.int IntKind.u32 0, Value.int IntKind.u32 0, Value.int IntKind.u32 0, Value.int IntKind.u32 0, Value.int IntKind.u32 0, Value.int IntKind.u32 0, Value.int IntKind.u32 0, Value.int IntKind.u32 0, Value.int IntKind.u32 0, Value.int IntKind.u32 0, Value.int IntKind.u32 0, Value.int IntKind.u32 0, Value.int IntKind.u32 0, Value.int IntKind.u32 0, Value.int IntKind.u32 0, Value.int IntKind.u32 0, Value.int IntKind.u32 0, Value.int IntKind.u32 0, Value.int IntKind.u32 0, Value.int IntKind.u32 0, Value.int IntKind.u32 0, Value.int IntKind.u32 0, Value.int IntKind.u32 0, Value.int IntKind.u32 0, Value.int IntKind.u32 0, Value.int IntKind.u32 0, Value.int IntKind.u32 0, Value.int IntKind.u32 0] 26) = W4) := hW4.symm
  have g0 : Chg none w W4 := by rw [hW4]; exact ((((Chg.refl _ _).alloc _).alloc _).alloc _).alloc _
  have bR0 : BlkL W4 w.heap.size (fillTo H0 0) 25 := by rw [hW4]; exact Blk.alloc (Blk.alloc (Blk.alloc (Blk.new _ _ _) _) _) _
  have bR1 : BlkL W4 (w.heap.size + 1) (fillTo K0 0) 26 := by rw [hW4]; exact Blk.alloc (Blk.alloc (Blk.newAt _ _ (by simp)) _) _
  have bH : BlkL W4 (w.heap.size + 1 + 1) (fillTo H0 0) 25 := by rw [hW4]; exact Blk.alloc (Blk.newAt _ _ (by simp)) _
  have bK : BlkL W4 (w.heap.size + 1 + 1 + 1) (fillTo K0 0) 26 := by rw [hW4]; exact Blk.newAt _ _ (by simp)
  have hRH : w.heap.size < w.heap.size + 1 + 1 := by omega
  have hRK : w.heap.size + 1 < w.heap.size + 1 + 1 + 1 := by omega
  have hR01 : w.heap.size < w.heap.size + 1 := by omega
  have hR1H : w.heap.size + 1 < w.heap.size + 1 + 1 := by omega
  have hHK : w.heap.size + 1 + 1 < w.heap.size + 1 + 1 + 1 := by omega
  have hle : w.heap.size ≤ w.heap.size := Nat.le_refl _
  have HPR := Lib.hid (primes_any W4)
  have HRW3 := Lib.hid (fun i v => rootw_any ((primesB 312).getD i 0) 3 (by
    by_cases h : i < (primesB 312).length
    · rw [List.getD_eq_getElem?_getD, List.getElem?_eq_getElem h]; have := primes_lt 312 _ (List.getElem_mem h); simp; omega
    · rw [List.getD_eq_getElem?_getD, List.getElem?_eq_none (by omega)]; decide) (by decide) (by decide) v)
  have HRW2 := Lib.hid (fun i v => rootw_any ((primesB 312).getD i 0) 2 (by
    by_cases h : i < (primesB 312).length
    · rw [List.getD_eq_getElem?_getD, List.getElem?_eq_getElem h]; have := primes_lt 312 _ (List.getElem_mem h); simp; omega
    · rw [List.getD_eq_getElem?_getD, List.getElem?_eq_none (by omega)]; decide) (by decide) (by decide) v)
  have HPL := Lib.hid primes_all
  obtain ⟨PL, hPL⟩ : ∃ PL, PL = primesB 312 := ⟨_, rfl⟩
  have HK := Lib.hid roots_K
  have HH := Lib.hid roots_H
  unfold PrimesPost at HPR
  rw [← hPL] at HPR HRW3 HRW2 HPL HK HH
  clear hW4 hPL
  go_enter Tryd.func16, Tryd.ntmps16
  go_wp2_with fail
  rw [HW4.out]
  clear HW4
  generalize w.heap.size + 1 + 1 + 1 = pK at *
  generalize w.heap.size + 1 + 1 = pH at *
  generalize w.heap.size + 1 = pR1 at *
  generalize hpR : w.heap.size = pR0 at *
  have HPR0 := Lib.hid hpR
  clear hpR
  have HPR' := Lib.hid (show Calls Tryd.prog 38 #[.int .i64 64] W4 (fun e w' => ∃ A c, e = .returned (.slice A 64 c) ∧ w'.ownsRow W4.heap.size 3 1 (.slice A 64 c) 64 (ints PL) ∧ Chg none W4 w') from HPR.out)
  refine HPR'.out.mono ?_
  rintro e w1 ⟨A4, c4, rfl, hown, g1⟩
  obtain ⟨pp, rfl, hpp, rP⟩ := own_int_cell hown (by decide)
  have g01 := g0.trans g1
  have bR01 := Blk.chg bR0 g1 (by simp)
  have bR11 := Blk.chg bR1 g1 (by simp)
  have bH1 := Blk.chg bH g1 (by simp)
  have bK1 := Blk.chg bK g1 (by simp)
  have hppn : pK < pp := by have := (hown.lt pp rfl).1; have := Blk.lt bK; omega
  have HRP := Lib.hid rP
  clear hown HPR HPR' bR0 bR1 bH bK g0 g1 rP
  go_wp2_with fail
  go_loopw [5] (fun s5 wr => ∃ i : Nat, i ≤ 64 ∧ s5 = .int .i64 i ∧ BlkL wr pK (fillTo K0 i) 26 ∧ BlkL wr pH (fillTo H0 (min i 8)) 25 ∧ BlkL wr pR0 (fillTo H0 0) 25 ∧ BlkL wr pR1 (fillTo K0 0) 26 ∧ Hid (wr.rangeAt pp 0 (ints PL)) ∧ Chg none w wr) (fun s5 _ => 64 - (intOf s5).toNat)
  case atStart => exact ⟨0, by omega, rfl, bK1, bH1, bR01, bR11, HRP, g01⟩
  case round =>
    obtain ⟨i, hi, rfl, bK, bH, bR0, bR1, HRPi, gi⟩ := hrel
    clear bK1 bH1 bR01 bR11 HRP g01
    by_cases hlt : i < 64
    · have rP := HRPi.out
      have hgi : i < PL.length := by rw [HPL.out]; exact hlt
      have cP : wr.cell? ⟨pp, i, none⟩ = some (.int .i64 ((PL.getD i 0 : Nat) : Int)) := by
        have := rP i _ (by unfold ints; rw [List.getElem?_map, List.getElem?_eq_getElem hgi]; rfl)
        rw [Nat.zero_add] at this
        rw [this, List.getD_eq_getElem?_getD, List.getElem?_eq_getElem hgi]; rfl
      have C3 := Lib.hid (fun v => HRW3.out i v)
      have C2 := Lib.hid (fun v => HRW2.out i v)
      have hk3 := HK.out i hlt
      rw [hk3] at C3
      have hsetK := fillTo_set K0 i hlt
      have hatK := fillTo_at K0 i hlt
      have HSK := Lib.hid hsetK
      have HAK := Lib.hid hatK
      have hp64 : (i : Int) < 64 := by omega
      obtain ⟨kk, hkk⟩ : ∃ kk, kk = K0.getD i 0 := ⟨_, rfl⟩
      rw [← hkk] at C3 HSK
      have HRPI := HRPi
      by_cases h8 : i < 8
      · have hh2 := HH.out i h8
        rw [hh2] at C2
        have e8 : min i 8 = i := by omega
        have e9 : min (i + 1) 8 = i + 1 := by omega
        rw [e8] at bH
        have hsetH := fillTo_set H0 i h8
        have hatH := fillTo_at H0 i h8
        have HSH := Lib.hid hsetH
        have HAH := Lib.hid hatH
        obtain ⟨hhv, hhh⟩ : ∃ hhv, hhv = H0.getD i 0 := ⟨_, rfl⟩
        rw [← hhh] at C2 HSH
        have E9 := Lib.hid e9
        have t8 : decide ((i : Int) < 8) = true := by simp; omega
        have i8 : (i : Int) < 8 := by omega
        generalize PL.getD i 0 = pi at *
        clear hk3 hsetK hatK hkk hh2 e8 e9 hsetH hatH hhh rP
        go_wp2_with fail
        refine (C3.out _).mono ?_
        rintro e w5 ⟨rfl, g5⟩
        have bK5 := Blk.chg bK g5 (by simp)
        have bH5 := Blk.chg bH g5 (by simp)
        have cK5 : w5.cell? ⟨pK, i, none⟩ = some (.int .u32 0) := by rw [BlkL.cell bK5]; exact HAK.out
        have fK5 := Blk.frozen bK5 i
        have lK5 := Blk.lt bK5
        have bK6 : BlkL (w5.setCell ⟨pK, i, none⟩ (.int .u32 kk)) pK (fillTo K0 (i + 1)) 26 := by
          have := BlkL.set bK5 i (u32v kk)
          rwa [HSK.out] at this
        have bH6 : BlkL (w5.setCell ⟨pK, i, none⟩ (.int .u32 kk)) pH (fillTo H0 i) 25 := Blk.setOther bH5 _ _ (by show pH ≠ pK; omega)
        have bR06 : BlkL (w5.setCell ⟨pK, i, none⟩ (.int .u32 kk)) pR0 (fillTo H0 0) 25 := Blk.setOther (Blk.chg bR0 g5 (by simp)) _ _ (by show pR0 ≠ pK; omega)
        have bR16 : BlkL (w5.setCell ⟨pK, i, none⟩ (.int .u32 kk)) pR1 (fillTo K0 0) 26 := Blk.setOther (Blk.chg bR1 g5 (by simp)) _ _ (by show pR1 ≠ pK; omega)
        have g6 : Chg none w (w5.setCell ⟨pK, i, none⟩ (.int .u32 kk)) := (gi.trans g5).setNew _ (by show w.heap.size ≤ pK; rw [HPR0.out]; omega) _
        have cP6 : (w5.setCell ⟨pK, i, none⟩ (.int .u32 kk)).cell? ⟨pp, i, none⟩ = some (.int .i64 (pi : Int)) := by
          rw [World.cell?_setCell_other _ _ _ _ (by intro e; injection e with e1; omega)]
          exact World.grownBy.cell g5 cP (by simp)
        have HRP6 : Hid ((w5.setCell ⟨pK, i, none⟩ (.int .u32 kk)).rangeAt pp 0 (ints PL)) := fun j v hv => by
          rw [World.cell?_setCell_other _ _ _ _ (by intro e; injection e with e1; omega)]
          exact World.grownBy.cell g5 (HRPI.out j v hv) (by simp)
        clear cP bK bH bR0 bR1 bH5 gi g5 HRPi HRPI
        go_upto_region 8 with (fail)
        generalize w5.setCell ⟨pK, i, none⟩ (.int .u32 kk) = v6 at *
        clear cK5 fK5 lK5 bK5
        go_wp2_with fail
        refine (C2.out _).mono ?_
        rintro e w7 ⟨rfl, g7⟩
        have bH7 := Blk.chg bH6 g7 (by simp)
        have cH7 : w7.cell? ⟨pH, i, none⟩ = some (.int .u32 0) := by rw [BlkL.cell bH7]; exact HAH.out
        have fH7 := Blk.frozen bH7 i
        have lH7 := Blk.lt bH7
        have bH8 : BlkL (w7.setCell ⟨pH, i, none⟩ (.int .u32 hhv)) pH (fillTo H0 (min (i + 1) 8)) 25 := by
          have := BlkL.set bH7 i (u32v hhv)
          rw [HSH.out] at this
          rw [E9.out]; exact this
        have bK8 : BlkL (w7.setCell ⟨pH, i, none⟩ (.int .u32 hhv)) pK (fillTo K0 (i + 1)) 26 := Blk.setOther (Blk.chg bK6 g7 (by simp)) _ _ (by show pK ≠ pH; omega)
        have bR08 : BlkL (w7.setCell ⟨pH, i, none⟩ (.int .u32 hhv)) pR0 (fillTo H0 0) 25 := Blk.setOther (Blk.chg bR06 g7 (by simp)) _ _ (by show pR0 ≠ pH; omega)
        have bR18 : BlkL (w7.setCell ⟨pH, i, none⟩ (.int .u32 hhv)) pR1 (fillTo K0 0) 26 := Blk.setOther (Blk.chg bR16 g7 (by simp)) _ _ (by show pR1 ≠ pH; omega)
        have g8 : Chg none w (w7.setCell ⟨pH, i, none⟩ (.int .u32 hhv)) := (g6.trans g7).setNew _ (by show w.heap.size ≤ pH; rw [HPR0.out]; omega) _
        have HRP8 : Hid ((w7.setCell ⟨pH, i, none⟩ (.int .u32 hhv)).rangeAt pp 0 (ints PL)) := fun j v hv => by
          rw [World.cell?_setCell_other _ _ _ _ (by intro e; injection e with e1; omega)]
          exact World.grownBy.cell g7 (HRP6.out j v hv) (by simp)
        clear cP6 bK6 bH6 bR06 bR16 g6 g7 HRP6
        go_wp2_with fail
        go_roundw
        case rel => exact ⟨i + 1, by omega, by go_num, bK8, bH8, bR08, bR18, HRP8, g8⟩
        case measure => first | (simp [intOf]; done) | (simp [intOf]; omega)
      · have e8 : min i 8 = min (i + 1) 8 := by omega
        rw [e8] at bH
        have t8 : decide ((i : Int) < 8) = false := by simp; omega
        generalize PL.getD i 0 = pi at *
        clear hk3 hsetK hatK hkk e8 C2 rP
        go_wp2_with fail
        refine (C3.out _).mono ?_
        rintro e w5 ⟨rfl, g5⟩
        have bK5 := Blk.chg bK g5 (by simp)
        have bH5 := Blk.chg bH g5 (by simp)
        have cK5 : w5.cell? ⟨pK, i, none⟩ = some (.int .u32 0) := by rw [BlkL.cell bK5]; exact HAK.out
        have fK5 := Blk.frozen bK5 i
        have lK5 := Blk.lt bK5
        have bK6 : BlkL (w5.setCell ⟨pK, i, none⟩ (.int .u32 kk)) pK (fillTo K0 (i + 1)) 26 := by
          have := BlkL.set bK5 i (u32v kk)
          rwa [HSK.out] at this
        have bH6 : BlkL (w5.setCell ⟨pK, i, none⟩ (.int .u32 kk)) pH (fillTo H0 (min (i + 1) 8)) 25 := Blk.setOther bH5 _ _ (by show pH ≠ pK; omega)
        have bR06 : BlkL (w5.setCell ⟨pK, i, none⟩ (.int .u32 kk)) pR0 (fillTo H0 0) 25 := Blk.setOther (Blk.chg bR0 g5 (by simp)) _ _ (by show pR0 ≠ pK; omega)
        have bR16 : BlkL (w5.setCell ⟨pK, i, none⟩ (.int .u32 kk)) pR1 (fillTo K0 0) 26 := Blk.setOther (Blk.chg bR1 g5 (by simp)) _ _ (by show pR1 ≠ pK; omega)
        have g6 : Chg none w (w5.setCell ⟨pK, i, none⟩ (.int .u32 kk)) := (gi.trans g5).setNew _ (by show w.heap.size ≤ pK; rw [HPR0.out]; omega) _
        have HRP6 : Hid ((w5.setCell ⟨pK, i, none⟩ (.int .u32 kk)).rangeAt pp 0 (ints PL)) := fun j v hv => by
          rw [World.cell?_setCell_other _ _ _ _ (by intro e; injection e with e1; omega)]
          exact World.grownBy.cell g5 (HRPI.out j v hv) (by simp)
        clear cP bK bH bR0 bR1 bH5 gi g5 HRPi HRPI
        go_wp2_with fail
        go_roundw
        case rel => exact ⟨i + 1, by omega, by go_num, bK6, bH6, bR06, bR16, HRP6, g6⟩
        case measure => first | (simp [intOf]; done) | (simp [intOf]; omega)
    · have hi64 : i = 64 := by omega
      subst hi64
      have e1 : fillTo K0 64 = K0.map u32v := fillTo_all K0
      have e2 : fillTo H0 (min 64 8) = H0.map u32v := fillTo_all H0
      rw [e1] at bK
      rw [e2] at bH
      have HIH : Hid ((Tryd.prog.info? 25).map (·.size) = some (H0.map u32v).length) := by show _ = _; kernel_rfl
      have HIK : Hid ((Tryd.prog.info? 26).map (·.size) = some (K0.map u32v).length) := by show _ = _; kernel_rfl
      have HIHa : Hid ((Tryd.prog.info? 25).map (·.size) = some (H0.map u32v).toArray.size) := by show _ = _; kernel_rfl
      have HIKa : Hid ((Tryd.prog.info? 26).map (·.size) = some (K0.map u32v).toArray.size) := by show _ = _; kernel_rfl
      have HOH : Hid ((H0.map u32v).toArray.all (·.oneCell') = true) := by show _ = _; kernel_rfl
      have HOK : Hid ((K0.map u32v).toArray.all (·.oneCell') = true) := by show _ = _; kernel_rfl
      have hS0 : wr.drew.rangeAt pH 0 (H0.map u32v) ∧ wr.drew.rangeAt pK 0 (K0.map u32v) := ⟨Blk.range bH, Blk.range bK⟩
      have gd := gi.drew
      have bR0' : Blk wr.drew pR0 (fillTo H0 0).toArray 25 := bR0.drew
      have bR1' : Blk wr.drew pR1 (List.replicate 64 (Value.int .u32 0)).toArray 26 := by rw [fillTo_zero] at bR1; exact Blk.drew bR1
      clear bR0 bR1 bK bH gi e1 e2 HRPi HRW3 HRW2 HPL HK HH
      go_wp2_with fail
      refine wp_region_held_drew (S := fun w' => w'.rangeAt pH 0 (H0.map u32v) ∧ w'.rangeAt pK 0 (K0.map u32v)) (by kernel_rfl) hS0 (fun _ => ?_)
      generalize wr.drew = v0 at *
      have bR0 := bR0'
      have bR1 := bR1'
      clear bR0' bR1'
      refine wpAnyH_take (i := 0) (oi := ⟨some 27, _, _, _, _, _⟩) (v := .agg (H0.map u32v).toArray) rfl (by kernel_rfl) (by kernel_rfl) (by kernel_rfl) (fun _ _ _ h => h) (yieldsIf_load_mid (by rfl) 25 _ rfl pH 0 rfl (H0.map u32v) _ (fun _ h => h.1) Tryd.underlying25 rfl HIH.out) (by assumption) ?_
      try simp only [Act.put, List.setIfInBounds_toArray, List.set_cons_zero, List.set_cons_succ]
      refine wpAnyH_take (i := 1) (oi := ⟨some 28, _, _, _, _, _⟩) (v := .agg (K0.map u32v).toArray) rfl (by kernel_rfl) (by kernel_rfl) (by kernel_rfl) (fun _ _ _ h => h) (yieldsIf_load_mid (by rfl) 26 _ rfl pK 0 rfl (K0.map u32v) _ (fun _ h => h.2) Tryd.underlying26 rfl HIK.out) (by assumption) ?_
      try simp only [Act.put, List.setIfInBounds_toArray, List.set_cons_zero, List.set_cons_succ]
      refine wpAnyH_ready (rs := [2]) (by kernel_rfl) (by simp) ?_
      refine AllReadyH.cons (o := ⟨none, _, _, _, _, _⟩) rfl (fun K hK => ?_) (AllReadyH.nil)
      rw [if_pos (by rfl)]
      refine wp_store_row 25 (.tmp 0) (.tmp 27) (by rfl) pR0 (H0.map u32v).toArray (by rfl) (by rfl) 25 _ bR0 HIHa.out (by rfl) HOH.out ?_
      have sA : (v0.setRow pR0 (H0.map u32v).toArray).rangeAt pH 0 (H0.map u32v) ∧ (v0.setRow pR0 (H0.map u32v).toArray).rangeAt pK 0 (K0.map u32v) := ⟨rangeAt_chg hS0.1 (chg_setRow _ pR0 _) (by simp; omega), rangeAt_chg hS0.2 (chg_setRow _ pR0 _) (by simp; omega)⟩
      have bR1' : Blk (v0.setRow pR0 (H0.map u32v).toArray) pR1 (List.replicate 64 (Value.int .u32 0)).toArray 26 := Blk.chg bR1 (chg_setRow _ pR0 _) (by simp; omega)
      have bH' : Blk (v0.setRow pR0 (H0.map u32v).toArray) pR0 (H0.map u32v).toArray 25 := setRow_heap _ _ _ _ _ _ bR0
      refine hK.out _ _ sA (fun _ => ?_)
      clear hK K
      refine wpAnyH_ready (rs := [3]) (by kernel_rfl) (by simp) ?_
      refine AllReadyH.cons (o := ⟨none, _, _, _, _, _⟩) rfl (fun K hK => ?_) (AllReadyH.nil)
      rw [if_pos (by rfl)]
      refine wp_store_row 26 (.tmp 1) (.tmp 28) (by rfl) pR1 (K0.map u32v).toArray (by rfl) (by rfl) 26 _ bR1' HIKa.out (by rfl) HOK.out ?_
      have sB : ((v0.setRow pR0 (H0.map u32v).toArray).setRow pR1 (K0.map u32v).toArray).rangeAt pH 0 (H0.map u32v) ∧ ((v0.setRow pR0 (H0.map u32v).toArray).setRow pR1 (K0.map u32v).toArray).rangeAt pK 0 (K0.map u32v) := ⟨rangeAt_chg sA.1 (chg_setRow _ pR1 _) (by simp; omega), rangeAt_chg sA.2 (chg_setRow _ pR1 _) (by simp; omega)⟩
      refine hK.out _ _ sB (fun _ => ?_)
      clear hK K
      refine wpAnyH_done (by kernel_rfl) ?_ _
      try simp only [Act.put]
      go_wp2_with fail
      have bK' : Blk ((v0.setRow pR0 (H0.map u32v).toArray).setRow pR1 (K0.map u32v).toArray) pR1 (K0.map u32v).toArray 26 := setRow_heap _ _ _ _ _ _ bR1'
      have bH2 : Blk ((v0.setRow pR0 (H0.map u32v).toArray).setRow pR1 (K0.map u32v).toArray) pR0 (H0.map u32v).toArray 25 := Blk.chg bH' (chg_setRow _ pR1 _) (by simp; omega)
      refine bodyPost_ret (results_two_rows (p := 0) (q := 1) (ty := 25) (uy := 26) Tryd.results16 _ _ _ pR0 pR1 (H0.map u32v) (K0.map u32v) _ _ rfl (Blk.range bH2) Tryd.underlying25 rfl HIH.out rfl (Blk.range bK') Tryd.underlying26 rfl HIK.out) rfl ⟨rfl, ?_⟩
      exact Chg.own (b := pR1) (Chg.own (b := pR0) gd (chg_setRow _ _ _) (by rw [HPR0.out]; exact Nat.le_refl _)) (chg_setRow _ _ _) (by rw [HPR0.out]; omega)

end Go.Proofs.YtdkgecphkppglaaDoor
