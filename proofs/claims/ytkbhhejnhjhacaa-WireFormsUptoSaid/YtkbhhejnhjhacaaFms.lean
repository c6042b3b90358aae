/-
  The law WireForms: its walk.
-/
import Derived.Test.YtkbhhejnhjhacaaX
import Derived.Test.YtkbhhejnhjhacaaBnd
import Derived.Deep.Cut
import Derived.Deep.DeepCutAuto
namespace Go.Proofs.Ytkbhhejnhjhacaa
open Go.RowKit

theorem wpAnyH_to {P : Program} {md : Region.Mode} {ops : Array Oper} {Q : Exit → Act → World → Prop} {S S2 : World → Prop} (hs : ∀ w, S2 w → S w) :
    ∀ {fuel : Nat} {listed : Array Bool} {a : Act} {w : World}, wpAnyH P md ops Q S2 fuel listed a w → wpAnyH P md ops Q S fuel listed a w
  | 0, _, _, _, h => h
  | _ + 1, _, _, _, h => ⟨h.1, fun i hi => wpOp_mono (fun _ _ h' => ⟨hs _ h'.1, wpAnyH_to hs h'.2⟩) (h.2 i hi)⟩

theorem cvS {w : World} {A : Option Addr} {n c base : Nat} {bs : List UInt8} {S : ByteArray} (hS : S = strOf bs) (h : w.ownsRow base 5 1 (.slice A n c) n (byteVals bs)) : (convert 22 9 (.slice A n c)).run Try.prog w = .ok (.string S) w := by
  rw [hS]; exact conv_own w h

/-- Behind the document's answers: where they stand. -/
def FMid (w8 : World) (SB SF SR SL : ByteArray) (s14 : Value) (wx : World) : Prop :=
  ∃ h, s14 = .pointer (some ⟨h, 0, none⟩) ∧ Blk wx h #[.string (SB ++ SF), .string (SB ++ SR), .string (SB ++ SL)] 34 ∧ Chg none w8 wx

theorem FMid.of {w8 u : World} {SB SF SR SL : ByteArray} {h : Nat} (hk : Blk u h #[.string { data := #[] }, .string { data := #[] }, .string { data := #[] }] 34) (hB : Below w8.heap.size w8 u) (hw : w8.heap.size ≤ h) :
    FMid w8 SB SF SR SL (.pointer (some ⟨h, 0, none⟩)) (((u.setCell ⟨h, 0, none⟩ (.string (SB ++ SF))).setCell ⟨h, 1, none⟩ (.string (SB ++ SR))).setCell ⟨h, 2, none⟩ (.string (SB ++ SL))) := by
  refine ⟨h, rfl, ((hk.set 0 _).set 1 _).set 2 _, ?_⟩
  have g : Chg none w8 u := ⟨hB.os, hB.tape, hB.output, hB.size, fun i hi _ => hB.block i hi⟩
  exact ((g.setNew ⟨h, 0, none⟩ hw _).setNew ⟨h, 1, none⟩ hw _).setNew ⟨h, 2, none⟩ hw _

theorem own_set3 {u : World} {base n h : Nat} {v : Value} {xs : List Value} {cs : Array Value} (ho : u.ownsRow base 5 1 v n xs) (hk : Blk u h cs 34) (x y z : Value) :
    (((u.setCell ⟨h, 0, none⟩ x).setCell ⟨h, 1, none⟩ y).setCell ⟨h, 2, none⟩ z).ownsRow base 5 1 v n xs := by
  have hne : v.ownBlock ≠ some h := by
    rcases ho.2 with ⟨rfl, _⟩ | ⟨g, cap, cur, rfl, _, hh, _⟩
    · simp [Value.ownBlock]
    · intro e
      have : g = h := by simpa [Value.ownBlock] using e
      subst this
      unfold Blk at hk
      rw [hh] at hk
      injection hk with hk
      injection hk with _ ht
      exact absurd ht (by decide)
  exact own_other (own_other (own_other ho _ _ hne) _ _ hne) _ _ hne

/-- What the three writers told. -/
structure Gt where
  A : Option Addr
  c : Nat
  ys : List UInt8
  base : Nat
def Gt.val (G : Gt) : Value := .slice G.A G.ys.length G.c
def GOK (w : World) (k : Nat) (Gs : List Gt) : Prop := ∀ j G, Gs[j]? = some G → k ≤ j → w.ownsRow G.base 5 1 G.val G.ys.length (byteVals G.ys)
def Gord (Gs : List Gt) : Prop := ∀ (i j : Nat) G G', i < j → Gs[i]? = some G → Gs[j]? = some G' → ∀ g, G.val.ownBlock = some g → g < G'.base

theorem GOK.store {w : World} {k : Nat} {Gs : List Gt} (h : GOK w (k + 1) Gs) (ho : Gord Gs) {G : Gt} (hG : Gs[k]? = some G) {g : Nat} (hg : G.val.ownBlock = some g) (j : Nat) (v : Value) : GOK (w.setCell ⟨g, j, none⟩ v) (k + 1) Gs := by
  intro i G' hi hk
  have h1 := h i G' hi hk
  have h2 := ho k i G G' (by omega) hG hi g hg
  refine own_other h1 _ _ (fun e => ?_)
  have := (h1.lt _ e).1
  dsimp only at this
  omega

theorem SomeOwn.apart {w : World} {base n m g : Nat} {c : Nat} {cs : Array Value} {T : TypeId} (h : SomeOwn w base (.slice (some ⟨g, 0, none⟩) m c) n) {b : Nat} (hk : Blk w b cs T) (hT : T ≠ 5) : b ≠ g := by
  obtain ⟨ys, _, hown⟩ := h
  rintro rfl
  rcases hown.2 with ⟨h1, _⟩ | ⟨g, cap, cur, h1, _, hh, _⟩
  · cases h1
  · injection h1 with a1
    injection a1 with a1
    injection a1 with a1
    subst a1
    unfold Blk at hk
    rw [hh] at hk
    injection hk with hk
    injection hk with _ ht
    exact hT ht.symm

theorem u8_next' (y : UInt8) : ((UInt8.ofNat (y.toNat + 1)).toNat : Int) = ((y.toNat : Int) + 1) % 256 := by
  simp

theorem own_block {w : World} {base n c g : Nat} {xs : List Value} (h : w.ownsRow base 5 1 (.slice (some ⟨g, 0, none⟩) n c) n xs) : ∃ Z : Array Value, Blk w g Z 5 ∧ Z.size = c ∧ Z.toList.take n = xs := by
  rcases h.2 with ⟨h1, _⟩ | ⟨g', cap, cur, h1, _, hh, _, _, h6, h7⟩
  · cases h1
  · injection h1 with a1 _ a3
    injection a1 with a1
    injection a1 with a1
    subst a1 a3
    exact ⟨cur, hh, by omega, by rw [Nat.mul_one] at h7; exact h7⟩
theorem own_room {w : World} {base n c g : Nat} {xs : List Value} (h : w.ownsRow base 5 1 (.slice (some ⟨g, 0, none⟩) n c) n xs) : g < w.heap.size := by
  obtain ⟨Z, hZ, _⟩ := own_block h
  exact hZ.lt

theorem empty_own (w : World) : (w.alloc (.cells #[] 5 (0, 0))).ownsRow w.heap.size 5 1 (.slice (some ⟨w.heap.size, 0, none⟩) 0 0) 0 [] := by
  refine ⟨rfl, .inr ⟨w.heap.size, 0, #[], rfl, Nat.le_refl _, Blk.new w _ 5, ?_⟩⟩
  simp

theorem add_len (a b : List UInt8) : (strOf a ++ strOf b) = strOf (a ++ b) := by
  apply ByteArray.ext
  simp [strOf]

set_option maxRecDepth 100000 in
set_option maxHeartbeats 16000000 in
theorem forms_main (rb : Row) (n : Nat) (rx : Row) (Al : Option Addr) (L : List Row) (cl : Nat) (w : World) (hb : rb.okAt w w.heap.size) (hn : n < 18446744073709551616) (hx : rx.okAt w w.heap.size)
    (hL : RowsIn w w.heap.size Al L) (h1 : rb.bs.length ≤ 1048576) (h2 : rx.bs.length ≤ 1048576) (h4 : rowsLen L ≤ 1048576) :
    Calls Try.prog 3 #[.slice rb.A rb.bs.length rb.c, .int .u64 n, .slice rx.A rx.bs.length rx.c, .slice Al L.length cl] w fun e w' => e = .returned (.bool true) ∧ Chg none w w' := by
  obtain ⟨i0, hi, hz0, hz1, hz2⟩ := info_parts Try.info5
  have HS := Lib.hid (size_any Al L cl w.heap.size w hL (by omega))
  obtain ⟨bA, bc, bs⟩ := rb
  obtain ⟨xA, xc, xs⟩ := rx
  dsimp only at *
  by_cases hbig : 2000 < bs.length + xs.length + rowsLen L
  · have hb0 : (2000 : Int) < (bs.length : Int) + (xs.length : Int) + ((rowsLen L : Nat) : Int) := by omega
    clear hL hb hx
    go_enter Try.func3, Try.ntmps3
    go_wp2_with fail
    refine HS.out.mono ?_
    rintro e w' ⟨rfl, rfl⟩
    go_wp2_with fail
    refine (known_any _).mono ?_
    rintro e w1 ⟨rfl, g1⟩
    go_wp2_with fail
    go_ret
    exact ⟨rfl, g1⟩
  · have hb0 : (bs.length : Int) + (xs.length : Int) + ((rowsLen L : Nat) : Int) ≤ 2000 := by omega
    have hll := rowsLen_ge L
    have HL := Lib.hid hL
    have HX := Lib.hid hx
    have HB := Lib.hid hb
    have HOB := Lib.hid (byteVals_one bs)
    have HOX := Lib.hid (byteVals_one xs)
    have hlb := byteVals_len bs
    have HLB := Lib.hid (show (byteVals bs).length = bs.length * 1 by omega)
    clear hL hb hx hlb
    go_enter Try.func3, Try.ntmps3
    go_wp2_with fail
    refine HS.out.mono ?_
    rintro e w' ⟨rfl, rfl⟩
    go_wp2_with (first
      | (at_make; refine wpList_make_own _ rfl _ _ 22 rfl w.heap.size 5 i0 (.int .u8 0) 1 Try.underlying22 hi hz0 hz1 .i64 .i64 _ (bs.length + 40) rfl rfl (by omega) (by rw [hz2]; omega) (by unfold maxLen; omega) (Nat.le_refl _) ?_)
      | fail)
    intro w1 hown1 hg1
    have hb1 : Below w.heap.size w w1 := (Below.refl _ _).grown hg1 (Nat.le_refl _) (fun g hg => by cases hg)
    have hs1 : w.heap.size + 1 ≤ w1.heap.size := by
      have := own_room hown1; omega
    have HOWN1 := Lib.hid hown1
    have HB1 := Lib.hid (HB.out.reads.below hb1)
    have HNIL := Lib.hid HB.out.nil
    clear hown1 hg1
    go_wp2_with (first
      | (at_builtin; refine wpList_append_fits_any _ rfl (.tmp 30) (.tmp 31) 22 rfl w.heap.size 5 i0 1 Try.underlying22 hi hz1 w.heap.size 0 (bs.length + 40) [] rfl HOWN1.out bA bs.length bc (byteVals bs) rfl HLB.out HNIL.out ?hc1 HOB.out (by omega) ?_)
      | fail)
    case hc1 =>
      intro ad hA j u hu
      have hj : 0 < bs.length := by
        rcases Nat.eq_zero_or_pos bs.length with h | h
        · rw [List.eq_nil_of_length_eq_zero h] at hu; simp [byteVals] at hu
        · exact h
      obtain ⟨ad', hA', _, hc⟩ := HB1.out.2 hj
      rw [hA] at hA'
      injection hA' with hA'
      subst hA'
      exact hc j u hu
    intro w2 hown2 hg2
    have hb2 : Below w.heap.size w w2 := hb1.grown hg2 (by omega) (fun g hg => by injection hg with hg; omega)
    have hs2 := hg2.size
    try simp only [Nat.zero_add, List.nil_append] at hown2
    obtain ⟨Z, hZ, hZs, hZt⟩ := own_block hown2
    have hcz := hZ.cell bs.length
    have hfz := hZ.frozen bs.length
    have hzl : ∃ v, Z[bs.length]? = some v := ⟨_, Array.getElem?_eq_getElem (by omega)⟩
    obtain ⟨zv, hzv⟩ := hzl
    rw [hzv] at hcz
    have hZset := hZ.set bs.length (.int .u8 77)
    have HZSET := Lib.hid hZset
    have HZ := Lib.hid hZ
    have HZT := Lib.hid hZt
    have HZS := Lib.hid hZs
    have HZV := Lib.hid hzv
    have d1 : (bs.length : Int) ≤ (bs.length : Int) + 1 := by omega
    have d2 : (bs.length : Int) + 1 ≤ ((bs.length + 40 : Nat) : Int) := by omega
    have d3 : ¬ bs.length + 40 = bs.length := by omega
    clear hown2 hg2 hZ hZs hZt hZset hzv HOWN1 HB1
    have hb3 : Below w.heap.size w (w2.setCell ⟨w.heap.size, bs.length, none⟩ (.int .u8 77)) := hb2.setCell (Nat.le_refl _) _
    go_upto_region 6 with (fail)
    obtain ⟨w3, hw3⟩ : ∃ w3, w3 = w2.setCell ⟨w.heap.size, bs.length, none⟩ (.int .u8 77) := ⟨_, rfl⟩
    rw [← hw3] at HZSET hb3
    have hs3 : w.heap.size + 1 ≤ w3.heap.size := by rw [hw3]; simp [World.setCell]; omega
    have HOWN3 := Lib.hid (empty_own w3)
    have HX3 := Lib.hid (((HX.out.reads.below hb3).more (show w.heap.size ≤ w3.heap.size by omega)).alloc (Nat.le_refl _) (.cells #[] 5 (0, 0)))
    have HBB3 := Lib.hid ((HB.out.reads.below hb3).more (show w.heap.size ≤ w3.heap.size by omega))
    rw [← hw3]
    clear hb2 hb1 hcz hfz hw3 hs2
    go_wp2_with (first
      | (at_builtin; refine wpList_append_any _ rfl (.tmp 42) (.tmp 43) 22 rfl w3.heap.size 5 i0 (.int .u8 0) 1 1 Try.underlying22 hi hz0 hz1 hz2 rfl (by decide) _ 0 [] rfl HOWN3.out w3.heap.size xA xs.length xc (byteVals xs) rfl HX3.out HOX.out (by unfold maxLen; omega) (by omega) (by simp) ?_)
      | fail)
    intro v4 w4 hown4 hgr4 _
    obtain ⟨A4, c4, rfl⟩ := own_slice hown4
    have hb34 : Below w3.heap.size w3 w4 := ((Below.refl _ _).alloc (Nat.le_refl _) _).grown hgr4 (by simp) (fun g hg => (HOWN3.out.lt g hg).1)
    have hs4 := hb34.size
    try simp only [Nat.zero_add, List.nil_append] at hown4
    have hb04 : Below w.heap.size w w4 := hb3.trans (hb34.mono (by omega))
    have hZ4 := HZSET.out.chg (show Chg none w3 w4 from ⟨hb34.os, hb34.tape, hb34.output, hb34.size, fun i hi _ => hb34.block i hi⟩) (by simp)
    obtain ⟨Z', hZ'⟩ : ∃ Z', Z' = Z.setIfInBounds bs.length (.int .u8 77) := ⟨_, rfl⟩
    rw [← hZ'] at hZ4
    have hzz : Z'[bs.length]? = some (.int .u8 77) ∧ Z'.toList.take bs.length = byteVals bs := by
      have hlz : bs.length < Z.size := by rw [HZS.out]; omega
      rw [hZ']
      refine ⟨by rw [Array.getElem?_setIfInBounds_self_of_lt hlz], ?_⟩
      rw [Array.toList_setIfInBounds, List.take_set_of_le (Nat.le_refl _)]
      exact HZT.out
    have hrr4 : Reads w4 w4.heap.size 1 (some ⟨w.heap.size, 0, none⟩) bs.length (byteVals bs) := by
      refine ⟨HLB.out, fun _ => ⟨_, rfl, by show w.heap.size < _; omega, fun j u hu => ?_⟩⟩
      have hj : j < bs.length := by
        have := (List.getElem?_eq_some_iff.1 hu).1
        rw [byteVals_len] at this; exact this
      rw [Go.WideShapes.add_plain, Nat.zero_add, hZ4.cell, ← Array.getElem?_toList, ← hu, ← hzz.2, List.getElem?_take_of_lt hj]
    have HZ4 := Lib.hid hZ4
    have HZZ := Lib.hid hzz
    have HR4 := Lib.hid hrr4
    obtain ⟨SB, hSB⟩ : ∃ S, S = strOf bs := ⟨_, rfl⟩
    have cvb : (convert 22 9 (.slice bA bs.length bc)).run Try.prog w4 = .ok (.string SB) w4 := by rw [hSB]; exact conv_reads w4 (c := bc) ((HBB3.out.below hb34))
    have hzB : SB.size ≤ 2000 := by rw [hSB, str_size]; omega
    have HSB := Lib.hid hSB
    clear hSB
    have HOWN4 := Lib.hid hown4
    have HAU := Lib.hid (appendUint_any (some ⟨w.heap.size, 0, none⟩) bs (bs.length + 40) n w4 (fun h => by cases h) hrr4 (by omega) hn)
    clear hown4 hgr4 hZ4 hzz hrr4 hZ' HZSET HZT HZS HZV HX3 HOWN3
    go_wp2_with fail
    refine HAU.out.mono ?_
    rintro e w5 ⟨A5, n5, c5, rfl, hn5, hown5, hb5⟩
    obtain ⟨y0, hy0⟩ : ∃ y, y = bs ++ form n := ⟨_, rfl⟩
    rw [← hy0] at hn5 hown5
    subst hn5
    have hs5 := hb5.size
    have HY0 := Lib.hid hy0
    have HG0 := Lib.hid hown5
    have HAB := Lib.hid (appendBytes_any (some ⟨w.heap.size, 0, none⟩) bs (bs.length + 40) A4 xs c4 w5 (fun h => by cases h) ((HR4.out.below hb5).more hs5) (((Reads.of_own HOWN4.out).below hb5).more hs5) (by omega) (by omega))
    clear hown5 hy0 HAU
    go_wp2_with fail
    refine HAB.out.mono ?_
    rintro e w6 ⟨A6, n6, c6, rfl, hn6, hown6, hb6⟩
    obtain ⟨y1, hy1⟩ : ∃ y, y = bs ++ row xs := ⟨_, rfl⟩
    rw [← hy1] at hn6 hown6
    subst hn6
    have hs6 := hb6.size
    have hb46 : Below w4.heap.size w4 w6 := hb5.trans (hb6.mono hs5)
    have HY1 := Lib.hid hy1
    have HG1 := Lib.hid hown6
    have HAL := Lib.hid (appendList_any (some ⟨w.heap.size, 0, none⟩) bs (bs.length + 40) Al L cl w6 (fun h => by cases h) ((HR4.out.below hb46).more (by omega)) ((HL.out.below (hb04.trans (hb46.mono (by omega)))).more (by omega)) (by omega) (by omega))
    clear hown6 hy1 HAB
    go_wp2_with fail
    refine HAL.out.mono ?_
    rintro e w7 ⟨A7, n7, c7, rfl, hn7, hown7, hb7⟩
    obtain ⟨y2, hy2⟩ : ∃ y, y = bs ++ listForm L := ⟨_, rfl⟩
    rw [← hy2] at hn7 hown7
    subst hn7
    have hs7 := hb7.size
    have HY2 := Lib.hid hy2
    have HG2 := Lib.hid hown7
    clear hown7 hy2 HAL cvb
    go_wp2_with fail
    have hb47 : Below w4.heap.size w4 w7 := hb46.trans (hb7.mono (by omega))
    have hgen : ∃ w8 : World, w8 = w7.alloc (.cells #[.slice A5 y0.length c5, .slice A6 y1.length c6, .slice A7 y2.length c7] 30) := ⟨_, rfl⟩
    obtain ⟨w8, hw8⟩ := hgen
    have hb78 : Below w7.heap.size w7 w8 := by rw [hw8]; exact (Below.refl _ _).alloc (Nat.le_refl _) _
    have hk13 : Blk w8 w7.heap.size #[.slice A5 y0.length c5, .slice A6 y1.length c6, .slice A7 y2.length c7] 30 := by rw [hw8]; exact Blk.new w7 _ 30
    have hs8 := hb78.size
    rw [← hw8]
    have hb48 : Below w4.heap.size w4 w8 := hb47.trans (hb78.mono (by omega))
    have hb08 : Below w.heap.size w w8 := hb04.trans (hb48.mono (by omega))
    obtain ⟨SF, hSF⟩ : ∃ S, S = strOf (form n) := ⟨_, rfl⟩
    obtain ⟨SR, hSR⟩ : ∃ S, S = strOf (row xs) := ⟨_, rfl⟩
    obtain ⟨SL, hSL⟩ : ∃ S, S = strOf (listForm L) := ⟨_, rfl⟩
    have hzF : SF.size ≤ 9 := by have := nb_le n hn; rw [hSF, str_size, form_len]; omega
    have hzR : SR.size ≤ 10000 := by have := row_len xs (by omega); rw [hSR, str_size]; omega
    have hzL : SL.size ≤ 100000 := by
      have h1 := flat_len_le L (by omega)
      have h2 := nb_le L.length (by omega)
      rw [hSL, str_size]
      unfold listForm
      rw [List.length_append, form_len]; omega
    have z1 : ¬ SB.size + SF.size > 9223372036854775807 := by omega
    have z2 : ¬ SB.size + SR.size > 9223372036854775807 := by omega
    have z3 : ¬ SB.size + SL.size > 9223372036854775807 := by omega
    have HK13 := Lib.hid hk13
    have HSF := Lib.hid hSF
    have HSR := Lib.hid hSR
    have HSL := Lib.hid hSL
    have hw08 : w.heap.size ≤ w8.heap.size := by omega
    have HRX := Lib.hid (fun (W : World) (h : Below w8.heap.size w8 W) => ((HX.out.reads.below hb08).below (h.mono hw08)).more (Nat.le_trans hw08 h.size))
    have HRL := Lib.hid (fun (W : World) (h : Below w8.heap.size w8 W) => ((HL.out.below hb08).below (h.mono hw08)).more (Nat.le_trans hw08 h.size))
    generalize hH13 : w7.heap.size = h13 at *
    have hT : True := trivial
    clear hw8 hk13 hSF hSR hSL
    go_cut [14] (fun s14 wx => FMid w8 SB SF SR SL s14 wx)
    case first =>
      have hB0 : Below w8.heap.size w8 w8.drew := (Below.refl _ _).drew
      refine wp_region_held_drew (S := fun _ => True) (by kernel_rfl) trivial (fun _ => ?_)
      generalize w8.drew = v0 at *
      refine wpAnyH_take (i := 0) (oi := ⟨some 57, _, _, _, _, _⟩) (v := ?_) rfl (by kernel_rfl) (by kernel_rfl) (by kernel_rfl) (fun _ _ _ h => h) (Or.inl ⟨by rfl, ?_⟩) (by assumption) ?_
      rotate_left
      · intro w hSw; (try dsimp only at hSw); go_simp; (try with_reducible rfl)
      try simp only [Act.put, List.setIfInBounds_toArray, List.set_cons_zero, List.set_cons_succ]
      refine wpAnyH_take (i := 1) (oi := ⟨some 58, _, _, _, _, _⟩) (v := ?_) rfl (by kernel_rfl) (by kernel_rfl) (by kernel_rfl) (fun _ _ _ h => h) (Or.inl ⟨by rfl, ?_⟩) (by assumption) ?_
      rotate_left
      · intro w hSw; (try dsimp only at hSw); go_simp; (try with_reducible rfl)
      try simp only [Act.put, List.setIfInBounds_toArray, List.set_cons_zero, List.set_cons_succ]
      refine wpAnyH_take (i := 5) (oi := ⟨some 62, _, _, _, _, _⟩) (v := ?_) rfl (by kernel_rfl) (by kernel_rfl) (by kernel_rfl) (fun _ _ _ h => h) (Or.inl ⟨by rfl, ?_⟩) (by assumption) ?_
      rotate_left
      · intro w hSw; (try dsimp only at hSw); go_simp; (try with_reducible rfl)
      try simp only [Act.put, List.setIfInBounds_toArray, List.set_cons_zero, List.set_cons_succ]
      refine wpAnyH_take (i := 6) (oi := ⟨some 63, _, _, _, _, _⟩) (v := ?_) rfl (by kernel_rfl) (by kernel_rfl) (by kernel_rfl) (fun _ _ _ h => h) (Or.inl ⟨by rfl, ?_⟩) (by assumption) ?_
      rotate_left
      · intro w hSw; (try dsimp only at hSw); go_simp; (try with_reducible rfl)
      try simp only [Act.put, List.setIfInBounds_toArray, List.set_cons_zero, List.set_cons_succ]
      refine wpAnyH_take (i := 10) (oi := ⟨some 67, _, _, _, _, _⟩) (v := ?_) rfl (by kernel_rfl) (by kernel_rfl) (by kernel_rfl) (fun _ _ _ h => h) (Or.inl ⟨by rfl, ?_⟩) (by assumption) ?_
      rotate_left
      · intro w hSw; (try dsimp only at hSw); go_simp; (try with_reducible rfl)
      try simp only [Act.put, List.setIfInBounds_toArray, List.set_cons_zero, List.set_cons_succ]
      refine wpAnyH_take (i := 11) (oi := ⟨some 68, _, _, _, _, _⟩) (v := ?_) rfl (by kernel_rfl) (by kernel_rfl) (by kernel_rfl) (fun _ _ _ h => h) (Or.inl ⟨by rfl, ?_⟩) (by assumption) ?_
      rotate_left
      · intro w hSw; (try dsimp only at hSw); go_simp; (try with_reducible rfl)
      try simp only [Act.put, List.setIfInBounds_toArray, List.set_cons_zero, List.set_cons_succ]
      refine wpAnyH_ready (rs := [2, 16]) (by kernel_rfl) (by simp) ?_
      refine AllReadyH.cons (o := ⟨some 59, _, _, _, _, _⟩) rfl (fun K hK => ?_) (AllReadyH.cons (o := ⟨some 14, _, _, _, _, _⟩) rfl (fun K hK => ?_) AllReadyH.nil)
      · go_simp
        go_at_call 13
        (with_reducible refine (refForm_any n _ hn).mono ?_)
        rintro e v1 ⟨Aa, na, ca, rfl, hn0, ho0, hb0⟩
        have hBv1 : Below w8.heap.size w8 v1 := hB0.trans (hb0.mono hB0.size)
        have g0 : Chg none v0 v1 := ⟨hb0.os, hb0.tape, hb0.output, hb0.size, fun i hi _ => hb0.block i hi⟩
        have HOav1 := Lib.hid ho0
        have hSv1 := (cvS (HSF.out) HOav1.out)
        clear hn0 ho0 hb0 g0
        go_wp2_with fail
        refine hK.out _ _ trivial (fun _ => wpAnyH_to (S2 := (fun w' => (convert 22 9 (.slice Aa na ca)).run Try.prog w' = .ok (.string SF) w')) (fun _ h => trivial) ?_)
        clear hK K
        try simp only [Act.put, List.setIfInBounds_toArray, List.set_cons_zero, List.set_cons_succ]
        refine wpAnyH_take (i := 3) (oi := ⟨some 60, _, _, _, _, _⟩) (v := ?_) rfl (by kernel_rfl) (by kernel_rfl) (by kernel_rfl) (fun _ _ _ h => h) (Or.inl ⟨by rfl, ?_⟩) (by assumption) ?_
        rotate_left
        · intro w hSw; (try dsimp only at hSw); go_simp; (try with_reducible rfl)
        try simp only [Act.put, List.setIfInBounds_toArray, List.set_cons_zero, List.set_cons_succ]
        refine wpAnyH_take (i := 4) (oi := ⟨some 61, _, _, _, _, _⟩) (v := ?_) rfl (by kernel_rfl) (by kernel_rfl) (by kernel_rfl) (fun _ _ _ h => h) (Or.inl ⟨by rfl, ?_⟩) (by assumption) ?_
        rotate_left
        · intro w hSw; (try dsimp only at hSw); go_simp; (try with_reducible rfl)
        try simp only [Act.put, List.setIfInBounds_toArray, List.set_cons_zero, List.set_cons_succ]
        refine wpAnyH_ready (rs := [7, 16]) (by kernel_rfl) (by simp) ?_
        refine AllReadyH.cons (o := ⟨some 64, _, _, _, _, _⟩) rfl (fun K hK => ?_) (AllReadyH.cons (o := ⟨some 14, _, _, _, _, _⟩) rfl (fun K hK => ?_) AllReadyH.nil)
        · go_simp
          go_at_call 14
          (with_reducible refine (refRow_any xA xs xc _ (HRX.out _ hBv1) (by omega)).mono ?_)
          rintro e v2 ⟨Ab, nb, cb, rfl, hn0, ho0, hb0⟩
          have hBv2 : Below w8.heap.size w8 v2 := hBv1.trans (hb0.mono hBv1.size)
          have g0 : Chg none v1 v2 := ⟨hb0.os, hb0.tape, hb0.output, hb0.size, fun i hi _ => hb0.block i hi⟩
          have HOav2 := Lib.hid (own_chg HOav1.out g0)
          have HObv2 := Lib.hid ho0
          have hSv2 := (And.intro (cvS (HSF.out) HOav2.out) (cvS (HSR.out) HObv2.out))
          clear hn0 ho0 hb0 g0
          go_wp2_with fail
          refine hK.out _ _ hSv2.1 (fun _ => wpAnyH_to (S2 := (fun w' => ((convert 22 9 (.slice Aa na ca)).run Try.prog w' = .ok (.string SF) w') ∧ ((convert 22 9 (.slice Ab nb cb)).run Try.prog w' = .ok (.string SR) w'))) (fun _ h => h.1) ?_)
          clear hK K
          try simp only [Act.put, List.setIfInBounds_toArray, List.set_cons_zero, List.set_cons_succ]
          refine wpAnyH_take (i := 8) (oi := ⟨some 65, _, _, _, _, _⟩) (v := ?_) rfl (by kernel_rfl) (by kernel_rfl) (by kernel_rfl) (fun _ _ _ h => h) (Or.inl ⟨by rfl, ?_⟩) (by assumption) ?_
          rotate_left
          · intro w hSw; (try dsimp only at hSw); go_simp; (try with_reducible rfl)
          try simp only [Act.put, List.setIfInBounds_toArray, List.set_cons_zero, List.set_cons_succ]
          refine wpAnyH_take (i := 9) (oi := ⟨some 66, _, _, _, _, _⟩) (v := ?_) rfl (by kernel_rfl) (by kernel_rfl) (by kernel_rfl) (fun _ _ _ h => h) (Or.inl ⟨by rfl, ?_⟩) (by assumption) ?_
          rotate_left
          · intro w hSw; (try dsimp only at hSw); go_simp; (try with_reducible rfl)
          try simp only [Act.put, List.setIfInBounds_toArray, List.set_cons_zero, List.set_cons_succ]
          refine wpAnyH_ready (rs := [12, 16]) (by kernel_rfl) (by simp) ?_
          refine AllReadyH.cons (o := ⟨some 69, _, _, _, _, _⟩) rfl (fun K hK => ?_) (AllReadyH.cons (o := ⟨some 14, _, _, _, _, _⟩) rfl (fun K hK => ?_) AllReadyH.nil)
          · go_simp
            go_at_call 15
            (with_reducible refine (refList_form Al L cl _ (HRL.out _ hBv2) (by omega)).mono ?_)
            rintro e v3 ⟨Ac, nc, cc, rfl, hn0, ho0, hb0⟩
            have hBv3 : Below w8.heap.size w8 v3 := hBv2.trans (hb0.mono hBv2.size)
            have g0 : Chg none v2 v3 := ⟨hb0.os, hb0.tape, hb0.output, hb0.size, fun i hi _ => hb0.block i hi⟩
            have HOav3 := Lib.hid (own_chg HOav2.out g0)
            have HObv3 := Lib.hid (own_chg HObv2.out g0)
            have HOcv3 := Lib.hid ho0
            have hSv3 := (And.intro (And.intro (cvS (HSF.out) HOav3.out) (cvS (HSR.out) HObv3.out)) (cvS (HSL.out) HOcv3.out))
            clear hn0 ho0 hb0 g0
            go_wp2_with fail
            refine hK.out _ _ hSv3.1 (fun _ => wpAnyH_to (S2 := (fun w' => (((convert 22 9 (.slice Aa na ca)).run Try.prog w' = .ok (.string SF) w') ∧ ((convert 22 9 (.slice Ab nb cb)).run Try.prog w' = .ok (.string SR) w')) ∧ ((convert 22 9 (.slice Ac nc cc)).run Try.prog w' = .ok (.string SL) w'))) (fun _ h => h.1) ?_)
            clear hK K
            try simp only [Act.put, List.setIfInBounds_toArray, List.set_cons_zero, List.set_cons_succ]
            refine wpAnyH_take (i := 13) (oi := ⟨some 70, _, _, _, _, _⟩) (v := ?_) rfl (by kernel_rfl) (by kernel_rfl) (by kernel_rfl) (fun _ _ _ h => h) (Or.inl ⟨by rfl, ?_⟩) (by assumption) ?_
            rotate_left
            · intro w hSw; (try dsimp only at hSw); go_simp; (try with_reducible rfl)
            try simp only [Act.put, List.setIfInBounds_toArray, List.set_cons_zero, List.set_cons_succ]
            refine wpAnyH_take (i := 14) (oi := ⟨some 71, _, _, _, _, _⟩) (v := ?_) rfl (by kernel_rfl) (by kernel_rfl) (by kernel_rfl) (fun _ _ _ h => h) (Or.inl ⟨by rfl, ?_⟩) (by assumption) ?_
            rotate_left
            · intro w hSw; (try dsimp only at hSw); go_simp; (try with_reducible rfl)
            try simp only [Act.put, List.setIfInBounds_toArray, List.set_cons_zero, List.set_cons_succ]
            refine wpAnyH_take (i := 15) (oi := ⟨some 72, _, _, _, _, _⟩) (v := ?_) rfl (by kernel_rfl) (by kernel_rfl) (by kernel_rfl) (fun _ _ _ h => h) (Or.inl ⟨by rfl, ?_⟩) (by assumption) ?_
            rotate_left
            · intro w hSw; (try dsimp only at hSw); go_simp; (try with_reducible rfl)
            try simp only [Act.put, List.setIfInBounds_toArray, List.set_cons_zero, List.set_cons_succ]
            refine wpAnyH_ready (rs := [16]) (by kernel_rfl) (by simp) ?_
            refine AllReadyH.cons (o := ⟨some 14, _, _, _, _, _⟩) rfl (fun K hK => ?_) AllReadyH.nil
            · go_simp
              have hBn : Below w8.heap.size w8 (v3.alloc (.cells #[.string { data := #[] }, .string { data := #[] }, .string { data := #[] }] 34)) := hBv3.alloc hBv3.size _
              have h14n := Blk.new v3 #[.string { data := #[] }, .string { data := #[] }, .string { data := #[] }] 34
              have hoan := HOav3.out.alloc (.cells #[.string { data := #[] }, .string { data := #[] }, .string { data := #[] }] 34)
              have hobn := HObv3.out.alloc (.cells #[.string { data := #[] }, .string { data := #[] }, .string { data := #[] }] 34)
              have hocn := HOcv3.out.alloc (.cells #[.string { data := #[] }, .string { data := #[] }, .string { data := #[] }] 34)
              have hW := Lib.hid (hBv3.size)
              have HW : Hid (w8.heap.size ≤ v3.heap.size) := hW
              clear hW
              refine hK.out _ _ (And.intro (And.intro (cvS (HSF.out) (hoan)) (cvS (HSR.out) (hobn))) (cvS (HSL.out) (hocn))) (fun _ => ?_)
              clear hK K
              try simp only [Act.put, List.setIfInBounds_toArray, List.set_cons_zero, List.set_cons_succ]
              generalize v3.alloc (.cells #[.string { data := #[] }, .string { data := #[] }, .string { data := #[] }] 34) = u4z at *
              have HOau4z := Lib.hid hoan
              have HObu4z := Lib.hid hobn
              have HOcu4z := Lib.hid hocn
              have H14u4z := Lib.hid h14n
              have hSu4z := (And.intro (And.intro (cvS (HSF.out) HOau4z.out) (cvS (HSR.out) HObu4z.out)) (cvS (HSL.out) HOcu4z.out))
              clear h14n hoan hobn hocn
              have y0 := H14u4z.out.cell 0
              have y1 := H14u4z.out.cell 1
              have y2 := H14u4z.out.cell 2
              have f0 := H14u4z.out.frozen 0
              have f1 := H14u4z.out.frozen 1
              have f2 := H14u4z.out.frozen 2
              have yl := H14u4z.out.lt
              simp only [List.getElem?_toArray, List.getElem?_cons_zero, List.getElem?_cons_succ] at y0 y1 y2
              refine wpAnyH_ready (rs := [17]) (by kernel_rfl) (by simp) ?_
              refine AllReadyH.cons (o := ⟨none, _, _, _, _, _⟩) rfl (fun K hK => ?_) ?_
              rotate_left
              · exact AllReadyH.nil
              go_simp
              refine hK.out _ _ (And.intro (And.intro (cvS (HSF.out) (own_set3 HOau4z.out H14u4z.out _ _ _)) (cvS (HSR.out) (own_set3 HObu4z.out H14u4z.out _ _ _))) (cvS (HSL.out) (own_set3 HOcu4z.out H14u4z.out _ _ _))) (fun _ => ?_)
              clear hK K
              refine wpAnyH_done (by kernel_rfl) ?_ _
              go_wp2_with fail
              go_meet
              exact FMid.of H14u4z.out hBn (HW.out)
          · go_simp
            have hBn : Below w8.heap.size w8 (v2.alloc (.cells #[.string { data := #[] }, .string { data := #[] }, .string { data := #[] }] 34)) := hBv2.alloc hBv2.size _
            have h14n := Blk.new v2 #[.string { data := #[] }, .string { data := #[] }, .string { data := #[] }] 34
            have hoan := HOav2.out.alloc (.cells #[.string { data := #[] }, .string { data := #[] }, .string { data := #[] }] 34)
            have hobn := HObv2.out.alloc (.cells #[.string { data := #[] }, .string { data := #[] }, .string { data := #[] }] 34)
            have hW := Lib.hid (hBv2.size)
            have HW : Hid (w8.heap.size ≤ v2.heap.size) := hW
            clear hW
            refine hK.out _ _ (And.intro (cvS (HSF.out) (hoan)) (cvS (HSR.out) (hobn))) (fun _ => ?_)
            clear hK K
            try simp only [Act.put, List.setIfInBounds_toArray, List.set_cons_zero, List.set_cons_succ]
            generalize v2.alloc (.cells #[.string { data := #[] }, .string { data := #[] }, .string { data := #[] }] 34) = u5z at *
            have HOau5z := Lib.hid hoan
            have HObu5z := Lib.hid hobn
            have H14u5z := Lib.hid h14n
            have hSu5z := (And.intro (cvS (HSF.out) HOau5z.out) (cvS (HSR.out) HObu5z.out))
            clear h14n hoan hobn
            refine wpAnyH_ready (rs := [12]) (by kernel_rfl) (by simp) ?_
            refine AllReadyH.cons (o := ⟨some 69, _, _, _, _, _⟩) rfl (fun K hK => ?_) AllReadyH.nil
            · go_simp
              go_at_call 15
              (with_reducible refine (refList_form Al L cl _ (HRL.out _ hBn) (by omega)).mono ?_)
              rintro e v6 ⟨Ac, nc, cc, rfl, hn0, ho0, hb0⟩
              have hBv6 : Below w8.heap.size w8 v6 := hBn.trans (hb0.mono hBn.size)
              have g0 : Chg none u5z v6 := ⟨hb0.os, hb0.tape, hb0.output, hb0.size, fun i hi _ => hb0.block i hi⟩
              have HOav6 := Lib.hid (own_chg HOau5z.out g0)
              have HObv6 := Lib.hid (own_chg HObu5z.out g0)
              have HOcv6 := Lib.hid ho0
              have H14v6 := Lib.hid (H14u5z.out.chg g0 (by simp))
              have hSv6 := (And.intro (And.intro (cvS (HSF.out) HOav6.out) (cvS (HSR.out) HObv6.out)) (cvS (HSL.out) HOcv6.out))
              clear hn0 ho0 hb0 g0
              go_wp2_with fail
              refine hK.out _ _ hSv6.1 (fun _ => wpAnyH_to (S2 := (fun w' => (((convert 22 9 (.slice Aa na ca)).run Try.prog w' = .ok (.string SF) w') ∧ ((convert 22 9 (.slice Ab nb cb)).run Try.prog w' = .ok (.string SR) w')) ∧ ((convert 22 9 (.slice Ac nc cc)).run Try.prog w' = .ok (.string SL) w'))) (fun _ h => h.1) ?_)
              clear hK K
              try simp only [Act.put, List.setIfInBounds_toArray, List.set_cons_zero, List.set_cons_succ]
              refine wpAnyH_take (i := 13) (oi := ⟨some 70, _, _, _, _, _⟩) (v := ?_) rfl (by kernel_rfl) (by kernel_rfl) (by kernel_rfl) (fun _ _ _ h => h) (Or.inl ⟨by rfl, ?_⟩) (by assumption) ?_
              rotate_left
              · intro w hSw; (try dsimp only at hSw); go_simp; (try with_reducible rfl)
              try simp only [Act.put, List.setIfInBounds_toArray, List.set_cons_zero, List.set_cons_succ]
              refine wpAnyH_take (i := 14) (oi := ⟨some 71, _, _, _, _, _⟩) (v := ?_) rfl (by kernel_rfl) (by kernel_rfl) (by kernel_rfl) (fun _ _ _ h => h) (Or.inl ⟨by rfl, ?_⟩) (by assumption) ?_
              rotate_left
              · intro w hSw; (try dsimp only at hSw); go_simp; (try with_reducible rfl)
              try simp only [Act.put, List.setIfInBounds_toArray, List.set_cons_zero, List.set_cons_succ]
              refine wpAnyH_take (i := 15) (oi := ⟨some 72, _, _, _, _, _⟩) (v := ?_) rfl (by kernel_rfl) (by kernel_rfl) (by kernel_rfl) (fun _ _ _ h => h) (Or.inl ⟨by rfl, ?_⟩) (by assumption) ?_
              rotate_left
              · intro w hSw; (try dsimp only at hSw); go_simp; (try with_reducible rfl)
              try simp only [Act.put, List.setIfInBounds_toArray, List.set_cons_zero, List.set_cons_succ]
              have y0 := H14v6.out.cell 0
              have y1 := H14v6.out.cell 1
              have y2 := H14v6.out.cell 2
              have f0 := H14v6.out.frozen 0
              have f1 := H14v6.out.frozen 1
              have f2 := H14v6.out.frozen 2
              have yl := H14v6.out.lt
              simp only [List.getElem?_toArray, List.getElem?_cons_zero, List.getElem?_cons_succ] at y0 y1 y2
              refine wpAnyH_ready (rs := [17]) (by kernel_rfl) (by simp) ?_
              refine AllReadyH.cons (o := ⟨none, _, _, _, _, _⟩) rfl (fun K hK => ?_) ?_
              rotate_left
              · exact AllReadyH.nil
              go_simp
              refine hK.out _ _ (And.intro (And.intro (cvS (HSF.out) (own_set3 HOav6.out H14v6.out _ _ _)) (cvS (HSR.out) (own_set3 HObv6.out H14v6.out _ _ _))) (cvS (HSL.out) (own_set3 HOcv6.out H14v6.out _ _ _))) (fun _ => ?_)
              clear hK K
              refine wpAnyH_done (by kernel_rfl) ?_ _
              go_wp2_with fail
              go_meet
              exact FMid.of H14v6.out hBv6 (HW.out)
        · go_simp
          have hBn : Below w8.heap.size w8 (v1.alloc (.cells #[.string { data := #[] }, .string { data := #[] }, .string { data := #[] }] 34)) := hBv1.alloc hBv1.size _
          have h14n := Blk.new v1 #[.string { data := #[] }, .string { data := #[] }, .string { data := #[] }] 34
          have hoan := HOav1.out.alloc (.cells #[.string { data := #[] }, .string { data := #[] }, .string { data := #[] }] 34)
          have hW := Lib.hid (hBv1.size)
          have HW : Hid (w8.heap.size ≤ v1.heap.size) := hW
          clear hW
          refine hK.out _ _ (cvS (HSF.out) (hoan)) (fun _ => ?_)
          clear hK K
          try simp only [Act.put, List.setIfInBounds_toArray, List.set_cons_zero, List.set_cons_succ]
          generalize v1.alloc (.cells #[.string { data := #[] }, .string { data := #[] }, .string { data := #[] }] 34) = u7z at *
          have HOau7z := Lib.hid hoan
          have H14u7z := Lib.hid h14n
          have hSu7z := (cvS (HSF.out) HOau7z.out)
          clear h14n hoan
          refine wpAnyH_ready (rs := [7]) (by kernel_rfl) (by simp) ?_
          refine AllReadyH.cons (o := ⟨some 64, _, _, _, _, _⟩) rfl (fun K hK => ?_) AllReadyH.nil
          · go_simp
            go_at_call 14
            (with_reducible refine (refRow_any xA xs xc _ (HRX.out _ hBn) (by omega)).mono ?_)
            rintro e v8 ⟨Ab, nb, cb, rfl, hn0, ho0, hb0⟩
            have hBv8 : Below w8.heap.size w8 v8 := hBn.trans (hb0.mono hBn.size)
            have g0 : Chg none u7z v8 := ⟨hb0.os, hb0.tape, hb0.output, hb0.size, fun i hi _ => hb0.block i hi⟩
            have HOav8 := Lib.hid (own_chg HOau7z.out g0)
            have HObv8 := Lib.hid ho0
            have H14v8 := Lib.hid (H14u7z.out.chg g0 (by simp))
            have hSv8 := (And.intro (cvS (HSF.out) HOav8.out) (cvS (HSR.out) HObv8.out))
            clear hn0 ho0 hb0 g0
            go_wp2_with fail
            refine hK.out _ _ hSv8.1 (fun _ => wpAnyH_to (S2 := (fun w' => ((convert 22 9 (.slice Aa na ca)).run Try.prog w' = .ok (.string SF) w') ∧ ((convert 22 9 (.slice Ab nb cb)).run Try.prog w' = .ok (.string SR) w'))) (fun _ h => h.1) ?_)
            clear hK K
            try simp only [Act.put, List.setIfInBounds_toArray, List.set_cons_zero, List.set_cons_succ]
            refine wpAnyH_take (i := 8) (oi := ⟨some 65, _, _, _, _, _⟩) (v := ?_) rfl (by kernel_rfl) (by kernel_rfl) (by kernel_rfl) (fun _ _ _ h => h) (Or.inl ⟨by rfl, ?_⟩) (by assumption) ?_
            rotate_left
            · intro w hSw; (try dsimp only at hSw); go_simp; (try with_reducible rfl)
            try simp only [Act.put, List.setIfInBounds_toArray, List.set_cons_zero, List.set_cons_succ]
            refine wpAnyH_take (i := 9) (oi := ⟨some 66, _, _, _, _, _⟩) (v := ?_) rfl (by kernel_rfl) (by kernel_rfl) (by kernel_rfl) (fun _ _ _ h => h) (Or.inl ⟨by rfl, ?_⟩) (by assumption) ?_
            rotate_left
            · intro w hSw; (try dsimp only at hSw); go_simp; (try with_reducible rfl)
            try simp only [Act.put, List.setIfInBounds_toArray, List.set_cons_zero, List.set_cons_succ]
            refine wpAnyH_ready (rs := [12]) (by kernel_rfl) (by simp) ?_
            refine AllReadyH.cons (o := ⟨some 69, _, _, _, _, _⟩) rfl (fun K hK => ?_) AllReadyH.nil
            · go_simp
              go_at_call 15
              (with_reducible refine (refList_form Al L cl _ (HRL.out _ hBv8) (by omega)).mono ?_)
              rintro e v9 ⟨Ac, nc, cc, rfl, hn0, ho0, hb0⟩
              have hBv9 : Below w8.heap.size w8 v9 := hBv8.trans (hb0.mono hBv8.size)
              have g0 : Chg none v8 v9 := ⟨hb0.os, hb0.tape, hb0.output, hb0.size, fun i hi _ => hb0.block i hi⟩
              have HOav9 := Lib.hid (own_chg HOav8.out g0)
              have HObv9 := Lib.hid (own_chg HObv8.out g0)
              have HOcv9 := Lib.hid ho0
              have H14v9 := Lib.hid (H14v8.out.chg g0 (by simp))
              have hSv9 := (And.intro (And.intro (cvS (HSF.out) HOav9.out) (cvS (HSR.out) HObv9.out)) (cvS (HSL.out) HOcv9.out))
              clear hn0 ho0 hb0 g0
              go_wp2_with fail
              refine hK.out _ _ hSv9.1 (fun _ => wpAnyH_to (S2 := (fun w' => (((convert 22 9 (.slice Aa na ca)).run Try.prog w' = .ok (.string SF) w') ∧ ((convert 22 9 (.slice Ab nb cb)).run Try.prog w' = .ok (.string SR) w')) ∧ ((convert 22 9 (.slice Ac nc cc)).run Try.prog w' = .ok (.string SL) w'))) (fun _ h => h.1) ?_)
              clear hK K
              try simp only [Act.put, List.setIfInBounds_toArray, List.set_cons_zero, List.set_cons_succ]
              refine wpAnyH_take (i := 13) (oi := ⟨some 70, _, _, _, _, _⟩) (v := ?_) rfl (by kernel_rfl) (by kernel_rfl) (by kernel_rfl) (fun _ _ _ h => h) (Or.inl ⟨by rfl, ?_⟩) (by assumption) ?_
              rotate_left
              · intro w hSw; (try dsimp only at hSw); go_simp; (try with_reducible rfl)
              try simp only [Act.put, List.setIfInBounds_toArray, List.set_cons_zero, List.set_cons_succ]
              refine wpAnyH_take (i := 14) (oi := ⟨some 71, _, _, _, _, _⟩) (v := ?_) rfl (by kernel_rfl) (by kernel_rfl) (by kernel_rfl) (fun _ _ _ h => h) (Or.inl ⟨by rfl, ?_⟩) (by assumption) ?_
              rotate_left
              · intro w hSw; (try dsimp only at hSw); go_simp; (try with_reducible rfl)
              try simp only [Act.put, List.setIfInBounds_toArray, List.set_cons_zero, List.set_cons_succ]
              refine wpAnyH_take (i := 15) (oi := ⟨some 72, _, _, _, _, _⟩) (v := ?_) rfl (by kernel_rfl) (by kernel_rfl) (by kernel_rfl) (fun _ _ _ h => h) (Or.inl ⟨by rfl, ?_⟩) (by assumption) ?_
              rotate_left
              · intro w hSw; (try dsimp only at hSw); go_simp; (try with_reducible rfl)
              try simp only [Act.put, List.setIfInBounds_toArray, List.set_cons_zero, List.set_cons_succ]
              have y0 := H14v9.out.cell 0
              have y1 := H14v9.out.cell 1
              have y2 := H14v9.out.cell 2
              have f0 := H14v9.out.frozen 0
              have f1 := H14v9.out.frozen 1
              have f2 := H14v9.out.frozen 2
              have yl := H14v9.out.lt
              simp only [List.getElem?_toArray, List.getElem?_cons_zero, List.getElem?_cons_succ] at y0 y1 y2
              refine wpAnyH_ready (rs := [17]) (by kernel_rfl) (by simp) ?_
              refine AllReadyH.cons (o := ⟨none, _, _, _, _, _⟩) rfl (fun K hK => ?_) ?_
              rotate_left
              · exact AllReadyH.nil
              go_simp
              refine hK.out _ _ (And.intro (And.intro (cvS (HSF.out) (own_set3 HOav9.out H14v9.out _ _ _)) (cvS (HSR.out) (own_set3 HObv9.out H14v9.out _ _ _))) (cvS (HSL.out) (own_set3 HOcv9.out H14v9.out _ _ _))) (fun _ => ?_)
              clear hK K
              refine wpAnyH_done (by kernel_rfl) ?_ _
              go_wp2_with fail
              go_meet
              exact FMid.of H14v9.out hBv9 (HW.out)
      · go_simp
        have hBn : Below w8.heap.size w8 (v0.alloc (.cells #[.string { data := #[] }, .string { data := #[] }, .string { data := #[] }] 34)) := hB0.alloc hB0.size _
        have h14n := Blk.new v0 #[.string { data := #[] }, .string { data := #[] }, .string { data := #[] }] 34
        have hW := Lib.hid (hB0.size)
        have HW : Hid (w8.heap.size ≤ v0.heap.size) := hW
        clear hW
        refine hK.out _ _ trivial (fun _ => ?_)
        clear hK K
        try simp only [Act.put, List.setIfInBounds_toArray, List.set_cons_zero, List.set_cons_succ]
        generalize v0.alloc (.cells #[.string { data := #[] }, .string { data := #[] }, .string { data := #[] }] 34) = u10z at *
        have H14u10z := Lib.hid h14n
        have hSu10z := trivial
        clear h14n
        refine wpAnyH_ready (rs := [2]) (by kernel_rfl) (by simp) ?_
        refine AllReadyH.cons (o := ⟨some 59, _, _, _, _, _⟩) rfl (fun K hK => ?_) AllReadyH.nil
        · go_simp
          go_at_call 13
          (with_reducible refine (refForm_any n _ hn).mono ?_)
          rintro e v11 ⟨Aa, na, ca, rfl, hn0, ho0, hb0⟩
          have hBv11 : Below w8.heap.size w8 v11 := hBn.trans (hb0.mono hBn.size)
          have g0 : Chg none u10z v11 := ⟨hb0.os, hb0.tape, hb0.output, hb0.size, fun i hi _ => hb0.block i hi⟩
          have HOav11 := Lib.hid ho0
          have H14v11 := Lib.hid (H14u10z.out.chg g0 (by simp))
          have hSv11 := (cvS (HSF.out) HOav11.out)
          clear hn0 ho0 hb0 g0
          go_wp2_with fail
          refine hK.out _ _ trivial (fun _ => wpAnyH_to (S2 := (fun w' => (convert 22 9 (.slice Aa na ca)).run Try.prog w' = .ok (.string SF) w')) (fun _ h => trivial) ?_)
          clear hK K
          try simp only [Act.put, List.setIfInBounds_toArray, List.set_cons_zero, List.set_cons_succ]
          refine wpAnyH_take (i := 3) (oi := ⟨some 60, _, _, _, _, _⟩) (v := ?_) rfl (by kernel_rfl) (by kernel_rfl) (by kernel_rfl) (fun _ _ _ h => h) (Or.inl ⟨by rfl, ?_⟩) (by assumption) ?_
          rotate_left
          · intro w hSw; (try dsimp only at hSw); go_simp; (try with_reducible rfl)
          try simp only [Act.put, List.setIfInBounds_toArray, List.set_cons_zero, List.set_cons_succ]
          refine wpAnyH_take (i := 4) (oi := ⟨some 61, _, _, _, _, _⟩) (v := ?_) rfl (by kernel_rfl) (by kernel_rfl) (by kernel_rfl) (fun _ _ _ h => h) (Or.inl ⟨by rfl, ?_⟩) (by assumption) ?_
          rotate_left
          · intro w hSw; (try dsimp only at hSw); go_simp; (try with_reducible rfl)
          try simp only [Act.put, List.setIfInBounds_toArray, List.set_cons_zero, List.set_cons_succ]
          refine wpAnyH_ready (rs := [7]) (by kernel_rfl) (by simp) ?_
          refine AllReadyH.cons (o := ⟨some 64, _, _, _, _, _⟩) rfl (fun K hK => ?_) AllReadyH.nil
          · go_simp
            go_at_call 14
            (with_reducible refine (refRow_any xA xs xc _ (HRX.out _ hBv11) (by omega)).mono ?_)
            rintro e v12 ⟨Ab, nb, cb, rfl, hn0, ho0, hb0⟩
            have hBv12 : Below w8.heap.size w8 v12 := hBv11.trans (hb0.mono hBv11.size)
            have g0 : Chg none v11 v12 := ⟨hb0.os, hb0.tape, hb0.output, hb0.size, fun i hi _ => hb0.block i hi⟩
            have HOav12 := Lib.hid (own_chg HOav11.out g0)
            have HObv12 := Lib.hid ho0
            have H14v12 := Lib.hid (H14v11.out.chg g0 (by simp))
            have hSv12 := (And.intro (cvS (HSF.out) HOav12.out) (cvS (HSR.out) HObv12.out))
            clear hn0 ho0 hb0 g0
            go_wp2_with fail
            refine hK.out _ _ hSv12.1 (fun _ => wpAnyH_to (S2 := (fun w' => ((convert 22 9 (.slice Aa na ca)).run Try.prog w' = .ok (.string SF) w') ∧ ((convert 22 9 (.slice Ab nb cb)).run Try.prog w' = .ok (.string SR) w'))) (fun _ h => h.1) ?_)
            clear hK K
            try simp only [Act.put, List.setIfInBounds_toArray, List.set_cons_zero, List.set_cons_succ]
            refine wpAnyH_take (i := 8) (oi := ⟨some 65, _, _, _, _, _⟩) (v := ?_) rfl (by kernel_rfl) (by kernel_rfl) (by kernel_rfl) (fun _ _ _ h => h) (Or.inl ⟨by rfl, ?_⟩) (by assumption) ?_
            rotate_left
            · intro w hSw; (try dsimp only at hSw); go_simp; (try with_reducible rfl)
            try simp only [Act.put, List.setIfInBounds_toArray, List.set_cons_zero, List.set_cons_succ]
            refine wpAnyH_take (i := 9) (oi := ⟨some 66, _, _, _, _, _⟩) (v := ?_) rfl (by kernel_rfl) (by kernel_rfl) (by kernel_rfl) (fun _ _ _ h => h) (Or.inl ⟨by rfl, ?_⟩) (by assumption) ?_
            rotate_left
            · intro w hSw; (try dsimp only at hSw); go_simp; (try with_reducible rfl)
            try simp only [Act.put, List.setIfInBounds_toArray, List.set_cons_zero, List.set_cons_succ]
            refine wpAnyH_ready (rs := [12]) (by kernel_rfl) (by simp) ?_
            refine AllReadyH.cons (o := ⟨some 69, _, _, _, _, _⟩) rfl (fun K hK => ?_) AllReadyH.nil
            · go_simp
              go_at_call 15
              (with_reducible refine (refList_form Al L cl _ (HRL.out _ hBv12) (by omega)).mono ?_)
              rintro e v13 ⟨Ac, nc, cc, rfl, hn0, ho0, hb0⟩
              have hBv13 : Below w8.heap.size w8 v13 := hBv12.trans (hb0.mono hBv12.size)
              have g0 : Chg none v12 v13 := ⟨hb0.os, hb0.tape, hb0.output, hb0.size, fun i hi _ => hb0.block i hi⟩
              have HOav13 := Lib.hid (own_chg HOav12.out g0)
              have HObv13 := Lib.hid (own_chg HObv12.out g0)
              have HOcv13 := Lib.hid ho0
              have H14v13 := Lib.hid (H14v12.out.chg g0 (by simp))
              have hSv13 := (And.intro (And.intro (cvS (HSF.out) HOav13.out) (cvS (HSR.out) HObv13.out)) (cvS (HSL.out) HOcv13.out))
              clear hn0 ho0 hb0 g0
              go_wp2_with fail
              refine hK.out _ _ hSv13.1 (fun _ => wpAnyH_to (S2 := (fun w' => (((convert 22 9 (.slice Aa na ca)).run Try.prog w' = .ok (.string SF) w') ∧ ((convert 22 9 (.slice Ab nb cb)).run Try.prog w' = .ok (.string SR) w')) ∧ ((convert 22 9 (.slice Ac nc cc)).run Try.prog w' = .ok (.string SL) w'))) (fun _ h => h.1) ?_)
              clear hK K
              try simp only [Act.put, List.setIfInBounds_toArray, List.set_cons_zero, List.set_cons_succ]
              refine wpAnyH_take (i := 13) (oi := ⟨some 70, _, _, _, _, _⟩) (v := ?_) rfl (by kernel_rfl) (by kernel_rfl) (by kernel_rfl) (fun _ _ _ h => h) (Or.inl ⟨by rfl, ?_⟩) (by assumption) ?_
              rotate_left
              · intro w hSw; (try dsimp only at hSw); go_simp; (try with_reducible rfl)
              try simp only [Act.put, List.setIfInBounds_toArray, List.set_cons_zero, List.set_cons_succ]
              refine wpAnyH_take (i := 14) (oi := ⟨some 71, _, _, _, _, _⟩) (v := ?_) rfl (by kernel_rfl) (by kernel_rfl) (by kernel_rfl) (fun _ _ _ h => h) (Or.inl ⟨by rfl, ?_⟩) (by assumption) ?_
              rotate_left
              · intro w hSw; (try dsimp only at hSw); go_simp; (try with_reducible rfl)
              try simp only [Act.put, List.setIfInBounds_toArray, List.set_cons_zero, List.set_cons_succ]
              refine wpAnyH_take (i := 15) (oi := ⟨some 72, _, _, _, _, _⟩) (v := ?_) rfl (by kernel_rfl) (by kernel_rfl) (by kernel_rfl) (fun _ _ _ h => h) (Or.inl ⟨by rfl, ?_⟩) (by assumption) ?_
              rotate_left
              · intro w hSw; (try dsimp only at hSw); go_simp; (try with_reducible rfl)
              try simp only [Act.put, List.setIfInBounds_toArray, List.set_cons_zero, List.set_cons_succ]
              have y0 := H14v13.out.cell 0
              have y1 := H14v13.out.cell 1
              have y2 := H14v13.out.cell 2
              have f0 := H14v13.out.frozen 0
              have f1 := H14v13.out.frozen 1
              have f2 := H14v13.out.frozen 2
              have yl := H14v13.out.lt
              simp only [List.getElem?_toArray, List.getElem?_cons_zero, List.getElem?_cons_succ] at y0 y1 y2
              refine wpAnyH_ready (rs := [17]) (by kernel_rfl) (by simp) ?_
              refine AllReadyH.cons (o := ⟨none, _, _, _, _, _⟩) rfl (fun K hK => ?_) ?_
              rotate_left
              · exact AllReadyH.nil
              go_simp
              refine hK.out _ _ (And.intro (And.intro (cvS (HSF.out) (own_set3 HOav13.out H14v13.out _ _ _)) (cvS (HSR.out) (own_set3 HObv13.out H14v13.out _ _ _))) (cvS (HSL.out) (own_set3 HOcv13.out H14v13.out _ _ _))) (fun _ => ?_)
              clear hK K
              refine wpAnyH_done (by kernel_rfl) ?_ _
              go_wp2_with fail
              go_meet
              exact FMid.of H14v13.out hBv13 (HW.out)
    case rest =>
      obtain ⟨h14, hs14, hk14, hch⟩ := hcut
      subst hs14
      have e0 : SB ++ SF = strOf y0 := by rw [HSB.out, HSF.out, add_len, HY0.out]
      have e1 : SB ++ SR = strOf y1 := by rw [HSB.out, HSR.out, add_len, HY1.out]
      have e2 : SB ++ SL = strOf y2 := by rw [HSB.out, HSL.out, add_len, HY2.out]
      rw [e0, e1, e2] at hk14
      have hk13 := HK13.out.chg hch (by simp)
      have hbc : Below w4.heap.size w4 wc := hb48.trans (hch.belowNone (by omega))
      have q57 : Chg none w5 w7 := by
        have h6 : Chg none w5 w6 := ⟨hb6.os, hb6.tape, hb6.output, hb6.size, fun i hi _ => hb6.block i hi⟩
        exact chg_ofX h6 hb7 hs6
      have q67 : Chg none w6 w7 := ⟨hb7.os, hb7.tape, hb7.output, hb7.size, fun i hi _ => hb7.block i hi⟩
      have q7c : Chg none w7 wc := by
        have h8 : Chg none w7 w8 := chg_ofX (Chg.refl none w7) hb78 (by omega)
        exact h8.trans hch
      obtain ⟨Gs, hGs⟩ : ∃ Gs : List Gt, Gs = [⟨A5, c5, y0, w4.heap.size⟩, ⟨A6, c6, y1, w5.heap.size⟩, ⟨A7, c7, y2, w6.heap.size⟩] := ⟨_, rfl⟩
      have hgok : GOK wc 0 Gs := by
        intro j G hj _
        rw [hGs] at hj
        match j, hj with
        | 0, hj => simp at hj; subst hj; exact own_chg HG0.out (q57.trans q7c)
        | 1, hj => simp at hj; subst hj; exact own_chg HG1.out (q67.trans q7c)
        | 2, hj => simp at hj; subst hj; exact own_chg HG2.out q7c
        | j + 3, hj => simp at hj
      have hord : Gord Gs := by
        intro i j G G' hij hi hj g hg
        rw [hGs] at hi hj
        match i, j, hij, hi, hj with
        | 0, 1, _, hi, hj => simp at hi hj; subst hi hj; exact (HG0.out.lt g hg).2
        | 0, 2, _, hi, hj => simp at hi hj; subst hi hj; have := (HG0.out.lt g hg).2; show g < w6.heap.size; omega
        | 1, 2, _, hi, hj => simp at hi hj; subst hi hj; exact (HG1.out.lt g hg).2
        | 0, j + 3, _, hi, hj => simp at hj
        | 1, j + 3, _, hi, hj => simp at hj
        | i + 2, j + 3, _, hi, hj => simp at hj
      have hb13 : BlkL wc h13 (Gs.map Gt.val) 30 := by rw [hGs]; exact hk13
      have hb14 : BlkL wc h14 (Gs.map fun G => .string (strOf G.ys)) 34 := by rw [hGs]; exact hk14
      have hlen3 : Gs.length = 3 := by rw [hGs]; rfl
      have hbase : ∀ (j : Nat) G, Gs[j]? = some G → w4.heap.size ≤ G.base ∧ G.ys.length ≤ 200000 := by
        have l0 : y0.length ≤ 200000 := by have := nb_le n hn; rw [HY0.out, List.length_append, form_len]; omega
        have l1 : y1.length ≤ 200000 := by have := row_len xs (by omega); rw [HY1.out, List.length_append]; omega
        have l2 : y2.length ≤ 200000 := by
          have := str_size (listForm L)
          rw [← HSL.out] at this
          rw [HY2.out, List.length_append]; omega
        intro j G hj
        rw [hGs] at hj
        match j, hj with
        | 0, hj => simp at hj; subst hj; exact ⟨Nat.le_refl _, l0⟩
        | 1, hj => simp at hj; subst hj; exact ⟨hs5, l1⟩
        | 2, hj => simp at hj; subst hj; exact ⟨by show _ ≤ w6.heap.size; omega, l2⟩
        | j + 3, hj => simp at hj
      have HGOK := Lib.hid hgok
      have HORD := Lib.hid hord
      have HB13 := Lib.hid hb13
      have HB14 := Lib.hid hb14
      have HLEN := Lib.hid hlen3
      have HBASE := Lib.hid hbase
      clear hgok hord hb13 hb14 hlen3 hbase hk13 hk14 hGs e0 e1 e2 q57 q67 q7c HG0 HG1 HG2 HK13 HY0 HY1 HY2 HSF HSR HSL HRX HRL hb5 hb6 hb7 hb46 hb47 hb48 hb78 hch hH13 z1 z2 z3 hzF hzR hzL hs5 hs6 hs7 hs8
      obtain ⟨wz, rfl⟩ : ∃ wz : World, wz = wc := ⟨_, rfl⟩
      go_wp2_with fail
      go_loopw [73] (fun v73 wr => ∃ k : Nat, k ≤ 3 ∧ v73 = .int .i64 k ∧ BlkL wr h13 (Gs.map Gt.val) 30 ∧ BlkL wr h14 (Gs.map fun G => .string (strOf G.ys)) 34 ∧ GOK wr k Gs ∧ Below w4.heap.size w4 wr) (fun v73 _ => 3 - (intOf v73).toNat)
      case atStart => exact ⟨0, by omega, rfl, HB13.out, HB14.out, HGOK.out, hbc⟩
      case round =>
        obtain ⟨k, hk, rfl, hb13, hb14, hgok, hbl⟩ := hrel
        by_cases hlt : k < 3
        · obtain ⟨G, hG⟩ : ∃ G, Gs[k]? = some G := ⟨_, List.getElem?_eq_getElem (by rw [HLEN.out]; exact hlt)⟩
          have c13 : wr.cell? ⟨h13, k, none⟩ = some G.val := by rw [hb13.cell, List.getElem?_map, hG]; rfl
          have c14 : wr.cell? ⟨h14, k, none⟩ = some (.string (strOf G.ys)) := by rw [hb14.cell, List.getElem?_map, hG]; rfl
          have hown := hgok k G hG (Nat.le_refl _)
          have cvG : (convert 22 9 G.val).run Try.prog wr.drew = .ok (.string (strOf G.ys)) wr.drew := conv_own wr.drew hown
          have hS := And.intro (And.intro (show wr.drew.cell? ⟨h13, k, none⟩ = _ from c13) (show wr.drew.cell? ⟨h14, k, none⟩ = _ from c14)) cvG
          have dn : ((strOf G.ys).toList != (strOf G.ys).toList) = false := by simp
          have j0 : (0 : Int) ≤ (k : Int) := by omega
          have j1 : (k : Int) < 3 := by omega
          have hbG := HBASE.out k G hG
          have hso : SomeOwn wr G.base G.val G.ys.length := ⟨G.ys, rfl, hown⟩
          have HSO := Lib.hid hso
          have HG := Lib.hid hG
          have HGK := Lib.hid (show GOK wr (k + 1) Gs from fun j G' hj hk' => hgok j G' hj (by omega))
          have HB13r := Lib.hid hb13
          have HB14r := Lib.hid hb14
          obtain ⟨GA, Gc, ys, gb⟩ := G
          unfold Gt.val at *
          dsimp only at *
          clear hb13 hb14 hgok hown hso hG c13 c14 cvG HB13 HB14 HGOK
          go_wp2_with fail
          refine wp_region_held_drew (S := (fun w' => (w'.cell? ⟨h13, k, none⟩ = some (.slice GA ys.length Gc) ∧ w'.cell? ⟨h14, k, none⟩ = some (.string (strOf ys))) ∧ (convert 22 9 (.slice GA ys.length Gc)).run Try.prog w' = .ok (.string (strOf ys)) w')) (by kernel_rfl) hS (fun _ => ?_)
          refine wpAnyH_take (i := 0) (oi := ⟨some 76, _, _, _, _, _⟩) (v := ?_) rfl (by kernel_rfl) (by kernel_rfl) (by kernel_rfl) (fun _ _ _ h => h) (Or.inl ⟨by rfl, ?_⟩) (by assumption) ?_
          rotate_left
          · intro w hSw; (try dsimp only at hSw); go_simp; (try with_reducible rfl)
          try simp only [Act.put, List.setIfInBounds_toArray, List.set_cons_zero, List.set_cons_succ]
          refine wpAnyH_take (i := 1) (oi := ⟨some 77, _, _, _, _, _⟩) (v := ?_) rfl (by kernel_rfl) (by kernel_rfl) (by kernel_rfl) (fun _ _ _ h => h) (Or.inl ⟨by rfl, ?_⟩) (by assumption) ?_
          rotate_left
          · intro w hSw; (try dsimp only at hSw); go_simp; (try with_reducible rfl)
          try simp only [Act.put, List.setIfInBounds_toArray, List.set_cons_zero, List.set_cons_succ]
          refine wpAnyH_take (i := 2) (oi := ⟨some 78, _, _, _, _, _⟩) (v := ?_) rfl (by kernel_rfl) (by kernel_rfl) (by kernel_rfl) (fun _ _ _ h => h) (Or.inl ⟨by rfl, ?_⟩) (by assumption) ?_
          rotate_left
          · intro w hSw; (try dsimp only at hSw); go_simp; (try with_reducible rfl)
          try simp only [Act.put, List.setIfInBounds_toArray, List.set_cons_zero, List.set_cons_succ]
          refine wpAnyH_take (i := 3) (oi := ⟨some 79, _, _, _, _, _⟩) (v := ?_) rfl (by kernel_rfl) (by kernel_rfl) (by kernel_rfl) (fun _ _ _ h => h) (Or.inl ⟨by rfl, ?_⟩) (by assumption) ?_
          rotate_left
          · intro w hSw; (try dsimp only at hSw); go_simp; (try with_reducible rfl)
          try simp only [Act.put, List.setIfInBounds_toArray, List.set_cons_zero, List.set_cons_succ]
          refine wpAnyH_take (i := 4) (oi := ⟨some 80, _, _, _, _, _⟩) (v := ?_) rfl (by kernel_rfl) (by kernel_rfl) (by kernel_rfl) (fun _ _ _ h => h) (Or.inl ⟨by rfl, ?_⟩) (by assumption) ?_
          rotate_left
          · intro w hSw; (try dsimp only at hSw); go_simp; (try with_reducible rfl)
          try simp only [Act.put, List.setIfInBounds_toArray, List.set_cons_zero, List.set_cons_succ]
          refine wpAnyH_take (i := 5) (oi := ⟨some 81, _, _, _, _, _⟩) (v := ?_) rfl (by kernel_rfl) (by kernel_rfl) (by kernel_rfl) (fun _ _ _ h => h) (Or.inl ⟨by rfl, ?_⟩) (by assumption) ?_
          rotate_left
          · intro w hSw; (try dsimp only at hSw); go_simp; (try with_reducible rfl)
          try simp only [Act.put, List.setIfInBounds_toArray, List.set_cons_zero, List.set_cons_succ]
          refine wpAnyH_take (i := 6) (oi := ⟨some 82, _, _, _, _, _⟩) (v := ?_) rfl (by kernel_rfl) (by kernel_rfl) (by kernel_rfl) (fun _ _ _ h => h) (Or.inl ⟨by rfl, ?_⟩) (by assumption) ?_
          rotate_left
          · intro w hSw; (try dsimp only at hSw); go_simp; (try with_reducible rfl)
          try simp only [Act.put, List.setIfInBounds_toArray, List.set_cons_zero, List.set_cons_succ]
          refine wpAnyH_take (i := 7) (oi := ⟨some 83, _, _, _, _, _⟩) (v := ?_) rfl (by kernel_rfl) (by kernel_rfl) (by kernel_rfl) (fun _ _ _ h => h) (Or.inl ⟨by rfl, ?_⟩) (by assumption) ?_
          rotate_left
          · intro w hSw; (try dsimp only at hSw); go_simp; (try with_reducible rfl)
          try simp only [Act.put, List.setIfInBounds_toArray, List.set_cons_zero, List.set_cons_succ]
          refine wpAnyH_done (by kernel_rfl) ?_ _
          have c13 : wr.drew.cell? ⟨h13, k, none⟩ = some (.slice GA ys.length Gc) := hS.1.1
          clear hS dn
          go_wp2_with fail
          obtain ⟨wo, hwo⟩ : ∃ wo : World, wo = wr.drew := ⟨_, rfl⟩
          have hin0 : BlkL wo h13 (Gs.map Gt.val) 30 ∧ BlkL wo h14 (Gs.map fun G => .string (strOf G.ys)) 34 ∧ GOK wo (k + 1) Gs ∧ SomeOwn wo gb (.slice GA ys.length Gc) ys.length ∧ Below w4.heap.size w4 wo := by
            rw [hwo]
            exact ⟨HB13r.out, HB14r.out, HGK.out, HSO.out, hbl.drew⟩
          have HIN0 := Lib.hid hin0
          rw [← hwo]
          clear hin0 hwo c13
          go_loopw [88] (fun v88 wr => ∃ a : Nat, a ≤ ys.length ∧ v88 = .int .i64 a ∧ BlkL wr h13 (Gs.map Gt.val) 30 ∧ BlkL wr h14 (Gs.map fun G => .string (strOf G.ys)) 34 ∧ GOK wr (k + 1) Gs ∧ SomeOwn wr gb (.slice GA ys.length Gc) ys.length ∧ Below w4.heap.size w4 wr) (fun v88 _ => ys.length - (intOf v88).toNat)
          case atStart => exact ⟨0, by omega, rfl, HIN0.out⟩
          case round =>
            obtain ⟨a, ha, rfl, hi13, hi14, hig, hiso, hib⟩ := hrel
            by_cases hlt2 : a < ys.length
            · obtain ⟨g, y, rfl, hg1, hg2, hcy, hfy⟩ := hiso.at_ hlt2
              have ci : wr.cell? ⟨h13, k, none⟩ = some (.slice (some ⟨g, 0, none⟩) ys.length Gc) := by rw [hi13.cell, List.getElem?_map, HG.out]; rfl
              have n13 := hiso.apart hi13 (by decide)
              have n14 := hiso.apart hi14 (by decide)
              have hst := hiso.store g a (UInt8.ofNat (y.toNat + 1))
              have hgk := fun v => hig.store HORD.out HG.out (g := g) rfl a v
              have hb' := fun v => hib.setCell (p := ⟨g, a, none⟩) (by have := hbG.1; show w4.heap.size ≤ g; omega) v
              have h13' := fun v => Blk.setOther hi13 ⟨g, a, none⟩ v n13
              have h14' := fun v => Blk.setOther hi14 ⟨g, a, none⟩ v n14
              rw [u8_next'] at hst
              have hylt := y.toNat_lt
              have HALL := Lib.hid (And.intro hst (And.intro hgk (And.intro hb' (And.intro h13' h14'))))
              clear hst hgk hb' h13' h14' hi13 hi14 hig hiso
              go_wp2_with fail
              go_roundw
              case rel => exact ⟨a + 1, by omega, by go_num, HALL.out.2.2.2.1 _, HALL.out.2.2.2.2 _, HALL.out.2.1 _, HALL.out.1, HALL.out.2.2.1 _⟩
              case measure => simp [intOf]; omega
            · obtain rfl : a = ys.length := by omega
              have HF := Lib.hid (And.intro hi13 (And.intro hi14 hig))
              clear hi13 hi14 hig hiso
              go_wp2_with fail
              go_roundw
              case rel => exact ⟨k + 1, by omega, by go_num, HF.out.1, HF.out.2.1, HF.out.2.2, hib⟩
              case measure => simp [intOf]; omega
        · obtain rfl : k = 3 := by omega
          have cz : wr.cell? ⟨w.heap.size, bs.length, none⟩ = some (.int .u8 77) := (hbl.cell (p := ⟨w.heap.size, bs.length, none⟩) (by show w.heap.size < _; omega)).trans (by rw [HZ4.out.cell]; exact HZZ.out.1)
          have cr : (convert 22 9 (.slice (some ⟨w.heap.size, 0, none⟩) bs.length (bs.length + 40))).run Try.prog wr = .ok (.string SB) wr := by rw [HSB.out]; exact conv_reads wr (HR4.out.below hbl)
          obtain ⟨SX, hSX⟩ : ∃ S, S = strOf xs := ⟨_, rfl⟩
          have co : (convert 22 9 (.slice A4 xs.length c4)).run Try.prog wr = .ok (.string SX) wr := by rw [hSX]; exact conv_reads wr ((Reads.of_own HOWN4.out).below hbl)
          have cx : (convert 22 9 (.slice xA xs.length xc)).run Try.prog wr = .ok (.string SX) wr := by rw [hSX]; exact conv_reads wr ((HX.out.reads.below hb04).below (hbl.mono (by omega)))
          have hfin : Chg none w wr := by
            have h := hb04.trans (hbl.mono (by omega))
            exact ⟨h.os, h.tape, h.output, h.size, fun i hi _ => h.block i hi⟩
          clear hb13 hb14 hgok hSX
          go_wp2_with fail
          refine (known_any _).mono ?_
          rintro e w20 ⟨rfl, g20⟩
          clear cz cr co cx
          go_wp2_with fail
          go_ret
          exact ⟨rfl, hfin.trans g20⟩

end Go.Proofs.Ytkbhhejnhjhacaa
