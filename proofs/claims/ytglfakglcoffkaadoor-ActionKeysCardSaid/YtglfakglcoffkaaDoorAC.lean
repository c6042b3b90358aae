/-
  Package action: an action in memory; May. Package action: Bytes. Package action: Key; layer 8's known; the document's Great.
-/
import Derived.Test.YtglfakglcoffkaaDoorPZ
import Derived.Test.YtglfakglcoffkaaDoorPS
import Derived.Test.YtglfakglcoffkaaDoorTRT
import Derived.Laws.CopyOwn
import Derived.Test.YtglfakglcoffkaaDoorQ
namespace Go.Proofs.YtglfakglcoffkaaDoor
open Go.RowKit

/-- An action: where its program and its inputs lie, and its fuel. -/
structure Actn where
  A : Option Addr
  L : List Ins
  c : Nat
  B : Option Addr
  N : List Fil
  d : Nat
  F : Int
instance : Inhabited Actn := ⟨⟨none, [], 0, none, [], 0, 0⟩⟩
def actCells (a : Actn) : List Value := [.slice a.A a.L.length a.c, .slice a.B a.N.length a.d, .int .i64 a.F]
structure ActAt (w : World) (a : Actn) : Prop where
  prog : RowsAt w 6 a.A insCells a.L
  fits : ∀ x ∈ a.L, x.fits
  pl : a.L.length ≤ 9223372036854775807
  tree : TreeAt w a.B a.N
  tl : a.N.length ≤ 9223372036854775807
  fl : -9223372036854775808 ≤ a.F ∧ a.F ≤ 9223372036854775807
theorem ActAt.chg {w w' : World} {a : Actn} (h : ActAt w a) (g : Chg none w w') : ActAt w' a := ⟨h.prog.chg g, h.fits, h.pl, h.tree.chg g, h.tl, h.fl⟩
def fuelB (F : Int) : Bool := decide (0 ≤ F) && decide (F ≤ 20000)
def mayA (a : Actn) : Bool := mayB a.L && (mayT a.N && fuelB a.F)

set_option maxRecDepth 100000 in
set_option maxHeartbeats 8000000 in
theorem actmay_any (a : Actn) (w : World) (ha : ActAt w a) (hF : Flds w) :
    Calls Tryd.prog 46 #[.agg (actCells a).toArray] w fun e w' => e = .returned (.bool (mayA a)) ∧ Chg none w w' := by
  obtain ⟨A, L, c, B, N, d, F⟩ := a
  obtain ⟨h1, h2, h3, h4, h5, h6⟩ := ha
  dsimp only at h1 h2 h3 h4 h5 h6
  have HM := Lib.hid (fun v (g : Chg none w v) => may_any L A c v (h1.chg g) h2 h3 (hF.chg g))
  have HT := Lib.hid (fun v (g : Chg none w v) => mayt_any N B d v (h4.chg g) h5)
  have HG0 : Hid (Chg none w (w.alloc (.cells #[.slice A L.length c, .slice B N.length d, .int .i64 F] 64))) := (Chg.refl _ _).alloc _
  have HB0 : Hid (Blk (w.alloc (.cells #[.slice A L.length c, .slice B N.length d, .int .i64 F] 64)) w.heap.size #[.slice A L.length c, .slice B N.length d, .int .i64 F] 64) := Blk.new _ _ _
  clear h1 h2 h3 h4 h5
  unfold actCells mayA fuelB
  dsimp only
  generalize mayB L = p at *
  generalize mayT N = t at *
  cases p
  · go_enter Tryd.func46, Tryd.ntmps46
    go_wp2_with fail
    refine (HM.out _ HG0.out).mono ?_
    rintro e w1 ⟨rfl, g1⟩
    have G1 := Lib.hid (HG0.out.trans g1)
    clear g1
    go_wp2_with fail
    go_ret
    exact ⟨rfl, G1.out⟩
  cases t
  · go_enter Tryd.func46, Tryd.ntmps46
    go_wp2_with fail
    refine (HM.out _ HG0.out).mono ?_
    rintro e w1 ⟨rfl, g1⟩
    have y1 : w1.cell? ⟨w.heap.size, 1, none⟩ = some (.slice B N.length d) := (HB0.out.chg g1 (by simp)).cell 1
    have G1 := Lib.hid (HG0.out.trans g1)
    have HT1 := Lib.hid (HT.out w1 G1.out)
    clear g1
    go_wp2_with fail
    refine HT1.out.mono ?_
    rintro e w2 ⟨rfl, g2⟩
    have G2 := Lib.hid (G1.out.trans g2)
    clear g2
    go_wp2_with fail
    go_ret
    exact ⟨rfl, G2.out⟩
  by_cases f1 : 0 ≤ F
  rotate_left
  · have d1 : decide (0 ≤ F) = false := by rw [decide_eq_false_iff_not]; exact f1
    rw [d1]
    go_enter Tryd.func46, Tryd.ntmps46
    go_wp2_with fail
    refine (HM.out _ HG0.out).mono ?_
    rintro e w1 ⟨rfl, g1⟩
    have y1 : w1.cell? ⟨w.heap.size, 1, none⟩ = some (.slice B N.length d) := (HB0.out.chg g1 (by simp)).cell 1
    have G1 := Lib.hid (HG0.out.trans g1)
    have HB1 := Lib.hid (HB0.out.chg g1 (by simp))
    have HT1 := Lib.hid (HT.out w1 G1.out)
    clear g1
    go_wp2_with fail
    refine HT1.out.mono ?_
    rintro e w2 ⟨rfl, g2⟩
    have y2 : w2.cell? ⟨w.heap.size, 2, none⟩ = some (.int .i64 F) := (HB1.out.chg g2 (by simp)).cell 2
    have G2 := Lib.hid (G1.out.trans g2)
    clear g2
    go_wp2_with fail
    go_ret
    exact ⟨by first | rfl | simp, G2.out⟩
  have d1 : decide (0 ≤ F) = true := by rw [decide_eq_true_eq]; exact f1
  have d2 : decide (F ≤ 20000) = decide (F ≤ 20000) := rfl
  rw [d1]
  go_enter Tryd.func46, Tryd.ntmps46
  go_wp2_with fail
  refine (HM.out _ HG0.out).mono ?_
  rintro e w1 ⟨rfl, g1⟩
  have y1 : w1.cell? ⟨w.heap.size, 1, none⟩ = some (.slice B N.length d) := (HB0.out.chg g1 (by simp)).cell 1
  have G1 := Lib.hid (HG0.out.trans g1)
  have HB1 := Lib.hid (HB0.out.chg g1 (by simp))
  have HT1 := Lib.hid (HT.out w1 G1.out)
  clear g1
  go_wp2_with fail
  refine HT1.out.mono ?_
  rintro e w2 ⟨rfl, g2⟩
  have y2 : w2.cell? ⟨w.heap.size, 2, none⟩ = some (.int .i64 F) := (HB1.out.chg g2 (by simp)).cell 2
  have G2 := Lib.hid (G1.out.trans g2)
  clear g2
  go_wp2_with fail
  go_ret
  exact ⟨by first | rfl | simp, G2.out⟩

/-! What an action's bytes tell. -/
theorem form_split {n m : Nat} {r s : List UInt8} (hn : n < 18446744073709551616) (hm : m < 18446744073709551616) (h : form n ++ r = form m ++ s) : n = m ∧ r = s := by
  have h1 := numS_at (bs := form n ++ r) (pre := []) (rest := r) (n := n) (most := 18446744073709551615) (k := 0) rfl rfl hn (by omega)
  have h2 := numS_at (bs := form n ++ r) (pre := []) (rest := s) (n := m) (most := 18446744073709551615) (k := 0) (by rw [h]; rfl) rfl hm (by omega)
  rw [h1] at h2
  injection h2 with e1 e2
  subst e1
  exact ⟨rfl, List.append_cancel_left h⟩
theorem row_split {x y r s : List UInt8} (hx : x.length < 18446744073709551616) (hy : y.length < 18446744073709551616) (h : row x ++ r = row y ++ s) : x = y ∧ r = s := by
  unfold row at h
  rw [List.append_assoc, List.append_assoc] at h
  obtain ⟨e1, e2⟩ := form_split hx hy h
  exact List.append_inj e2 e1
/-- An action's bytes. -/
def actB (P R : List UInt8) (F : Nat) : List UInt8 := row P ++ (R ++ form F)

end Go.Proofs.YtglfakglcoffkaaDoor

namespace Go.Proofs.YtglfakglcoffkaaDoor
open Go.RowKit

theorem made22 (n : Nat) (hn : n < 1000000) (W : World) : (Instr.makeSlice 22 (.int .i64 ((n : Int) + 32)) (.int .i64 ((n : Int) + 32))).run Tryd.prog W =
    .ok (.slice (some ⟨W.heap.size, 0, none⟩) (n + 32) (n + 32)) (W.alloc (.cells (Array.replicate (n + 32) (.int .u8 0)) 5)) := by
  obtain ⟨i0, hi, hz0, hz1, hz2⟩ := info_parts Tryd.info5
  have hr := run_make (P := Tryd.prog) W 22 5 i0 (.int .u8 0) Tryd.underlying22 hi hz0 .i64 .i64 ((n : Int) + 32) ((n : Int) + 32) (by omega) (by omega) (by rw [hz2]; omega) (by omega)
  rw [hr]
  have e1 : ((n : Int) + 32).toNat = n + 32 := by omega
  rw [e1, hz1, Nat.mul_one, made_zero, List.toArray_replicate]
theorem cut_lo22 (g n : Nat) (w : World) :
    (Instr.sliceAt 22 (.slice (some ⟨g, 0, none⟩) (n + 32) (n + 32)) (some (.int .i64 n)) none none).run Tryd.prog w = .ok (.slice (some ⟨g, n, none⟩) 32 32) w := by
  have u22 := Tryd.underlying22
  have z5 := Tryd.sizeOf5
  have h4 : (n : Int) ≤ (n + 32 : Nat) := by omega
  go_simp
  all_goals (first | (intro h; exact absurd h (by omega)) | (split <;> first | omega | rfl) | skip)
theorem below_chg {g : Nat} {w w' : World} (h : Below g w w') (hg : w.heap.size = g + 1) : Chg (some g) w w' :=
  ⟨h.os, h.tape, h.output, h.size, fun i hi hn => h.block i (by
    have : i ≠ g := fun e => hn (by rw [e])
    omega)⟩
theorem splice_two {α : Type} (cur h r : List α) (hc : cur.length = h.length + r.length) : splice (splice cur 0 h) h.length r = h ++ r := by
  unfold splice
  simp only [List.take_zero, List.nil_append, Nat.zero_add]
  have h1 : (cur.drop h.length).length = r.length := by rw [List.length_drop]; omega
  rw [List.take_left' rfl, ← List.drop_drop, List.drop_left' rfl, List.drop_of_length_le (by rw [h1]; exact Nat.le_refl _), List.append_nil]

set_option maxRecDepth 100000 in
set_option maxHeartbeats 8000000 in
theorem actbytes_no (a : Actn) (w : World) (ha : ActAt w a) (hF : Flds w) (hm : mayA a = false) :
    Calls Tryd.prog 44 #[.agg (actCells a).toArray] w fun e w' => e = .returned (.tuple #[.slice none 0 0, .int .i64 2]) ∧ Chg none w w' := by
  have HM := Lib.hid (fun v (g : Chg none w v) => actmay_any a v (ha.chg g) (hF.chg g))
  rw [hm] at HM
  clear hm
  obtain ⟨A, L, c, B, N, d, F⟩ := a
  unfold actCells at *
  dsimp only at HM ⊢
  have HG0 : Hid (Chg none w (w.alloc (.cells #[.slice A L.length c, .slice B N.length d, .int .i64 F] 64))) := (Chg.refl _ _).alloc _
  clear ha hF
  go_enter Tryd.func44, Tryd.ntmps44
  go_wp2_with fail
  refine (HM.out _ HG0.out).mono ?_
  rintro e w1 ⟨rfl, g1⟩
  have G1 := Lib.hid (HG0.out.trans g1)
  clear g1
  go_wp2_with fail
  go_ret2
  exact ⟨rfl, G1.out⟩

theorem mayA_parts {a : Actn} (h : mayA a = true) : mayB a.L = true ∧ mayT a.N = true ∧ 0 ≤ a.F ∧ a.F ≤ 20000 := by
  unfold mayA fuelB at h
  simp only [Bool.and_eq_true, decide_eq_true_eq] at h
  exact ⟨h.1, h.2.1, h.2.2.1, h.2.2.2⟩
/-- The bytes of an action that may be. -/
def bytesA (a : Actn) : List UInt8 := actB (progB a.L) (rootB (treeB a.N)) a.F.toNat

set_option maxRecDepth 100000 in
set_option maxHeartbeats 16000000 in
theorem actbytes_yes (a : Actn) (w : World) (ha : ActAt w a) (hF : Flds w) (hTb : Tabs w) (hm : mayA a = true) :
    Calls Tryd.prog 44 #[.agg (actCells a).toArray] w fun e w' => ∃ A' n c', e = .returned (.tuple #[.slice A' n c', .int .i64 0]) ∧ ByAt w w' A' n c' (bytesA a) := by
  obtain ⟨hmB, hmT, hf0, hf1⟩ := mayA_parts hm
  have HM := Lib.hid (fun v (g : Chg none w v) => actmay_any a v (ha.chg g) (hF.chg g))
  rw [hm] at HM
  have HPB := Lib.hid (fun v (g : Chg none w v) => bytes_yes a.L a.A a.c v (ha.chg g).prog ha.fits (hF.chg g) hmB)
  have HRT := Lib.hid (fun v (g : Chg none w v) => troot_yes a.N a.B a.d v (ha.chg g).tree hmT (hTb.chg g (by simp)))
  have HPL : Hid ((progB a.L).length ≤ 10000) := by
    have h := partB_len hmB a.L.length
    rw [partB_all (Nat.le_refl _)] at h
    exact h
  clear hm hmB hmT hTb
  unfold bytesA
  obtain ⟨A, L, c, B, N, d, F⟩ := a
  unfold actCells at *
  dsimp only at HM HPB HRT HPL hf0 hf1 ⊢
  obtain ⟨f, rfl⟩ := Int.eq_ofNat_of_zero_le hf0
  rw [Int.toNat_natCast]
  obtain ⟨P, hP⟩ : ∃ P, P = progB L := ⟨_, rfl⟩
  obtain ⟨D, hD⟩ : ∃ D, D = rootB (treeB N) := ⟨_, rfl⟩
  have hDl : D.length = 32 := by rw [hD, rootB_len]
  rw [← hP] at HPB HPL ⊢
  rw [← hD] at HRT ⊢
  obtain ⟨C, hC⟩ : ∃ C, C = (byteVals D).toArray := ⟨_, rfl⟩
  have HC := Lib.hid hC
  have HIC : Hid ((Tryd.prog.info? 30).map (·.size) = some C.size) := by rw [hC]; exact byD_info D hDl
  have HOC : Hid (C.all (·.oneCell') = true) := by rw [hC]; exact byD_one D
  have HSC : Hid (zero32.size = C.size) := by rw [hC, byD_size D hDl]; rfl
  have HDL := Lib.hid hDl
  rw [← hC] at HRT
  have hZ30 : ∀ W : World, (W.alloc (.cells #[Value.int IntKind.u8 0, Value.int IntKind.u8 0, Value.int IntKind.u8 0, Value.int IntKind.u8 0, Value.int IntKind.u8 0, Value.int IntKind.u8 0, Value.int IntKind.u8 0, Value.int IntKind.u8 0, Value.int IntKind.u8 0, Value.int IntKind.u8 0, Value.int IntKind.u8 0, Value.int IntKind.u8 0, Value.int IntKind.u8 0, Value.int IntKind.u8 0, Value.int IntKind.u8 0, Value.int IntKind.u8 0, Value.int IntKind.u8 0, Value.int IntKind.u8 0, Value.int IntKind.u8 0, Value.int IntKind.u8 0, Value.int IntKind.u8 0, Value.int IntKind.u8 0, Value.int IntKind.u8 0, Value.int IntKind.u8 0, Value.int IntKind.u8 0, Value.int IntKind.u8 0, Value.int IntKind.u8 0, Value.int IntKind.u8 0, Value.int IntKind.u8 0, Value.int IntKind.u8 0, Value.int IntKind.u8 0, Value.int IntKind.u8 0] 30)).heap[W.heap.size]? = some (.cells zero32 30 (0, 0)) := fun W => heap_alloc_new W _
  have HZ30 := Lib.hid hZ30
  have HG0 : Hid (Chg none w (w.alloc (.cells #[.slice A L.length c, .slice B N.length d, .int .i64 (f : Int)] 64))) := (Chg.refl _ _).alloc _
  have HB0 : Hid (Blk (w.alloc (.cells #[.slice A L.length c, .slice B N.length d, .int .i64 (f : Int)] 64)) w.heap.size #[.slice A L.length c, .slice B N.length d, .int .i64 (f : Int)] 64) := Blk.new _ _ _
  have HFB : Hid (f ≤ 20000) := by show f ≤ 20000; omega
  have HW0 : Hid (w.heap.size ≤ w.heap.size) := Nat.le_refl _
  clear hZ30 hC hDl hP hD hf0 hf1 ha hF
  go_enter Tryd.func44, Tryd.ntmps44
  go_wp2_with fail
  refine (HM.out _ HG0.out).mono ?_
  rintro e w1 ⟨rfl, g1⟩
  have HB1 := Lib.hid (HB0.out.chg g1 (by simp))
  have y0 : w1.cell? ⟨w.heap.size, 0, none⟩ = some (.slice A L.length c) := HB1.out.cell 0
  have G1 := Lib.hid (HG0.out.trans g1)
  have HP1 := Lib.hid (HPB.out w1 G1.out)
  clear g1 HM HPB HB0 HG0
  go_wp2_with fail
  refine HP1.out.mono ?_
  rintro e w2 ⟨A2, n2, c2, rfl, hb2⟩
  have HB2 := Lib.hid (HB1.out.chg hb2.2.2 (by simp))
  have y1 : w2.cell? ⟨w.heap.size, 1, none⟩ = some (.slice B N.length d) := HB2.out.cell 1
  have G2 := Lib.hid (G1.out.trans hb2.2.2)
  have HBY2 := Lib.hid hb2
  have HR2 := Lib.hid (HRT.out w2 G2.out)
  clear hb2 HP1 HRT HB1 y0
  go_wp2_with fail
  refine HR2.out.mono ?_
  rintro e w3 ⟨rfl, g3⟩
  have HB3 := Lib.hid (HB2.out.chg g3 (by simp))
  have G3 := Lib.hid (G2.out.trans g3)
  have HY3 := Lib.hid (own_chgW HBY2.out.2.1 g3)
  have HN2 := Lib.hid HBY2.out.1
  clear g3 HR2 HB2 y1 HBY2
  go_upto_region 7 with (refine wpList_store_row rfl 30 _ _ rfl w3.heap.size C rfl rfl 30 _ (HZ30.out w3) HIC.out HSC.out HOC.out ?_)
  have k34 : Chg none w3 ((w3.alloc (.cells #[Value.int IntKind.u8 0, Value.int IntKind.u8 0, Value.int IntKind.u8 0, Value.int IntKind.u8 0, Value.int IntKind.u8 0, Value.int IntKind.u8 0, Value.int IntKind.u8 0, Value.int IntKind.u8 0, Value.int IntKind.u8 0, Value.int IntKind.u8 0, Value.int IntKind.u8 0, Value.int IntKind.u8 0, Value.int IntKind.u8 0, Value.int IntKind.u8 0, Value.int IntKind.u8 0, Value.int IntKind.u8 0, Value.int IntKind.u8 0, Value.int IntKind.u8 0, Value.int IntKind.u8 0, Value.int IntKind.u8 0, Value.int IntKind.u8 0, Value.int IntKind.u8 0, Value.int IntKind.u8 0, Value.int IntKind.u8 0, Value.int IntKind.u8 0, Value.int IntKind.u8 0, Value.int IntKind.u8 0, Value.int IntKind.u8 0, Value.int IntKind.u8 0, Value.int IntKind.u8 0, Value.int IntKind.u8 0, Value.int IntKind.u8 0] 30)).setRow w3.heap.size C) := Chg.own (b := w3.heap.size) ((Chg.refl none w3).alloc _) (chg_setRow _ _ _) (Nat.le_refl _)
  have HX4 : Hid (Blk ((w3.alloc (.cells #[Value.int IntKind.u8 0, Value.int IntKind.u8 0, Value.int IntKind.u8 0, Value.int IntKind.u8 0, Value.int IntKind.u8 0, Value.int IntKind.u8 0, Value.int IntKind.u8 0, Value.int IntKind.u8 0, Value.int IntKind.u8 0, Value.int IntKind.u8 0, Value.int IntKind.u8 0, Value.int IntKind.u8 0, Value.int IntKind.u8 0, Value.int IntKind.u8 0, Value.int IntKind.u8 0, Value.int IntKind.u8 0, Value.int IntKind.u8 0, Value.int IntKind.u8 0, Value.int IntKind.u8 0, Value.int IntKind.u8 0, Value.int IntKind.u8 0, Value.int IntKind.u8 0, Value.int IntKind.u8 0, Value.int IntKind.u8 0, Value.int IntKind.u8 0, Value.int IntKind.u8 0, Value.int IntKind.u8 0, Value.int IntKind.u8 0, Value.int IntKind.u8 0, Value.int IntKind.u8 0, Value.int IntKind.u8 0, Value.int IntKind.u8 0] 30)).setRow w3.heap.size C) w3.heap.size C 30) := setRow_heap _ _ _ _ _ _ (HZ30.out w3)
  have G4 := Lib.hid (G3.out.trans k34)
  have HB4 := Lib.hid (HB3.out.chg k34 (by simp))
  have HY4 := Lib.hid (own_chgW HY3.out k34)
  clear k34 HB3 HY3 G3 HZ30 HSC HOC
  generalize (w3.alloc (.cells #[Value.int IntKind.u8 0, Value.int IntKind.u8 0, Value.int IntKind.u8 0, Value.int IntKind.u8 0, Value.int IntKind.u8 0, Value.int IntKind.u8 0, Value.int IntKind.u8 0, Value.int IntKind.u8 0, Value.int IntKind.u8 0, Value.int IntKind.u8 0, Value.int IntKind.u8 0, Value.int IntKind.u8 0, Value.int IntKind.u8 0, Value.int IntKind.u8 0, Value.int IntKind.u8 0, Value.int IntKind.u8 0, Value.int IntKind.u8 0, Value.int IntKind.u8 0, Value.int IntKind.u8 0, Value.int IntKind.u8 0, Value.int IntKind.u8 0, Value.int IntKind.u8 0, Value.int IntKind.u8 0, Value.int IntKind.u8 0, Value.int IntKind.u8 0, Value.int IntKind.u8 0, Value.int IntKind.u8 0, Value.int IntKind.u8 0, Value.int IntKind.u8 0, Value.int IntKind.u8 0, Value.int IntKind.u8 0, Value.int IntKind.u8 0] 30)).setRow w3.heap.size C = w4 at *
  generalize w3.heap.size = pX at *
  have HWB : Hid (Calls Tryd.prog 62 #[.slice none 0 0, .slice A2 n2 c2] w4 fun e w' => ∃ A' n' c', e = .returned (.slice A' n' c') ∧ ByAt w w' A' n' c' ([] ++ row P) ∧ Chg none w4 w') := by
    have hb : ByAt w w4 none 0 0 [] := ⟨rfl, World.ownsRow_nil _ _ _ _, G4.out⟩
    have h := HN2.out
    subst h
    exact put_b A2 P c2 hb (by simp) (Reads.of_own HY4.out) (by have := HPL.out; omega)
  clear HY4
  go_wp2_with fail
  refine HWB.out.mono ?_
  rintro e w5 ⟨A5, n5, c5, rfl, hb5, g5⟩
  rw [List.nil_append] at hb5
  have HB5 := Lib.hid (HB4.out.chg g5 (by simp))
  have HX5 := Lib.hid (HX4.out.chg g5 (by simp))
  have HH5 := Lib.hid hb5
  have G5 := Lib.hid hb5.2.2
  have hn5 : n5 = (row P).length := hb5.1
  have hrl : (row P).length ≤ 10009 := by have h1 := row_len P (by have := HPL.out; omega); have h2 := HPL.out; omega
  have hn5b : (n5 : Int) ≤ 10009 := by omega
  have HN5 := Lib.hid hn5
  have hmk := fun W => made22 n5 (by omega) W
  clear hb5 g5 HWB HB4 HX4 G4 hn5 hrl
  go_upto_region 11 with fail
  have hnew : Blk (w5.alloc (.cells (Array.replicate (n5 + 32) (Value.int .u8 0)) 5)) w5.heap.size (List.replicate (n5 + 32) (Value.int .u8 0)).toArray 5 := by rw [List.toArray_replicate]; exact Blk.new _ _ _
  have k56 : Chg none w5 (w5.alloc (.cells (Array.replicate (n5 + 32) (Value.int .u8 0)) 5)) := (Chg.refl _ _).alloc _
  have hsz6 : (w5.alloc (.cells (Array.replicate (n5 + 32) (Value.int .u8 0)) 5)).heap.size = w5.heap.size + 1 := by simp
  have HNW := Lib.hid hnew
  have HB6 := Lib.hid (HB5.out.chg k56 (by simp))
  have HX6 := Lib.hid (HX5.out.chg k56 (by simp))
  have HH6 := Lib.hid (HH5.out.chg k56)
  have HS6 := Lib.hid hsz6
  have HBG : Hid (w.heap.size < w5.heap.size) := HB5.out.lt
  have HXG : Hid (pX < w5.heap.size) := HX5.out.lt
  have HGE : Hid (w.heap.size ≤ w5.heap.size) := G5.out.size
  clear hnew k56 hsz6 hmk HB5 HX5 HH5
  generalize w5.alloc (.cells (Array.replicate (n5 + 32) (Value.int .u8 0)) 5) = w6 at *
  generalize w5.heap.size = g at *
  have HCS1 : Hid (∀ v ∈ byteVals (row P), v.oneCell' = true) := byteVals_one _
  have HL1 : Hid ((byteVals (row P)).length = n5) := by show _ = _; rw [byteVals_len, HN5.out]
  have HPS1 : Hid (0 < (byteVals (row P)).length → ∃ ad, A5 = some ad ∧ ∀ j v, (byteVals (row P))[j]? = some v → w6.cell? (ad.add j) = some v) := fun h0 => by
    obtain ⟨ad, e, -, hc⟩ := (Reads.of_own HH6.out.2.1).2 (by rw [← HL1.out]; exact h0)
    exact ⟨ad, e, hc⟩
  have HSZ5 : Hid ((Tryd.prog.info? 5).map (·.size) = some 1) := by show _ = _; kernel_rfl
  go_upto_region 12 with (refine wpList_copy_splice rfl (.tmp 36) (.tmp 37) 22 22 rfl 5 Tryd.underlying22 HSZ5.out (some ⟨g, 0, none⟩) A5 (n5 + 32) (n5 + 32) n5 c5 rfl rfl g 0 (List.replicate (n5 + 32) (Value.int .u8 0)) 5 HNW.out (byteVals (row P)) (by rw [HL1.out]; exact (Nat.min_eq_left (by omega)).symm) (fun h0 => ⟨rfl, HPS1.out h0⟩) (by rw [HL1.out, List.length_replicate]; omega) HCS1.out g w6 (Below.refl _ _) (Nat.le_refl _) ?_)
  intro w7 h7 hb7
  have k67 : Chg (some g) w6 w7 := below_chg hb7 HS6.out
  have HG7 : Hid (Blk w7 g (splice (List.replicate (n5 + 32) (Value.int .u8 0)) 0 (byteVals (row P))).toArray 5) := h7.out
  have HB7 := Lib.hid (HB6.out.chg k67 (by have := HBG.out; intro e; injection e with e; omega))
  have HX7 := Lib.hid (HX6.out.chg k67 (by have := HXG.out; intro e; injection e with e; omega))
  have G7 := Lib.hid (Chg.own (b := g) HH6.out.2.2 k67 HGE.out)
  have HS7 : Hid (w7.heap.size = g + 1 ∨ g + 1 ≤ w7.heap.size) := .inr (by rw [← HS6.out]; exact k67.size)
  obtain ⟨cur, hcur⟩ : ∃ cur, cur = splice (List.replicate (n5 + 32) (Value.int .u8 0)) 0 (byteVals (row P)) := ⟨_, rfl⟩
  rw [← hcur] at HG7
  have hcl : cur.length = n5 + 32 := by rw [hcur, length_splice _ _ _ (by rw [HL1.out, List.length_replicate]; omega), List.length_replicate]
  have hfin : splice cur n5 (byteVals D) = byteVals (row P ++ D) := by
    rw [hcur, ← HL1.out, splice_two _ _ _ (by rw [List.length_replicate, HL1.out, byteVals_len D, HDL.out]), byteVals_append]
  have HCL := Lib.hid hcl
  have HFN := Lib.hid hfin
  clear h7 hb7 k67 HB6 HX6 HNW HH6 HCS1 HPS1 HS6 hcur hcl hfin
  have hG7 : Blk w7.drew g cur.toArray 5 := HG7.out.drew
  have hS7 : Blk w7.drew pX C 30 ∧ Blk w7.drew w.heap.size #[.slice A L.length c, .slice B N.length d, .int .i64 (f : Int)] 64 ∧ Chg none w w7.drew := ⟨HX7.out.drew, HB7.out.drew, G7.out.drew⟩
  have hq1 := fun v => cut_lo22 g n5 v
  have hq2 := fun v => cut30 v pX
  clear HG7 HX7 HB7 G7
  go_wp2_with fail
  refine wp_region_held_drew (S := fun v => Blk v pX C 30 ∧ Blk v w.heap.size #[.slice A L.length c, .slice B N.length d, .int .i64 (f : Int)] 64 ∧ Chg none w v) (by kernel_rfl) hS7 (fun _ => ?_)
  generalize w7.drew = v7 at *
  refine wpAnyH_take (i := 0) (oi := ⟨some 39, _, _, _, _, _⟩) (v := ?_) rfl (by kernel_rfl) (by kernel_rfl) (by kernel_rfl) (fun _ _ _ h => h) (Or.inl ⟨by rfl, ?_⟩) (by assumption) ?_
  rotate_left
  · intro w hSw; (try dsimp only at hSw); go_simp; (try with_reducible rfl)
  try simp only [Act.put, List.setIfInBounds_toArray, List.set_cons_zero, List.set_cons_succ]
  refine wpAnyH_take (i := 1) (oi := ⟨some 40, _, _, _, _, _⟩) (v := ?_) rfl (by kernel_rfl) (by kernel_rfl) (by kernel_rfl) (fun _ _ _ h => h) (Or.inl ⟨by rfl, ?_⟩) (by assumption) ?_
  rotate_left
  · intro w hSw; (try dsimp only at hSw); go_simp; (try with_reducible rfl)
  try simp only [Act.put, List.setIfInBounds_toArray, List.set_cons_zero, List.set_cons_succ]
  refine wpAnyH_take (i := 2) (oi := ⟨some 41, _, _, _, _, _⟩) (v := ?_) rfl (by kernel_rfl) (by kernel_rfl) (by kernel_rfl) (fun _ _ _ h => h) (Or.inl ⟨by rfl, ?_⟩) (by assumption) ?_
  rotate_left
  · intro w hSw; (try dsimp only at hSw); go_simp; (try with_reducible rfl)
  try simp only [Act.put, List.setIfInBounds_toArray, List.set_cons_zero, List.set_cons_succ]
  refine wpAnyH_take (i := 3) (oi := ⟨some 42, _, _, _, _, _⟩) (v := .slice (some ⟨g, n5, none⟩) 32 32) rfl (by kernel_rfl) (by kernel_rfl) (by kernel_rfl) (fun _ _ _ h => h) (Or.inl ⟨by rfl, ?_⟩) (by assumption) ?_
  · intro v hSv; have hq := hq1 v; go_simp
  try simp only [Act.put, List.setIfInBounds_toArray, List.set_cons_zero, List.set_cons_succ]
  refine wpAnyH_take (i := 4) (oi := ⟨some 43, _, _, _, _, _⟩) (v := .slice (some ⟨pX, 0, none⟩) 32 32) rfl (by kernel_rfl) (by kernel_rfl) (by kernel_rfl) (fun _ _ _ h => h) (Or.inl ⟨by rfl, ?_⟩) (by assumption) ?_
  · intro v hSv; have hq := hq2 v; go_simp
  try simp only [Act.put, List.setIfInBounds_toArray, List.set_cons_zero, List.set_cons_succ]
  refine wpAnyH_ready (rs := [5]) (by kernel_rfl) (by simp) ?_
  refine AllReadyH.cons (o := ⟨some 44, _, _, _, _, _⟩) rfl (fun K hK => ?_) (AllReadyH.nil)
  have HCS2 : Hid (∀ v ∈ byteVals D, v.oneCell' = true) := byteVals_one _
  have HL2 : Hid ((byteVals D).length = 32) := by show _ = _; rw [byteVals_len, HDL.out]
  have HPS2 : Hid (0 < (byteVals D).length → (some ⟨g, n5, none⟩ : Option Addr) = some ⟨g, n5, none⟩ ∧ ∃ ad, (some ⟨pX, 0, none⟩ : Option Addr) = some ad ∧ ∀ j v, (byteVals D)[j]? = some v → v7.cell? (ad.add j) = some v) := fun _ =>
    ⟨rfl, ⟨pX, 0, none⟩, rfl, fun j v hj => by
      rw [Go.WideShapes.add_plain, Nat.zero_add, hS7.1.cell, HC.out]
      simpa using hj⟩
  refine step_copy_splice (by rfl) (.tmp 42) (.tmp 43) 22 22 (by rfl) 5 Tryd.underlying22 HSZ5.out (some ⟨g, n5, none⟩) (some ⟨pX, 0, none⟩) 32 32 32 32 (by rfl) (by rfl) g n5 cur 5 hG7 (byteVals D) (by rw [HL2.out]; rfl) HPS2.out (by rw [HL2.out, HCL.out]; exact Nat.le_refl _) HCS2.out g v7 (Below.refl _ _) (Nat.le_refl _) ?_
  intro v8 h8 hb8
  rw [HFN.out] at h8
  have HB8 : Hid (Blk v8 w.heap.size #[.slice A L.length c, .slice B N.length d, .int .i64 (f : Int)] 64) := (hb8.block _ HBG.out).trans hS7.2.1
  have HX8 : Blk v8 pX C 30 := (hb8.block _ HXG.out).trans hS7.1
  have HC8 : Chg none w v8 := ⟨hb8.os.trans hS7.2.2.os, hb8.tape.trans hS7.2.2.tape, hb8.output.trans hS7.2.2.output, Nat.le_trans hS7.2.2.size hb8.size, fun i hi _ => (hb8.block i (Nat.lt_of_lt_of_le hi HGE.out)).trans (hS7.2.2.block i hi (by simp))⟩
  have HG8 : Hid (v8.heap[g]? = some (.cells (byteVals (row P ++ D)).toArray 5 (0, 0))) := h8.out
  have HLD : Hid ((row P ++ D).length = n5 + 32) := by show _ = _; rw [List.length_append, HDL.out, ← HN5.out]
  have hrl9 : (row P ++ D).length ≤ 20000 := by rw [HLD.out]; omega
  have HBY : Hid (ByAt w v8 (some ⟨g, 0, none⟩) (n5 + 32) (n5 + 32) (row P ++ D)) := ⟨HLD.out.symm, ⟨by rw [byteVals_len, HLD.out, Nat.mul_one], .inr ⟨g, n5 + 32, _, rfl, HGE.out, HG8.out, Nat.le_refl _, by unfold maxLen; omega, by rw [List.size_toArray, byteVals_len, HLD.out, Nat.mul_one], by rw [Nat.mul_one, ← HLD.out, ← byteVals_len]; exact List.take_length⟩⟩, HC8⟩
  have hfb : f ≤ 20000 := HFB.out
  have HPU := Lib.hid (put_u f HBY.out (by omega) (by omega))
  have hwf : IntKind.u64.wrap (f : Int) = (f : Int) := by rw [IntKind.wrap_u64]; omega
  have y2 : v8.cell? ⟨w.heap.size, 2, none⟩ = some (.int .i64 (f : Int)) := HB8.out.cell 2
  clear h8 hb8 HG8 HLD hrl9 HCS2 HL2 HPS2 hG7
  refine hK.out _ _ ⟨HX8, HB8.out, HC8⟩ (fun _ => ?_)
  clear hK K
  try simp only [Act.put, List.setIfInBounds_toArray, List.set_cons_zero, List.set_cons_succ]
  refine wpAnyH_done (by kernel_rfl) ?_ _
  try simp only [Act.put]
  clear hq1 hq2
  go_wp2_with fail
  refine HPU.out.mono ?_
  rintro e v9 ⟨A9, n9, c9, rfl, hb9, -⟩
  have HB9 : Hid (ByAt w v9 A9 n9 c9 (actB P D f)) := by
    show ByAt _ _ _ _ _ _
    unfold actB
    rw [← List.append_assoc]
    exact hb9
  clear hb9
  go_wp2_with fail
  go_ret2
  exact ⟨A9, n9, c9, rfl, HB9.out⟩

end Go.Proofs.YtglfakglcoffkaaDoor

namespace Go.Proofs.YtglfakglcoffkaaDoor
open Go.RowKit

/-- The key of an action that may be. -/
def keyA (a : Actn) : List UInt8 := dig (16 :: bytesA a)
theorem bytesA_len {a : Actn} (h : mayA a = true) : (bytesA a).length ≤ 20000 := by
  obtain ⟨h1, -, h3, h4⟩ := mayA_parts h
  unfold bytesA actB
  have hp := partB_len h1 a.L.length
  rw [partB_all (Nat.le_refl _)] at hp
  have hr := row_len (progB a.L) (by omega)
  have hf := form_small a.F.toNat (by omega)
  rw [List.length_append, List.length_append, rootB_len]
  omega

set_option maxRecDepth 100000 in
set_option maxHeartbeats 8000000 in
theorem actkey_no (a : Actn) (w : World) (ha : ActAt w a) (hF : Flds w) (hm : mayA a = false) :
    Calls Tryd.prog 45 #[.agg (actCells a).toArray] w fun e w' => e = .returned (.tuple #[.agg zero32, .int .i64 2]) ∧ Chg none w w' := by
  have HBN := Lib.hid (fun v (g : Chg none w v) => actbytes_no a v (ha.chg g) (hF.chg g) hm)
  obtain ⟨A, L, c, B, N, d, F⟩ := a
  unfold actCells at *
  dsimp only at HBN ⊢
  obtain ⟨W1, hW1⟩ : ∃ W1, W1 = (w.alloc (.cells #[.slice A L.length c, .slice B N.length d, .int .i64 F] 64)).alloc (.cells zero32 30) := ⟨_, rfl⟩
  have HW1 : Hid ((w.alloc (.cells #[.slice A L.length c, .slice B N.length d, .int .i64 F] 64)).alloc (.cells #[Value.int IntKind.u8 0, Value.int IntKind.u8 0, Value.int IntKind.u8 0, Value.int IntKind.u8 0, Value.int IntKind.u8 0, Value.int IntKind.u8 0, Value.int IntKind.u8 0, Value.int IntKind.u8 0, Value.int IntKind.u8 0, Value.int IntKind.u8 0, Value.int IntKind.u8 0, Value.int IntKind.u8 0, Value.int IntKind.u8 0, Value.int IntKind.u8 0, Value.int IntKind.u8 0, Value.int IntKind.u8 0, Value.int IntKind.u8 0, Value.int IntKind.u8 0, Value.int IntKind.u8 0, Value.int IntKind.u8 0, Value.int IntKind.u8 0, Value.int IntKind.u8 0, Value.int IntKind.u8 0, Value.int IntKind.u8 0, Value.int IntKind.u8 0, Value.int IntKind.u8 0, Value.int IntKind.u8 0, Value.int IntKind.u8 0, Value.int IntKind.u8 0, Value.int IntKind.u8 0, Value.int IntKind.u8 0, Value.int IntKind.u8 0] 30) = W1) := hW1.symm
  have g1 : Chg none w W1 := by rw [hW1]; exact ((Chg.refl _ _).alloc _).alloc _
  have bR1 : Blk W1 (w.heap.size + 1) zero32 30 := by
    have h := Blk.new (w.alloc (.cells #[.slice A L.length c, .slice B N.length d, .int .i64 F] 64)) zero32 30
    rw [show (w.alloc (.cells #[.slice A L.length c, .slice B N.length d, .int .i64 F] 64)).heap.size = w.heap.size + 1 by simp] at h
    rw [hW1]; exact h
  have bA1 : Blk W1 w.heap.size #[.slice A L.length c, .slice B N.length d, .int .i64 F] 64 := by rw [hW1]; exact (Blk.new _ _ _).alloc _
  have x0 : W1.cell? ⟨w.heap.size, 0, none⟩ = some (.slice A L.length c) := bA1.cell 0
  have x1 : W1.cell? ⟨w.heap.size, 1, none⟩ = some (.slice B N.length d) := bA1.cell 1
  have x2 : W1.cell? ⟨w.heap.size, 2, none⟩ = some (.int .i64 F) := bA1.cell 2
  have HB1 := Lib.hid (HBN.out W1 g1)
  obtain ⟨Z, hZ⟩ : ∃ Z, Z = zero32 := ⟨_, rfl⟩
  have HBZ : Hid (Tryd.prog.built 30 [] = some Z) := by rw [hZ]; exact built30_0
  have HIZ : Hid ((Tryd.prog.info? 30).map (·.size) = some Z.size) := by rw [hZ]; show _ = _; kernel_rfl
  have HOZ : Hid (Z.all (·.oneCell') = true) := by rw [hZ]; show _ = _; kernel_rfl
  rw [← hZ] at bR1 ⊢
  have HR1 := Lib.hid bR1
  have G1 := Lib.hid g1
  have HGE : Hid (w.heap.size ≤ w.heap.size + 1) := Nat.le_succ _
  clear hW1 hZ bR1 g1 bA1 HBN ha hF hm
  go_enter Tryd.func45, Tryd.ntmps45
  go_upto_region 1 with fail
  rw [HW1.out]
  clear HW1
  generalize w.heap.size + 1 = pR at *
  go_wp2_with fail
  refine HB1.out.mono ?_
  rintro e w2 ⟨rfl, g2⟩
  have G2 := Lib.hid (G1.out.trans g2)
  have HB2 : Hid (w2.heap[pR]? = some (.cells Z 30 (0, 0))) := HR1.out.chg g2 (by simp)
  clear g2 HB1 x0 x1 x2
  go_wp2_with (first
    | (refine wpList_buildTo rfl 30 _ rfl (some 13) rfl Z (by simp only [List.map_toArray, List.map_nil]; exact HBZ.out) ?_)
    | (refine wpList_store_row rfl 30 _ _ rfl pR Z rfl rfl 30 _ HB2.out HIZ.out rfl HOZ.out ?_))
  refine bodyPost_ret (results_cell_tmp (p := 2) (q := 3) (ty := 30) Tryd.results45 _ _ pR 30 Z (0, 0) _ rfl (setRow_heap _ _ _ _ _ _ HB2.out) Tryd.underlying30 rfl HIZ.out) rfl ⟨rfl, ?_⟩
  exact Chg.own (b := pR) G2.out (chg_setRow _ _ _) HGE.out

set_option maxRecDepth 100000 in
set_option maxHeartbeats 8000000 in
theorem actkey_yes (a : Actn) (w : World) (ha : ActAt w a) (hF : Flds w) (hTb : Tabs w) (hm : mayA a = true) :
    Calls Tryd.prog 45 #[.agg (actCells a).toArray] w fun e w' => e = .returned (.tuple #[.agg (byteVals (keyA a)).toArray, .int .i64 0]) ∧ Chg none w w' := by
  have HBN := Lib.hid (fun v (g : Chg none w v) => actbytes_yes a v (ha.chg g) (hF.chg g) (hTb.chg g (by simp)) hm)
  have hbl := bytesA_len hm
  unfold keyA
  obtain ⟨X, hX⟩ : ∃ X, X = bytesA a := ⟨_, rfl⟩
  rw [← hX] at HBN hbl ⊢
  clear hX
  obtain ⟨D, hD⟩ : ∃ D, D = dig (16 :: X) := ⟨_, rfl⟩
  have hDl : D.length = 32 := by rw [hD, dig_len]
  have HPA : Hid (∀ (v : World) (A : Option Addr) (n c Q : Nat), Chg none w v → n = X.length → Txt v A X → n ≤ c → Blk v Q #[.slice A n c] 22 → Calls Tryd.prog 19 #[.int .u8 16, .slice (some ⟨Q, 0, none⟩) 1 1] v fun e w' => e = .returned (.agg (byteVals D).toArray) ∧ Chg none v w') := fun v A n c Q g hn ht hc hq => by
    subst hn
    have h := parts_any 16 (some ⟨Q, 0, none⟩) [⟨A, X, c⟩] 1 v (parts_one (p := ⟨A, X, c⟩) hq ⟨ht, hc⟩) (by simp [joined]; omega) (by simp) (hTb.chg g (by simp))
    have e : (16 : UInt8) :: joined [(⟨A, X, c⟩ : Prt)] = 16 :: X := by simp [joined]
    rw [e, ← hD] at h
    exact h
  rw [← hD]
  clear hD
  obtain ⟨A, L, c, B, N, d, F⟩ := a
  unfold actCells at *
  dsimp only at HBN ⊢
  obtain ⟨W1, hW1⟩ : ∃ W1, W1 = (w.alloc (.cells #[.slice A L.length c, .slice B N.length d, .int .i64 F] 64)).alloc (.cells zero32 30) := ⟨_, rfl⟩
  have HW1 : Hid ((w.alloc (.cells #[.slice A L.length c, .slice B N.length d, .int .i64 F] 64)).alloc (.cells #[Value.int IntKind.u8 0, Value.int IntKind.u8 0, Value.int IntKind.u8 0, Value.int IntKind.u8 0, Value.int IntKind.u8 0, Value.int IntKind.u8 0, Value.int IntKind.u8 0, Value.int IntKind.u8 0, Value.int IntKind.u8 0, Value.int IntKind.u8 0, Value.int IntKind.u8 0, Value.int IntKind.u8 0, Value.int IntKind.u8 0, Value.int IntKind.u8 0, Value.int IntKind.u8 0, Value.int IntKind.u8 0, Value.int IntKind.u8 0, Value.int IntKind.u8 0, Value.int IntKind.u8 0, Value.int IntKind.u8 0, Value.int IntKind.u8 0, Value.int IntKind.u8 0, Value.int IntKind.u8 0, Value.int IntKind.u8 0, Value.int IntKind.u8 0, Value.int IntKind.u8 0, Value.int IntKind.u8 0, Value.int IntKind.u8 0, Value.int IntKind.u8 0, Value.int IntKind.u8 0, Value.int IntKind.u8 0, Value.int IntKind.u8 0] 30) = W1) := hW1.symm
  have g1 : Chg none w W1 := by rw [hW1]; exact ((Chg.refl _ _).alloc _).alloc _
  have bR1 : Blk W1 (w.heap.size + 1) zero32 30 := by
    have h := Blk.new (w.alloc (.cells #[.slice A L.length c, .slice B N.length d, .int .i64 F] 64)) zero32 30
    rw [show (w.alloc (.cells #[.slice A L.length c, .slice B N.length d, .int .i64 F] 64)).heap.size = w.heap.size + 1 by simp] at h
    rw [hW1]; exact h
  have bA1 : Blk W1 w.heap.size #[.slice A L.length c, .slice B N.length d, .int .i64 F] 64 := by rw [hW1]; exact (Blk.new _ _ _).alloc _
  have x0 : W1.cell? ⟨w.heap.size, 0, none⟩ = some (.slice A L.length c) := bA1.cell 0
  have x1 : W1.cell? ⟨w.heap.size, 1, none⟩ = some (.slice B N.length d) := bA1.cell 1
  have x2 : W1.cell? ⟨w.heap.size, 2, none⟩ = some (.int .i64 F) := bA1.cell 2
  have HB1 := Lib.hid (HBN.out W1 g1)
  obtain ⟨Z, hZ⟩ : ∃ Z, Z = (byteVals D).toArray := ⟨_, rfl⟩
  have HIZ : Hid ((Tryd.prog.info? 30).map (·.size) = some Z.size) := by rw [hZ]; exact byD_info D hDl
  have HOZ : Hid (Z.all (·.oneCell') = true) := by rw [hZ]; exact byD_one D
  have HSZ : Hid (zero32.size = Z.size) := by rw [hZ, byD_size D hDl]; rfl
  rw [← hZ] at HPA ⊢
  have HR1 := Lib.hid bR1
  have G1 := Lib.hid g1
  have HGE : Hid (w.heap.size ≤ w.heap.size + 1) := Nat.le_succ _
  clear hW1 hZ bR1 g1 bA1 HBN ha hF hm hTb hbl hDl
  go_enter Tryd.func45, Tryd.ntmps45
  go_upto_region 1 with fail
  rw [HW1.out]
  clear HW1
  generalize w.heap.size + 1 = pR at *
  go_wp2_with fail
  refine HB1.out.mono ?_
  rintro e w2 ⟨A2, n2, c2, rfl, hb2⟩
  have G2 := Lib.hid (G1.out.trans hb2.2.2)
  have HR2 := Lib.hid (HR1.out.chg hb2.2.2 (by simp))
  have k3 : Chg none w2 (w2.alloc (.cells #[.slice A2 n2 c2] 22)) := (Chg.refl _ _).alloc _
  have HR3 := Lib.hid (HR2.out.chg k3 (by simp))
  have ht := own_txt (own_chgW hb2.2.1 k3)
  have HP3 := Lib.hid (HPA.out (w2.alloc (.cells #[.slice A2 n2 c2] 22)) A2 n2 c2 w2.heap.size (G2.out.trans k3) hb2.1 ht.1 ht.2.2 (Blk.new _ _ _))
  have G3 := Lib.hid (G2.out.trans k3)
  clear hb2 k3 ht HB1 HPA x0 x1 x2
  go_wp2_with fail
  refine HP3.out.mono ?_
  rintro e w4 ⟨rfl, g4⟩
  have G4 := Lib.hid (G3.out.trans g4)
  have HR4 : Hid (w4.heap[pR]? = some (.cells zero32 30 (0, 0))) := HR3.out.chg g4 (by simp)
  clear g4 HP3
  go_wp2_with (refine wpList_store_row rfl 30 _ _ rfl pR Z rfl rfl 30 _ HR4.out HIZ.out HSZ.out HOZ.out ?_)
  refine bodyPost_ret (results_cell_tmp (p := 2) (q := 3) (ty := 30) Tryd.results45 _ _ pR 30 Z (0, 0) _ rfl (setRow_heap _ _ _ _ _ _ HR4.out) Tryd.underlying30 rfl HIZ.out) rfl ⟨rfl, ?_⟩
  exact Chg.own (b := pR) G4.out (chg_setRow _ _ _) HGE.out

set_option maxRecDepth 100000 in
set_option maxHeartbeats 8000000 in
theorem great8_any (a : Actn) (w : World) (ha : ActAt w a) :
    Calls Tryd.prog 42 #[.agg (actCells a).toArray] w fun e w' => ∃ b : Bool, e = .returned (.bool b) ∧ Chg none w w' := by
  have HG := Lib.hid (fun v (g : Chg none w v) => t_great_any a.N a.B a.d v (ha.chg g).tree ha.tl)
  obtain ⟨A, L, c, B, N, d, F⟩ := a
  unfold actCells at *
  dsimp only at HG ⊢
  have HG0 : Hid (Chg none w (w.alloc (.cells #[.slice A L.length c, .slice B N.length d, .int .i64 F] 64))) := (Chg.refl _ _).alloc _
  have HG1 := Lib.hid (HG.out _ HG0.out)
  clear ha HG
  by_cases h : 100 < L.length
  · have d1 : decide ((100 : Int) < (L.length : Int)) = true := by rw [decide_eq_true_eq]; omega
    clear h
    go_enter Tryd.func42, Tryd.ntmps42
    go_wp2_with fail
    go_ret
    exact ⟨_, rfl, HG0.out⟩
  · have d1 : decide ((100 : Int) < (L.length : Int)) = false := by rw [decide_eq_false_iff_not]; omega
    clear h
    go_enter Tryd.func42, Tryd.ntmps42
    go_wp2_with fail
    refine HG1.out.mono ?_
    rintro e w1 ⟨b, rfl, g1⟩
    have G1 := Lib.hid (HG0.out.trans g1)
    clear g1
    go_wp2_with fail
    go_ret
    exact ⟨_, rfl, G1.out⟩

/-! Layer 8's known. -/
def k8 (F : Int) : Actn := ⟨none, [], 0, none, [], 0, F⟩
theorem k8_at (F : Int) (w : World) (h : -9223372036854775808 ≤ F ∧ F ≤ 9223372036854775807) : ActAt w (k8 F) :=
  ⟨fun h => absurd rfl h, fun x h => (by cases h), Nat.zero_le _, ⟨fun h => absurd rfl h, fun f h => (by cases h)⟩, Nat.zero_le _, h⟩
theorem root_nil : rootB (treeB []) = rootOfB (treeB []).length (leavesB (treeB [])).head!.1 := by
  unfold rootB
  have hl : (leavesB (treeB [])).length = 1 := by rw [leavesB_len]; decide +kernel
  rw [topB_end _ (by omega)]
  match leavesB (treeB []), hl with
  | [x], _ => rfl

theorem k8_keys : keyA (k8 1) ≠ keyA (k8 2) := by
  unfold keyA bytesA
  show dig (16 :: actB (progB []) (rootB (treeB [])) 1) ≠ dig (16 :: actB (progB []) (rootB (treeB [])) 2)
  rw [root_nil]
  decide +kernel
theorem k8_may (F : Int) (h : 0 ≤ F ∧ F ≤ 20000) : mayA (k8 F) = true := by
  unfold mayA fuelB
  show (mayB [] && (mayT [] && (decide (0 ≤ F) && decide (F ≤ 20000)))) = true
  rw [decide_eq_true h.1, decide_eq_true h.2]
  rfl
theorem k8_mayno (F : Int) (h : ¬ (0 ≤ F ∧ F ≤ 20000)) : mayA (k8 F) = false := by
  unfold mayA fuelB
  show (mayB [] && (mayT [] && (decide (0 ≤ F) && decide (F ≤ 20000)))) = false
  by_cases h1 : 0 ≤ F
  · rw [decide_eq_false (fun h2 => h ⟨h1, h2⟩), Bool.and_false, Bool.and_false, Bool.and_false]
  · rw [decide_eq_false h1, Bool.false_and, Bool.and_false, Bool.and_false]

theorem wpList_load_want {P : Program} {ops : Array Oper} {rest : List Oper} {op : Oper} {a : Act} {w : World} {Q : Exit → Act → World → Prop} (hw : Region.wanted op (yielded ops a.tmps) = true) (ty : TypeId) (x : Operand) (ho : op.op = .load ty x)
    (b o : Nat) (hx : a.eval x = .pointer (some ⟨b, o, none⟩)) (cs : List Value) (d : TypeDesc) (hc : w.rangeAt b o cs)
    (hu : P.underlying ty = some d) (hd : d.isRow = true) (hi : (P.info? ty).map (·.size) = some cs.length)
    (h : wpList P ops Q rest (a.put op.dst (.agg cs.toArray)) w) : wpList P ops Q (op :: rest) a w :=
  BigFrame.wpList_want hw fun _ hK => wp_load_mid ty x ho b o hx cs d hc hu hd hi (hK _ _ h)

set_option maxRecDepth 100000 in
set_option maxHeartbeats 16000000 in
theorem known8_any (w : World) (hF : Flds w) (hTb : Tabs w) : Calls Tryd.prog 43 #[] w fun e w' => e = .returned (.bool true) ∧ Chg none w w' := by
  have HF : Hid (∀ v, Chg none w v → Flds v) := fun v g => hF.chg g
  have HTB : Hid (∀ v, Chg none w v → Tabs v) := fun v g => hTb.chg g (by simp)
  obtain ⟨D1, hD1⟩ : ∃ D1, D1 = keyA (k8 1) := ⟨_, rfl⟩
  obtain ⟨D2, hD2⟩ : ∃ D2, D2 = keyA (k8 2) := ⟨_, rfl⟩
  have hl1 : D1.length = 32 := by rw [hD1]; exact dig_len _
  have hl2 : D2.length = 32 := by rw [hD2]; exact dig_len _
  have hne : D1 ≠ D2 := by rw [hD1, hD2]; exact k8_keys
  obtain ⟨L1, hC1⟩ : ∃ L1, L1 = byteVals D1 := ⟨_, rfl⟩
  obtain ⟨L2, hC2⟩ : ∃ L2, L2 = byteVals D2 := ⟨_, rfl⟩
  have HI1 : Hid ((Tryd.prog.info? 30).map (·.size) = some L1.toArray.size) := by rw [hC1]; exact byD_info D1 hl1
  have HO1 : Hid (L1.toArray.all (·.oneCell') = true) := by rw [hC1]; exact byD_one D1
  have HS1 : Hid (zero32.size = L1.toArray.size) := by rw [hC1, byD_size D1 hl1]; rfl
  have HI2 : Hid ((Tryd.prog.info? 30).map (·.size) = some L2.toArray.size) := by rw [hC2]; exact byD_info D2 hl2
  have HO2 : Hid (L2.toArray.all (·.oneCell') = true) := by rw [hC2]; exact byD_one D2
  have HS2 : Hid (zero32.size = L2.toArray.size) := by rw [hC2, byD_size D2 hl2]; rfl
  have HK1 : Hid (∀ v, Chg none w v → Calls Tryd.prog 45 #[.agg #[.slice none 0 0, .slice none 0 0, .int .i64 1]] v fun e w' => e = .returned (.tuple #[.agg L1.toArray, .int .i64 0]) ∧ Chg none v w') := fun v g => by
    rw [hC1, hD1]; exact actkey_yes (k8 1) v (k8_at 1 v (by omega)) (HF.out v g) (HTB.out v g) (k8_may 1 (by omega))
  have HK2 : Hid (∀ v, Chg none w v → Calls Tryd.prog 45 #[.agg #[.slice none 0 0, .slice none 0 0, .int .i64 2]] v fun e w' => e = .returned (.tuple #[.agg L2.toArray, .int .i64 0]) ∧ Chg none v w') := fun v g => by
    rw [hC2, hD2]; exact actkey_yes (k8 2) v (k8_at 2 v (by omega)) (HF.out v g) (HTB.out v g) (k8_may 2 (by omega))
  have HM1 : Hid (∀ v, Chg none w v → Calls Tryd.prog 46 #[.agg #[.slice none 0 0, .slice none 0 0, .int .i64 20001]] v fun e w' => e = .returned (.bool false) ∧ Chg none v w') := fun v g => by
    have h := actmay_any (k8 20001) v (k8_at 20001 v (by omega)) (HF.out v g)
    rw [k8_mayno 20001 (by omega)] at h
    exact h
  have HM2 : Hid (∀ v, Chg none w v → Calls Tryd.prog 46 #[.agg #[.slice none 0 0, .slice none 0 0, .int .i64 (-1)]] v fun e w' => e = .returned (.bool false) ∧ Chg none v w') := fun v g => by
    have h := actmay_any (k8 (-1)) v (k8_at (-1) v (by omega)) (HF.out v g)
    rw [k8_mayno (-1) (by omega)] at h
    exact h
  have hqn : ∀ v : World, (binOp .neq 30 (.agg L1.toArray) (.agg L2.toArray)).run Tryd.prog v = .ok (.bool true) v := fun v => by
    rw [hC1, hC2, neq30 D1 D2 hl1 hl2 v, beq_eq_false_iff_ne.2 hne]; rfl
  have hg30 := guard30
  have hZ30 : ∀ W : World, (W.alloc (.cells #[Value.int IntKind.u8 0, Value.int IntKind.u8 0, Value.int IntKind.u8 0, Value.int IntKind.u8 0, Value.int IntKind.u8 0, Value.int IntKind.u8 0, Value.int IntKind.u8 0, Value.int IntKind.u8 0, Value.int IntKind.u8 0, Value.int IntKind.u8 0, Value.int IntKind.u8 0, Value.int IntKind.u8 0, Value.int IntKind.u8 0, Value.int IntKind.u8 0, Value.int IntKind.u8 0, Value.int IntKind.u8 0, Value.int IntKind.u8 0, Value.int IntKind.u8 0, Value.int IntKind.u8 0, Value.int IntKind.u8 0, Value.int IntKind.u8 0, Value.int IntKind.u8 0, Value.int IntKind.u8 0, Value.int IntKind.u8 0, Value.int IntKind.u8 0, Value.int IntKind.u8 0, Value.int IntKind.u8 0, Value.int IntKind.u8 0, Value.int IntKind.u8 0, Value.int IntKind.u8 0, Value.int IntKind.u8 0, Value.int IntKind.u8 0] 30)).heap[W.heap.size]? = some (.cells zero32 30 (0, 0)) := fun W => heap_alloc_new W _
  have HZ30 := Lib.hid hZ30
  clear hF hTb hD1 hD2 hl1 hl2 hne hC1 hC2 hZ30 HF HTB
  go_enter Tryd.func43, Tryd.ntmps43
  go_wp2_with fail
  refine (HK1.out _ (Chg.refl _ _)).mono ?_
  rintro e w1 ⟨rfl, g1⟩
  have G1 := Lib.hid g1
  clear g1
  go_upto_region 2 with (refine wpList_store_row rfl 30 _ _ rfl w1.heap.size L1.toArray rfl rfl 30 _ (HZ30.out w1) HI1.out HS1.out HO1.out ?_)
  have HG2 : Hid (Chg none w ((w1.alloc (.cells #[Value.int IntKind.u8 0, Value.int IntKind.u8 0, Value.int IntKind.u8 0, Value.int IntKind.u8 0, Value.int IntKind.u8 0, Value.int IntKind.u8 0, Value.int IntKind.u8 0, Value.int IntKind.u8 0, Value.int IntKind.u8 0, Value.int IntKind.u8 0, Value.int IntKind.u8 0, Value.int IntKind.u8 0, Value.int IntKind.u8 0, Value.int IntKind.u8 0, Value.int IntKind.u8 0, Value.int IntKind.u8 0, Value.int IntKind.u8 0, Value.int IntKind.u8 0, Value.int IntKind.u8 0, Value.int IntKind.u8 0, Value.int IntKind.u8 0, Value.int IntKind.u8 0, Value.int IntKind.u8 0, Value.int IntKind.u8 0, Value.int IntKind.u8 0, Value.int IntKind.u8 0, Value.int IntKind.u8 0, Value.int IntKind.u8 0, Value.int IntKind.u8 0, Value.int IntKind.u8 0, Value.int IntKind.u8 0, Value.int IntKind.u8 0] 30)).setRow w1.heap.size L1.toArray)) := Chg.own (b := w1.heap.size) (G1.out.alloc _) (chg_setRow _ _ _) G1.out.size
  have HB2 : Hid (Blk ((w1.alloc (.cells #[Value.int IntKind.u8 0, Value.int IntKind.u8 0, Value.int IntKind.u8 0, Value.int IntKind.u8 0, Value.int IntKind.u8 0, Value.int IntKind.u8 0, Value.int IntKind.u8 0, Value.int IntKind.u8 0, Value.int IntKind.u8 0, Value.int IntKind.u8 0, Value.int IntKind.u8 0, Value.int IntKind.u8 0, Value.int IntKind.u8 0, Value.int IntKind.u8 0, Value.int IntKind.u8 0, Value.int IntKind.u8 0, Value.int IntKind.u8 0, Value.int IntKind.u8 0, Value.int IntKind.u8 0, Value.int IntKind.u8 0, Value.int IntKind.u8 0, Value.int IntKind.u8 0, Value.int IntKind.u8 0, Value.int IntKind.u8 0, Value.int IntKind.u8 0, Value.int IntKind.u8 0, Value.int IntKind.u8 0, Value.int IntKind.u8 0, Value.int IntKind.u8 0, Value.int IntKind.u8 0, Value.int IntKind.u8 0, Value.int IntKind.u8 0] 30)).setRow w1.heap.size L1.toArray) w1.heap.size L1.toArray 30) := setRow_heap _ _ _ _ _ _ (HZ30.out w1)
  generalize (w1.alloc (.cells #[Value.int IntKind.u8 0, Value.int IntKind.u8 0, Value.int IntKind.u8 0, Value.int IntKind.u8 0, Value.int IntKind.u8 0, Value.int IntKind.u8 0, Value.int IntKind.u8 0, Value.int IntKind.u8 0, Value.int IntKind.u8 0, Value.int IntKind.u8 0, Value.int IntKind.u8 0, Value.int IntKind.u8 0, Value.int IntKind.u8 0, Value.int IntKind.u8 0, Value.int IntKind.u8 0, Value.int IntKind.u8 0, Value.int IntKind.u8 0, Value.int IntKind.u8 0, Value.int IntKind.u8 0, Value.int IntKind.u8 0, Value.int IntKind.u8 0, Value.int IntKind.u8 0, Value.int IntKind.u8 0, Value.int IntKind.u8 0, Value.int IntKind.u8 0, Value.int IntKind.u8 0, Value.int IntKind.u8 0, Value.int IntKind.u8 0, Value.int IntKind.u8 0, Value.int IntKind.u8 0, Value.int IntKind.u8 0, Value.int IntKind.u8 0] 30)).setRow w1.heap.size L1.toArray = w2 at *
  generalize w1.heap.size = pX at *
  clear G1
  go_wp2_with fail
  refine (HK2.out _ HG2.out).mono ?_
  rintro e w3 ⟨rfl, g3⟩
  have G3 := Lib.hid (HG2.out.trans g3)
  have HB3 := Lib.hid (HB2.out.chg g3 (by simp))
  clear g3 HG2 HB2
  go_upto_region 3 with (refine wpList_store_row rfl 30 _ _ rfl w3.heap.size L2.toArray rfl rfl 30 _ (HZ30.out w3) HI2.out HS2.out HO2.out ?_)
  have HG4 : Hid (Chg none w ((w3.alloc (.cells #[Value.int IntKind.u8 0, Value.int IntKind.u8 0, Value.int IntKind.u8 0, Value.int IntKind.u8 0, Value.int IntKind.u8 0, Value.int IntKind.u8 0, Value.int IntKind.u8 0, Value.int IntKind.u8 0, Value.int IntKind.u8 0, Value.int IntKind.u8 0, Value.int IntKind.u8 0, Value.int IntKind.u8 0, Value.int IntKind.u8 0, Value.int IntKind.u8 0, Value.int IntKind.u8 0, Value.int IntKind.u8 0, Value.int IntKind.u8 0, Value.int IntKind.u8 0, Value.int IntKind.u8 0, Value.int IntKind.u8 0, Value.int IntKind.u8 0, Value.int IntKind.u8 0, Value.int IntKind.u8 0, Value.int IntKind.u8 0, Value.int IntKind.u8 0, Value.int IntKind.u8 0, Value.int IntKind.u8 0, Value.int IntKind.u8 0, Value.int IntKind.u8 0, Value.int IntKind.u8 0, Value.int IntKind.u8 0, Value.int IntKind.u8 0] 30)).setRow w3.heap.size L2.toArray)) := Chg.own (b := w3.heap.size) (G3.out.alloc _) (chg_setRow _ _ _) G3.out.size
  have HB4 : Hid (((w3.alloc (.cells #[Value.int IntKind.u8 0, Value.int IntKind.u8 0, Value.int IntKind.u8 0, Value.int IntKind.u8 0, Value.int IntKind.u8 0, Value.int IntKind.u8 0, Value.int IntKind.u8 0, Value.int IntKind.u8 0, Value.int IntKind.u8 0, Value.int IntKind.u8 0, Value.int IntKind.u8 0, Value.int IntKind.u8 0, Value.int IntKind.u8 0, Value.int IntKind.u8 0, Value.int IntKind.u8 0, Value.int IntKind.u8 0, Value.int IntKind.u8 0, Value.int IntKind.u8 0, Value.int IntKind.u8 0, Value.int IntKind.u8 0, Value.int IntKind.u8 0, Value.int IntKind.u8 0, Value.int IntKind.u8 0, Value.int IntKind.u8 0, Value.int IntKind.u8 0, Value.int IntKind.u8 0, Value.int IntKind.u8 0, Value.int IntKind.u8 0, Value.int IntKind.u8 0, Value.int IntKind.u8 0, Value.int IntKind.u8 0, Value.int IntKind.u8 0] 30)).setRow w3.heap.size L2.toArray).heap[w3.heap.size]? = some (.cells L2.toArray 30 (0, 0))) := setRow_heap _ _ _ _ _ _ (HZ30.out w3)
  have HX4 : Hid (((w3.alloc (.cells #[Value.int IntKind.u8 0, Value.int IntKind.u8 0, Value.int IntKind.u8 0, Value.int IntKind.u8 0, Value.int IntKind.u8 0, Value.int IntKind.u8 0, Value.int IntKind.u8 0, Value.int IntKind.u8 0, Value.int IntKind.u8 0, Value.int IntKind.u8 0, Value.int IntKind.u8 0, Value.int IntKind.u8 0, Value.int IntKind.u8 0, Value.int IntKind.u8 0, Value.int IntKind.u8 0, Value.int IntKind.u8 0, Value.int IntKind.u8 0, Value.int IntKind.u8 0, Value.int IntKind.u8 0, Value.int IntKind.u8 0, Value.int IntKind.u8 0, Value.int IntKind.u8 0, Value.int IntKind.u8 0, Value.int IntKind.u8 0, Value.int IntKind.u8 0, Value.int IntKind.u8 0, Value.int IntKind.u8 0, Value.int IntKind.u8 0, Value.int IntKind.u8 0, Value.int IntKind.u8 0, Value.int IntKind.u8 0, Value.int IntKind.u8 0] 30)).setRow w3.heap.size L2.toArray).heap[pX]? = some (.cells L1.toArray 30 (0, 0))) := (HB3.out.alloc _).chg (chg_setRow _ w3.heap.size _) (by have := HB3.out.lt; intro e; injection e with e; omega)
  generalize (w3.alloc (.cells #[Value.int IntKind.u8 0, Value.int IntKind.u8 0, Value.int IntKind.u8 0, Value.int IntKind.u8 0, Value.int IntKind.u8 0, Value.int IntKind.u8 0, Value.int IntKind.u8 0, Value.int IntKind.u8 0, Value.int IntKind.u8 0, Value.int IntKind.u8 0, Value.int IntKind.u8 0, Value.int IntKind.u8 0, Value.int IntKind.u8 0, Value.int IntKind.u8 0, Value.int IntKind.u8 0, Value.int IntKind.u8 0, Value.int IntKind.u8 0, Value.int IntKind.u8 0, Value.int IntKind.u8 0, Value.int IntKind.u8 0, Value.int IntKind.u8 0, Value.int IntKind.u8 0, Value.int IntKind.u8 0, Value.int IntKind.u8 0, Value.int IntKind.u8 0, Value.int IntKind.u8 0, Value.int IntKind.u8 0, Value.int IntKind.u8 0, Value.int IntKind.u8 0, Value.int IntKind.u8 0, Value.int IntKind.u8 0, Value.int IntKind.u8 0] 30)).setRow w3.heap.size L2.toArray = w4 at *
  generalize w3.heap.size = pY at *
  have HMA := Lib.hid (HM1.out w4 HG4.out)
  have HRX : Hid (w4.rangeAt pX 0 L1) := Blk.range (show BlkL w4 pX L1 30 from HX4.out)
  have HRY : Hid (w4.rangeAt pY 0 L2) := Blk.range (show BlkL w4 pY L2 30 from HB4.out)
  have HI1' : Hid ((Tryd.prog.info? 30).map (·.size) = some L1.length) := by have h := HI1.out; rw [List.size_toArray] at h; exact h
  have HI2' : Hid ((Tryd.prog.info? 30).map (·.size) = some L2.length) := by have h := HI2.out; rw [List.size_toArray] at h; exact h
  clear HB3 G3 HM1 HK1 HK2 HX4 HB4
  go_wp2_with (first
    | (refine wpList_load_want (by rfl) 30 (.tmp 1) rfl pX 0 rfl L1 _ HRX.out Tryd.underlying30 rfl HI1'.out ?_)
    | (refine wpList_load_want (by rfl) 30 (.tmp 3) rfl pY 0 rfl L2 _ HRY.out Tryd.underlying30 rfl HI2'.out ?_))
  refine HMA.out.mono ?_
  rintro e w5 ⟨rfl, g5⟩
  have G5 := Lib.hid (HG4.out.trans g5)
  have HMB := Lib.hid (HM2.out w5 G5.out)
  clear g5 HMA HM2
  go_wp2_with fail
  refine HMB.out.mono ?_
  rintro e w6 ⟨rfl, g6⟩
  have G6 := Lib.hid (G5.out.trans g6)
  clear g6
  go_wp2_with fail
  go_ret
  exact ⟨rfl, G6.out⟩

end Go.Proofs.YtglfakglcoffkaaDoor
