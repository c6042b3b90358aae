/-
  Package program: mayIns.
-/
import Derived.Test.YtbadkkilblgpmaaDoorPI
import Derived.Handy
import Derived.Deep.Cut
import Derived.Deep.CutBlock
import Derived.Deep.DeepCutAuto
import Derived.Deep.RegionHeld3
namespace Go.Proofs.YtbadkkilblgpmaaDoor
open Go.RowKit
open Go.Lib

def MidIns (w : World) (x : Ins) (s5 s6 : Value) (wc : World) : Prop :=
  ∃ p q, s5 = .pointer (some ⟨p, 0, none⟩) ∧ s6 = .pointer (some ⟨q, 0, none⟩) ∧ w.heap.size < p ∧ w.heap.size < q ∧ Chg none w wc ∧
    Blk wc p #[.string ⟨x.a.toArray⟩, .string ⟨x.b.toArray⟩, .string ⟨x.c.toArray⟩] 120 ∧ Blk wc q #[.int .i64 x.n, .int .i64 x.m] 121 ∧ Blk wc w.heap.size (insCells x).toArray 61

theorem num_chg (k : Nat) (n places : Int) (w : World) : Calls Tryd.prog 135 #[.int .i32 k, .int .i64 n, .int .i64 places] w fun e w' => e = .returned (.bool (numB k n places)) ∧ Chg none w w' :=
  (num_any k n places w).mono fun _ _ h => ⟨h.1, by rw [h.2]; exact Chg.refl _ _⟩

set_option maxHeartbeats 16000000 in
set_option maxRecDepth 100000 in
theorem mayins_any (x : Ins) (places : Int) (w : World) (hx : x.fits) (hF : Flds w) :
    Calls Tryd.prog 86 #[.agg (insCells x).toArray, .int .i64 places] w fun e w' => e = .returned (.bool (insB x places)) ∧ Chg none w w' := by
  have HF := Lib.hid hF
  by_cases h1 : 1 ≤ x.op
  rotate_left
  · have h0 : x.op = 0 := by omega
    have hr : insB x places = false := insB_op (fun h => h1 h.1)
    rw [hr]
    clear hr hF h1
    obtain ⟨op, a, b, c, n, m⟩ := x
    subst h0
    go_enter Tryd.func86, Tryd.ntmps86
    unfold insCells
    go_wp2_with fail
    go_ret
    exact ⟨rfl, by repeat (first | exact Chg.refl _ _ | refine Chg.drew ?_ | refine Chg.alloc ?_ _)⟩
  have d0 : ((x.op : Int) == 0) = false := by rw [beq_eq_false_iff_ne]; omega
  have hw : wrap64 (x.op : Int) = (x.op : Int) := by have := hx.op; go_arith
  by_cases h2 : x.op < 12
  rotate_left
  · have d1 : decide ((12 : Int) ≤ (x.op : Int)) = true := by rw [decide_eq_true_eq]; omega
    have hr : insB x places = false := insB_op (fun h => h2 h.2)
    rw [hr]
    clear hr hF h1 h2
    obtain ⟨op, a, b, c, n, m⟩ := x
    go_enter Tryd.func86, Tryd.ntmps86
    unfold insCells
    go_wp2_with fail
    go_ret
    exact ⟨rfl, by repeat (first | exact Chg.refl _ _ | refine Chg.drew ?_ | refine Chg.alloc ?_ _)⟩
  have d1 : decide ((12 : Int) ≤ (x.op : Int)) = false := by rw [decide_eq_false_iff_not]; omega
  obtain ⟨f1, f2, f3⟩ := flds_five h1 h2
  have HK := Lib.hid f3
  have HL := Lib.hid f1
  have HC := Lib.hid (fun w' (hc : Chg none w w') => (hF.chg hc).2 _ _ f2)
  have HX := Lib.hid hx
  have h1w : 1 < w.heap.size := hF.1
  have HA := Lib.hid (insB_all (x := x) (places := places) h1 h2)
  have HN := Lib.hid (fun k (hk : k < 5) (h : okAt x places k = false) => insB_no hk h)
  have hlt12 : x.op < 12 := h2
  clear hF f1 f2 f3 hx h1 h2
  obtain ⟨X, hX⟩ : ∃ X : Ins, X = x := ⟨_, rfl⟩
  have HXX := Lib.hid hX
  obtain ⟨op, a, b, c, n, m⟩ := x
  rw [← hX] at HA HN HX ⊢
  dsimp only at hw d0 d1 HK HL HC
  rw [hX]
  clear hX
  unfold insCells
  dsimp only
  have HLT := Lib.hid hlt12
  clear hlt12
  go_enter Tryd.func86, Tryd.ntmps86
  go_wp2_with fail
  go_cut [5, 6] from 18 (fun s5 s6 wx => MidIns w X s5 s6 wx)
  case first =>
    go_region
    all_goals
      go_wp2_with fail
      go_meet
      case rel =>
        rw [HXX.out]
        refine ⟨_, _, rfl, rfl, by omega, by omega, ?_, ?_, ?_, ?_⟩
        · repeat (first | exact Chg.refl _ _ | refine Chg.drew ?_ | refine Chg.alloc ?_ _)
        · first | exact Blk.drew ((blk_newAt _ _ _ (by simp)).alloc _) | exact Blk.drew (blk_newAt _ _ _ (by simp)) | exact Blk.alloc (blk_newAt _ _ _ (by simp)) _ | exact (blk_newAt _ _ _ (by simp))
        · first | exact Blk.drew ((blk_newAt _ _ _ (by simp)).alloc _) | exact Blk.drew (blk_newAt _ _ _ (by simp)) | exact Blk.alloc (blk_newAt _ _ _ (by simp)) _ | exact (blk_newAt _ _ _ (by simp))
        · first | exact Blk.drew (((blk_newAt _ _ _ rfl).alloc _).alloc _) | exact Blk.alloc (Blk.alloc (blk_newAt _ _ _ rfl) _) _ | exact Blk.alloc (Blk.alloc (Blk.drew (blk_newAt _ _ _ rfl)) _) _
  case rest =>
    obtain ⟨p, q, rfl, rfl, hp, hq, hc, hA, hB, hXc⟩ := hcut
    have x0 : wc.cell? ⟨w.heap.size, 0, none⟩ = some (.int .u8 op) := by rw [hXc.cell, HXX.out]; rfl
    have c0 : wc.cell? ⟨1, op, none⟩ = some (.string ⟨(fldOf op).toArray⟩) := HC.out _ hc
    rw [HXX.out] at hA hB
    dsimp only at hA hB
    have hsz : (⟨(fldOf op).toArray⟩ : ByteArray).size = 5 := by
      have e : (⟨(fldOf op).toArray⟩ : ByteArray).size = (fldOf op).length := List.size_toArray
      rw [e, HL.out]
    have HCH := Lib.hid (fun (k : Nat) (hk : k < 5) => (by
      obtain ⟨cc, e1, e2, e3⟩ := HK.out k hk
      obtain ⟨h, e⟩ := str_at e1
      exact ⟨h, by rw [e]; exact e2, by rw [e]; exact e3⟩ : ∃ h : k < (⟨(fldOf op).toArray⟩ : ByteArray).size, ((⟨(fldOf op).toArray⟩ : ByteArray)[k]'h).toNat < 128 ∧ ((⟨(fldOf op).toArray⟩ : ByteArray)[k]'h).toNat = kindAt op k))
    generalize (⟨(fldOf op).toArray⟩ : ByteArray) = S at *
    have HSZ := Lib.hid hsz
    have hopb : op < 12 := HLT.out
    clear hsz HC HL HK
    go_wp2_with fail
    go_loopw [4] (fun _ wr => ∃ k : Nat, Hid (k ≤ 5 ∧ ∀ j, j < k → okAt X places j = true) ∧ Hid (wr.heap[wc.heap.size]? = some (.stringIter S k)) ∧ Hid (Chg none w wr) ∧ Hid (Blk wr p #[.string ⟨a.toArray⟩, .string ⟨b.toArray⟩, .string ⟨c.toArray⟩] 120) ∧ Hid (Blk wr q #[.int .i64 n, .int .i64 m] 121)) (fun _ wr => 5 - wr.iterPos wc.heap.size)
    case atStart =>
      refine ⟨0, Lib.hid ⟨by omega, fun j hj => absurd hj (Nat.not_lt_zero _)⟩, Lib.hid ?_, Lib.hid ?_, Lib.hid ?_, Lib.hid ?_⟩
      · exact heap_alloc_new wc _
      · exact hc.alloc _
      · exact hA.alloc _
      · exact hB.alloc _
    case round =>
      obtain ⟨k, H1, H2, H3, H4, H5⟩ := hrel
      have hpJ : p ≠ wc.heap.size := Nat.ne_of_lt hA.lt
      have hqJ : q ≠ wc.heap.size := Nat.ne_of_lt hB.lt
      have HPJ := Lib.hid hpJ
      have HQJ := Lib.hid hqJ
      have hwJ : w.heap.size ≤ wc.heap.size := hc.size
      have HWJ := Lib.hid hwJ
      generalize wc.heap.size = J at *
      clear hc hA hB hXc x0 c0 hpJ hqJ hwJ hp hq hopb
      have hk5 := H1.out.1
      rcases (show k = 0 ∨ k = 1 ∨ k = 2 ∨ k = 3 ∨ k = 4 ∨ k = 5 by omega) with rfl | rfl | rfl | rfl | rfl | rfl
      · obtain ⟨hlt, ha, hcn⟩ := HCH.out 0 (by decide)
        have hnx := fun ty => run_next_ascii_at (P := Tryd.prog) wr J S 0 ty H2.out hlt ha
        rw [hcn] at hnx
        have hok : okAt X places 0 = textB (kindAt op 0) a := by rw [HXX.out]; rfl
        have HC0 := Lib.hid (fun v => text_any (kindAt op 0) a v (by have := HX.out.a; rw [HXX.out] at this; exact this))
        generalize kindAt op 0 = K at *
        have g1 : (wr.iterAt J S 1).heap[J]? = some (.stringIter S 1) := iterAt_heap wr J S 0 1 H2.out
        have g2 : Chg none w (wr.iterAt J S 1) := chg_iterAt H3.out HWJ.out S 1
        have g3 := blk_iterAt H4.out HPJ.out S 1
        have g4 := blk_iterAt H5.out HQJ.out S 1
        have hcell : (wr.iterAt J S 1).cell? ⟨p, 0, none⟩ = some (.string ⟨a.toArray⟩) := g3.cell 0
        rw [show 0 + 1 = 1 from rfl] at hnx
        generalize wr.iterAt J S 1 = W1 at *
        have G1 := Lib.hid g1
        have G2 := Lib.hid g2
        have G3 := Lib.hid g3
        have G4 := Lib.hid g4
        clear g1 g2 g3 g4 hlt ha hcn hk5
        have HCC := Lib.hid (HC0.out W1)
        by_cases hb : textB (K) a = true
        · have HOK : Hid (∀ j, j < 1 → okAt X places j = true) := fun j hj => by
            rcases Nat.lt_or_ge j 0 with h | h
            · exact H1.out.2 j h
            · obtain rfl : j = 0 := by omega
              rw [hok]; exact hb
          rw [hb] at HCC
          clear hok hb
          go_wp2_with fail
          refine (HCC.out).mono ?_
          rintro e w2 ⟨rfl, hch⟩
          have G1' := Lib.hid (heap_chg G1.out hch)
          have G2' := Lib.hid (G2.out.trans hch)
          have G3' := Lib.hid (G3.out.chg hch (by simp))
          have G4' := Lib.hid (G4.out.chg hch (by simp))
          have HM : Hid (w2.iterPos J = 1 ∧ wr.iterPos J = 0) := ⟨iterPos_at G1'.out, iterPos_at H2.out⟩
          clear hch hcell hnx
          go_wp2_with fail
          go_roundw
          case rel => exact ⟨1, Lib.hid ⟨by decide, HOK.out⟩, G1', G2', G3', G4'⟩
          case measure => rw [HM.out.1, HM.out.2]; omega
        · have hb' : textB (K) a = false := by simpa using hb
          have HRES := Lib.hid (HN.out 0 (by decide) (by rw [hok]; exact hb'))
          rw [hb'] at HCC
          clear hok hb hb'
          go_wp2_with fail
          refine (HCC.out).mono ?_
          rintro e w2 ⟨rfl, hch⟩
          have G2' := Lib.hid (G2.out.trans hch)
          clear hch hcell hnx
          go_wp2_with fail
          go_ret
          exact ⟨by first | (rw [HRES.out]; done) | (rw [HRES.out]; rfl) | (refine congrArg Ending.returned ?_; rw [HXX.out] at HRES; rw [HRES.out]; rfl), G2'.out⟩
      · obtain ⟨hlt, ha, hcn⟩ := HCH.out 1 (by decide)
        have hnx := fun ty => run_next_ascii_at (P := Tryd.prog) wr J S 1 ty H2.out hlt ha
        rw [hcn] at hnx
        have hok : okAt X places 1 = textB (kindAt op 1) b := by rw [HXX.out]; rfl
        have HC1 := Lib.hid (fun v => text_any (kindAt op 1) b v (by have := HX.out.b; rw [HXX.out] at this; exact this))
        generalize kindAt op 1 = K at *
        have g1 : (wr.iterAt J S 2).heap[J]? = some (.stringIter S 2) := iterAt_heap wr J S 1 2 H2.out
        have g2 : Chg none w (wr.iterAt J S 2) := chg_iterAt H3.out HWJ.out S 2
        have g3 := blk_iterAt H4.out HPJ.out S 2
        have g4 := blk_iterAt H5.out HQJ.out S 2
        have hcell : (wr.iterAt J S 2).cell? ⟨p, 1, none⟩ = some (.string ⟨b.toArray⟩) := g3.cell 1
        rw [show 1 + 1 = 2 from rfl] at hnx
        generalize wr.iterAt J S 2 = W1 at *
        have G1 := Lib.hid g1
        have G2 := Lib.hid g2
        have G3 := Lib.hid g3
        have G4 := Lib.hid g4
        clear g1 g2 g3 g4 hlt ha hcn hk5
        have HCC := Lib.hid (HC1.out W1)
        by_cases hb : textB (K) b = true
        · have HOK : Hid (∀ j, j < 2 → okAt X places j = true) := fun j hj => by
            rcases Nat.lt_or_ge j 1 with h | h
            · exact H1.out.2 j h
            · obtain rfl : j = 1 := by omega
              rw [hok]; exact hb
          rw [hb] at HCC
          clear hok hb
          go_wp2_with fail
          refine (HCC.out).mono ?_
          rintro e w2 ⟨rfl, hch⟩
          have G1' := Lib.hid (heap_chg G1.out hch)
          have G2' := Lib.hid (G2.out.trans hch)
          have G3' := Lib.hid (G3.out.chg hch (by simp))
          have G4' := Lib.hid (G4.out.chg hch (by simp))
          have HM : Hid (w2.iterPos J = 2 ∧ wr.iterPos J = 1) := ⟨iterPos_at G1'.out, iterPos_at H2.out⟩
          clear hch hcell hnx
          go_wp2_with fail
          go_roundw
          case rel => exact ⟨2, Lib.hid ⟨by decide, HOK.out⟩, G1', G2', G3', G4'⟩
          case measure => rw [HM.out.1, HM.out.2]; omega
        · have hb' : textB (K) b = false := by simpa using hb
          have HRES := Lib.hid (HN.out 1 (by decide) (by rw [hok]; exact hb'))
          rw [hb'] at HCC
          clear hok hb hb'
          go_wp2_with fail
          refine (HCC.out).mono ?_
          rintro e w2 ⟨rfl, hch⟩
          have G2' := Lib.hid (G2.out.trans hch)
          clear hch hcell hnx
          go_wp2_with fail
          go_ret
          exact ⟨by first | (rw [HRES.out]; done) | (rw [HRES.out]; rfl) | (refine congrArg Ending.returned ?_; rw [HXX.out] at HRES; rw [HRES.out]; rfl), G2'.out⟩
      · obtain ⟨hlt, ha, hcn⟩ := HCH.out 2 (by decide)
        have hnx := fun ty => run_next_ascii_at (P := Tryd.prog) wr J S 2 ty H2.out hlt ha
        rw [hcn] at hnx
        have hok : okAt X places 2 = textB (kindAt op 2) c := by rw [HXX.out]; rfl
        have HC2 := Lib.hid (fun v => text_any (kindAt op 2) c v (by have := HX.out.c; rw [HXX.out] at this; exact this))
        generalize kindAt op 2 = K at *
        have g1 : (wr.iterAt J S 3).heap[J]? = some (.stringIter S 3) := iterAt_heap wr J S 2 3 H2.out
        have g2 : Chg none w (wr.iterAt J S 3) := chg_iterAt H3.out HWJ.out S 3
        have g3 := blk_iterAt H4.out HPJ.out S 3
        have g4 := blk_iterAt H5.out HQJ.out S 3
        have hcell : (wr.iterAt J S 3).cell? ⟨p, 2, none⟩ = some (.string ⟨c.toArray⟩) := g3.cell 2
        rw [show 2 + 1 = 3 from rfl] at hnx
        generalize wr.iterAt J S 3 = W1 at *
        have G1 := Lib.hid g1
        have G2 := Lib.hid g2
        have G3 := Lib.hid g3
        have G4 := Lib.hid g4
        clear g1 g2 g3 g4 hlt ha hcn hk5
        have HCC := Lib.hid (HC2.out W1)
        by_cases hb : textB (K) c = true
        · have HOK : Hid (∀ j, j < 3 → okAt X places j = true) := fun j hj => by
            rcases Nat.lt_or_ge j 2 with h | h
            · exact H1.out.2 j h
            · obtain rfl : j = 2 := by omega
              rw [hok]; exact hb
          rw [hb] at HCC
          clear hok hb
          go_wp2_with fail
          refine (HCC.out).mono ?_
          rintro e w2 ⟨rfl, hch⟩
          have G1' := Lib.hid (heap_chg G1.out hch)
          have G2' := Lib.hid (G2.out.trans hch)
          have G3' := Lib.hid (G3.out.chg hch (by simp))
          have G4' := Lib.hid (G4.out.chg hch (by simp))
          have HM : Hid (w2.iterPos J = 3 ∧ wr.iterPos J = 2) := ⟨iterPos_at G1'.out, iterPos_at H2.out⟩
          clear hch hcell hnx
          go_wp2_with fail
          go_roundw
          case rel => exact ⟨3, Lib.hid ⟨by decide, HOK.out⟩, G1', G2', G3', G4'⟩
          case measure => rw [HM.out.1, HM.out.2]; omega
        · have hb' : textB (K) c = false := by simpa using hb
          have HRES := Lib.hid (HN.out 2 (by decide) (by rw [hok]; exact hb'))
          rw [hb'] at HCC
          clear hok hb hb'
          go_wp2_with fail
          refine (HCC.out).mono ?_
          rintro e w2 ⟨rfl, hch⟩
          have G2' := Lib.hid (G2.out.trans hch)
          clear hch hcell hnx
          go_wp2_with fail
          go_ret
          exact ⟨by first | (rw [HRES.out]; done) | (rw [HRES.out]; rfl) | (refine congrArg Ending.returned ?_; rw [HXX.out] at HRES; rw [HRES.out]; rfl), G2'.out⟩
      · obtain ⟨hlt, ha, hcn⟩ := HCH.out 3 (by decide)
        have hnx := fun ty => run_next_ascii_at (P := Tryd.prog) wr J S 3 ty H2.out hlt ha
        rw [hcn] at hnx
        have hok : okAt X places 3 = numB (kindAt op 3) n places := by rw [HXX.out]; rfl
        have HC3 := Lib.hid (fun v => num_chg (kindAt op 3) n places v)
        generalize kindAt op 3 = K at *
        have g1 : (wr.iterAt J S 4).heap[J]? = some (.stringIter S 4) := iterAt_heap wr J S 3 4 H2.out
        have g2 : Chg none w (wr.iterAt J S 4) := chg_iterAt H3.out HWJ.out S 4
        have g3 := blk_iterAt H4.out HPJ.out S 4
        have g4 := blk_iterAt H5.out HQJ.out S 4
        have hcell : (wr.iterAt J S 4).cell? ⟨q, 0, none⟩ = some (.int .i64 n) := g4.cell 0
        rw [show 3 + 1 = 4 from rfl] at hnx
        generalize wr.iterAt J S 4 = W1 at *
        have G1 := Lib.hid g1
        have G2 := Lib.hid g2
        have G3 := Lib.hid g3
        have G4 := Lib.hid g4
        clear g1 g2 g3 g4 hlt ha hcn hk5
        have HCC := Lib.hid (HC3.out W1)
        by_cases hb : numB (K) n places = true
        · have HOK : Hid (∀ j, j < 4 → okAt X places j = true) := fun j hj => by
            rcases Nat.lt_or_ge j 3 with h | h
            · exact H1.out.2 j h
            · obtain rfl : j = 3 := by omega
              rw [hok]; exact hb
          rw [hb] at HCC
          clear hok hb
          go_wp2_with fail
          refine (HCC.out).mono ?_
          rintro e w2 ⟨rfl, hch⟩
          have G1' := Lib.hid (heap_chg G1.out hch)
          have G2' := Lib.hid (G2.out.trans hch)
          have G3' := Lib.hid (G3.out.chg hch (by simp))
          have G4' := Lib.hid (G4.out.chg hch (by simp))
          have HM : Hid (w2.iterPos J = 4 ∧ wr.iterPos J = 3) := ⟨iterPos_at G1'.out, iterPos_at H2.out⟩
          clear hch hcell hnx
          go_wp2_with fail
          go_roundw
          case rel => exact ⟨4, Lib.hid ⟨by decide, HOK.out⟩, G1', G2', G3', G4'⟩
          case measure => rw [HM.out.1, HM.out.2]; omega
        · have hb' : numB (K) n places = false := by simpa using hb
          have HRES := Lib.hid (HN.out 3 (by decide) (by rw [hok]; exact hb'))
          rw [hb'] at HCC
          clear hok hb hb'
          go_wp2_with fail
          refine (HCC.out).mono ?_
          rintro e w2 ⟨rfl, hch⟩
          have G2' := Lib.hid (G2.out.trans hch)
          clear hch hcell hnx
          go_wp2_with fail
          go_ret
          exact ⟨by first | (rw [HRES.out]; done) | (rw [HRES.out]; rfl) | (refine congrArg Ending.returned ?_; rw [HXX.out] at HRES; rw [HRES.out]; rfl), G2'.out⟩
      · obtain ⟨hlt, ha, hcn⟩ := HCH.out 4 (by decide)
        have hnx := fun ty => run_next_ascii_at (P := Tryd.prog) wr J S 4 ty H2.out hlt ha
        rw [hcn] at hnx
        have hok : okAt X places 4 = numB (kindAt op 4) m places := by rw [HXX.out]; rfl
        have HC4 := Lib.hid (fun v => num_chg (kindAt op 4) m places v)
        generalize kindAt op 4 = K at *
        have g1 : (wr.iterAt J S 5).heap[J]? = some (.stringIter S 5) := iterAt_heap wr J S 4 5 H2.out
        have g2 : Chg none w (wr.iterAt J S 5) := chg_iterAt H3.out HWJ.out S 5
        have g3 := blk_iterAt H4.out HPJ.out S 5
        have g4 := blk_iterAt H5.out HQJ.out S 5
        have hcell : (wr.iterAt J S 5).cell? ⟨q, 1, none⟩ = some (.int .i64 m) := g4.cell 1
        rw [show 4 + 1 = 5 from rfl] at hnx
        generalize wr.iterAt J S 5 = W1 at *
        have G1 := Lib.hid g1
        have G2 := Lib.hid g2
        have G3 := Lib.hid g3
        have G4 := Lib.hid g4
        clear g1 g2 g3 g4 hlt ha hcn hk5
        have HCC := Lib.hid (HC4.out W1)
        by_cases hb : numB (K) m places = true
        · have HOK : Hid (∀ j, j < 5 → okAt X places j = true) := fun j hj => by
            rcases Nat.lt_or_ge j 4 with h | h
            · exact H1.out.2 j h
            · obtain rfl : j = 4 := by omega
              rw [hok]; exact hb
          rw [hb] at HCC
          clear hok hb
          go_wp2_with fail
          refine (HCC.out).mono ?_
          rintro e w2 ⟨rfl, hch⟩
          have G1' := Lib.hid (heap_chg G1.out hch)
          have G2' := Lib.hid (G2.out.trans hch)
          have G3' := Lib.hid (G3.out.chg hch (by simp))
          have G4' := Lib.hid (G4.out.chg hch (by simp))
          have HM : Hid (w2.iterPos J = 5 ∧ wr.iterPos J = 4) := ⟨iterPos_at G1'.out, iterPos_at H2.out⟩
          clear hch hcell hnx
          go_wp2_with fail
          go_roundw
          case rel => exact ⟨5, Lib.hid ⟨by decide, HOK.out⟩, G1', G2', G3', G4'⟩
          case measure => rw [HM.out.1, HM.out.2]; omega
        · have hb' : numB (K) m places = false := by simpa using hb
          have HRES := Lib.hid (HN.out 4 (by decide) (by rw [hok]; exact hb'))
          rw [hb'] at HCC
          clear hok hb hb'
          go_wp2_with fail
          refine (HCC.out).mono ?_
          rintro e w2 ⟨rfl, hch⟩
          have G2' := Lib.hid (G2.out.trans hch)
          clear hch hcell hnx
          go_wp2_with fail
          go_ret
          exact ⟨by first | (rw [HRES.out]; done) | (rw [HRES.out]; rfl) | (refine congrArg Ending.returned ?_; rw [HXX.out] at HRES; rw [HRES.out]; rfl), G2'.out⟩
      · have hnx := fun ty => run_next_end_at (P := Tryd.prog) wr J S 5 ty H2.out (by rw [HSZ.out]; omega)
        have hres := HA.out H1.out.2
        have HRES := Lib.hid hres
        clear hres hk5
        go_wp2_with fail
        go_ret
        exact ⟨by first | (rw [HRES.out]; done) | (rw [HRES.out]; rfl) | (refine congrArg Ending.returned ?_; rw [HXX.out] at HRES; rw [HRES.out]; rfl), H3.out⟩

end Go.Proofs.YtbadkkilblgpmaaDoor
