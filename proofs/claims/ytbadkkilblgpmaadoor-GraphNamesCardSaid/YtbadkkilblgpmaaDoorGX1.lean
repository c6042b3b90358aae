/-
  Package graph: neededBy and Dirty walked.
-/
import Derived.Test.YtbadkkilblgpmaaDoorNC
import Derived.Maps.OwnSet
import Derived.Maps.OwnOps
import Derived.StringKeys
import Derived.Test.YtbadkkilblgpmaaDoorNLG
import Derived.Test.YtbadkkilblgpmaaDoorShelfS
import Derived.Deep.Cut
import Derived.Deep.CutBlock
import Derived.ArgAppend
import Derived.Deep.Upon
import Derived.Deep.MidRow
namespace Go.Proofs.YtbadkkilblgpmaaDoor
open Go.RowKit

/-- Targets, in a row. -/
def TgtsAt (w : World) (A : Option Addr) (L : List Tgt) : Prop := RowsAt w 4 A tgtCells L ∧ ∀ t ∈ L, TgtAt w t
theorem TgtsAt.chg {w w' : World} {A : Option Addr} {L : List Tgt} (h : TgtsAt w A L) (g : Chg none w w') : TgtsAt w' A L := ⟨RowsAt.chg h.1 g, fun t ht => (h.2 t ht).chg g⟩
theorem TgtsAt.one {w : World} {A : Option Addr} {L : List Tgt} (h : TgtsAt w A L) {k : Nat} {t : Tgt} (hk : L[k]? = some t) :
    ∃ b off, A = some ⟨b, off, none⟩ ∧ b < w.heap.size ∧ w.cell? ⟨b, off + k * 4, none⟩ = some (.string ⟨t.n.toArray⟩) ∧ w.cell? ⟨b, off + k * 4 + 1, none⟩ = some (.slice t.A t.D.length t.c) ∧ w.cell? ⟨b, off + k * 4 + 2, none⟩ = some (.int .i64 t.fuel) ∧ w.cell? ⟨b, off + k * 4 + 3, none⟩ = some (.slice t.B t.P.length t.d) := by
  have hne : L ≠ [] := by intro e; subst e; simp at hk
  obtain ⟨b, off, rfl, hlt, hc⟩ := h.1 hne
  have h0 := hc k t hk 0 (by omega)
  rw [Nat.add_zero] at h0
  exact ⟨b, off, rfl, hlt, h0, hc k t hk 1 (by omega), hc k t hk 2 (by omega), hc k t hk 3 (by omega)⟩
theorem TgtsAt.take {w : World} {A : Option Addr} {L : List Tgt} (h : TgtsAt w A L) (k : Nat) : TgtsAt w A (L.take k) := by
  refine ⟨fun hne => ?_, fun t ht => h.2 t (List.mem_of_mem_take ht)⟩
  have hne' : L ≠ [] := by intro e; subst e; simp at hne
  obtain ⟨b, off, rfl, hlt, hc⟩ := h.1 hne'
  refine ⟨b, off, rfl, hlt, fun i a hi j hj => hc i a ?_ j hj⟩
  rw [List.getElem?_take] at hi
  split at hi
  · exact hi
  · cases hi

def hasN (L : List Tgt) (n : List UInt8) : Bool := L.any (·.n == n)

set_option maxHeartbeats 4000000 in
theorem clo141 (t : Tgt) (n : List UInt8) (b : Nat) (w : World) (hb : b < w.heap.size) (hc : w.cell? ⟨b, 0, none⟩ = some (.string ⟨n.toArray⟩)) :
    Calls Tryd.prog 141 #[.agg (tgtCells t).toArray, .pointer (some ⟨b, 0, none⟩)] w fun e w' => e = .returned (.bool (t.n == n)) ∧ Chg none w w' := by
  obtain ⟨tn, A, D, c, fuel, B, P, d⟩ := t
  unfold tgtCells
  have hb2 : b < w.heap.size + 1 := by omega
  dsimp only
  go_enter Tryd.func141, Tryd.ntmps141
  go_wp2_with fail
  go_ret
  exact ⟨rfl, (Chg.refl _ _).alloc _⟩

def IdxN (L : List Tgt) (n : List UInt8) (z : Int) : Prop := (z = -1 ∧ hasN L n = false) ∨ ∃ i : Nat, z = i ∧ hasN L n = true
set_option maxHeartbeats 8000000 in
theorem index176 (L : List Tgt) (A : Option Addr) (c : Nat) (n : List UInt8) (b : Nat) (w : World) (hT : TgtsAt w A L) (hl : L.length ≤ 1000) (hb : ∀ v, Chg none w v → b < v.heap.size ∧ v.cell? ⟨b, 0, none⟩ = some (.string ⟨n.toArray⟩)) :
    Calls Tryd.prog 176 #[.slice A L.length c, .func (.func 141) #[] #[.pointer (some ⟨b, 0, none⟩)]] w fun e w' => ∃ z : Int, e = .returned (.int .i64 z) ∧ Chg none w w' ∧ IdxN L n z := by
  have HT : Hid (∀ v, Chg none w v → TgtsAt v A L) := Lib.hid fun v g => hT.chg g
  have HC : Hid (∀ (t : Tgt) (v : World), Chg none w v → Calls Tryd.prog 141 #[.agg (tgtCells t).toArray, .pointer (some ⟨b, 0, none⟩)] v fun e w' => e = .returned (.bool (t.n == n)) ∧ Chg none v w') := Lib.hid fun t v g => clo141 t n b v (hb v g).1 (hb v g).2
  have HL := Lib.hid hl
  clear hT hb hl
  go_enter Tryd.func176, Tryd.ntmps176
  go_wp2_with fail
  go_loopw [8] (fun s8 wr => ∃ k : Nat, s8 = .int .i64 k ∧ Hid (k ≤ L.length ∧ ∀ (j : Nat) g, j < k → L[j]? = some g → g.n ≠ n) ∧ Hid (Chg none w wr)) (fun s8 _ => L.length - (intOf s8).toNat)
  case atStart => exact ⟨0, rfl, Lib.hid ⟨Nat.zero_le _, fun j g h => absurd h (Nat.not_lt_zero _)⟩, Lib.hid (Chg.refl _ _)⟩
  case round =>
    obtain ⟨k, rfl, H1, H2⟩ := hrel
    by_cases hlt : k < L.length
    · have hd : decide ((k : Int) < (L.length : Int)) = true := by rw [decide_eq_true_eq]; omega
      obtain ⟨x, hkx⟩ : ∃ x, L[k]? = some x := ⟨_, List.getElem?_eq_getElem hlt⟩
      obtain ⟨b2, off, rfl, hb2, x0, x1, x2, x3⟩ := (HT.out wr H2.out).one hkx
      have HLT := Lib.hid hlt
      have HKX := Lib.hid hkx
      have HCX := Lib.hid (HC.out x)
      have hkb : (k : Int) ≤ 1000 := by have := HL.out; omega
      clear hkx hlt HC
      obtain ⟨fp, fA, fD, fc, ff, fB, fP, fd⟩ := x
      unfold tgtCells at HCX
      dsimp only at x0 x1 x2 x3 HCX
      by_cases hp : fp = n
      · have e1 : (fp == n) = true := by rw [beq_iff_eq]; exact hp
        rw [e1] at HCX
        have HP := Lib.hid hp
        clear hp e1
        go_wp2_with fail
        refine (HCX.out _ (by repeat (first | exact H2.out | refine Chg.drew ?_ | refine Chg.alloc ?_ _))).mono ?_
        rintro e w2 ⟨rfl, g2⟩
        have G2 : Hid (Chg none w w2) := Lib.hid (Chg.trans (by repeat (first | exact H2.out | refine Chg.drew ?_ | refine Chg.alloc ?_ _)) g2)
        clear g2
        go_wp2_with fail
        go_ret
        exact ⟨_, rfl, G2.out, .inr ⟨k, rfl, List.any_eq_true.2 ⟨_, List.mem_of_getElem? HKX.out, by rw [beq_iff_eq]; exact HP.out⟩⟩⟩
      · have e1 : (fp == n) = false := by rw [beq_eq_false_iff_ne]; exact hp
        rw [e1] at HCX
        have HP := Lib.hid hp
        clear hp e1
        go_wp2_with fail
        refine (HCX.out _ (by repeat (first | exact H2.out | refine Chg.drew ?_ | refine Chg.alloc ?_ _))).mono ?_
        rintro e w2 ⟨rfl, g2⟩
        have G2 : Hid (Chg none w w2) := Lib.hid (Chg.trans (by repeat (first | exact H2.out | refine Chg.drew ?_ | refine Chg.alloc ?_ _)) g2)
        clear g2
        go_wp2_with fail
        go_roundw
        case rel => exact ⟨k + 1, by first | rfl | go_num, Lib.hid ⟨HLT.out, fun j g hj hg => by
          rcases Nat.lt_or_ge j k with h | h
          · exact H1.out.2 j g h hg
          · obtain rfl : j = k := by omega
            obtain rfl := Option.some.inj (HKX.out.symm.trans hg)
            exact HP.out⟩, G2⟩
        case measure => have := HLT.out; first | omega | (simp only [intOf]; omega) | (simp [intOf]; omega)
    · have hd : decide (k < L.length) = false := by rw [decide_eq_false_iff_not]; exact hlt
      have hd2 : decide ((k : Int) < (L.length : Int)) = false := by rw [decide_eq_false_iff_not]; omega
      have HE : Hid (hasN L n = false) := Lib.hid (List.any_eq_false.2 fun f hf => by
        obtain ⟨i, hi, hif⟩ := List.getElem_of_mem hf
        rw [beq_iff_eq]
        exact H1.out.2 i f (by have := H1.out.1; omega) (by rw [List.getElem?_eq_getElem hi, hif]))
      clear hlt
      go_wp2_with fail
      go_ret
      exact ⟨_, rfl, H2.out, .inl ⟨rfl, HE.out⟩⟩
set_option maxHeartbeats 4000000 in
theorem contains140 (L : List Tgt) (A : Option Addr) (c : Nat) (n : List UInt8) (b : Nat) (w : World) (hT : TgtsAt w A L) (hl : L.length ≤ 1000) (hb : ∀ v, Chg none w v → b < v.heap.size ∧ v.cell? ⟨b, 0, none⟩ = some (.string ⟨n.toArray⟩)) :
    Calls Tryd.prog 140 #[.slice A L.length c, .func (.func 141) #[] #[.pointer (some ⟨b, 0, none⟩)]] w fun e w' => e = .returned (.bool (hasN L n)) ∧ Chg none w w' := by
  have HI := Lib.hid (index176 L A c n b w hT hl hb)
  clear hT hl hb
  go_enter Tryd.func140, Tryd.ntmps140
  go_wp2_with fail
  refine HI.out.mono ?_
  rintro e w' ⟨z, rfl, g, hz⟩
  have G := Lib.hid g
  clear g
  rcases hz with ⟨rfl, hh⟩ | ⟨i, rfl, hh⟩
  · have HH := Lib.hid hh
    clear hh
    go_wp2_with fail
    go_ret
    exact ⟨by rw [HH.out]; rfl, G.out⟩
  · have HH := Lib.hid hh
    clear hh
    have hzi : decide ((0 : Int) ≤ (i : Int)) = true := by rw [decide_eq_true_eq]; omega
    go_wp2_with fail
    go_ret
    exact ⟨by rw [HH.out]; rfl, G.out⟩


open Go.RowKit

def tgtOk (L : List Tgt) (k : Nat) : Bool := mayTgt (L.getD k default) && !hasN (L.take k) (L.getD k default).n
def mayL (L : List Tgt) : Bool := decide (L.length ≤ 20) && (List.range L.length).all (tgtOk L)
theorem cut_hi63 (g o k n c : Nat) (hn : k ≤ n) (hc : n ≤ c) (w : World) :
    (Instr.sliceAt 63 (.slice (some ⟨g, o, none⟩) n c) none (some (.int .i64 k)) none).run Tryd.prog w = .ok (.slice (some ⟨g, o, none⟩) k c) w := by
  have u25 := Tryd.underlying63
  have z38 := Tryd.sizeOf77
  have h4 : (k : Int) ≤ n := by omega
  have h5 : (k : Int) ≤ c := by omega
  go_simp
theorem mayL_of {L : List Tgt} (h : mayL L = true) : L.length ≤ 20 ∧ (∀ t ∈ L, mayTgt t = true) ∧ L.Pairwise fun a b => a.n ≠ b.n := by
  unfold mayL at h
  rw [Bool.and_eq_true, decide_eq_true_eq, List.all_eq_true] at h
  refine ⟨h.1, fun t ht => ?_, ?_⟩
  · obtain ⟨i, hi, rfl⟩ := List.getElem_of_mem ht
    have h1 := h.2 i (by simpa using hi)
    unfold tgtOk at h1
    rw [Bool.and_eq_true, List.getD_eq_getElem?_getD, List.getElem?_eq_getElem hi] at h1
    exact h1.1
  · rw [List.pairwise_iff_getElem]
    intro i j hi hj hij e
    have h1 := h.2 j (by simpa using hj)
    unfold tgtOk at h1
    rw [Bool.and_eq_true, List.getD_eq_getElem?_getD, List.getElem?_eq_getElem hj, Bool.not_eq_true'] at h1
    have h2 := h1.2
    unfold hasN at h2
    rw [List.any_eq_false] at h2
    refine h2 L[i] ?_ ?_
    · rw [List.mem_take_iff_getElem]
      exact ⟨i, by omega, rfl⟩
    · rw [Option.getD_some, beq_iff_eq, e]

set_option maxHeartbeats 16000000 in
set_option maxRecDepth 100000 in
theorem pmay_any (L : List Tgt) (A : Option Addr) (c : Nat) (w : World) (hT : TgtsAt w A L) (hF : Flds w) (hl : L.length ≤ 9223372036854775807) (hcap : L.length ≤ c) :
    Calls Tryd.prog 94 #[.slice A L.length c] w fun e w' => e = .returned (.bool (mayL L)) ∧ Chg none w w' := by
  by_cases h20 : 20 < L.length
  · have d1 : decide ((20 : Int) < (L.length : Int)) = true := by rw [decide_eq_true_eq]; omega
    have HM : Hid (mayL L = false) := Lib.hid (by unfold mayL; rw [decide_eq_false (by omega)]; rfl)
    clear hT hF h20
    go_enter Tryd.func94, Tryd.ntmps94
    go_wp2_with fail
    go_ret
    exact ⟨by rw [HM.out]; rfl, Chg.refl _ _⟩
  have d1 : decide ((20 : Int) < (L.length : Int)) = false := by rw [decide_eq_false_iff_not]; omega
  have HALL : Hid (mayL L = (List.range L.length).all (tgtOk L)) := Lib.hid (by unfold mayL; rw [decide_eq_true (by omega), Bool.true_and])
  have HTT : Hid (∀ v, Chg none w v → TgtsAt v A L) := Lib.hid fun v g => hT.chg g
  have HN : Hid (∀ t ∈ L, ∀ v, Calls Tryd.prog 137 #[.string ⟨t.n.toArray⟩] v fun e w' => e = .returned (.bool (nameB t.n)) ∧ Chg none v w') := Lib.hid fun t ht v => isname_any t.n v (hT.2 t ht).nl
  have HD : Hid (∀ t ∈ L, ∀ v, Chg none w v → Calls Tryd.prog 138 #[.slice t.A t.D.length t.c] v fun e w' => e = .returned (.bool (depsB t.D)) ∧ Chg none v w') := Lib.hid fun t ht v g => maydeps_any t.D t.A t.c v ((hT.2 t ht).deps.chg g) (hT.2 t ht).dl (hT.2 t ht).dc (hT.2 t ht).dm
  have HR : Hid (∀ t ∈ L, ∀ v, Chg none w v → Calls Tryd.prog 139 #[.agg (tgtCells t).toArray] v fun e w' => e = .returned (.bool (runB t)) ∧ Chg none v w') := Lib.hid fun t ht v g => mayrun_any t v ((hT.2 t ht).chg g) (hF.chg g)
  have HL20 : Hid (L.length ≤ 20) := Lib.hid (by omega)
  have HCAP := Lib.hid hcap
  have hl20 : L.length ≤ 20 := by omega
  clear hT hF h20 hl
  go_enter Tryd.func94, Tryd.ntmps94
  go_wp2_with fail
  go_loopw [10] (fun s10 wr => ∃ k : Nat, s10 = .int .i64 k ∧ Hid (k ≤ L.length ∧ ∀ j, j < k → tgtOk L j = true) ∧ Hid (Chg none w wr)) (fun i _ => L.length - (intOf i).toNat)
  case atStart => exact ⟨0, rfl, Lib.hid ⟨Nat.zero_le _, fun j h => absurd h (Nat.not_lt_zero _)⟩, Lib.hid (Chg.refl _ _)⟩
  case round =>
    obtain ⟨k, rfl, H1, H2⟩ := hrel
    by_cases hlt : k < L.length
    · have hdd : decide ((k : Int) < (L.length : Int)) = true := by rw [decide_eq_true_eq]; omega
      obtain ⟨t, hkt⟩ : ∃ t, L[k]? = some t := ⟨_, List.getElem?_eq_getElem hlt⟩
      have hmem := List.mem_of_getElem? hkt
      obtain ⟨bL, off, rfl, hbL, x0, x1, x2, x3⟩ := (HTT.out wr H2.out).one hkt
      have hgd : L.getD k default = t := by rw [List.getD_eq_getElem?_getD, hkt]; rfl
      have HTO : Hid (tgtOk L k = (nameB t.n && (depsB t.D && runB t) && !hasN (L.take k) t.n)) := Lib.hid (by unfold tgtOk; rw [hgd]; rfl)
      have HNO : Hid (tgtOk L k = false → mayL L = false) := Lib.hid fun h => by
        rw [HALL.out, List.all_eq_false]
        exact ⟨k, by simpa using hlt, by rw [h]; decide⟩
      have HN1 := Lib.hid (HN.out t hmem)
      have HD1 := Lib.hid (HD.out t hmem)
      have HR1 := Lib.hid (HR.out t hmem)
      have HLT := Lib.hid hlt
      have hlk : (L.take k).length = k := by rw [List.length_take]; omega
      have HC140 : Hid (∀ (px : Nat) (v : World), Chg none w v → (∀ u, Chg none v u → px < u.heap.size ∧ u.cell? ⟨px, 0, none⟩ = some (.string ⟨t.n.toArray⟩)) → Calls Tryd.prog 140 #[.slice (some ⟨bL, off, none⟩) k c, .func (.func 141) #[] #[.pointer (some ⟨px, 0, none⟩)]] v fun e w' => e = .returned (.bool (hasN (L.take k) t.n)) ∧ Chg none v w') := Lib.hid fun px v g h => by
        have h2 := contains140 (L.take k) (some ⟨bL, off, none⟩) c t.n px v ((HTT.out v g).take k) (by rw [hlk]; omega) h
        rwa [hlk] at h2
      have HCUT := Lib.hid (fun v => cut_hi63 bL off k L.length c (by omega) HCAP.out v)
      obtain ⟨W1, hW1⟩ : ∃ W1, W1 = wr.alloc (.cells (tgtCells t).toArray 77) := ⟨_, rfl⟩
      have hbW : Blk W1 wr.heap.size (tgtCells t).toArray 77 := by rw [hW1]; exact Blk.new _ _ _
      have HG1 : Hid (Chg none w W1) := Lib.hid (by rw [hW1]; exact H2.out.alloc _)
      have HX : Hid (∀ v, Chg none W1 v → (v.cell? ⟨wr.heap.size, 0, none⟩ = some (.string ⟨t.n.toArray⟩) ∧ v.cell? ⟨wr.heap.size, 1, none⟩ = some (.slice t.A t.D.length t.c) ∧ v.cell? ⟨wr.heap.size, 2, none⟩ = some (.int .i64 t.fuel) ∧ v.cell? ⟨wr.heap.size, 3, none⟩ = some (.slice t.B t.P.length t.d)) ∧ wr.heap.size < v.heap.size) := Lib.hid fun v g => by
        have h := hbW.chg g (by simp)
        exact ⟨⟨h.cell 0, h.cell 1, h.cell 2, h.cell 3⟩, Blk.lt h⟩
      have HW1 := Lib.hid hW1
      clear hkt hmem hgd hlt hW1 hbW HN HD HR hlk
      obtain ⟨tn, tA, tD, tc, tf, tB, tP, td⟩ := t
      unfold tgtCells at HW1 HR1
      dsimp only at x0 x1 x2 x3 HTO HN1 HD1 HR1 HC140 HX HW1
      generalize runB ⟨tn, tA, tD, tc, tf, tB, tP, td⟩ = rb at *
      generalize depsB tD = db at *
      generalize nameB tn = nb at *
      generalize hasN (L.take k) tn = hb at *
      go_upto_region 6 with fail
      rw [← HW1.out]
      clear HW1 x0 x1 x2 x3
      generalize wr.heap.size = px at *
      obtain ⟨⟨x0, x1, x2, x3⟩, -⟩ := HX.out W1 (Chg.refl _ _)
      cases nb with
      | false =>
        have HF := Lib.hid (HNO.out (by rw [HTO.out]; rfl))
        go_wp2_with fail
        refine (HN1.out _).mono ?_
        rintro e w2 ⟨rfl, g2⟩
        have G2 := Lib.hid (HG1.out.trans g2)
        clear g2
        go_wp2_with fail
        go_ret
        exact ⟨by rw [HF.out]; rfl, G2.out⟩
      | true =>
        go_wp2_with fail
        refine (HN1.out _).mono ?_
        rintro e w2 ⟨rfl, g2⟩
        obtain ⟨⟨y0, y1, y2, y3⟩, -⟩ := HX.out w2 g2
        have K2 := Lib.hid g2
        have G2 := Lib.hid (HG1.out.trans g2)
        clear g2 x0 x1 x2 x3
        cases db with
        | false =>
          have HF := Lib.hid (HNO.out (by rw [HTO.out]; rfl))
          go_wp2_with fail
          refine (HD1.out _ G2.out).mono ?_
          rintro e w3 ⟨rfl, g3⟩
          have G3 := Lib.hid (G2.out.trans g3)
          clear g3
          go_wp2_with fail
          go_ret
          exact ⟨by rw [HF.out]; rfl, G3.out⟩
        | true =>
          go_wp2_with fail
          refine (HD1.out _ G2.out).mono ?_
          rintro e w3 ⟨rfl, g3⟩
          obtain ⟨⟨z0, z1, z2, z3⟩, -⟩ := HX.out w3 (K2.out.trans g3)
          have K3 := Lib.hid (K2.out.trans g3)
          have G3 := Lib.hid (G2.out.trans g3)
          clear g3 y0 y1 y2 y3
          cases rb with
          | false =>
            have HF := Lib.hid (HNO.out (by rw [HTO.out]; rfl))
            go_wp2_with fail
            refine (HR1.out _ G3.out).mono ?_
            rintro e w4 ⟨rfl, g4⟩
            have G4 := Lib.hid (G3.out.trans g4)
            clear g4
            go_wp2_with fail
            go_ret
            exact ⟨by rw [HF.out]; rfl, G4.out⟩
          | true =>
            go_wp2_with fail
            refine (HR1.out _ G3.out).mono ?_
            rintro e w4 ⟨rfl, g4⟩
            have K4 := Lib.hid (K3.out.trans g4)
            have G4 := Lib.hid (G3.out.trans g4)
            have hcut := HCUT.out w4
            have HCC := Lib.hid (HC140.out px w4 G4.out (fun u gu => ⟨(HX.out u (K4.out.trans gu)).2, (HX.out u (K4.out.trans gu)).1.1⟩))
            clear g4 z0 z1 z2 z3
            cases hb with
            | true =>
              have HF := Lib.hid (HNO.out (by rw [HTO.out]; rfl))
              go_wp2_with fail
              refine HCC.out.mono ?_
              rintro e w5 ⟨rfl, g5⟩
              have G5 := Lib.hid (G4.out.trans g5)
              clear g5 hcut
              go_wp2_with fail
              go_ret
              exact ⟨by rw [HF.out]; rfl, G5.out⟩
            | false =>
              have HY : Hid (tgtOk L k = true) := Lib.hid (by rw [HTO.out]; rfl)
              go_wp2_with fail
              refine HCC.out.mono ?_
              rintro e w5 ⟨rfl, g5⟩
              have G5 := Lib.hid (G4.out.trans g5)
              clear g5 hcut
              go_wp2_with fail
              go_roundw
              case rel => exact ⟨k + 1, by first | rfl | go_num, Lib.hid ⟨HLT.out, fun j hj => by
                rcases Nat.lt_or_ge j k with h | h
                · exact H1.out.2 j h
                · obtain rfl : j = k := by omega
                  exact HY.out⟩, G5⟩
              case measure => have := HLT.out; first | omega | (simp only [intOf]; omega) | (simp [intOf]; omega)
    · have hdd : decide (k < L.length) = false := by rw [decide_eq_false_iff_not]; exact hlt
      have hd2 : decide ((k : Int) < (L.length : Int)) = false := by rw [decide_eq_false_iff_not]; omega
      have HF : Hid (mayL L = true) := Lib.hid (by
        rw [HALL.out, List.all_eq_true]
        intro j hj
        have hj : j < L.length := by simpa using hj
        exact H1.out.2 j (by have := H1.out.1; omega))
      clear hlt
      go_wp2_with fail
      go_ret
      exact ⟨by rw [HF.out]; rfl, H2.out⟩


open Go.RowKit Go.Maps

theorem lawS : Keyed Tryd.prog 9 := string_keyed Tryd.underlying9
theorem key_str (s : List UInt8) (hs : s.length ≤ 9223372036854775807) : keyOf Tryd.prog 9 (.string ⟨s.toArray⟩) = some (.string s) := by
  have h := Go.WideMaps.keyOf_string_mk Tryd.underlying9 (s := ⟨s.toArray⟩) (by show s.toArray.size ≤ maxLen; rw [List.size_toArray]; unfold maxLen; exact hs)
  simpa using h
theorem zero3 (w : World) : (zeroValue 3).run Tryd.prog w = .ok (.int .i64 0) w := by kernel_rfl

/-- Block b is a map that tells f, and has the keys K. -/
def MapS (w : World) (b n : Nat) (f : List UInt8 → Int) (K : List (List UInt8)) : Prop :=
  ∃ D : DataW Unit, w.ownsMap Tryd.prog 9 (plainElem Tryd.prog 3) b n D ∧ (∀ s, D.atKey (.string s) (.lit (.int .i64 0)) = .lit (.int .i64 (f s))) ∧ (∀ s, Maps.has D (.string s) = decide (s ∈ K)) ∧ Maps.size D = K.length
def updS (f : List UInt8 → Int) (s : List UInt8) (v : Int) : List UInt8 → Int := fun x => if x = s then v else f x
def addS (K : List (List UInt8)) (s : List UInt8) : List (List UInt8) := if s ∈ K then K else s :: K

section
variable {w w' : World} {b n m : Nat} {f : List UInt8 → Int} {K : List (List UInt8)}
theorem MapS.lt (h : MapS w b n f K) : b < w.heap.size := by obtain ⟨D, h, -⟩ := h; exact h.lt
theorem MapS.kept {row : Option Nat} (h : MapS w b n f K) (g : w.grownBy w' row) (hne : some b ≠ row) : MapS w' b n f K := by obtain ⟨D, h1, h2⟩ := h; exact ⟨D, h1.kept g hne, h2⟩
theorem MapS.chg (h : MapS w b n f K) (g : Chg none w w') : MapS w' b n f K := h.kept g (by simp)
theorem MapS.mono (h : MapS w b n f K) (hm : n ≤ m) : MapS w b m f K := by obtain ⟨D, h1, h2⟩ := h; exact ⟨D, h1.mono hm, h2⟩
theorem MapS.new (w : World) : MapS (w.alloc (.map #[] 0)) w.heap.size 0 (fun _ => 0) [] := ⟨.map [], World.ownsMap_made _ _ _ _, fun _ => rfl, fun _ => rfl, rfl⟩
theorem MapS.look (h : MapS w b n f K) (s : List UInt8) (hs : s.length ≤ 9223372036854775807) : (Instr.lookup 75 (.map (some b)) (.string ⟨s.toArray⟩) false).run Tryd.prog w = .ok (.int .i64 (f s)) w := by
  obtain ⟨D, h, hf, -⟩ := h
  obtain ⟨v, hrun, hat, _⟩ := h.lookup_int lawS Tryd.underlying75 Tryd.underlying3 (zero3 w) (key_str s hs)
  rw [hf s] at hat
  simp only [DataW.lit.injEq, Lit.int.injEq, true_and] at hat
  rw [hat]
  exact hrun
theorem MapS.put (h : MapS w b n f K) (hn : n < maxLen) (s : List UInt8) (hs : s.length ≤ 9223372036854775807) (v : Int) (hv : (Lit.int .i64 v).wf = true) :
    ∃ w', (Instr.mapUpdate 75 (.map (some b)) (.string ⟨s.toArray⟩) (.int .i64 v)).run Tryd.prog w = .ok () w' ∧ MapS w' b (n + 1) (updS f s v) (addS K s) ∧ Chg (some b) w w' := by
  obtain ⟨D, h, hf, hh, hsz⟩ := h
  obtain ⟨w', hrun, hown, hg⟩ := h.update lawS Tryd.underlying75 hn (key_str s hs) (plainElem_int Tryd.underlying3 hv)
  refine ⟨w', hrun, ⟨_, hown, fun x => ?_, fun x => ?_, ?_⟩, hg⟩
  · unfold updS
    by_cases e : x = s
    · subst e
      rw [if_pos rfl, atKey_put_same h.isMap (lawS.key (key_str x hs))]
    · rw [if_neg e, atKey_put_other (fun e2 => e (by simpa using e2))]
      exact hf x
  · unfold addS
    by_cases e : x = s
    · subst e
      rw [has_put_same h.isMap (lawS.key (key_str x hs))]
      split <;> simp_all
    · rw [has_put_other (fun e2 => e (by simpa using e2)), hh x]
      split <;> simp [e]
  · rw [size_put (h.tidy lawS), hh s, hsz]
    unfold addS
    by_cases e : s ∈ K <;> simp [e]
theorem MapS.len (h : MapS w b n f K) (ty : TypeId) : (Builtin.len_ #[75] ty #[.map (some b)]).run Tryd.prog w = .ok (.int .i64 K.length) w := by
  obtain ⟨D, h, -, -, hsz⟩ := h
  rw [h.len Tryd.underlying75, hsz]
end


open Go.RowKit Go.Maps

set_option maxHeartbeats 2000000 in
theorem clo149 (s : List UInt8) (bx b n : Nat) (f : List UInt8 → Int) (K : List (List UInt8)) (w : World) (hs : s.length ≤ 9223372036854775807) (hc : w.cell? ⟨bx, 0, none⟩ = some (.map (some b))) (hm : MapS w b n f K) :
    Calls Tryd.prog 149 #[.string ⟨s.toArray⟩, .pointer (some ⟨bx, 0, none⟩)] w fun e w' => e = .returned (.bool (decide (0 < f s))) ∧ w = w' := by
  have hl := hm.look s hs
  generalize f s = z at *
  clear hm
  go_enter Tryd.func149, Tryd.ntmps149
  go_wp2
  go_ret
  exact ⟨rfl, rfl⟩

def anyM (f : List UInt8 → Int) (D : List (List UInt8)) : Bool := D.any fun s => decide (0 < f s)
def IdxA (f : List UInt8 → Int) (D : List (List UInt8)) (z : Int) : Prop := (z = -1 ∧ anyM f D = false) ∨ ∃ i : Nat, z = i ∧ anyM f D = true
set_option maxHeartbeats 4000000 in
theorem index189 (D : List (List UInt8)) (A : Option Addr) (c bx b n : Nat) (f : List UInt8 → Int) (K : List (List UInt8)) (w : World) (hT : StrsAt w A D) (hl : D.length ≤ 1000) (hc : w.cell? ⟨bx, 0, none⟩ = some (.map (some b))) (hm : MapS w b n f K) :
    Calls Tryd.prog 189 #[.slice A D.length c, .func (.func 149) #[] #[.pointer (some ⟨bx, 0, none⟩)]] w fun e w' => ∃ z : Int, e = .returned (.int .i64 z) ∧ w = w' ∧ IdxA f D z := by
  have HT := Lib.hid hT
  have HL := Lib.hid hl
  have HC : Hid (∀ s ∈ D, Calls Tryd.prog 149 #[.string ⟨s.toArray⟩, .pointer (some ⟨bx, 0, none⟩)] w fun e w' => e = .returned (.bool (decide (0 < f s))) ∧ w = w') := Lib.hid fun s hs => clo149 s bx b n f K w (hT.2 s hs) hc hm
  clear hT hl hm hc
  go_enter Tryd.func189, Tryd.ntmps189
  go_wp2_with fail
  go_loopw [8] (fun s8 wr => wr = w ∧ ∃ k : Nat, s8 = .int .i64 k ∧ Hid (k ≤ D.length ∧ ∀ (j : Nat) g, j < k → D[j]? = some g → decide (0 < f g) = false)) (fun s8 _ => D.length - (intOf s8).toNat)
  case atStart => exact ⟨rfl, 0, rfl, Lib.hid ⟨Nat.zero_le _, fun j g h => absurd h (Nat.not_lt_zero _)⟩⟩
  case round =>
    obtain ⟨hw, k, rfl, H1⟩ := hrel
    subst hw
    by_cases hlt : k < D.length
    · have hd : decide ((k : Int) < (D.length : Int)) = true := by rw [decide_eq_true_eq]; omega
      obtain ⟨x, hkx⟩ : ∃ x, D[k]? = some x := ⟨_, List.getElem?_eq_getElem hlt⟩
      obtain ⟨b2, off, rfl, hb2, x0⟩ := HT.out.one hkx
      have HLT := Lib.hid hlt
      have HKX := Lib.hid hkx
      have HCX := Lib.hid (HC.out x (List.mem_of_getElem? hkx))
      have hkb : (k : Int) ≤ 1000 := by have := HL.out; omega
      clear hkx hlt HC
      cases hp : decide (0 < f x) with
      | true =>
        rw [hp] at HCX
        have HP := Lib.hid hp
        clear hp
        go_wp2_with fail
        refine HCX.out.mono ?_
        rintro e w2 ⟨rfl, rfl⟩
        go_wp2_with fail
        go_ret
        exact ⟨_, rfl, rfl, .inr ⟨k, rfl, List.any_eq_true.2 ⟨_, List.mem_of_getElem? HKX.out, HP.out⟩⟩⟩
      | false =>
        rw [hp] at HCX
        have HP := Lib.hid hp
        clear hp
        go_wp2_with fail
        refine HCX.out.mono ?_
        rintro e w2 ⟨rfl, rfl⟩
        go_wp2_with fail
        go_roundw
        case rel => exact ⟨by first | rfl | trivial, k + 1, by first | rfl | go_num, Lib.hid ⟨HLT.out, fun j g hj hg => by
          rcases Nat.lt_or_ge j k with h | h
          · exact H1.out.2 j g h hg
          · obtain rfl : j = k := by omega
            obtain rfl := Option.some.inj (HKX.out.symm.trans hg)
            exact HP.out⟩⟩
        case measure => have := HLT.out; first | omega | (simp only [intOf]; omega) | (simp [intOf]; omega)
    · have hd : decide (k < D.length) = false := by rw [decide_eq_false_iff_not]; exact hlt
      have hd2 : decide ((k : Int) < (D.length : Int)) = false := by rw [decide_eq_false_iff_not]; omega
      have HE : Hid (anyM f D = false) := Lib.hid (List.any_eq_false.2 fun g hg => by
        obtain ⟨i, hi, hif⟩ := List.getElem_of_mem hg
        rw [H1.out.2 i g (by have := H1.out.1; omega) (by rw [List.getElem?_eq_getElem hi, hif])]
        decide)
      clear hlt
      go_wp2_with fail
      go_ret
      exact ⟨_, rfl, rfl, .inl ⟨rfl, HE.out⟩⟩
set_option maxHeartbeats 4000000 in
theorem contains148 (D : List (List UInt8)) (A : Option Addr) (c bx b n : Nat) (f : List UInt8 → Int) (K : List (List UInt8)) (w : World) (hT : StrsAt w A D) (hl : D.length ≤ 1000) (hc : w.cell? ⟨bx, 0, none⟩ = some (.map (some b))) (hm : MapS w b n f K) :
    Calls Tryd.prog 148 #[.slice A D.length c, .func (.func 149) #[] #[.pointer (some ⟨bx, 0, none⟩)]] w fun e w' => e = .returned (.bool (anyM f D)) ∧ w = w' := by
  have HI := Lib.hid (index189 D A c bx b n f K w hT hl hc hm)
  clear hT hl hc hm
  go_enter Tryd.func148, Tryd.ntmps148
  go_wp2_with fail
  refine HI.out.mono ?_
  rintro e w' ⟨z, rfl, rfl, hz⟩
  rcases hz with ⟨rfl, hh⟩ | ⟨i, rfl, hh⟩
  · have HH := Lib.hid hh
    clear hh
    go_wp2_with fail
    go_ret
    exact ⟨by rw [HH.out]; rfl, rfl⟩
  · have HH := Lib.hid hh
    clear hh
    have hzi : decide ((0 : Int) ≤ (i : Int)) = true := by rw [decide_eq_true_eq]; omega
    go_wp2_with fail
    go_ret
    exact ⟨by rw [HH.out]; rfl, rfl⟩

def mark1 (f : List UInt8 → Int) (t : Tgt) : List UInt8 → Int := if anyM f t.D then updS f t.n 1 else f
def markL (f : List UInt8 → Int) (L : List Tgt) : List UInt8 → Int := L.foldl mark1 f
theorem markL_step {f : List UInt8 → Int} {L : List Tgt} {k : Nat} {t : Tgt} (h : L[k]? = some t) : markL f (L.take (k + 1)) = mark1 (markL f (L.take k)) t := by
  unfold markL
  rw [List.take_add_one, h, List.foldl_append]
  rfl

def MkP (w0 : World) (b n : Nat) (f : List UInt8 → Int) (w' : World) : Prop := (∃ K', MapS w' b n f K') ∧ Chg none w0 w'
set_option maxHeartbeats 16000000 in
set_option maxRecDepth 100000 in
theorem mark_any (L : List Tgt) (A : Option Addr) (c b n : Nat) (f : List UInt8 → Int) (K : List (List UInt8)) (w0 w : World) (hT : TgtsAt w0 A L) (hd : ∀ t ∈ L, t.D.length ≤ 5) (hl : L.length ≤ 20) (hn : n ≤ 1152921504606846976) (hb : w0.heap.size ≤ b) (g0 : Chg none w0 w) (hm : MapS w b n f K) :
    Calls Tryd.prog 103 #[.slice A L.length c, .map (some b)] w fun e w' => e = .returned (.tuple #[]) ∧ MkP w0 b (n + L.length) (markL f L) w' := by
  have HT : Hid (∀ v, Chg none w0 v → TgtsAt v A L) := Lib.hid fun v g => hT.chg g
  have HD := Lib.hid hd
  have HTL : Hid (∀ t ∈ L, t.n.length ≤ 9223372036854775807) := Lib.hid fun t ht => (hT.2 t ht).nl
  have HB := Lib.hid hb
  have HNN := Lib.hid hn
  have HBL := Lib.hid hm.lt
  obtain ⟨W1, hW1⟩ : ∃ W1, W1 = w.alloc (.cells #[.map (some b)] 75) := ⟨_, rfl⟩
  have hbk : Blk W1 w.heap.size #[.map (some b)] 75 := by rw [hW1]; exact Blk.new _ _ _
  have h0 : MapS W1 b n f K ∧ Blk W1 w.heap.size #[.map (some b)] 75 ∧ Chg none w0 W1 := ⟨by rw [hW1]; exact hm.chg ((Chg.refl _ _).alloc _), hbk, by rw [hW1]; exact g0.alloc _⟩
  have H0 := Lib.hid h0
  have hbx : w.heap.size ≠ b := by have := hm.lt; omega
  have HWB := Lib.hid g0.size
  clear hT hd hb hm hbk h0 g0 hn
  go_enter Tryd.func103, Tryd.ntmps103
  go_upto_region 2 with fail
  rw [← hW1]
  generalize w.heap.size = bx at *
  clear hW1
  go_loopw [8] (fun s8 wr => ∃ k : Nat, k ≤ L.length ∧ s8 = .int .i64 k ∧ Hid (∃ K', MapS wr b (n + k) (markL f (L.take k)) K' ∧ Blk wr bx #[.map (some b)] 75 ∧ Chg none w0 wr)) (fun i _ => L.length - (intOf i).toNat)
  case atStart => exact ⟨0, Nat.zero_le _, rfl, Lib.hid ⟨K, H0.out⟩⟩
  case round =>
    obtain ⟨k, hk, rfl, HR⟩ := hrel
    obtain ⟨K', hm, hbk, hg⟩ := HR.out
    by_cases hlt : k < L.length
    · have hdd : decide ((k : Int) < (L.length : Int)) = true := by rw [decide_eq_true_eq]; omega
      obtain ⟨t, hkt⟩ : ∃ t, L[k]? = some t := ⟨_, List.getElem?_eq_getElem hlt⟩
      have hmem := List.mem_of_getElem? hkt
      obtain ⟨bL, off, rfl, hbL, x0, x1, x2, x3⟩ := (HT.out wr hg).one hkt
      have hst := markL_step (f := f) hkt
      obtain ⟨W2, hW2⟩ : ∃ W2, W2 = wr.alloc (.cells (tgtCells t).toArray 77) := ⟨_, rfl⟩
      have g2 : Chg none wr W2 := by rw [hW2]; exact (Chg.refl _ _).alloc _
      have hb2 : Blk W2 wr.heap.size (tgtCells t).toArray 77 := by rw [hW2]; exact Blk.new _ _ _
      have hm2 := hm.chg g2
      have hbk2 := Blk.chg hbk g2 (by simp)
      have HC := Lib.hid (contains148 t.D t.A t.c bx b (n + k) _ K' W2 (((HT.out wr hg).2 t hmem).deps.chg g2) (by have := HD.out t hmem; omega) (by rw [Blk.cell hbk2]; rfl) hm2)
      obtain ⟨F, hF⟩ : ∃ F, F = markL f (L.take k) := ⟨_, rfl⟩
      rw [← hF] at hm2 HC hst
      have HLT := Lib.hid hlt
      have HST := Lib.hid hst
      have y0 : W2.cell? ⟨wr.heap.size, 0, none⟩ = some (.string ⟨t.n.toArray⟩) := hb2.cell 0
      have y1 : W2.cell? ⟨wr.heap.size, 1, none⟩ = some (.slice t.A t.D.length t.c) := hb2.cell 1
      have y5 : W2.cell? ⟨bx, 0, none⟩ = some (.map (some b)) := by rw [Blk.cell hbk2]; rfl
      have HG2 := Lib.hid (hg.trans g2)
      have HW2 : Hid (W2 = wr.alloc (.cells #[.string ⟨t.n.toArray⟩, .slice t.A t.D.length t.c, .int .i64 t.fuel, .slice t.B t.P.length t.d] 77)) := Lib.hid hW2
      have hbW : b < W2.heap.size := hm2.lt
      cases ha : anyM F t.D with
      | false =>
        rw [ha] at HC
        have HEND : Hid (∃ K', MapS W2 b (n + (k + 1)) (markL f (L.take (k + 1))) K' ∧ Blk W2 bx #[.map (some b)] 75 ∧ Chg none w0 W2) := Lib.hid ⟨K', by
          rw [HST.out]
          unfold mark1
          rw [ha]
          exact hm2.mono (by omega), hbk2, HG2.out⟩
        clear hkt hmem hst hm hbk hg g2 hb2 hm2 hbk2 hW2 ha hF hlt
        obtain ⟨tn, tA, tD, tc, tf, tB, tP, td⟩ := t
        dsimp only at x0 x1 x2 x3 y0 y1 HC HW2
        go_upto_region 4 with fail
        rw [← HW2.out]
        clear HW2 x0 x1 x2 x3
        go_wp2_with fail
        refine HC.out.mono ?_
        rintro e w3 ⟨rfl, rfl⟩
        go_wp2_with fail
        go_roundw
        case rel => exact ⟨k + 1, by have := HLT.out; omega, by first | rfl | go_num, HEND⟩
        case measure => have := HLT.out; first | omega | (simp only [intOf]; omega) | (simp [intOf]; omega)
      | true =>
        rw [ha] at HC
        obtain ⟨W3, hput, hm3, g3⟩ := hm2.put (by have := HNN.out; unfold maxLen; omega) t.n (HTL.out t hmem) 1 (by decide)
        have HEND : Hid (∃ K', MapS W3 b (n + (k + 1)) (markL f (L.take (k + 1))) K' ∧ Blk W3 bx #[.map (some b)] 75 ∧ Chg none w0 W3) := Lib.hid ⟨_, by
          rw [HST.out]
          unfold mark1
          rw [ha, if_pos rfl]
          exact hm3, Blk.chg hbk2 g3 (by simpa using hbx), Chg.own HG2.out g3 HB.out⟩
        clear hkt hmem hst hm hbk hg g2 hb2 hm2 hbk2 hW2 ha hF hlt hm3 g3
        obtain ⟨tn, tA, tD, tc, tf, tB, tP, td⟩ := t
        dsimp only at x0 x1 x2 x3 y0 y1 HC HW2 hput
        go_upto_region 4 with fail
        rw [← HW2.out]
        clear HW2 x0 x1 x2 x3
        go_wp2_with fail
        refine HC.out.mono ?_
        rintro e w3 ⟨rfl, rfl⟩
        go_wp2_with fail
        go_roundw
        case rel => exact ⟨k + 1, by have := HLT.out; omega, by first | rfl | go_num, HEND⟩
        case measure => have := HLT.out; first | omega | (simp only [intOf]; omega) | (simp [intOf]; omega)
    · have hkl : k = L.length := by omega
      have hdd : decide (k < L.length) = false := by rw [decide_eq_false_iff_not]; exact hlt
      have hd2 : decide ((k : Int) < (L.length : Int)) = false := by rw [decide_eq_false_iff_not]; omega
      have HE : Hid (MkP w0 b (n + L.length) (markL f L) wr) := Lib.hid ⟨⟨K', by
        have := hm
        rw [hkl, List.take_length] at this
        exact this⟩, hg⟩
      clear hm hbk hg hlt hkl
      go_wp2_with fail
      first | go_end0 | go_ret
      exact ⟨rfl, HE.out⟩


open Go.RowKit Go.Maps

theorem putRow_chg {enc : List UInt8 → Value} {w : World} {g o n : Nat} {d : Array (List UInt8)} {os : Array Obj} : Chg (some g) w (Go.Sort.grow (Go.Sort.putRow enc (Go.Sort.ahead w n) g o d) os) := by
  refine ⟨rfl, rfl, rfl, by rw [Go.Sort.size_grow, Go.Sort.size_putRow]; exact Nat.le_add_right _ _, fun i hi hn => ?_⟩
  unfold Go.Sort.grow Go.Sort.putRow Go.Sort.mapBlock Go.Sort.ahead
  show (Array.modify w.heap g _ ++ os)[i]? = w.heap[i]?
  rw [Array.getElem?_append_left (by simpa using hi), Array.getElem?_modify, if_neg (fun e => hn (by rw [e]))]

def sortS (R : List (List UInt8)) : List (List UInt8) := R.mergeSort fun x y => decide (x ≤ y)
theorem sortS_perm (R : List (List UInt8)) : (sortS R).Perm R := List.mergeSort_perm _ _
theorem sort104 {R : List (List UInt8)} {A : Option Addr} {c B : Nat} {w : World} (h : w.ownsRow B 9 1 (.slice A R.length c) R.length (R.flatMap strC)) (hl : R.length ≤ 1000) :
    Calls Tryd.prog 104 #[.slice A R.length c] w fun e w' => e = .returned (.tuple #[]) ∧ RowsAt w' 1 A strC (sortS R) ∧ ∀ u, Chg none u w → u.heap.size ≤ B → Chg none u w' := by
  cases R with
  | nil =>
    exact (Tryd.slices_Sort_string_none A c w).mono fun e w' ⟨he, hw⟩ => ⟨he, fun hne => absurd (show sortS [] = [] by unfold sortS; simp) hne, fun u g _ => by rw [hw]; exact g⟩
  | cons s R =>
    rcases h.2 with ⟨-, h0⟩ | ⟨g, cap, cur, h1, hB, hg, hn, hm, hs, ht⟩
    · cases h0
    · injection h1 with hA _ hc
      subst hA hc
      have hlt : g < w.heap.size := (Array.getElem?_eq_some_iff.1 hg).1
      have hH : Go.Sort.Holds encStr w g 0 (s :: R).toArray := fun j hj => by
        have hj : j < (s :: R).length := by simpa using hj
        obtain ⟨x, hx⟩ : ∃ x, (s :: R)[j]? = some x := ⟨_, List.getElem?_eq_getElem hj⟩
        have h2 := flat_get strC 1 (fun _ => rfl) (s :: R) j 0 x hx (by omega)
        rw [← ht, List.getElem?_take, if_pos (by omega)] at h2
        constructor
        · have e : (s :: R).toArray[j]! = x := by
            rw [getElem!_def]
            simp only [List.getElem?_toArray]
            rw [hx]
          rw [e]
          have h3 : cur[j]? = some (.string ⟨x.toArray⟩) := by
            simpa [strC] using h2
          simp [World.cell?, hg, h3]
        · simp [World.frozen?, hg]
      refine (Tryd.slices_Sort_string g 0 c (s :: R) w hH hlt (by omega)).mono fun e w' ⟨he, n, os, hw⟩ => ⟨he, ?_, fun u k hu => ?_⟩
      · have hsz : (sortS (s :: R)).toArray.size = (s :: R).toArray.size := by simp [(sortS_perm (s :: R)).length_eq]
        have hh := Go.Sort.holds_putRow encStr (Go.Sort.ahead w n) g 0 (s :: R).toArray (sortS (s :: R)).toArray (Go.Sort.holds_ahead _ _ _ _ _ _ hH) hsz
        have hh2 := Go.Sort.holds_grow encStr _ os g 0 _ (by rw [Go.Sort.size_putRow]; exact hlt) hh
        have hlt' : g < w'.heap.size := by rw [hw, Go.Sort.size_grow, Go.Sort.size_putRow]; exact Nat.lt_of_lt_of_le hlt (Nat.le_add_right _ _)
        rw [hw] at hlt' ⊢
        refine fun _ => ⟨g, 0, rfl, hlt', fun i a hi j hj => ?_⟩
        obtain rfl : j = 0 := by omega
        have hi2 : i < (sortS (s :: R)).toArray.size := by simpa using (List.getElem?_eq_some_iff.1 hi).1
        have h3 := (hh2 i hi2).1
        have e : (sortS (s :: R)).toArray[i]! = a := by
          rw [getElem!_def]
          simp only [List.getElem?_toArray]
          rw [hi]
        rw [e] at h3
        rw [Nat.mul_one, Nat.add_zero]
        exact h3
      · rw [hw]
        exact Chg.own k putRow_chg (by omega)

def updAll (f : List UInt8 → Int) (S : List (List UInt8)) : List UInt8 → Int := S.foldl (fun f s => updS f s 1) f
theorem updAll_step {f : List UInt8 → Int} {S : List (List UInt8)} {k : Nat} {s : List UInt8} (h : S[k]? = some s) : updAll f (S.take (k + 1)) = updS (updAll f (S.take k)) s 1 := by
  unfold updAll
  rw [List.take_add_one, h, List.foldl_append]
  rfl
def markN (L : List Tgt) : Nat → (List UInt8 → Int) → List UInt8 → Int
  | 0, f => f
  | k + 1, f => markL (markN L k f) L
def dirtyF (L : List Tgt) (S : List (List UInt8)) : List UInt8 → Int := markN L L.length (updAll (fun _ => 0) S)
def namesF (f : List UInt8 → Int) (L : List Tgt) : List (List UInt8) := (L.filter fun t => decide (0 < f t.n)).map (·.n)
theorem namesF_step {f : List UInt8 → Int} {L : List Tgt} {k : Nat} {t : Tgt} (h : L[k]? = some t) : namesF f (L.take (k + 1)) = namesF f (L.take k) ++ if decide (0 < f t.n) then [t.n] else [] := by
  unfold namesF
  rw [List.take_add_one, h, List.filter_append, List.map_append]
  congr 1
  simp only [Option.toList_some, List.filter_cons, List.filter_nil]
  split <;> rfl
theorem namesF_len (f : List UInt8 → Int) (L : List Tgt) : (namesF f L).length ≤ L.length := by unfold namesF; rw [List.length_map]; exact List.length_filter_le _ _
def dirtyL (L : List Tgt) (S : List (List UInt8)) : List (List UInt8) := sortS (namesF (dirtyF L S) L)

/-- What Dirty tells. -/
def DirP (w : World) (L : List Tgt) (S : List (List UInt8)) (e : Ending) (w' : World) : Prop :=
  ∃ (A : Option Addr) (c : Nat) (R : List (List UInt8)) (n : Int), e = .returned (.tuple #[.slice A R.length c, .int .i64 n]) ∧ Chg none w w' ∧ RowsAt w' 1 A strC R ∧ ((mayL L = false ∧ n = 2 ∧ R = []) ∨ (mayL L = true ∧ n = 0 ∧ R = dirtyL L S)) ∧ R.length ≤ 20

set_option maxHeartbeats 32000000 in
set_option maxRecDepth 100000 in
theorem dirty_any (L : List Tgt) (A : Option Addr) (c : Nat) (S : List (List UInt8)) (B : Option Addr) (d : Nat) (w : World) (hT : TgtsAt w A L) (hS : StrsAt w B S) (hF : Flds w) (hl : L.length ≤ 9223372036854775807) (hcap : L.length ≤ c) (hsl : S.length ≤ 1000000000000000) :
    Calls Tryd.prog 53 #[.slice A L.length c, .slice B S.length d] w (DirP w L S) := by
  have HM := Lib.hid (pmay_any L A c w hT hF hl hcap)
  have HT : Hid (∀ v, Chg none w v → TgtsAt v A L) := Lib.hid fun v g => hT.chg g
  have HS : Hid (∀ v, Chg none w v → StrsAt v B S) := Lib.hid fun v g => hS.chg g
  have HSL := Lib.hid hsl
  obtain ⟨i0, hi0, hz0, hz1, hz2⟩ := info_parts Tryd.info9
  cases hm : mayL L with
  | false =>
    rw [hm] at HM
    have HMF := Lib.hid hm
    clear hT hS hF hl hcap hsl hm
    go_enter Tryd.func53, Tryd.ntmps53
    go_wp2_with fail
    refine HM.out.mono ?_
    rintro e w2 ⟨rfl, g2⟩
    have HE : Hid (DirP w L S (.returned (.tuple #[.slice none 0 0, .int .i64 2])) w2) := Lib.hid ⟨none, 0, [], 2, rfl, g2, fun hne => absurd rfl hne, .inl ⟨HMF.out, rfl, rfl⟩, Nat.zero_le _⟩
    clear g2
    go_wp2_with fail
    go_ret2
    exact HE.out
  | true =>
  rw [hm] at HM
  obtain ⟨h20, hmt, -⟩ := mayL_of hm
  have HD5 : Hid (∀ t ∈ L, t.D.length ≤ 5) := Lib.hid fun t ht => by
    have h := hmt t ht
    unfold mayTgt at h
    rw [Bool.and_eq_true, Bool.and_eq_true] at h
    exact (dep_name h.2.1).1
  have HMT := Lib.hid hm
  have H20 := Lib.hid h20
  have HTL : Hid (∀ t ∈ L, t.n.length ≤ 9223372036854775807) := Lib.hid fun t ht => (hT.2 t ht).nl
  clear hT hS hF hl hcap hm hmt
  go_enter Tryd.func53, Tryd.ntmps53
  go_wp2_with fail
  refine HM.out.mono ?_
  rintro e w2 ⟨rfl, g2⟩
  have G2 := Lib.hid g2
  clear g2 HM
  have hmk := run_makeMap (P := Tryd.prog) 75 w2
  go_upto_region 5 with fail
  obtain ⟨W3, hW3⟩ : ∃ W, W = w2.alloc (.map #[] 0) := ⟨_, rfl⟩
  have H3 : Hid (MapS W3 w2.heap.size 0 (fun _ => 0) [] ∧ Chg none w W3) := Lib.hid (by rw [hW3]; exact ⟨MapS.new w2, G2.out.alloc _⟩)
  have HBW : Hid (w.heap.size ≤ w2.heap.size) := Lib.hid G2.out.size
  rw [← hW3]
  clear hW3
  generalize w2.heap.size = b at *
  go_loopw [18] (fun i wr => ∃ k : Nat, k ≤ S.length ∧ i = .int .i64 k ∧ Hid (∃ K, MapS wr b k (updAll (fun _ => 0) (S.take k)) K ∧ Chg none w wr)) (fun i _ => S.length - (intOf i).toNat)
  case atStart => exact ⟨0, Nat.zero_le _, rfl, Lib.hid ⟨[], H3.out⟩⟩
  case round =>
    obtain ⟨k, hk, rfl, HR⟩ := hrel
    obtain ⟨K, hm, hg⟩ := HR.out
    by_cases hlt : k < S.length
    · have hdd : decide ((k : Int) < (S.length : Int)) = true := by rw [decide_eq_true_eq]; omega
      obtain ⟨s, hks⟩ : ∃ s, S[k]? = some s := ⟨_, List.getElem?_eq_getElem hlt⟩
      obtain ⟨b2, off, rfl, hb2, x0⟩ := (HS.out wr hg).one hks
      obtain ⟨W4, hput, hm4, g4⟩ := hm.put (by unfold maxLen; omega) s ((HS.out wr hg).2 s (List.mem_of_getElem? hks)) 1 (by decide)
      have HEND : Hid (∃ K, MapS W4 b (k + 1) (updAll (fun _ => 0) (S.take (k + 1))) K ∧ Chg none w W4) := Lib.hid ⟨_, by rw [updAll_step hks]; exact hm4, Chg.own hg g4 HBW.out⟩
      have HLT := Lib.hid hlt
      have hbw : b < wr.heap.size := hm.lt
      clear hks hm hg hm4 g4 hlt
      go_wp2_with fail
      go_roundw
      case rel => exact ⟨k + 1, by have := HLT.out; omega, by first | rfl | go_num, HEND⟩
      case measure => have := HLT.out; first | omega | (simp only [intOf]; omega) | (simp [intOf]; omega)
    · have hkl : k = S.length := by omega
      have hdd : decide (k < S.length) = false := by rw [decide_eq_false_iff_not]; exact hlt
      have hd2 : decide ((k : Int) < (S.length : Int)) = false := by rw [decide_eq_false_iff_not]; omega
      have HA : Hid (∃ K, MapS wr b S.length (updAll (fun _ => 0) S) K ∧ Chg none w wr) := Lib.hid (by
        have := HR.out
        rw [hkl, List.take_length] at this
        exact this)
      obtain ⟨w1, hw1⟩ : ∃ w1 : World, w1 = wr := ⟨_, rfl⟩
      subst hw1
      clear hm hg hlt hkl
      clear HR H3
      go_wp2_with fail
      go_loopw [27] (fun i wr => ∃ k : Nat, k ≤ L.length ∧ i = .int .i64 k ∧ Hid (∃ K, MapS wr b (S.length + 20 * k) (markN L k (updAll (fun _ => 0) S)) K ∧ Chg none w wr)) (fun i _ => L.length - (intOf i).toNat)
      case atStart => exact ⟨0, Nat.zero_le _, rfl, HA⟩
      case round =>
        obtain ⟨k, hk, rfl, HR⟩ := hrel
        obtain ⟨K, hm, hg⟩ := HR.out
        by_cases hlt : k < L.length
        · have hdd : decide ((k : Int) < (L.length : Int)) = true := by rw [decide_eq_true_eq]; omega
          have HMK := Lib.hid (mark_any L A c b (S.length + 20 * k) _ K w wr (HT.out w (Chg.refl _ _)) HD5.out H20.out (by have := HSL.out; omega) HBW.out hg hm)
          have HLT := Lib.hid hlt
          clear hm hg hlt
          go_wp2_with fail
          refine HMK.out.mono ?_
          rintro e w4 ⟨rfl, ⟨K', hm4⟩, g4⟩
          have HEND : Hid (∃ K, MapS w4 b (S.length + 20 * (k + 1)) (markN L (k + 1) (updAll (fun _ => 0) S)) K ∧ Chg none w w4) := Lib.hid ⟨K', hm4.mono (by have := H20.out; omega), g4⟩
          clear hm4 g4 HMK
          go_wp2_with fail
          go_roundw
          case rel => exact ⟨k + 1, by have := HLT.out; omega, by first | rfl | go_num, HEND⟩
          case measure => have := HLT.out; first | omega | (simp only [intOf]; omega) | (simp [intOf]; omega)
        · have hkl : k = L.length := by omega
          have hdd : decide (k < L.length) = false := by rw [decide_eq_false_iff_not]; exact hlt
          have hd2 : decide ((k : Int) < (L.length : Int)) = false := by rw [decide_eq_false_iff_not]; omega
          have HB : Hid (∃ K, MapS wr b (S.length + 20 * L.length) (dirtyF L S) K ∧ Chg none w wr) := Lib.hid (by
            have := HR.out
            rw [hkl] at this
            exact this)
          obtain ⟨w1, hw1⟩ : ∃ w1 : World, w1 = wr := ⟨_, rfl⟩
          subst hw1
          clear hm hg hlt hkl HR HA
          have HDL : Hid (dirtyL L S = sortS (namesF (dirtyF L S) L)) := Lib.hid rfl
          generalize dirtyF L S = F at *
          go_wp2_with fail
          go_loopw [9, 35] (fun s9 i wr => ∃ (k : Nat) (A5 : Option Addr) (c5 : Nat), k ≤ L.length ∧ i = .int .i64 k ∧ s9 = .slice A5 (namesF F (L.take k)).length c5 ∧ Hid ((∃ K, MapS wr b (S.length + 20 * L.length) F K) ∧ wr.ownsRow (b + 1) 9 1 (.slice A5 (namesF F (L.take k)).length c5) (namesF F (L.take k)).length ((namesF F (L.take k)).flatMap strC) ∧ Chg none w wr)) (fun _ i _ => L.length - (intOf i).toNat)
          case atStart =>
            obtain ⟨K, h1, h2⟩ := HB.out
            exact ⟨0, none, 0, Nat.zero_le _, rfl, rfl, Lib.hid ⟨⟨K, h1⟩, World.ownsRow_nil _ _ _ _, h2⟩⟩
          case round =>
            obtain ⟨k, A5, c5, hk, rfl, rfl, HR⟩ := hrel
            obtain ⟨⟨K, hm⟩, hown, hg⟩ := HR.out
            have hm20 : (namesF F (L.take k)).length ≤ k := Nat.le_trans (namesF_len _ _) (by rw [List.length_take]; omega)
            by_cases hlt : k < L.length
            · have hdd : decide ((k : Int) < (L.length : Int)) = true := by rw [decide_eq_true_eq]; omega
              obtain ⟨t, hkt⟩ : ∃ t, L[k]? = some t := ⟨_, List.getElem?_eq_getElem hlt⟩
              obtain ⟨bL, off, rfl, hbL, x0, x1, x2, x3⟩ := (HT.out wr hg).one hkt
              have hst := namesF_step (f := F) hkt
              obtain ⟨W2, hW2⟩ : ∃ W2, W2 = wr.alloc (.cells (tgtCells t).toArray 77) := ⟨_, rfl⟩
              have g2 : Chg none wr W2 := by rw [hW2]; exact (Chg.refl _ _).alloc _
              have hb2 : Blk W2 wr.heap.size (tgtCells t).toArray 77 := by rw [hW2]; exact Blk.new _ _ _
              have hm2 := hm.chg g2
              have hown2 := hown.kept g2 (own_none _)
              have hlook := hm2.look t.n (HTL.out t (List.mem_of_getElem? hkt))
              have HLT := Lib.hid hlt
              have y0 : W2.cell? ⟨wr.heap.size, 0, none⟩ = some (.string ⟨t.n.toArray⟩) := hb2.cell 0
              have HW2 : Hid (W2 = wr.alloc (.cells #[.string ⟨t.n.toArray⟩, .slice t.A t.D.length t.c, .int .i64 t.fuel, .slice t.B t.P.length t.d] 77)) := Lib.hid hW2
              have HG2 := Lib.hid (hg.trans g2)
              have HM2 := Lib.hid hm2
              have HO2 := Lib.hid hown2
              obtain ⟨NM, hNM⟩ : ∃ NM, NM = namesF F (L.take k) := ⟨_, rfl⟩
              rw [← hNM] at HO2 hst hm20 ⊢
              have hbw : b < W2.heap.size := hm2.lt
              cases hz : decide (0 < F t.n) with
              | false =>
                rw [hz] at hst
                have HEND : Hid (namesF F (L.take (k + 1)) = NM) := Lib.hid (by rw [hst]; simp)
                clear hkt hm hown hg hst g2 hb2 hm2 hown2 hW2 hNM hlt
                obtain ⟨tn, tA, tD, tc, tf, tB, tP, td⟩ := t
                dsimp only at x0 x1 x2 x3 y0 hlook HW2 hz
                generalize F tn = z at *
                go_upto_region 17 with fail
                rw [← HW2.out]
                clear HW2 x0 x1 x2 x3
                go_wp2_with fail
                go_roundw
                case rel => exact ⟨k + 1, A5, c5, by have := HLT.out; omega, by first | rfl | go_num, by rw [HEND.out], Lib.hid ⟨⟨K, HM2.out⟩, by rw [HEND.out]; exact HO2.out, HG2.out⟩⟩
                case measure => have := HLT.out; first | omega | (simp only [intOf]; omega) | (simp [intOf]; omega)
              | true =>
                rw [hz] at hst
                have HEND : Hid (namesF F (L.take (k + 1)) = NM ++ [t.n]) := Lib.hid (by rw [hst]; simp)
                have HRR : Hid (∀ W : World, Reads (W.alloc (.cells #[.string ⟨t.n.toArray⟩] 9)) (W.heap.size + 1) 1 (some ⟨W.heap.size, 0, none⟩) 1 [.string ⟨t.n.toArray⟩]) := Lib.hid fun W => ⟨rfl, fun _ => ⟨_, rfl, Nat.lt_succ_self _, fun j u hu => by
                  rw [Go.WideShapes.add_plain, Blk.cell (Blk.new W _ _)]
                  simpa using hu⟩⟩
                have HO9 := Lib.hid (show ∀ u ∈ [Value.string ⟨t.n.toArray⟩], u.oneCell' = true by intro u hu; simp at hu; subst hu; rfl)
                have hs1 : NM.length + 1 ≤ maxLen := by have := H20.out; unfold maxLen; omega
                have hs2 : (NM.length + 1) * 16 ≤ 140737488355328 := by have := H20.out; omega
                clear hkt hm hown hg hst g2 hb2 hm2 hown2 hW2 hNM hlt
                obtain ⟨tn, tA, tD, tc, tf, tB, tP, td⟩ := t
                dsimp only at x0 x1 x2 x3 y0 hlook HW2 hz HEND HRR HO9
                generalize F tn = z at *
                go_upto_region 17 with fail
                rw [← HW2.out]
                clear HW2 x0 x1 x2 x3
                go_upto_region 19 with (first
                  | (refine wpList_append_any _ rfl (.tmp 44) (.tmp 47) 64 rfl (b + 1) 9 i0 (.string ⟨#[]⟩) 1 16 Tryd.underlying64 hi0 hz0 hz1 hz2 rfl (by decide) (.slice A5 NM.length c5) NM.length _ rfl (HO2.out.alloc _) _ (some ⟨W2.heap.size, 0, none⟩) 1 1 [.string ⟨tn.toArray⟩] rfl (HRR.out W2) HO9.out hs1 hs2 (by simp; omega) ?_
                     intro v6 w6 hown6 hgr6 _
                     have HG6 := Lib.hid (Chg.ownRow (HG2.out.alloc (.cells #[.string ⟨tn.toArray⟩] 9)) hgr6 (fun x hx => by have := (HO2.out.lt x hx).1; have := HBW.out; omega))
                     have HM6 := Lib.hid ((HM2.out.chg ((Chg.refl _ _).alloc (.cells #[.string ⟨tn.toArray⟩] 9))).kept hgr6 (fun e => by have := (HO2.out.lt _ e.symm).1; omega))
                     obtain ⟨A6, c6, rfl⟩ := own_slice hown6
                     have HO6 : Hid (w6.ownsRow (b + 1) 9 1 (.slice A6 (NM ++ [tn]).length c6) (NM ++ [tn]).length ((NM ++ [tn]).flatMap strC)) := Lib.hid (by
                       rw [List.length_append, List.flatMap_append]
                       exact hown6)
                     clear hown6 hgr6))
                go_wp2_with fail
                go_roundw
                case rel => exact ⟨k + 1, A6, c6, by have := HLT.out; omega, by first | rfl | go_num, by rw [HEND.out, List.length_append]; rfl, Lib.hid ⟨⟨K, HM6.out⟩, by rw [HEND.out]; exact HO6.out, HG6.out⟩⟩
                case measure => have := HLT.out; first | omega | (simp only [intOf]; omega) | (simp [intOf]; omega)
            · have hkl : k = L.length := by omega
              have hdd : decide (k < L.length) = false := by rw [decide_eq_false_iff_not]; exact hlt
              have hd2 : decide ((k : Int) < (L.length : Int)) = false := by rw [decide_eq_false_iff_not]; omega
              rw [hkl, List.take_length] at hown hm20
              rw [hkl, List.take_length]
              have HSO := Lib.hid (sort104 hown (by have := H20.out; omega))
              have HG := Lib.hid hg
              have HLN : Hid ((sortS (namesF F L)).length = (namesF F L).length) := Lib.hid (sortS_perm _).length_eq
              have HN20 : Hid ((namesF F L).length ≤ 20) := Lib.hid (by have := H20.out; omega)
              clear hm hown hg hlt HR
              subst hkl
              go_wp2_with fail
              refine HSO.out.mono ?_
              rintro e w6 ⟨rfl, hr6, hg6⟩
              have HE : Hid (DirP w L S (.returned (.tuple #[.slice A5 (namesF F L).length c5, .int .i64 0])) w6) := Lib.hid ⟨A5, c5, dirtyL L S, 0, by rw [HDL.out, HLN.out], hg6 w HG.out (by have := HBW.out; omega), by rw [HDL.out]; exact hr6, .inr ⟨HMT.out, rfl, rfl⟩, by rw [HDL.out, HLN.out]; exact HN20.out⟩
              clear hr6 hg6 HSO
              go_wp2_with fail
              go_ret2
              exact HE.out


open Go.RowKit Go.Maps

theorem MapS.look_ok {w : World} {b n : Nat} {f : List UInt8 → Int} {K : List (List UInt8)} (h : MapS w b n f K) (s : List UInt8) (hs : s.length ≤ 9223372036854775807) :
    (Instr.lookup 75 (.map (some b)) (.string ⟨s.toArray⟩) true).run Tryd.prog w = .ok (.tuple #[.int .i64 (f s), .bool (decide (s ∈ K))]) w := by
  obtain ⟨D, h, hf, hh, -⟩ := h
  have hw0 : (Lit.int .i64 0).wf = true := by decide
  obtain ⟨v, ps, hrun, hv⟩ := h.look_ok lawS Tryd.underlying75 (zero3 w) (plainElem_int Tryd.underlying3 hw0) (key_str s hs)
  obtain ⟨c, rfl, hc, hwc⟩ := plainElem_int_inv Tryd.underlying3 hv
  simp only [Prod.mk.injEq] at hc
  rw [hf s] at hc
  have e : f s = c := by simpa using hc.1
  rw [e, ← hh s]
  exact hrun

def allT (f : List UInt8 → Int) (D : List (List UInt8)) : Bool := D.all fun s => f s != 0
set_option maxHeartbeats 4000000 in
set_option maxRecDepth 100000 in
theorem told_any (D : List (List UInt8)) (A : Option Addr) (c b n : Nat) (f : List UInt8 → Int) (K : List (List UInt8)) (w : World) (hT : StrsAt w A D) (hl : D.length ≤ 1000) (hm : MapS w b n f K) :
    Calls Tryd.prog 99 #[.slice A D.length c, .map (some b)] w fun e w' => e = .returned (.bool (allT f D)) ∧ w = w' := by
  have HT := Lib.hid hT
  have HL := Lib.hid hl
  have HM := Lib.hid hm
  clear hT hl hm
  go_enter Tryd.func99, Tryd.ntmps99
  go_wp2_with fail
  go_loopw [9] (fun s8 wr => wr = w ∧ ∃ k : Nat, s8 = .int .i64 k ∧ Hid (k ≤ D.length ∧ ∀ (j : Nat) g, j < k → D[j]? = some g → (f g != 0) = true)) (fun s8 _ => D.length - (intOf s8).toNat)
  case atStart => exact ⟨rfl, 0, rfl, Lib.hid ⟨Nat.zero_le _, fun j g h => absurd h (Nat.not_lt_zero _)⟩⟩
  case round =>
    obtain ⟨hw, k, rfl, H1⟩ := hrel
    subst hw
    by_cases hlt : k < D.length
    · have hd : decide ((k : Int) < (D.length : Int)) = true := by rw [decide_eq_true_eq]; omega
      obtain ⟨x, hkx⟩ : ∃ x, D[k]? = some x := ⟨_, List.getElem?_eq_getElem hlt⟩
      obtain ⟨b2, off, rfl, hb2, x0⟩ := HT.out.one hkx
      have HLT := Lib.hid hlt
      have HKX := Lib.hid hkx
      have hlook := HM.out.look x (HT.out.2 x (List.mem_of_getElem? hkx))
      have hkb : (k : Int) ≤ 1000 := by have := HL.out; omega
      obtain ⟨z, hz⟩ : ∃ z, z = f x := ⟨_, rfl⟩
      rw [← hz] at hlook
      have HZ := Lib.hid hz
      clear hkx hlt hz
      by_cases hp : z = 0
      · have e1 : (z == 0) = true := by rw [beq_iff_eq]; exact hp
        have HE : Hid (allT f D = false) := Lib.hid (by
          unfold allT
          rw [List.all_eq_false]
          exact ⟨x, List.mem_of_getElem? HKX.out, by rw [← HZ.out, hp]; decide⟩)
        clear hp
        go_wp2_with fail
        go_ret
        exact ⟨by rw [HE.out]; rfl, rfl⟩
      · have e1 : (z == 0) = false := by rw [beq_eq_false_iff_ne]; exact hp
        have HP : Hid ((f x != 0) = true) := Lib.hid (by rw [← HZ.out, bne_iff_ne]; exact hp)
        clear hp
        go_wp2_with fail
        go_roundw
        case rel => exact ⟨by first | rfl | trivial, k + 1, by first | rfl | go_num, Lib.hid ⟨HLT.out, fun j g hj hg => by
          rcases Nat.lt_or_ge j k with h | h
          · exact H1.out.2 j g h hg
          · obtain rfl : j = k := by omega
            obtain rfl := Option.some.inj (HKX.out.symm.trans hg)
            exact HP.out⟩⟩
        case measure => have := HLT.out; first | omega | (simp only [intOf]; omega) | (simp [intOf]; omega)
    · have hd : decide (k < D.length) = false := by rw [decide_eq_false_iff_not]; exact hlt
      have hd2 : decide ((k : Int) < (D.length : Int)) = false := by rw [decide_eq_false_iff_not]; omega
      have HE : Hid (allT f D = true) := Lib.hid (by
        unfold allT
        rw [List.all_eq_true]
        intro g hg
        obtain ⟨i, hi, hif⟩ := List.getElem_of_mem hg
        exact H1.out.2 i g (by have := H1.out.1; omega) (by rw [List.getElem?_eq_getElem hi, hif]))
      clear hlt
      go_wp2_with fail
      go_ret
      exact ⟨by rw [HE.out]; rfl, rfl⟩


open Go.RowKit Go.Maps

theorem cut_one (g o n c : Nat) (hn : 1 ≤ n) (hc : n ≤ c) (w : World) :
    (Instr.sliceAt 64 (.slice (some ⟨g, o, none⟩) n c) (some (.int .i64 1)) none none).run Tryd.prog w = .ok (.slice (if c = 1 then some ⟨g, o, none⟩ else some ⟨g, o + 1, none⟩) (n - 1) (c - 1)) w := by
  have u25 := Tryd.underlying64
  have z38 := Tryd.sizeOf9
  have h4 : (1 : Int) ≤ n := by omega
  have h5 : (n : Int) ≤ c := by omega
  have h6 : (1 : Int) ≤ c := by omega
  go_simp

def QAt (w : World) (base : Nat) (v : Value) (xs : List (List UInt8)) : Prop :=
  ∃ b off cap, v = .slice (some ⟨b, off, none⟩) xs.length cap ∧ base ≤ b ∧ b < w.heap.size ∧ xs.length ≤ cap ∧ cap ≤ maxLen ∧ (∀ j, j < cap → (w.cell? ⟨b, off + j, none⟩).isSome = true ∧ w.frozen? ⟨b, off + j, none⟩ = false) ∧ ∀ j s, xs[j]? = some s → w.cell? ⟨b, off + j, none⟩ = some (.string ⟨s.toArray⟩)

theorem cell_grown {w w' : World} {row : Option Nat} (g : w.grownBy w' row) {a : Addr} (hl : a.block < w.heap.size) (hne : some a.block ≠ row) : w'.cell? a = w.cell? a ∧ w'.frozen? a = w.frozen? a := by
  have e := g.block a.block hl hne
  constructor
  · simp only [World.cell?, e]
  · simp only [World.frozen?, e]

theorem tape_setCells (b : Nat) : ∀ (vs : List Value) (o : Nat) (w : World), (w.setCells b o vs).tape = w.tape
  | [], _, _ => rfl
  | v :: vs, o, w => tape_setCells b vs (o + 1) (w.setCell ⟨b, o, none⟩ v)

section
variable {w w' : World} {base : Nat} {v : Value} {xs : List (List UInt8)}
theorem QAt.lt (h : QAt w base v xs) : ∀ g, v.ownBlock = some g → base ≤ g ∧ g < w.heap.size := by
  obtain ⟨b, off, cap, rfl, hb, hg, -⟩ := h
  intro g hg2
  obtain rfl : b = g := by simpa [Value.ownBlock] using hg2
  exact ⟨hb, hg⟩
theorem QAt.kept {row : Option Nat} (h : QAt w base v xs) (g : w.grownBy w' row) (hne : v.ownBlock ≠ row) : QAt w' base v xs := by
  obtain ⟨b, off, cap, rfl, hb, hg, hn, hm, hs, hc⟩ := h
  have hne2 : some b ≠ row := by simpa [Value.ownBlock] using hne
  refine ⟨b, off, cap, rfl, hb, Nat.lt_of_lt_of_le hg g.size, hn, hm, fun j hj => ?_, fun j s hj => ?_⟩
  · rw [(cell_grown g (a := ⟨b, off + j, none⟩) hg hne2).1, (cell_grown g (a := ⟨b, off + j, none⟩) hg hne2).2]
    exact hs j hj
  · rw [(cell_grown g (a := ⟨b, off + j, none⟩) hg hne2).1]
    exact hc j s hj
theorem QAt.own (h : w.ownsRow base 9 1 v xs.length (xs.flatMap strC)) (hne : v ≠ .slice none 0 0) : QAt w base v xs := by
  rcases h.2 with ⟨h1, -⟩ | ⟨g, cap, cur, rfl, hb, hg, hn, hm, hs, ht⟩
  · exact absurd h1 hne
  · refine ⟨g, 0, cap, rfl, hb, (Array.getElem?_eq_some_iff.1 hg).1, hn, hm, fun j hj => ⟨?_, by simp [World.frozen?, hg]⟩, fun j s hj => ?_⟩
    · have hj2 : 0 + j < cur.size := by omega
      have h3 := Array.getElem?_eq_getElem hj2
      simp only [World.cell?, hg, h3]
      rfl
    · have hl := (List.getElem?_eq_some_iff.1 hj).1
      have h2 := flat_get strC 1 (fun _ => rfl) xs j 0 s hj (by omega)
      rw [← ht, List.getElem?_take, if_pos (by omega)] at h2
      have h3 : cur[0 + j]? = some (.string ⟨s.toArray⟩) := by simpa [strC] using h2
      simp only [World.cell?, hg, h3]
      rfl
theorem QAt.cells (h : QAt w base v xs) {j : Nat} {s : List UInt8} (hj : xs[j]? = some s) : ∃ b off cap, v = .slice (some ⟨b, off, none⟩) xs.length cap ∧ w.cell? ⟨b, off + j, none⟩ = some (.string ⟨s.toArray⟩) := by
  obtain ⟨b, off, cap, rfl, hb, hg, -, -, -, hc⟩ := h
  exact ⟨b, off, cap, rfl, hc j s hj⟩
theorem QAt.tail {x : List UInt8} (h : QAt w base v (x :: xs)) : ∃ v', (Instr.sliceAt 64 v (some (.int .i64 1)) none none).run Tryd.prog w = .ok v' w ∧ QAt w base v' xs ∧ v'.ownBlock = v.ownBlock := by
  obtain ⟨b, off, cap, rfl, hb, hg, hn, hm, hs, hc⟩ := h
  have hcut := cut_one b off (x :: xs).length cap (by simp) hn w
  simp only [List.length_cons, Nat.add_sub_cancel] at hn hcut ⊢
  by_cases h1 : cap = 1
  · rw [if_pos h1] at hcut
    exact ⟨_, hcut, ⟨b, off, cap - 1, rfl, hb, hg, by omega, by omega, fun j hj => by omega, fun j s hj => by
      have := (List.getElem?_eq_some_iff.1 hj).1
      omega⟩, rfl⟩
  · rw [if_neg h1] at hcut
    exact ⟨_, hcut, ⟨b, off + 1, cap - 1, rfl, hb, hg, by omega, by omega, fun j hj => by
      have := hs (j + 1) (by omega)
      rwa [show off + (j + 1) = off + 1 + j by omega] at this, fun j s hj => by
      have := hc (j + 1) s (by simpa using hj)
      rwa [show off + (j + 1) = off + 1 + j by omega] at this⟩, rfl⟩
theorem qcells (ds : List (List UInt8)) : ds.flatMap strC = ds.map fun s => Value.string ⟨s.toArray⟩ := by
  induction ds with
  | nil => rfl
  | cons d ds ih => rw [List.flatMap_cons, ih]; rfl
/-- Texts are put behind. -/
theorem QAt.push (h : QAt w base v xs) (hbase : base ≤ w.heap.size) {A : Option Addr} {ds : List (List UInt8)} {c : Nat} (hr : RowsAt w 1 A strC ds) (hsm : xs.length + ds.length ≤ 100000) (ty : TypeId) :
    ∃ v' w', (Builtin.append_ #[64, 64] ty #[v, .slice A ds.length c]).run Tryd.prog w = .ok v' w' ∧ QAt w' base v' (xs ++ ds) ∧ w.grownBy w' v.ownBlock ∧ ∀ g, v'.ownBlock = some g → v.ownBlock = some g ∨ w.heap.size ≤ g := by
  obtain ⟨i0, hi0, hz0, hz1, hz2⟩ := info_parts Tryd.info9
  obtain ⟨b, off, cap, rfl, hb, hg, hn, hm, hs, hc⟩ := h
  by_cases hd : ds = []
  · subst hd
    refine ⟨.slice (some ⟨b, off, none⟩) xs.length cap, w, ?_, ⟨b, off, cap, by simp, hb, hg, by simpa using hn, hm, hs, by simpa using hc⟩, World.grownBy.refl _ _, fun g e => .inl e⟩
    have hu := run_underlying (P := Tryd.prog) (w := w) Tryd.underlying64
    cases A <;> simp [Builtin.append_, hu, sizeOf, typeInfo, hi0, Builtin.lenOf, Builtin.firstCells, hn, storeCells, loadCells, loadCellsFrom, Result.andThen, List.length_nil]
  · obtain ⟨b2, off2, rfl, hlt2, hc2⟩ := hr hd
    have hnews : ∀ j u, (ds.flatMap strC)[j]? = some u → w.cell? ((⟨b2, off2, none⟩ : Addr).add j) = some u := fun j u hu => by
      rw [Go.WideShapes.add_plain]
      rw [qcells, List.getElem?_map] at hu
      cases hdj : ds[j]? with
      | none => rw [hdj] at hu; cases hu
      | some s =>
        rw [hdj] at hu
        have h1 := hc2 j s hdj 0 (by omega)
        rw [Nat.mul_one, Nat.add_zero] at h1
        rw [h1]
        exact hu
    have hone : ∀ u ∈ ds.flatMap strC, u.oneCell' = true := fun u hu => by
      rw [qcells] at hu
      obtain ⟨s, -, rfl⟩ := List.mem_map.1 hu
      rfl
    have hlen : (ds.flatMap strC).length = ds.length * 1 := flat_len strC 1 (fun _ => rfl) ds
    by_cases hr2 : xs.length + ds.length ≤ cap
    · have hrun := run_append_room_cells (P := Tryd.prog) (w := w) 64 ty 9 i0 Tryd.underlying64 hi0 b off xs.length cap ⟨b2, off2, none⟩ ds.length c (ds.flatMap strC) (by rw [hz1]; exact hlen) hnews hone hr2
        (fun j hj => by
          rw [hz1, Nat.mul_one, Nat.add_assoc]
          exact (hs (xs.length + j) (by omega)).1)
        (fun j hj => by
          rw [hz1, Nat.mul_one, Nat.add_assoc]
          exact (hs (xs.length + j) (by omega)).2)
      rw [hz1, Nat.mul_one] at hrun
      have hthere : ∀ j, j < (ds.flatMap strC).length → (w.cell? ⟨b, off + xs.length + j, none⟩).isSome = true := fun j hj => by
        rw [Nat.add_assoc]
        exact (hs (xs.length + j) (by omega)).1
      refine ⟨_, _, hrun, ⟨b, off, cap, by rw [List.length_append], hb, by rw [Go.Sort.size_setCells]; exact hg, by rw [List.length_append]; exact hr2, hm, fun j hj => ⟨?_, ?_⟩, fun j s hj => ?_⟩, ?_, fun g e => .inl e⟩
      · exact World.isSome_setCells b _ _ _ _ (hs j hj).1
      · rw [World.frozen?_setCells]
        exact (hs j hj).2
      · by_cases hjx : j < xs.length
        · rw [World.cell?_setCells_out b _ _ _ _ (fun _ _ => .inl (by show off + j < off + xs.length; omega))]
          exact hc j s (by rw [← hj, List.getElem?_append_left hjx])
        · have hj2 : ds[j - xs.length]? = some s := by rw [← hj, List.getElem?_append_right (by omega)]
          have hjl := (List.getElem?_eq_some_iff.1 hj2).1
          have hin := World.cell?_setCells_in b (ds.flatMap strC) (off + xs.length) w hthere (j - xs.length) (by omega)
          rw [show off + xs.length + (j - xs.length) = off + j by omega] at hin
          rw [hin, ← List.getElem?_eq_getElem, qcells, List.getElem?_map, hj2]
          rfl
      · exact ⟨World.os_setCells _ _ _ _, tape_setCells _ _ _ _, World.output_setCells _ _ _ _, by rw [Go.Sort.size_setCells]; exact Nat.le_refl _, fun k hk hne => World.heap_setCells_other _ _ _ _ hk fun e => hne (by rw [e]; rfl)⟩
    · have hold : ∀ j u, (xs.flatMap strC)[j]? = some u → w.cell? ((⟨b, off, none⟩ : Addr).add j) = some u := fun j u hu => by
        rw [Go.WideShapes.add_plain]
        rw [qcells, List.getElem?_map] at hu
        cases hdj : xs[j]? with
        | none => rw [hdj] at hu; cases hu
        | some s =>
          rw [hdj] at hu
          rw [hc j s hdj]
          exact hu
      obtain ⟨v', w', hrun, h1, h2⟩ := run_append_arg_grows (P := Tryd.prog) (w := w) 64 ty 9 i0 (.string ⟨#[]⟩) 1 16 Tryd.underlying64 hi0 hz0 hz1 hz2 rfl (by decide) ⟨b, off, none⟩ xs.length cap (xs.flatMap strC) (flat_len strC 1 (fun _ => rfl) xs) hold
        ⟨b2, off2, none⟩ ds.length c (ds.flatMap strC) hlen hnews (by omega) (by unfold maxLen; omega) (by omega)
      refine ⟨v', w', hrun, QAt.own ?_ ?_, h2.but _, fun g e => .inr ?_⟩
      · rw [List.length_append, List.flatMap_append]
        refine ⟨h1.1, ?_⟩
        rcases h1.2 with h | ⟨g, cap2, cur, e, hb2, rest⟩
        · exact .inl h
        · exact .inr ⟨g, cap2, cur, e, Nat.le_trans hbase hb2, rest⟩
      · rcases h1.2 with ⟨-, h⟩ | ⟨g, cap2, cur, rfl, -⟩
        · have := List.length_pos_iff.2 hd
          omega
        · intro e
          cases e
      · rcases h1.2 with ⟨rfl, -⟩ | ⟨g2, cap2, cur, rfl, hb2, -⟩
        · cases e
        · obtain rfl : g2 = g := by simpa [Value.ownBlock] using e
          exact hb2
end


open Go.RowKit Go.Maps

def natC (i : Nat) : List Value := [.int .i64 i]
def IdxI (D : List Nat) (x : Nat) (z : Int) : Prop := (z = -1 ∧ decide (x ∈ D) = false) ∨ ∃ i : Nat, z = i ∧ decide (x ∈ D) = true
theorem one_nat {w : World} {A : Option Addr} {D : List Nat} (h : RowsAt w 1 A natC D) {k x : Nat} (hk : D[k]? = some x) : ∃ b off, A = some ⟨b, off, none⟩ ∧ b < w.heap.size ∧ w.cell? ⟨b, off + k, none⟩ = some (.int .i64 x) := by
  obtain ⟨b, off, rfl, hb, hc⟩ := h (fun e => by rw [e] at hk; cases hk)
  have := hc k x hk 0 (by decide)
  rw [Nat.mul_one, Nat.add_zero] at this
  exact ⟨b, off, rfl, hb, this⟩
set_option maxHeartbeats 4000000 in
theorem index177 (D : List Nat) (A : Option Addr) (c x : Nat) (w : World) (hT : RowsAt w 1 A natC D) (hl : D.length ≤ 1000) :
    Calls Tryd.prog 177 #[.slice A D.length c, .int .i64 x] w fun e w' => ∃ z : Int, e = .returned (.int .i64 z) ∧ w = w' ∧ IdxI D x z := by
  have HT := Lib.hid hT
  have HL := Lib.hid hl
  clear hT hl
  go_enter Tryd.func177, Tryd.ntmps177
  go_wp2_with fail
  go_loopw [8] (fun s8 wr => wr = w ∧ ∃ k : Nat, s8 = .int .i64 k ∧ Hid (k ≤ D.length ∧ ∀ (j : Nat) g, j < k → D[j]? = some g → g ≠ x)) (fun s8 _ => D.length - (intOf s8).toNat)
  case atStart => exact ⟨rfl, 0, rfl, Lib.hid ⟨Nat.zero_le _, fun j g h => absurd h (Nat.not_lt_zero _)⟩⟩
  case round =>
    obtain ⟨hw, k, rfl, H1⟩ := hrel
    subst hw
    by_cases hlt : k < D.length
    · have hd : decide ((k : Int) < (D.length : Int)) = true := by rw [decide_eq_true_eq]; omega
      obtain ⟨y, hkx⟩ : ∃ y, D[k]? = some y := ⟨_, List.getElem?_eq_getElem hlt⟩
      obtain ⟨b2, off, rfl, hb2, x0⟩ := one_nat HT.out hkx
      have HLT := Lib.hid hlt
      have HKX := Lib.hid hkx
      have hkb : (k : Int) ≤ 1000 := by have := HL.out; omega
      clear hkx hlt
      by_cases hp : x = y
      · subst hp
        have e1 : ((x : Int) == (x : Int)) = true := by simp
        go_wp2_with fail
        go_ret
        exact ⟨_, rfl, rfl, .inr ⟨k, rfl, by rw [decide_eq_true_eq]; exact List.mem_of_getElem? HKX.out⟩⟩
      · have e1 : ((x : Int) == (y : Int)) = false := by rw [beq_eq_false_iff_ne]; omega
        have HP : Hid (y ≠ x) := Lib.hid (fun e => hp e.symm)
        clear hp
        go_wp2_with fail
        go_roundw
        case rel => exact ⟨by first | rfl | trivial, k + 1, by first | rfl | go_num, Lib.hid ⟨HLT.out, fun j g hj hg => by
          rcases Nat.lt_or_ge j k with h | h
          · exact H1.out.2 j g h hg
          · obtain rfl : j = k := by omega
            obtain rfl := Option.some.inj (HKX.out.symm.trans hg)
            exact HP.out⟩⟩
        case measure => have := HLT.out; first | omega | (simp only [intOf]; omega) | (simp [intOf]; omega)
    · have hd : decide (k < D.length) = false := by rw [decide_eq_false_iff_not]; exact hlt
      have hd2 : decide ((k : Int) < (D.length : Int)) = false := by rw [decide_eq_false_iff_not]; omega
      have HE : Hid (decide (x ∈ D) = false) := Lib.hid (by
        rw [decide_eq_false_iff_not]
        intro hm
        obtain ⟨i, hi, hif⟩ := List.getElem_of_mem hm
        exact H1.out.2 i x (by have := H1.out.1; omega) (by rw [List.getElem?_eq_getElem hi, hif]) rfl)
      clear hlt
      go_wp2_with fail
      go_ret
      exact ⟨_, rfl, rfl, .inl ⟨rfl, HE.out⟩⟩
set_option maxHeartbeats 4000000 in
theorem contains142 (D : List Nat) (A : Option Addr) (c x : Nat) (w : World) (hT : RowsAt w 1 A natC D) (hl : D.length ≤ 1000) :
    Calls Tryd.prog 142 #[.slice A D.length c, .int .i64 x] w fun e w' => e = .returned (.bool (decide (x ∈ D))) ∧ w = w' := by
  have HI := Lib.hid (index177 D A c x w hT hl)
  clear hT hl
  go_enter Tryd.func142, Tryd.ntmps142
  go_wp2_with fail
  refine HI.out.mono ?_
  rintro e w' ⟨z, rfl, rfl, hz⟩
  rcases hz with ⟨rfl, hh⟩ | ⟨i, rfl, hh⟩
  · have HH := Lib.hid hh
    clear hh
    go_wp2_with fail
    go_ret
    exact ⟨by rw [HH.out]; rfl, rfl⟩
  · have HH := Lib.hid hh
    clear hh
    have hzi : decide ((0 : Int) ≤ (i : Int)) = true := by rw [decide_eq_true_eq]; omega
    go_wp2_with fail
    go_ret
    exact ⟨by rw [HH.out]; rfl, rfl⟩

/-- The places of the first k targets' names. -/
def plN (L : List Tgt) : Nat → List UInt8 → Int
  | 0 => fun _ => 0
  | k + 1 => match L[k]? with
    | some t => updS (plN L k) t.n k
    | none => plN L k
def plK (L : List Tgt) : Nat → List (List UInt8)
  | 0 => []
  | k + 1 => match L[k]? with
    | some t => addS (plK L k) t.n
    | none => plK L k
theorem plN_step {L : List Tgt} {k : Nat} {t : Tgt} (h : L[k]? = some t) : plN L (k + 1) = updS (plN L k) t.n k := by simp only [plN, h]
theorem plK_step {L : List Tgt} {k : Nat} {t : Tgt} (h : L[k]? = some t) : plK L (k + 1) = addS (plK L k) t.n := by simp only [plK, h]
theorem mem_addS {K : List (List UInt8)} {s x : List UInt8} : x ∈ addS K s ↔ x = s ∨ x ∈ K := by
  unfold addS
  split
  · rename_i h
    exact ⟨.inr, fun h2 => h2.elim (fun e => e ▸ h) id⟩
  · exact List.mem_cons
theorem plK_mem (L : List Tgt) (s : List UInt8) : ∀ k, k ≤ L.length → (s ∈ plK L k ↔ ∃ i t, i < k ∧ L[i]? = some t ∧ t.n = s)
  | 0, _ => by
    constructor
    · intro h
      cases h
    · rintro ⟨i, t, h, _⟩
      exact absurd h (Nat.not_lt_zero _)
  | k + 1, hk => by
    obtain ⟨t, ht⟩ : ∃ t, L[k]? = some t := ⟨_, List.getElem?_eq_getElem hk⟩
    rw [plK_step ht, mem_addS, plK_mem L s k (by omega)]
    constructor
    · rintro (rfl | ⟨i, t', hi, h1, h2⟩)
      · exact ⟨k, t, Nat.lt_succ_self _, ht, rfl⟩
      · exact ⟨i, t', by omega, h1, h2⟩
    · rintro ⟨i, t', hi, h1, h2⟩
      by_cases e : i = k
      · subst e
        rw [ht] at h1
        cases h1
        exact .inl h2.symm
      · exact .inr ⟨i, t', by omega, h1, h2⟩
theorem plN_at (L : List Tgt) (s : List UInt8) : ∀ k, k ≤ L.length → s ∈ plK L k → ∃ i t, i < k ∧ L[i]? = some t ∧ t.n = s ∧ plN L k s = i
  | 0, _, h => by cases h
  | k + 1, hk, h => by
    obtain ⟨t, ht⟩ : ∃ t, L[k]? = some t := ⟨_, List.getElem?_eq_getElem hk⟩
    rw [plK_step ht, mem_addS] at h
    rw [plN_step ht]
    unfold updS
    by_cases e : s = t.n
    · exact ⟨k, t, Nat.lt_succ_self _, ht, e.symm, by rw [if_pos e]⟩
    · obtain ⟨i, t', hi, h1, h2, h3⟩ := plN_at L s k (by omega) (h.resolve_left e)
      exact ⟨i, t', by omega, h1, h2, by rw [if_neg e, h3]⟩

/-- The search for all that is needed. -/
inductive NbR (L : List Tgt) : List Nat → List (List UInt8) → Option (List Nat) → Prop
  | done (nd) : NbR L nd [] (some nd)
  | none (nd s q) : s ∉ plK L L.length → NbR L nd (s :: q) none
  | skip (nd s q i t r) : L[i]? = some t → t.n = s → i ∈ nd → NbR L nd q r → NbR L nd (s :: q) r
  | new (nd s q i t r) : L[i]? = some t → t.n = s → i ∉ nd → NbR L (nd ++ [i]) (q ++ t.D) r → NbR L nd (s :: q) r

open Go.RowKit Go.Maps

theorem QAt.form {w : World} {base : Nat} {v : Value} {xs : List (List UInt8)} (h : QAt w base v xs) : ∃ b off cap, v = .slice (some ⟨b, off, none⟩) xs.length cap := by
  obtain ⟨b, off, cap, rfl, -⟩ := h
  exact ⟨b, off, cap, rfl⟩
theorem QAt.low {w : World} {b b' : Nat} {v : Value} {xs : List (List UInt8)} (h : QAt w b v xs) (hb : b' ≤ b) : QAt w b' v xs := by
  obtain ⟨g, off, cap, rfl, h1, h2⟩ := h
  exact ⟨g, off, cap, rfl, Nat.le_trans hb h1, h2⟩
theorem wpList_push {ops : Array Oper} {rest : List Oper} {o : Oper} {a : Act} {Q : Exit → Act → World → Prop} (w : World) (hgd : o.guard = none) (s x : Operand)
    (ho : o.op = .call { callee := .builtin .append, args := #[s, x], argTypes := #[64, 64] }) (base : Nat) (v : Value) (xs : List (List UInt8)) (hs : a.eval s = v) (h : QAt w base v xs) (hbase : base ≤ w.heap.size)
    (A : Option Addr) (ds : List (List UInt8)) (c : Nat) (hx : a.eval x = .slice A ds.length c) (hr : RowsAt w 1 A strC ds) (hsm : xs.length + ds.length ≤ 100000)
    (hK : ∀ v' w', QAt w' base v' (xs ++ ds) → w.grownBy w' v.ownBlock → (∀ g, v'.ownBlock = some g → v.ownBlock = some g ∨ w.heap.size ≤ g) → wpList Tryd.prog ops Q rest (a.put o.dst v') w') : wpList Tryd.prog ops Q (o :: rest) a w := by
  refine wpList_plain hgd fun K hK' => ?_
  obtain ⟨v', w', hrun, h1, h2, h3⟩ := h.push hbase (c := c) hr hsm o.type
  unfold Oper.wp
  simp [execOp, ho, resolve, invoke, builtin, hs, hx, hrun, Result.andThen]
  exact hK' _ _ (hK v' w' h1 h2 h3)

theorem Tryd.info3 : (Tryd.prog.info? 3).map (fun i => (i.zero, i.size, i.bytes)) = some (some (.int .i64 0), 1, 8) := by kernel_rfl
theorem wf_k {k : Nat} (h : k ≤ 1000) : (Lit.int .i64 (k : Int)).wf = true := by
  simp [Lit.wf, IntKind.min, IntKind.max, IntKind.signed, IntKind.bits]
  omega
/-- What neededBy tells. -/
def NbP (w : World) (L : List Tgt) (want : List UInt8) (e : Ending) (w' : World) : Prop :=
  ∃ (A : Option Addr) (c : Nat) (nd : List Nat) (ok : Bool), e = .returned (.tuple #[.slice A nd.length c, .bool ok]) ∧ Chg none w w' ∧ ((ok = false ∧ nd = [] ∧ NbR L [] [want] none) ∨ (ok = true ∧ NbR L [] [want] (some nd) ∧ nd.Nodup ∧ (∀ i ∈ nd, i < L.length) ∧ w'.ownsRow (w.heap.size + 1) 3 1 (.slice A nd.length c) nd.length (nd.flatMap natC)))

theorem ownB (A : Option Addr) (n m c d : Nat) : (Value.slice A n c).ownBlock = (Value.slice A m d).ownBlock := by cases A <;> rfl
def CutTo (c o o7 c7 : Nat) : Prop := (c = 1 ∧ o7 = o ∧ c7 = 0) ∨ (c ≠ 1 ∧ o7 = o + 1 ∧ c7 = c - 1)
theorem QAt.cut {w : World} {base b o c o7 c7 : Nat} {x : List UInt8} {xs : List (List UInt8)} (h : QAt w base (.slice (some ⟨b, o, none⟩) (x :: xs).length c) (x :: xs)) (hc : CutTo c o o7 c7) : QAt w base (.slice (some ⟨b, o7, none⟩) xs.length c7) xs := by
  obtain ⟨b1, off, cap, he, hb, hg, hn, hm, hs, hcc⟩ := h
  obtain ⟨⟨rfl, rfl⟩, rfl⟩ : (b = b1 ∧ o = off) ∧ c = cap := by simpa using he
  simp only [List.length_cons] at hn
  rcases hc with ⟨h1, rfl, rfl⟩ | ⟨h1, rfl, rfl⟩
  · exact ⟨b, o7, 0, rfl, hb, hg, by omega, by omega, fun j hj => by omega, fun j s hj => by
      have := (List.getElem?_eq_some_iff.1 hj).1
      omega⟩
  · exact ⟨b, o + 1, c - 1, rfl, hb, hg, by omega, by omega, fun j hj => by
      have := hs (j + 1) (by omega)
      rwa [show o + (j + 1) = o + 1 + j by omega] at this, fun j s hj => by
      have := hcc (j + 1) s (by simpa using hj)
      rwa [show o + (j + 1) = o + 1 + j by omega] at this⟩
def sLen : Value → Nat
  | .slice _ n _ => n
  | _ => 0

/-- Midway. -/
structure NbMid (w wr : World) (L : List Tgt) (want : List UInt8) (b : Nat) (nd : List Nat) (q : List (List UInt8)) (v5 v6 : Value) : Prop where
  map : MapS wr b L.length (plN L L.length) (plK L L.length)
  own : wr.ownsRow (b + 1) 3 1 v5 nd.length (nd.flatMap natC)
  qat : QAt wr (b + 1) v6 q
  ap : v6.ownBlock ≠ v5.ownBlock
  chg : Chg none w wr
  nodup : nd.Nodup
  lt : ∀ i ∈ nd, i < L.length
  ql : q.length ≤ 1 + 5 * nd.length
  qs : ∀ s ∈ q, s.length ≤ 9223372036854775807
  back : ∀ r, NbR L nd q r → NbR L [] [want] r
theorem nodup_le : ∀ {n : Nat} {l : List Nat}, l.Nodup → (∀ x ∈ l, x < n) → l.length ≤ n
  | 0, [], _, _ => Nat.le_refl _
  | 0, x :: l, _, h => absurd (h x List.mem_cons_self) (Nat.not_lt_zero _)
  | n + 1, l, hn, h => by
    have h1 := nodup_le (n := n) (l := l.erase n) (hn.erase n) fun x hx => by
      have h2 := (hn.mem_erase_iff).1 hx
      have := h x h2.2
      have := h2.1
      omega
    rw [List.length_erase] at h1
    split at h1 <;> omega

set_option maxHeartbeats 32000000 in
set_option maxRecDepth 100000 in
theorem needed_any (L : List Tgt) (A : Option Addr) (c : Nat) (want : List UInt8) (w : World) (hT : TgtsAt w A L) (hD : ∀ t ∈ L, t.D.length ≤ 5) (hl : L.length ≤ 20) (hw : want.length ≤ 9223372036854775807) :
    Calls Tryd.prog 95 #[.slice A L.length c, .string ⟨want.toArray⟩] w (NbP w L want) := by
  have HT : Hid (∀ v, Chg none w v → TgtsAt v A L) := Lib.hid fun v g => hT.chg g
  have HD := Lib.hid hD
  have HL := Lib.hid hl
  have HW := Lib.hid hw
  have HTL : Hid (∀ t ∈ L, t.n.length ≤ 9223372036854775807) := Lib.hid fun t ht => (hT.2 t ht).nl
  have HTD : Hid (∀ t ∈ L, ∀ s ∈ t.D, s.length ≤ 9223372036854775807) := Lib.hid fun t ht => (hT.2 t ht).deps.2
  obtain ⟨i3, hi3, hz30, hz31, hz32⟩ := info_parts Tryd.info3
  clear hT hD hl hw
  have hmk := run_makeMap (P := Tryd.prog) 75 w
  go_enter Tryd.func95, Tryd.ntmps95
  go_upto_region 3 with fail
  obtain ⟨W3, hW3⟩ : ∃ W, W = w.alloc (.map #[] 0) := ⟨_, rfl⟩
  have H3 : Hid (MapS W3 w.heap.size 0 (fun _ => 0) [] ∧ Chg none w W3) := Lib.hid (by rw [hW3]; exact ⟨MapS.new w, (Chg.refl _ _).alloc _⟩)
  have HBW : Hid (w.heap.size ≤ w.heap.size) := Lib.hid (Nat.le_refl _)
  have HPW : Hid (∃ px, px = w.heap.size) := Lib.hid ⟨_, rfl⟩
  rw [← hW3]
  clear hW3
  obtain ⟨b, hb⟩ : ∃ b, b = w.heap.size := ⟨_, rfl⟩
  have HB := Lib.hid hb
  rw [← hb] at H3 ⊢
  clear hb HBW HPW
  go_loopw [16] (fun i wr => ∃ k : Nat, k ≤ L.length ∧ i = .int .i64 k ∧ Hid (MapS wr b k (plN L k) (plK L k) ∧ Chg none w wr)) (fun i _ => L.length - (intOf i).toNat)
  case atStart => exact ⟨0, Nat.zero_le _, rfl, H3⟩
  case round =>
    obtain ⟨k, hk, rfl, HR⟩ := hrel
    obtain ⟨hm, hg⟩ := HR.out
    by_cases hlt : k < L.length
    · have hdd : decide ((k : Int) < (L.length : Int)) = true := by rw [decide_eq_true_eq]; omega
      obtain ⟨t, hkt⟩ : ∃ t, L[k]? = some t := ⟨_, List.getElem?_eq_getElem hlt⟩
      obtain ⟨bL, off, rfl, hbL, x0, x1, x2, x3⟩ := (HT.out wr hg).one hkt
      obtain ⟨W2, hW2⟩ : ∃ W2, W2 = wr.alloc (.cells (tgtCells t).toArray 77) := ⟨_, rfl⟩
      have g2 : Chg none wr W2 := by rw [hW2]; exact (Chg.refl _ _).alloc _
      have hb2 : Blk W2 wr.heap.size (tgtCells t).toArray 77 := by rw [hW2]; exact Blk.new _ _ _
      have hm2 := hm.chg g2
      have HLT := Lib.hid hlt
      have hkb : (k : Int) ≤ 1000 := by have := HL.out; omega
      have y0 : W2.cell? ⟨wr.heap.size, 0, none⟩ = some (.string ⟨t.n.toArray⟩) := hb2.cell 0
      have HW2 : Hid (W2 = wr.alloc (.cells #[.string ⟨t.n.toArray⟩, .slice t.A t.D.length t.c, .int .i64 t.fuel, .slice t.B t.P.length t.d] 77)) := Lib.hid hW2
      have hbw : b < W2.heap.size := hm2.lt
      obtain ⟨W4, hput, hm4, g4⟩ := hm2.put (by have := HL.out; unfold maxLen; omega) t.n (HTL.out t (List.mem_of_getElem? hkt)) k (wf_k (by have := HL.out; omega))
      have HEND : Hid (MapS W4 b (k + 1) (plN L (k + 1)) (plK L (k + 1)) ∧ Chg none w W4) := Lib.hid ⟨by rw [plN_step hkt, plK_step hkt]; exact hm4, Chg.own (hg.trans g2) g4 (Nat.le_of_eq HB.out.symm)⟩
      clear hkt hm hg g2 hb2 hm2 hW2 hlt hm4 g4
      obtain ⟨tn, tA, tD, tc, tf, tB, tP, td⟩ := t
      dsimp only at x0 x1 x2 x3 y0 hput HW2
      go_upto_region 5 with fail
      rw [← HW2.out]
      clear HW2 x0 x1 x2 x3
      go_wp2_with fail
      go_roundw
      case rel => exact ⟨k + 1, by have := HLT.out; omega, by first | rfl | go_num, HEND⟩
      case measure => have := HLT.out; first | omega | (simp only [intOf]; omega) | (simp [intOf]; omega)
    · have hkl : k = L.length := by omega
      have hdd : decide (k < L.length) = false := by rw [decide_eq_false_iff_not]; exact hlt
      have hd2 : decide ((k : Int) < (L.length : Int)) = false := by rw [decide_eq_false_iff_not]; omega
      rw [hkl] at hm
      obtain ⟨w1, hw1⟩ : ∃ w1 : World, w1 = wr := ⟨_, rfl⟩
      subst hw1
      obtain ⟨W5, hW5⟩ : ∃ W, W = w1.alloc (.cells #[.string ⟨want.toArray⟩] 9) := ⟨_, rfl⟩
      have hbw1 := hm.lt
      have HM5 : Hid (NbMid w W5 L want b [] [want] (.slice none 0 0) (.slice (some ⟨w1.heap.size, 0, none⟩) 1 1)) := Lib.hid (by
        have hbl : W5.heap[w1.heap.size]? = some (.cells #[.string ⟨want.toArray⟩] 9) := by rw [hW5]; exact Blk.new _ _ _
        have hc5 : ∀ j, j < 1 → W5.cell? ⟨w1.heap.size, 0 + j, none⟩ = some (.string ⟨want.toArray⟩) ∧ W5.frozen? ⟨w1.heap.size, 0 + j, none⟩ = false := fun j hj => by
          obtain rfl : j = 0 := by omega
          exact ⟨by rw [Blk.cell (show Blk W5 _ _ _ from hbl)]; rfl, by simp [World.frozen?, hbl]⟩
        refine ⟨hm.chg (by rw [hW5]; exact (Chg.refl _ _).alloc _), World.ownsRow_nil _ _ _ _, ⟨w1.heap.size, 0, 1, rfl, hbw1, (Array.getElem?_eq_some_iff.1 hbl).1, Nat.le_refl _, by unfold maxLen; omega, fun j hj => ⟨by rw [(hc5 j hj).1]; rfl, (hc5 j hj).2⟩, fun j s hj => ?_⟩, by simp [Value.ownBlock], by rw [hW5]; exact hg.alloc _, List.nodup_nil, fun i h => absurd h List.not_mem_nil, by simp, fun s hs => ?_, fun r h => h⟩
        · have hj2 := (List.getElem?_eq_some_iff.1 hj).1
          obtain rfl : j = 0 := by simpa using hj2
          rw [(hc5 0 (by decide)).1]
          simp at hj
          rw [hj]
        · rw [List.mem_singleton] at hs
          rw [hs]
          exact HW.out)
      clear hm hg hlt hkl HR H3
      go_upto_region 9 with fail
      rw [← hW5]
      clear hW5
      generalize w1.heap.size = qb0 at *
      go_loopw [9, 10] (fun s9 s10 wr => ∃ (nd : List Nat) (q : List (List UInt8)) (A5 : Option Addr) (c5 qb qo qc : Nat), s9 = .slice A5 nd.length c5 ∧ s10 = .slice (some ⟨qb, qo, none⟩) q.length qc ∧ Hid (NbMid w wr L want b nd q (.slice A5 nd.length c5) (.slice (some ⟨qb, qo, none⟩) q.length qc))) (fun s9 s10 _ => (20 - sLen s9) * 6 + sLen s10)
      case atStart => exact ⟨[], [want], none, 0, qb0, 0, 1, rfl, rfl, HM5⟩
      case round =>
        obtain ⟨nd, q, A5, c5, qb, qo, qc, rfl, rfl, HR⟩ := hrel
        have hmd := HR.out
        have hnl := Nat.le_trans (nodup_le hmd.nodup hmd.lt) HL.out
        have hql := hmd.ql
        cases q with
        | nil =>
          have hd2 : decide ((0 : Int) < ((([] : List (List UInt8)).length : Nat) : Int)) = false := by decide
          have HE : Hid (NbP w L want (.returned (.tuple #[.slice A5 nd.length c5, .bool true])) wr) := Lib.hid ⟨A5, c5, nd, true, rfl, hmd.chg, .inr ⟨rfl, hmd.back _ (.done nd), hmd.nodup, hmd.lt, by rw [← HB.out]; exact hmd.own⟩⟩
          clear hmd HR HM5
          go_wp2_with fail
          go_ret2
          exact HE.out
        | cons s q =>
          have hd2 : decide ((0 : Int) < (((s :: q).length : Nat) : Int)) = true := by simp
          have hs := hmd.qs s List.mem_cons_self
          have hlook := hmd.map.look_ok s hs
          obtain ⟨b0, o0, cp0, he0, hc0⟩ := hmd.qat.cells (j := 0) (s := s) rfl
          obtain ⟨⟨rfl, rfl⟩, rfl⟩ : (qb = b0 ∧ qo = o0) ∧ qc = cp0 := by simpa using he0
          rw [Nat.add_zero] at hc0
          have hn0 : 0 < (s :: q).length := by simp
          clear he0
          cases hk : decide (s ∈ plK L L.length) with
          | false =>
            rw [hk] at hlook
            have HE : Hid (NbP w L want (.returned (.tuple #[.slice none 0 0, .bool false])) wr) := Lib.hid ⟨none, 0, [], false, rfl, hmd.chg, .inl ⟨rfl, rfl, hmd.back _ (.none nd s q (by simpa using hk))⟩⟩
            generalize plN L L.length s = z at *
            clear hmd HR HM5 hk hs
            go_wp2_with fail
            go_ret2
            exact HE.out
          | true =>
            obtain ⟨i, t, hiL, hit, hts, hpl⟩ := plN_at L s L.length (Nat.le_refl _) (by simpa using hk)
            rw [hk, hpl] at hlook
            have HQ7 := Lib.hid (fun o7 c7 hoc => hmd.qat.cut (o7 := o7) (c7 := c7) hoc)
            have hra : RowsAt wr 1 A5 natC nd := (own_rowsAt (fun _ => rfl) hmd.own).1
            have HC := Lib.hid (contains142 nd A5 c5 i wr hra (by omega))
            have hqs : ∀ x ∈ q, x.length ≤ 9223372036854775807 := fun x hx => hmd.qs x (List.mem_cons_of_mem _ hx)
            simp only [List.length_cons] at hql
            by_cases hin : i ∈ nd
            · have HEND : Hid (∀ o7 c7, CutTo qc qo o7 c7 → NbMid w wr L want b nd q (.slice A5 nd.length c5) (.slice (some ⟨qb, o7, none⟩) q.length c7)) := Lib.hid fun o7 c7 hoc => ⟨hmd.map, hmd.own, HQ7.out o7 c7 hoc, hmd.ap, hmd.chg, hmd.nodup, hmd.lt, by omega, hqs, fun r h => hmd.back r (.skip nd s q i t r hit hts hin h)⟩
              rw [decide_eq_true hin] at HC
              clear hmd HR HM5 hk hs HQ7 hra hpl hit hts hin hqs hiL hnl hql
              go_wp2_with fail
              all_goals
                refine HC.out.mono ?_
                rintro e w3 ⟨rfl, rfl⟩
                go_wp2_with fail
                go_roundw
                case rel => exact ⟨nd, q, A5, c5, qb, _, _, rfl, rfl, Lib.hid (HEND.out _ _ (by unfold CutTo; omega))⟩
                case measure => simp [sLen]
            · rw [decide_eq_false hin] at HC
              have htm := List.mem_of_getElem? hit
              have hd5 := HD.out t htm
              have hkb : (i : Int) ≤ 1000 := by have := HL.out; omega
              have hn2 : nd.length + 1 ≤ 20 := by
                have h1 : (nd ++ [i]).Nodup := List.nodup_append.2 ⟨hmd.nodup, by simp, fun a ha b hb e => hin (by rw [List.mem_singleton] at hb; rw [← hb, ← e]; exact ha)⟩
                have h2 := nodup_le h1 (n := L.length) (by
                  intro x hx
                  rcases List.mem_append.1 hx with h | h
                  · exact hmd.lt x h
                  · rw [List.mem_singleton] at h
                    rw [h]
                    exact hiL)
                have := HL.out
                simp at h2
                omega
              have HO := Lib.hid hmd.own
              have HRR : Hid (∀ W : World, Reads (W.alloc (.cells #[.int .i64 i] 3)) (W.heap.size + 1) 1 (some ⟨W.heap.size, 0, none⟩) 1 [.int .i64 i]) := Lib.hid fun W => ⟨rfl, fun _ => ⟨_, rfl, Nat.lt_succ_self _, fun j u hu => by
                rw [Go.WideShapes.add_plain, Blk.cell (Blk.new W _ _)]
                simpa using hu⟩⟩
              have HO3 := Lib.hid (show ∀ u ∈ [Value.int .i64 i], u.oneCell' = true by intro u hu; simp at hu; subst hu; rfl)
              have hs1 : nd.length + 1 ≤ maxLen := by unfold maxLen; omega
              have hs2 : (nd.length + 1) * 8 ≤ 140737488355328 := by omega
              have HMD := Lib.hid hmd
              have HTX : Hid (∀ v, Chg none w v → RowsAt v 1 t.A strC t.D) := Lib.hid fun v g => ((HT.out v g).2 t htm).deps.1
              have hsm : q.length + t.D.length ≤ 100000 := by omega
              have HND : Hid ((nd ++ [i]).Nodup ∧ ∀ x ∈ nd ++ [i], x < L.length) := Lib.hid ⟨List.nodup_append.2 ⟨hmd.nodup, by simp, fun a ha b hb e => hin (by rw [List.mem_singleton] at hb; rw [← hb, ← e]; exact ha)⟩, fun x hx => by
                rcases List.mem_append.1 hx with h | h
                · exact hmd.lt x h
                · rw [List.mem_singleton] at h
                  rw [h]
                  exact hiL⟩
              have HND2 : Hid ((q ++ t.D).length ≤ 1 + 5 * (nd ++ [i]).length) := Lib.hid (by simp; omega)
              have HND3 : Hid (∀ x ∈ q ++ t.D, x.length ≤ 9223372036854775807) := Lib.hid fun x hx => (List.mem_append.1 hx).elim (hqs x) (HTD.out t htm x)
              have HND4 : Hid (∀ r, NbR L (nd ++ [i]) (q ++ t.D) r → NbR L [] [want] r) := Lib.hid fun r h => hmd.back r (.new nd s q i t r hit hts hin h)
              have hbw : b < wr.heap.size := hmd.map.lt
              have hG3 := hmd.chg.alloc (.cells #[.int .i64 i] 3)
              clear hmd HR HM5 hk hs hra hpl hnl
              go_wp2_with fail
              all_goals
                refine HC.out.mono ?_
                rintro e w3 ⟨rfl, rfl⟩
                go_upto_region 16 with (first
                  | (refine wpList_append_any _ rfl (.tmp 47) (.tmp 49) 67 rfl (b + 1) 3 i3 (.int .i64 0) 1 8 Tryd.underlying67 hi3 hz30 hz31 hz32 rfl (by decide) (.slice A5 nd.length c5) nd.length _ rfl (HO.out.alloc _) _ (some ⟨wr.heap.size, 0, none⟩) 1 1 [.int .i64 i] rfl (HRR.out wr) HO3.out hs1 hs2 (by simp; omega) ?_
                     intro v6 w6 hown6 hgr6 hb6
                     have HG6 := Lib.hid (Chg.ownRow hG3 hgr6 (fun x hx => by have := (HO.out.lt x hx).1; have := HB.out; omega))
                     have HMP6 := Lib.hid ((HMD.out.map.chg ((Chg.refl _ _).alloc (.cells #[.int .i64 i] 3))).kept hgr6 (fun e => by have := (HO.out.lt _ e.symm).1; omega))
                     have HQ6 : Hid (∀ o7 c7, CutTo qc qo o7 c7 → QAt w6 (b + 1) (.slice (some ⟨qb, o7, none⟩) q.length c7) q) := Lib.hid fun o7 c7 hoc => ((HQ7.out o7 c7 hoc).kept (World.grownBy_alloc _ _ none) (by simp [Value.ownBlock])).kept hgr6 HMD.out.ap
                     have HAP : Hid (∀ o7 c7, (Value.slice (some ⟨qb, o7, none⟩) q.length c7).ownBlock ≠ v6.ownBlock) := Lib.hid (fun o7 c7 e => by
                       rcases hb6 with h | h
                       · exact HMD.out.ap (Eq.trans (show _ = some qb from rfl) (Eq.trans e h))
                       · have h2 := Option.some.inj (Eq.trans (show some qb = _ from e) h)
                         have h3 := (HMD.out.qat.lt qb rfl).2
                         simp at h2
                         omega)
                     obtain ⟨A6, c6, rfl⟩ := own_slice hown6
                     have HAQ : Hid (∀ o7 c7 n, (Value.slice (some ⟨qb, o7, none⟩) q.length c7).ownBlock ≠ (Value.slice A6 n c6).ownBlock) := Lib.hid (fun o7 c7 n e => HAP.out o7 c7 (e.trans (ownB _ _ _ _ _)))
                     have HO6 : Hid (w6.ownsRow (b + 1) 3 1 (.slice A6 (nd ++ [i]).length c6) (nd ++ [i]).length ((nd ++ [i]).flatMap natC)) := Lib.hid (by
                       rw [List.length_append, List.flatMap_append]
                       exact hown6)
                     have HX6 := Lib.hid ((HT.out w6 HG6.out).one hit)
                     clear hown6 hgr6 hb6))
              all_goals
                obtain ⟨bL, off, rfl, hbL, x0, x1, x2, x3⟩ := HX6.out
                have hdl := HTX.out w6 HG6.out
                have hbase6 : b + 1 ≤ w6.heap.size := by have := HMP6.out.lt; omega
                clear HX6 x0 x2 x3
                go_wp2_with (first
                  | (refine wpList_push w6 rfl (.tmp 51) (.tmp 56) rfl (b + 1) (.slice (some ⟨qb, qo, none⟩) q.length 0) q rfl (HQ6.out (qo) (0) (by unfold CutTo; omega)) hbase6 t.A t.D t.c rfl hdl hsm ?_
                     intro v7 w7 hq7 hgr7 hb7
                     have HO7 := Lib.hid (HO6.out.kept hgr7 (.inr (fun e => HAQ.out _ _ _ e.symm)))
                     have HG7 := Lib.hid (Chg.ownRow HG6.out hgr7 (fun x hx => by have := ((HQ6.out (qo) (0) (by unfold CutTo; omega)).lt x hx).1; have := HB.out; omega))
                     have HMP7 := Lib.hid (HMP6.out.kept hgr7 (fun e => by have := ((HQ6.out (qo) (0) (by unfold CutTo; omega)).lt b e.symm).1; omega))
                     have HAP7 : Hid (v7.ownBlock ≠ (Value.slice A6 (nd ++ [i]).length c6).ownBlock) := Lib.hid (fun e => by
                       obtain ⟨g, hg7⟩ : ∃ g, v7.ownBlock = some g := by
                         obtain ⟨b8, o8, c8, rfl⟩ := hq7.form
                         exact ⟨b8, rfl⟩
                       rcases hb7 g hg7 with h | h
                       · exact HAQ.out 0 0 _ (Eq.trans h (Eq.trans hg7.symm e))
                       · have := (HO6.out.lt g (e.symm.trans hg7)).2
                         omega)
                     have HQ8 := Lib.hid hq7
                     obtain ⟨qb8, qo8, qc8, rfl⟩ := hq7.form
                     clear hgr7 hb7 hq7)
                  | (refine wpList_push w6 rfl (.tmp 51) (.tmp 56) rfl (b + 1) (.slice (some ⟨qb, qo + 1, none⟩) q.length (qc - 1)) q rfl (HQ6.out (qo + 1) ((qc - 1)) (by unfold CutTo; omega)) hbase6 t.A t.D t.c rfl hdl hsm ?_
                     intro v7 w7 hq7 hgr7 hb7
                     have HO7 := Lib.hid (HO6.out.kept hgr7 (.inr (fun e => HAQ.out _ _ _ e.symm)))
                     have HG7 := Lib.hid (Chg.ownRow HG6.out hgr7 (fun x hx => by have := ((HQ6.out (qo + 1) ((qc - 1)) (by unfold CutTo; omega)).lt x hx).1; have := HB.out; omega))
                     have HMP7 := Lib.hid (HMP6.out.kept hgr7 (fun e => by have := ((HQ6.out (qo + 1) ((qc - 1)) (by unfold CutTo; omega)).lt b e.symm).1; omega))
                     have HAP7 : Hid (v7.ownBlock ≠ (Value.slice A6 (nd ++ [i]).length c6).ownBlock) := Lib.hid (fun e => by
                       obtain ⟨g, hg7⟩ : ∃ g, v7.ownBlock = some g := by
                         obtain ⟨b8, o8, c8, rfl⟩ := hq7.form
                         exact ⟨b8, rfl⟩
                       rcases hb7 g hg7 with h | h
                       · exact HAQ.out 0 0 _ (Eq.trans h (Eq.trans hg7.symm e))
                       · have := (HO6.out.lt g (e.symm.trans hg7)).2
                         omega)
                     have HQ8 := Lib.hid hq7
                     obtain ⟨qb8, qo8, qc8, rfl⟩ := hq7.form
                     clear hgr7 hb7 hq7))
                go_roundw
                case rel => exact ⟨nd ++ [i], q ++ t.D, A6, c6, qb8, qo8, qc8, by simp, by simp, Lib.hid ⟨HMP7.out, HO7.out, HQ8.out, HAP7.out, HG7.out, HND.out.1, HND.out.2, HND2.out, HND3.out, HND4.out⟩⟩
                case measure =>
                  simp [sLen]
                  omega


end Go.Proofs.YtbadkkilblgpmaaDoor
