/-
  Package tree: files in memory; May.
-/
import Derived.Test.YtbadkkilblgpmaaDoorPB
import Derived.Test.YtbadkkilblgpmaaDoorWA
import Derived.Handy
import Derived.Deep.Cut
import Derived.Deep.CutBlock
import Derived.Deep.DeepCutAuto
import Derived.Deep.RegionHeld3
namespace Go.Proofs.YtbadkkilblgpmaaDoor
open Go.RowKit

/-- A file: its path, and where its bytes lie. -/
structure Fil where
  p : List UInt8
  A : Option Addr
  x : List UInt8
  c : Nat
instance : Inhabited Fil := ⟨⟨[], none, [], 0⟩⟩
def filCells (f : Fil) : List Value := [.string ⟨f.p.toArray⟩, .slice f.A f.x.length f.c]
structure Fil.ok (w : World) (f : Fil) : Prop where
  t : Txt w f.A f.x
  c : f.x.length ≤ f.c
  p : f.p.length ≤ 9223372036854775807
  m : f.c ≤ 9223372036854775807
  nil : f.A = none → f.x.length = 0 ∧ f.c = 0
theorem Fil.ok.chg {w w' : World} {f : Fil} (h : f.ok w) (g : Chg none w w') : f.ok w' := ⟨h.t.chg g, h.c, h.p, h.m, h.nil⟩
/-- A tree in memory. -/
def TreeAt (w : World) (A : Option Addr) (L : List Fil) : Prop := RowsAt w 2 A filCells L ∧ ∀ f ∈ L, f.ok w
theorem RowsAt.chg {α : Type} {w w' : World} {k : Nat} {A : Option Addr} {cells : α → List Value} {L : List α} (h : RowsAt w k A cells L) (hw : Chg none w w') : RowsAt w' k A cells L := by
  intro hne
  obtain ⟨b, off, rfl, hlt, hc⟩ := h hne
  refine ⟨b, off, rfl, Nat.lt_of_lt_of_le hlt hw.size, fun i a hi j hj => ?_⟩
  rw [← hc i a hi j hj]
  exact (hw.belowNone (B := w.heap.size) (Nat.le_refl _)).cell (p := ⟨b, _, none⟩) hlt
theorem TreeAt.chg {w w' : World} {A : Option Addr} {L : List Fil} (h : TreeAt w A L) (g : Chg none w w') : TreeAt w' A L := ⟨h.1.chg g, fun f hf => (h.2 f hf).chg g⟩
theorem RowsAt.two {w : World} {b off : Nat} {L : List Fil} (h : RowsAt w 2 (some ⟨b, off, none⟩) filCells L) {i : Nat} {x : Fil} (hi : L[i]? = some x) :
    b < w.heap.size ∧ w.cell? ⟨b, off + i * 2, none⟩ = some (.string ⟨x.p.toArray⟩) ∧ w.cell? ⟨b, off + i * 2 + 1, none⟩ = some (.slice x.A x.x.length x.c) := by
  obtain ⟨b', off', e, hb, hc⟩ := h (by intro e; subst e; simp at hi)
  obtain ⟨rfl, rfl, -⟩ : b = b' ∧ off = off' ∧ True := by
    injection e with e
    injection e with e1 e2
    exact ⟨e1, e2, trivial⟩
  exact ⟨hb, hc i x hi 0 (by decide), hc i x hi 1 (by decide)⟩

/-- Is s no more than t, as Go orders texts? -/
def leB (s t : List UInt8) : Bool := Op.bytesLess s t || s == t
def sumT (L : List Fil) : Nat := L.foldl (fun n f => n + f.x.length) 0
/-- Does each path rise above the one ahead? -/
def riseT : List Fil → Bool
  | [] => true
  | [_] => true
  | f :: g :: L => !leB g.p f.p && riseT (g :: L)
def fileT (f : Fil) : Bool := pathB f.p && decide (f.x.length ≤ 2000)
def mayT (L : List Fil) : Bool := decide (L.length ≤ 16) && (L.all fileT && (riseT L && decide (sumT L ≤ 4000)))
theorem riseT_at : ∀ {L : List Fil}, riseT L = true ↔ ∀ (k : Nat) f g, L[k]? = some f → L[k + 1]? = some g → leB g.p f.p = false
  | [] => by simp [riseT]
  | [x] => by
    simp only [riseT, true_iff]
    intro k f g _ h2
    simp at h2
  | x :: y :: L => by
    unfold riseT
    rw [Bool.and_eq_true, riseT_at (L := y :: L)]
    constructor
    · rintro ⟨h1, h2⟩ k f g hf hg
      cases k with
      | zero =>
        simp only [List.getElem?_cons_zero, List.getElem?_cons_succ, Option.some.injEq] at hf hg
        subst hf hg
        simpa using h1
      | succ k => exact h2 k f g (by simpa using hf) (by simpa using hg)
    · intro h
      refine ⟨by simpa using h 0 x y rfl rfl, fun k f g hf hg => h (k + 1) f g (by simpa using hf) (by simpa using hg)⟩
theorem sumT_snoc (L : List Fil) (f : Fil) : sumT (L ++ [f]) = sumT L + f.x.length := by simp [sumT]
theorem sumT_step {L : List Fil} {k : Nat} {f : Fil} (h : L[k]? = some f) : sumT (L.take (k + 1)) = sumT (L.take k) + f.x.length := by
  rw [List.take_add_one, h]; exact sumT_snoc _ _
theorem mayT_long {L : List Fil} (h : 16 < L.length) : mayT L = false := by unfold mayT; rw [decide_eq_false (by omega), Bool.false_and]
theorem mayT_file {L : List Fil} {k : Nat} {f : Fil} (h : L[k]? = some f) (hf : fileT f = false) : mayT L = false := by
  unfold mayT
  have : L.all fileT = false := by rw [List.all_eq_false]; exact ⟨f, List.mem_of_getElem? h, by rw [hf]; simp⟩
  rw [this, Bool.false_and, Bool.and_false]
theorem mayT_rise {L : List Fil} {k : Nat} {f g : Fil} (h : L[k]? = some f) (h2 : L[k + 1]? = some g) (hl : leB g.p f.p = true) : mayT L = false := by
  unfold mayT
  have : riseT L = false := by
    cases hr : riseT L with
    | false => rfl
    | true => have := riseT_at.1 hr k f g h h2; rw [hl] at this; cases this
  rw [this, Bool.false_and, Bool.and_false, Bool.and_false]
theorem mayT_sum {L : List Fil} (h16 : L.length ≤ 16) (hf : ∀ (k : Nat) f, L[k]? = some f → fileT f = true) (hr : ∀ (k : Nat) f g, L[k]? = some f → L[k + 1]? = some g → leB g.p f.p = false) : mayT L = decide (sumT L ≤ 4000) := by
  unfold mayT
  have h1 : L.all fileT = true := by
    rw [List.all_eq_true]
    intro x hx
    obtain ⟨k, hk, rfl⟩ := List.mem_iff_getElem.1 hx
    exact hf k _ (List.getElem?_eq_getElem hk)
  rw [h1, riseT_at.2 hr, decide_eq_true h16]; rfl

def RiseMid (w : World) (b : Bool) (s : Value) (w' : World) : Prop := s = .bool b ∧ Chg none w w'

set_option maxHeartbeats 16000000 in
set_option maxRecDepth 100000 in
theorem mayt_any (L : List Fil) (A : Option Addr) (c : Nat) (w : World) (hT : TreeAt w A L) (hl : L.length ≤ 9223372036854775807) :
    Calls Tryd.prog 31 #[.slice A L.length c] w fun e w' => e = .returned (.bool (mayT L)) ∧ Chg none w w' := by
  by_cases h16 : 16 < L.length
  · have d1 : decide ((16 : Int) < (L.length : Int)) = true := by rw [decide_eq_true_eq]; omega
    rw [mayT_long h16]
    clear h16
    go_enter Tryd.func31, Tryd.ntmps31
    go_wp2_with fail
    go_ret
    exact ⟨rfl, Chg.refl _ _⟩
  have d1 : decide ((16 : Int) < (L.length : Int)) = false := by rw [decide_eq_false_iff_not]; omega
  have HT : Hid (∀ v, Chg none w v → TreeAt v A L) := fun v g => hT.chg g
  have HIP : Hid (∀ f ∈ L, ∀ v, Calls Tryd.prog 73 #[.string ⟨f.p.toArray⟩] v fun e w' => e = .returned (.bool (pathB f.p)) ∧ Chg none v w') := fun f hf v => ispath_any f.p v (hT.2 f hf).p
  have HL16 : Hid (L.length ≤ 16) := by show _ ≤ _; omega
  clear hT h16
  go_enter Tryd.func31, Tryd.ntmps31
  go_wp2_with fail
  go_loopw [3, 11] (fun s3 s11 wr => ∃ k n : Nat, s11 = .int .i64 k ∧ s3 = .int .i64 n ∧ Hid (k ≤ L.length ∧ n = sumT (L.take k) ∧ n ≤ k * 2000 ∧ (∀ (j : Nat) f, j < k → L[j]? = some f → fileT f = true) ∧ (∀ (j : Nat) f g, j + 1 < k → L[j]? = some f → L[j + 1]? = some g → leB g.p f.p = false)) ∧ Hid (Chg none w wr)) (fun _ s11 _ => L.length - (intOf s11).toNat)
  case atStart => exact ⟨0, 0, rfl, rfl, Lib.hid ⟨Nat.zero_le _, rfl, Nat.zero_le _, fun j f h => absurd h (Nat.not_lt_zero _), fun j f g h => absurd h (Nat.not_lt_zero _)⟩, Lib.hid (Chg.refl _ _)⟩
  case round =>
    obtain ⟨k, n, rfl, rfl, H1, H2⟩ := hrel
    by_cases hlt : k < L.length
    · have hd : decide ((k : Int) < (L.length : Int)) = true := by rw [decide_eq_true_eq]; omega
      obtain ⟨x, hkx⟩ : ∃ x, L[k]? = some x := ⟨_, List.getElem?_eq_getElem hlt⟩
      have hne : L ≠ [] := by intro e; subst e; simp at hlt
      have HRW := Lib.hid (HT.out wr H2.out)
      obtain ⟨b, off, rfl, -, -⟩ := HRW.out.1 hne
      obtain ⟨hb, x0, x1⟩ := HRW.out.1.two hkx
      have HMX := Lib.hid (HIP.out x (List.mem_of_getElem? hkx))
      have HKX := Lib.hid hkx
      have HLT := Lib.hid hlt
      clear hne HRW
      by_cases hp : pathB x.p = true
      rotate_left
      · have hp' : pathB x.p = false := by simpa using hp
        have HRES := Lib.hid (mayT_file HKX.out (by unfold fileT; rw [hp', Bool.false_and]))
        rw [hp'] at HMX
        clear hp hp' hkx HT HIP
        obtain ⟨fp, fA, fx, fc⟩ := x
        dsimp only at x0 x1 HMX
        as_aux_lemma =>
          go_wp2_with fail
          refine (HMX.out _).mono ?_
          rintro e w2 ⟨rfl, g2⟩
          have G2 : Hid (Chg none w w2) := Chg.trans (by repeat (first | exact H2.out | refine Chg.drew ?_ | refine Chg.alloc ?_ _)) g2
          clear g2
          go_wp2_with fail
          go_ret
          exact ⟨by rw [HRES.out]; rfl, G2.out⟩
      by_cases hx : x.x.length ≤ 2000
      rotate_left
      · have d2 : decide ((2000 : Int) < (x.x.length : Int)) = true := by rw [decide_eq_true_eq]; omega
        have HRES := Lib.hid (mayT_file HKX.out (by unfold fileT; rw [decide_eq_false hx, Bool.and_false]))
        rw [hp] at HMX
        clear hp hx hkx HT HIP
        obtain ⟨fp, fA, fx, fc⟩ := x
        dsimp only at x0 x1 HMX d2
        have hbx : ∀ v, Chg none (wr.alloc (.cells #[.string ⟨fp.toArray⟩, .slice fA fx.length fc] 91)) v → Blk v wr.heap.size #[.string ⟨fp.toArray⟩, .slice fA fx.length fc] 91 := fun v g => (Blk.new wr _ 91).chg g (by simp)
        have HBX := Lib.hid hbx
        clear hbx
        as_aux_lemma =>
          go_wp2_with fail
          refine (HMX.out _).mono ?_
          rintro e w2 ⟨rfl, g2⟩
          have y1 : w2.cell? ⟨wr.heap.size, 1, none⟩ = some (.slice fA fx.length fc) := (HBX.out w2 g2).cell 1
          have G2 : Hid (Chg none w w2) := Chg.trans (by repeat (first | exact H2.out | refine Chg.drew ?_ | refine Chg.alloc ?_ _)) g2
          clear g2
          go_wp2_with fail
          go_ret
          exact ⟨by rw [HRES.out]; rfl, G2.out⟩
      have d2 : decide ((2000 : Int) < (x.x.length : Int)) = false := by rw [decide_eq_false_iff_not]; omega
      have HFX : Hid (fileT x = true) := by show _ = _; unfold fileT; rw [hp, decide_eq_true hx]; rfl
      have HXL := Lib.hid hx
      have HST := Lib.hid (sumT_step hkx)
      rw [hp] at HMX
      clear hp hx
      have HPV : Hid (0 < k → ∃ y, L[k - 1]? = some y) := fun h => ⟨_, List.getElem?_eq_getElem (by omega)⟩
      clear hkx HIP
      obtain ⟨fp, fA, fx, fc⟩ := x
      dsimp only at x0 x1 HMX d2 HXL HST
      have HBX : Hid (∀ v, Chg none (wr.alloc (.cells #[.string ⟨fp.toArray⟩, .slice fA fx.length fc] 91)) v → Blk v wr.heap.size #[.string ⟨fp.toArray⟩, .slice fA fx.length fc] 91) := fun v g => (Blk.new wr _ 91).chg g (by simp)
      go_wp2_with fail
      refine (HMX.out _).mono ?_
      rintro e w2 ⟨rfl, g2⟩
      have y0 : w2.cell? ⟨wr.heap.size, 0, none⟩ = some (.string ⟨fp.toArray⟩) := (HBX.out w2 g2).cell 0
      have y1 : w2.cell? ⟨wr.heap.size, 1, none⟩ = some (.slice fA fx.length fc) := (HBX.out w2 g2).cell 1
      have HB2' := Lib.hid (HBX.out w2 g2)
      have G2 : Hid (Chg none w w2) := Chg.trans (by repeat (first | exact H2.out | refine Chg.drew ?_ | refine Chg.alloc ?_ _)) g2
      clear g2 HMX HBX
      obtain ⟨bR, hb1, hb2, hb3⟩ : ∃ bR : Bool, (bR = true → mayT L = false) ∧ (bR = false → ∀ (j : Nat) f g, j + 1 < k + 1 → L[j]? = some f → L[j + 1]? = some g → leB g.p f.p = false) ∧ (k = 0 → bR = false) ∧ (0 < k → ∀ y, L[k - 1]? = some y → (Op.bytesLess fp y.p || fp == y.p) = bR) := by
        rcases Nat.eq_zero_or_pos k with h0 | h0
        · exact ⟨false, fun h => (by cases h), fun _ j f g hj => by omega, fun _ => rfl, fun h => by omega⟩
        · obtain ⟨y, hy⟩ := HPV.out h0
          refine ⟨leB fp y.p, fun h => mayT_rise hy (by rw [Nat.sub_add_cancel h0]; exact HKX.out) h, fun h j f g hj hf hg => ?_, fun h => by omega, fun _ y' hy' => ?_⟩
          · rcases Nat.lt_or_ge (j + 1) k with h1 | h1
            · exact H1.out.2.2.2.2 j f g h1 hf hg
            · obtain rfl : j = k - 1 := by omega
              rw [Nat.sub_add_cancel h0] at hg
              obtain rfl := Option.some.inj (hy.symm.trans hf)
              obtain rfl := Option.some.inj (HKX.out.symm.trans hg)
              exact h
          · obtain rfl := Option.some.inj (hy.symm.trans hy')
            rfl
      have HB1 := Lib.hid hb1
      have HB2 := Lib.hid hb2
      have HB3 := Lib.hid hb3
      clear hb1 hb2 hb3
      go_upto_region 9 with fail
      go_cut [38] from 39 to 44 (fun s38 wx => RiseMid w2 bR s38 wx)
      case first =>
        rcases Nat.eq_zero_or_pos k with h0 | h0
        · have hbf := HB3.out.1 h0
          have HBF := Lib.hid hbf
          subst h0
          clear hbf HB1 HB2 HB3
          as_aux_lemma =>
            go_region
            all_goals
              go_wp2_with fail
              go_meet
              case rel => exact ⟨by rw [HBF.out], (Chg.refl _ _).drew⟩
        · obtain ⟨K, hK⟩ : ∃ K, k = K + 1 := ⟨k - 1, by omega⟩
          obtain ⟨y, hy⟩ := HPV.out h0
          have hle := HB3.out.2 h0 y hy
          rw [hK, Nat.add_sub_cancel] at hy
          obtain ⟨_, z0, -⟩ := (HT.out w2 G2.out).1.two hy
          obtain ⟨yp, yA, yx, yc⟩ := y
          dsimp only at z0 hle
          have hlk := HLT.out
          have hl16 := HL16.out
          have hw1 : IntKind.i64.wrap ((K : Int) + 1 - 1) = (K : Int) := by rw [IntKind.wrap_i64]; omega
          have hw2 : IntKind.i64.wrap (K : Int) = (K : Int) := by rw [IntKind.wrap_i64]; omega
          have hw3 : IntKind.i64.wrap ((k : Int) - 1) = (K : Int) := by rw [IntKind.wrap_i64]; omega
          have hk0 : decide ((0 : Int) < (k : Int)) = true := by rw [decide_eq_true_eq]; omega
          have hk1 : decide (0 < k) = true := by rw [decide_eq_true_eq]; exact h0
          have hkl : (K : Int) < (L.length : Int) := by omega
          have hkn : K < L.length := by omega
          clear HB1 HB2 HB3 hy hlk hl16 HPV hK h0 HKX HT H1
          as_aux_lemma =>
            go_region
            all_goals
              go_wp2_with fail
              go_meet
              case rel => exact ⟨by first | rfl | (simp only [hle]; done) | (rw [← hle]; simp; done), (Chg.refl _ _).drew⟩
      case rest =>
        obtain ⟨rfl, g3⟩ := hcut
        have G3 := Lib.hid (G2.out.trans g3)
        have y1' : wc.cell? ⟨wr.heap.size, 1, none⟩ = some (.slice fA fx.length fc) := (HB2'.out.chg g3 (by simp)).cell 1
        clear g3 y0 y1
        cases bR
        rotate_left
        · have HRES := Lib.hid (HB1.out rfl)
          as_aux_lemma =>
            go_wp2_with fail
            go_ret
            exact ⟨by rw [HRES.out]; rfl, G3.out⟩
        have hnn : n ≤ k * 2000 := H1.out.2.2.1
        have h16 := HL16.out
        have hlk := HLT.out
        have hws : IntKind.i64.wrap ((n : Int) + (fx.length : Int)) = ((n + fx.length : Nat) : Int) := by have := HXL.out; rw [IntKind.wrap_i64]; omega
        have HN : Hid (n + fx.length = sumT (L.take (k + 1)) ∧ n + fx.length ≤ (k + 1) * 2000) := by
          have h := HXL.out
          show _ ∧ _
          rw [HST.out, ← H1.out.2.1]
          omega
        clear hnn h16 hlk
        go_wp2_with fail
        go_roundw
        case rel => exact ⟨k + 1, n + fx.length, by first | rfl | (simp; done), by first | rfl | (simp; done), Lib.hid ⟨HLT.out, HN.out.1, HN.out.2, fun j f hj hf => by
          rcases Nat.lt_or_ge j k with h | h
          · exact H1.out.2.2.2.1 j f h hf
          · obtain rfl : j = k := by omega
            obtain rfl := Option.some.inj (HKX.out.symm.trans hf)
            exact HFX.out, HB2.out rfl⟩, G3⟩
        case measure =>
          have := HLT.out
          first | omega | (simp only [intOf]; omega) | (simp [intOf]; omega)
    · have hd : decide (k < L.length) = false := by rw [decide_eq_false_iff_not]; exact hlt
      have hd2 : decide ((k : Int) < (L.length : Int)) = false := by rw [decide_eq_false_iff_not]; omega
      have hkl : k = L.length := by have := H1.out.1; omega
      have hn := H1.out.2.1
      rw [hkl, List.take_length] at hn
      have hr := mayT_sum HL16.out (fun j f hf => H1.out.2.2.2.1 j f (by have := (List.getElem?_eq_some_iff.1 hf).1; omega) hf) (fun j f g hf hg => H1.out.2.2.2.2 j f g (by have := (List.getElem?_eq_some_iff.1 hg).1; omega) hf hg)
      rw [← hn] at hr
      have HRES := Lib.hid hr
      clear hlt hkl hn hr HT HIP
      by_cases h4 : n ≤ 4000
      · have e4 : decide ((n : Int) ≤ 4000) = true := by rw [decide_eq_true_eq]; omega
        rw [decide_eq_true h4] at HRES
        clear h4
        as_aux_lemma =>
          go_wp2_with fail
          go_ret
          exact ⟨by rw [HRES.out]; rfl, H2.out⟩
      · have e4 : decide ((n : Int) ≤ 4000) = false := by rw [decide_eq_false_iff_not]; omega
        rw [decide_eq_false h4] at HRES
        clear h4
        as_aux_lemma =>
          go_wp2_with fail
          go_ret
          exact ⟨by rw [HRES.out]; rfl, H2.out⟩

end Go.Proofs.YtbadkkilblgpmaaDoor
