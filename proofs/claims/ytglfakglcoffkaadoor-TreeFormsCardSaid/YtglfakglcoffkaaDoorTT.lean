/-
  Package tree: files in memory; May. Package tree: Bytes. Package tree: copied. Package tree: slices.SortFunc at files, by their paths. Package tree: a tree in memory of the call's own; held. Package tree: Same. Package tree: Under. Package tree: Below. Trees by what stands in them (plain): which files may be a tree, in whatever order they come. Package tree: Get; the document's Great. Layer 5's known.
-/
import Derived.Test.YtglfakglcoffkaaDoorPB
import Derived.Test.YtglfakglcoffkaaDoorWA
import Derived.Handy
import Derived.Deep.Cut
import Derived.Deep.CutBlock
import Derived.Deep.DeepCutAuto
import Derived.Deep.RegionHeld3
import Derived.Test.YtglfakglcoffkaaDoorBW
import Derived.Test.YtglfakglcoffkaaDoorShelf
import Derived.Lib.SlBytesConst
namespace Go.Proofs.YtglfakglcoffkaaDoor
open Go.RowKit

/-- A file: its path, and where its bytes lie. -/
structure Fil where
  p : List UInt8
  A : Option Addr
  x : List UInt8
  c : Nat
instance : Inhabited Fil := ⟨⟨[], none, [], 0⟩⟩
def filCells (f : Fil) : List Value := [.string ⟨f.p.toArray⟩, .slice f.A f.x.length f.c]
structure Fil.ok (w : World) (f : Fil) : Prop where
  t : Txt w f.A f.x
  c : f.x.length ≤ f.c
  p : f.p.length ≤ 9223372036854775807
  m : f.c ≤ 9223372036854775807
  nil : f.A = none → f.x.length = 0 ∧ f.c = 0
theorem Fil.ok.chg {w w' : World} {f : Fil} (h : f.ok w) (g : Chg none w w') : f.ok w' := ⟨h.t.chg g, h.c, h.p, h.m, h.nil⟩
/-- A tree in memory. -/
def TreeAt (w : World) (A : Option Addr) (L : List Fil) : Prop := RowsAt w 2 A filCells L ∧ ∀ f ∈ L, f.ok w
theorem RowsAt.chg {α : Type} {w w' : World} {k : Nat} {A : Option Addr} {cells : α → List Value} {L : List α} (h : RowsAt w k A cells L) (hw : Chg none w w') : RowsAt w' k A cells L := by
  intro hne
  obtain ⟨b, off, rfl, hlt, hc⟩ := h hne
  refine ⟨b, off, rfl, Nat.lt_of_lt_of_le hlt hw.size, fun i a hi j hj => ?_⟩
  rw [← hc i a hi j hj]
  exact (hw.belowNone (B := w.heap.size) (Nat.le_refl _)).cell (p := ⟨b, _, none⟩) hlt
theorem TreeAt.chg {w w' : World} {A : Option Addr} {L : List Fil} (h : TreeAt w A L) (g : Chg none w w') : TreeAt w' A L := ⟨h.1.chg g, fun f hf => (h.2 f hf).chg g⟩
theorem RowsAt.two {w : World} {b off : Nat} {L : List Fil} (h : RowsAt w 2 (some ⟨b, off, none⟩) filCells L) {i : Nat} {x : Fil} (hi : L[i]? = some x) :
    b < w.heap.size ∧ w.cell? ⟨b, off + i * 2, none⟩ = some (.string ⟨x.p.toArray⟩) ∧ w.cell? ⟨b, off + i * 2 + 1, none⟩ = some (.slice x.A x.x.length x.c) := by
  obtain ⟨b', off', e, hb, hc⟩ := h (by intro e; subst e; simp at hi)
  obtain ⟨rfl, rfl, -⟩ : b = b' ∧ off = off' ∧ True := by
    injection e with e
    injection e with e1 e2
    exact ⟨e1, e2, trivial⟩
  exact ⟨hb, hc i x hi 0 (by decide), hc i x hi 1 (by decide)⟩

/-- Is s no more than t, as Go orders texts? -/
def leB (s t : List UInt8) : Bool := Op.bytesLess s t || s == t
def sumT (L : List Fil) : Nat := L.foldl (fun n f => n + f.x.length) 0
/-- Does each path rise above the one ahead? -/
def riseT : List Fil → Bool
  | [] => true
  | [_] => true
  | f :: g :: L => !leB g.p f.p && riseT (g :: L)
def fileT (f : Fil) : Bool := pathB f.p && decide (f.x.length ≤ 2000)
def mayT (L : List Fil) : Bool := decide (L.length ≤ 16) && (L.all fileT && (riseT L && decide (sumT L ≤ 4000)))
theorem riseT_at : ∀ {L : List Fil}, riseT L = true ↔ ∀ (k : Nat) f g, L[k]? = some f → L[k + 1]? = some g → leB g.p f.p = false
  | [] => by simp [riseT]
  | [x] => by
    simp only [riseT, true_iff]
    intro k f g _ h2
    simp at h2
  | x :: y :: L => by
    unfold riseT
    rw [Bool.and_eq_true, riseT_at (L := y :: L)]
    constructor
    · rintro ⟨h1, h2⟩ k f g hf hg
      cases k with
      | zero =>
        simp only [List.getElem?_cons_zero, List.getElem?_cons_succ, Option.some.injEq] at hf hg
        subst hf hg
        simpa using h1
      | succ k => exact h2 k f g (by simpa using hf) (by simpa using hg)
    · intro h
      refine ⟨by simpa using h 0 x y rfl rfl, fun k f g hf hg => h (k + 1) f g (by simpa using hf) (by simpa using hg)⟩
theorem sumT_snoc (L : List Fil) (f : Fil) : sumT (L ++ [f]) = sumT L + f.x.length := by simp [sumT]
theorem sumT_step {L : List Fil} {k : Nat} {f : Fil} (h : L[k]? = some f) : sumT (L.take (k + 1)) = sumT (L.take k) + f.x.length := by
  rw [List.take_add_one, h]; exact sumT_snoc _ _
theorem mayT_long {L : List Fil} (h : 16 < L.length) : mayT L = false := by unfold mayT; rw [decide_eq_false (by omega), Bool.false_and]
theorem mayT_file {L : List Fil} {k : Nat} {f : Fil} (h : L[k]? = some f) (hf : fileT f = false) : mayT L = false := by
  unfold mayT
  have : L.all fileT = false := by rw [List.all_eq_false]; exact ⟨f, List.mem_of_getElem? h, by rw [hf]; simp⟩
  rw [this, Bool.false_and, Bool.and_false]
theorem mayT_rise {L : List Fil} {k : Nat} {f g : Fil} (h : L[k]? = some f) (h2 : L[k + 1]? = some g) (hl : leB g.p f.p = true) : mayT L = false := by
  unfold mayT
  have : riseT L = false := by
    cases hr : riseT L with
    | false => rfl
    | true => have := riseT_at.1 hr k f g h h2; rw [hl] at this; cases this
  rw [this, Bool.false_and, Bool.and_false, Bool.and_false]
theorem mayT_sum {L : List Fil} (h16 : L.length ≤ 16) (hf : ∀ (k : Nat) f, L[k]? = some f → fileT f = true) (hr : ∀ (k : Nat) f g, L[k]? = some f → L[k + 1]? = some g → leB g.p f.p = false) : mayT L = decide (sumT L ≤ 4000) := by
  unfold mayT
  have h1 : L.all fileT = true := by
    rw [List.all_eq_true]
    intro x hx
    obtain ⟨k, hk, rfl⟩ := List.mem_iff_getElem.1 hx
    exact hf k _ (List.getElem?_eq_getElem hk)
  rw [h1, riseT_at.2 hr, decide_eq_true h16]; rfl

def RiseMid (w : World) (b : Bool) (s : Value) (w' : World) : Prop := s = .bool b ∧ Chg none w w'

set_option maxHeartbeats 16000000 in
set_option maxRecDepth 100000 in
theorem mayt_any (L : List Fil) (A : Option Addr) (c : Nat) (w : World) (hT : TreeAt w A L) (hl : L.length ≤ 9223372036854775807) :
    Calls Tryd.prog 25 #[.slice A L.length c] w fun e w' => e = .returned (.bool (mayT L)) ∧ Chg none w w' := by
  by_cases h16 : 16 < L.length
  · have d1 : decide ((16 : Int) < (L.length : Int)) = true := by rw [decide_eq_true_eq]; omega
    rw [mayT_long h16]
    clear h16
    go_enter Tryd.func25, Tryd.ntmps25
    go_wp2_with fail
    go_ret
    exact ⟨rfl, Chg.refl _ _⟩
  have d1 : decide ((16 : Int) < (L.length : Int)) = false := by rw [decide_eq_false_iff_not]; omega
  have HT : Hid (∀ v, Chg none w v → TreeAt v A L) := fun v g => hT.chg g
  have HIP : Hid (∀ f ∈ L, ∀ v, Calls Tryd.prog 60 #[.string ⟨f.p.toArray⟩] v fun e w' => e = .returned (.bool (pathB f.p)) ∧ Chg none v w') := fun f hf v => ispath_any f.p v (hT.2 f hf).p
  have HL16 : Hid (L.length ≤ 16) := by show _ ≤ _; omega
  clear hT h16
  go_enter Tryd.func25, Tryd.ntmps25
  go_wp2_with fail
  go_loopw [3, 11] (fun s3 s11 wr => ∃ k n : Nat, s11 = .int .i64 k ∧ s3 = .int .i64 n ∧ Hid (k ≤ L.length ∧ n = sumT (L.take k) ∧ n ≤ k * 2000 ∧ (∀ (j : Nat) f, j < k → L[j]? = some f → fileT f = true) ∧ (∀ (j : Nat) f g, j + 1 < k → L[j]? = some f → L[j + 1]? = some g → leB g.p f.p = false)) ∧ Hid (Chg none w wr)) (fun _ s11 _ => L.length - (intOf s11).toNat)
  case atStart => exact ⟨0, 0, rfl, rfl, Lib.hid ⟨Nat.zero_le _, rfl, Nat.zero_le _, fun j f h => absurd h (Nat.not_lt_zero _), fun j f g h => absurd h (Nat.not_lt_zero _)⟩, Lib.hid (Chg.refl _ _)⟩
  case round =>
    obtain ⟨k, n, rfl, rfl, H1, H2⟩ := hrel
    by_cases hlt : k < L.length
    · have hd : decide ((k : Int) < (L.length : Int)) = true := by rw [decide_eq_true_eq]; omega
      obtain ⟨x, hkx⟩ : ∃ x, L[k]? = some x := ⟨_, List.getElem?_eq_getElem hlt⟩
      have hne : L ≠ [] := by intro e; subst e; simp at hlt
      have HRW := Lib.hid (HT.out wr H2.out)
      obtain ⟨b, off, rfl, -, -⟩ := HRW.out.1 hne
      obtain ⟨hb, x0, x1⟩ := HRW.out.1.two hkx
      have HMX := Lib.hid (HIP.out x (List.mem_of_getElem? hkx))
      have HKX := Lib.hid hkx
      have HLT := Lib.hid hlt
      clear hne HRW
      by_cases hp : pathB x.p = true
      rotate_left
      · have hp' : pathB x.p = false := by simpa using hp
        have HRES := Lib.hid (mayT_file HKX.out (by unfold fileT; rw [hp', Bool.false_and]))
        rw [hp'] at HMX
        clear hp hp' hkx HT HIP
        obtain ⟨fp, fA, fx, fc⟩ := x
        dsimp only at x0 x1 HMX
        as_aux_lemma =>
          go_wp2_with fail
          refine (HMX.out _).mono ?_
          rintro e w2 ⟨rfl, g2⟩
          have G2 : Hid (Chg none w w2) := Chg.trans (by repeat (first | exact H2.out | refine Chg.drew ?_ | refine Chg.alloc ?_ _)) g2
          clear g2
          go_wp2_with fail
          go_ret
          exact ⟨by rw [HRES.out]; rfl, G2.out⟩
      by_cases hx : x.x.length ≤ 2000
      rotate_left
      · have d2 : decide ((2000 : Int) < (x.x.length : Int)) = true := by rw [decide_eq_true_eq]; omega
        have HRES := Lib.hid (mayT_file HKX.out (by unfold fileT; rw [decide_eq_false hx, Bool.and_false]))
        rw [hp] at HMX
        clear hp hx hkx HT HIP
        obtain ⟨fp, fA, fx, fc⟩ := x
        dsimp only at x0 x1 HMX d2
        have hbx : ∀ v, Chg none (wr.alloc (.cells #[.string ⟨fp.toArray⟩, .slice fA fx.length fc] 86)) v → Blk v wr.heap.size #[.string ⟨fp.toArray⟩, .slice fA fx.length fc] 86 := fun v g => (Blk.new wr _ 86).chg g (by simp)
        have HBX := Lib.hid hbx
        clear hbx
        as_aux_lemma =>
          go_wp2_with fail
          refine (HMX.out _).mono ?_
          rintro e w2 ⟨rfl, g2⟩
          have y1 : w2.cell? ⟨wr.heap.size, 1, none⟩ = some (.slice fA fx.length fc) := (HBX.out w2 g2).cell 1
          have G2 : Hid (Chg none w w2) := Chg.trans (by repeat (first | exact H2.out | refine Chg.drew ?_ | refine Chg.alloc ?_ _)) g2
          clear g2
          go_wp2_with fail
          go_ret
          exact ⟨by rw [HRES.out]; rfl, G2.out⟩
      have d2 : decide ((2000 : Int) < (x.x.length : Int)) = false := by rw [decide_eq_false_iff_not]; omega
      have HFX : Hid (fileT x = true) := by show _ = _; unfold fileT; rw [hp, decide_eq_true hx]; rfl
      have HXL := Lib.hid hx
      have HST := Lib.hid (sumT_step hkx)
      rw [hp] at HMX
      clear hp hx
      have HPV : Hid (0 < k → ∃ y, L[k - 1]? = some y) := fun h => ⟨_, List.getElem?_eq_getElem (by omega)⟩
      clear hkx HIP
      obtain ⟨fp, fA, fx, fc⟩ := x
      dsimp only at x0 x1 HMX d2 HXL HST
      have HBX : Hid (∀ v, Chg none (wr.alloc (.cells #[.string ⟨fp.toArray⟩, .slice fA fx.length fc] 86)) v → Blk v wr.heap.size #[.string ⟨fp.toArray⟩, .slice fA fx.length fc] 86) := fun v g => (Blk.new wr _ 86).chg g (by simp)
      go_wp2_with fail
      refine (HMX.out _).mono ?_
      rintro e w2 ⟨rfl, g2⟩
      have y0 : w2.cell? ⟨wr.heap.size, 0, none⟩ = some (.string ⟨fp.toArray⟩) := (HBX.out w2 g2).cell 0
      have y1 : w2.cell? ⟨wr.heap.size, 1, none⟩ = some (.slice fA fx.length fc) := (HBX.out w2 g2).cell 1
      have HB2' := Lib.hid (HBX.out w2 g2)
      have G2 : Hid (Chg none w w2) := Chg.trans (by repeat (first | exact H2.out | refine Chg.drew ?_ | refine Chg.alloc ?_ _)) g2
      clear g2 HMX HBX
      obtain ⟨bR, hb1, hb2, hb3⟩ : ∃ bR : Bool, (bR = true → mayT L = false) ∧ (bR = false → ∀ (j : Nat) f g, j + 1 < k + 1 → L[j]? = some f → L[j + 1]? = some g → leB g.p f.p = false) ∧ (k = 0 → bR = false) ∧ (0 < k → ∀ y, L[k - 1]? = some y → (Op.bytesLess fp y.p || fp == y.p) = bR) := by
        rcases Nat.eq_zero_or_pos k with h0 | h0
        · exact ⟨false, fun h => (by cases h), fun _ j f g hj => by omega, fun _ => rfl, fun h => by omega⟩
        · obtain ⟨y, hy⟩ := HPV.out h0
          refine ⟨leB fp y.p, fun h => mayT_rise hy (by rw [Nat.sub_add_cancel h0]; exact HKX.out) h, fun h j f g hj hf hg => ?_, fun h => by omega, fun _ y' hy' => ?_⟩
          · rcases Nat.lt_or_ge (j + 1) k with h1 | h1
            · exact H1.out.2.2.2.2 j f g h1 hf hg
            · obtain rfl : j = k - 1 := by omega
              rw [Nat.sub_add_cancel h0] at hg
              obtain rfl := Option.some.inj (hy.symm.trans hf)
              obtain rfl := Option.some.inj (HKX.out.symm.trans hg)
              exact h
          · obtain rfl := Option.some.inj (hy.symm.trans hy')
            rfl
      have HB1 := Lib.hid hb1
      have HB2 := Lib.hid hb2
      have HB3 := Lib.hid hb3
      clear hb1 hb2 hb3
      go_upto_region 9 with fail
      go_cut [38] from 39 to 44 (fun s38 wx => RiseMid w2 bR s38 wx)
      case first =>
        rcases Nat.eq_zero_or_pos k with h0 | h0
        · have hbf := HB3.out.1 h0
          have HBF := Lib.hid hbf
          subst h0
          clear hbf HB1 HB2 HB3
          as_aux_lemma =>
            go_region
            all_goals
              go_wp2_with fail
              go_meet
              case rel => exact ⟨by rw [HBF.out], (Chg.refl _ _).drew⟩
        · obtain ⟨K, hK⟩ : ∃ K, k = K + 1 := ⟨k - 1, by omega⟩
          obtain ⟨y, hy⟩ := HPV.out h0
          have hle := HB3.out.2 h0 y hy
          rw [hK, Nat.add_sub_cancel] at hy
          obtain ⟨_, z0, -⟩ := (HT.out w2 G2.out).1.two hy
          obtain ⟨yp, yA, yx, yc⟩ := y
          dsimp only at z0 hle
          have hlk := HLT.out
          have hl16 := HL16.out
          have hw1 : IntKind.i64.wrap ((K : Int) + 1 - 1) = (K : Int) := by rw [IntKind.wrap_i64]; omega
          have hw2 : IntKind.i64.wrap (K : Int) = (K : Int) := by rw [IntKind.wrap_i64]; omega
          have hw3 : IntKind.i64.wrap ((k : Int) - 1) = (K : Int) := by rw [IntKind.wrap_i64]; omega
          have hk0 : decide ((0 : Int) < (k : Int)) = true := by rw [decide_eq_true_eq]; omega
          have hk1 : decide (0 < k) = true := by rw [decide_eq_true_eq]; exact h0
          have hkl : (K : Int) < (L.length : Int) := by omega
          have hkn : K < L.length := by omega
          clear HB1 HB2 HB3 hy hlk hl16 HPV hK h0 HKX HT H1
          as_aux_lemma =>
            go_region
            all_goals
              go_wp2_with fail
              go_meet
              case rel => exact ⟨by first | rfl | (simp only [hle]; done) | (rw [← hle]; simp; done), (Chg.refl _ _).drew⟩
      case rest =>
        obtain ⟨rfl, g3⟩ := hcut
        have G3 := Lib.hid (G2.out.trans g3)
        have y1' : wc.cell? ⟨wr.heap.size, 1, none⟩ = some (.slice fA fx.length fc) := (HB2'.out.chg g3 (by simp)).cell 1
        clear g3 y0 y1
        cases bR
        rotate_left
        · have HRES := Lib.hid (HB1.out rfl)
          as_aux_lemma =>
            go_wp2_with fail
            go_ret
            exact ⟨by rw [HRES.out]; rfl, G3.out⟩
        have hnn : n ≤ k * 2000 := H1.out.2.2.1
        have h16 := HL16.out
        have hlk := HLT.out
        have hws : IntKind.i64.wrap ((n : Int) + (fx.length : Int)) = ((n + fx.length : Nat) : Int) := by have := HXL.out; rw [IntKind.wrap_i64]; omega
        have HN : Hid (n + fx.length = sumT (L.take (k + 1)) ∧ n + fx.length ≤ (k + 1) * 2000) := by
          have h := HXL.out
          show _ ∧ _
          rw [HST.out, ← H1.out.2.1]
          omega
        clear hnn h16 hlk
        go_wp2_with fail
        go_roundw
        case rel => exact ⟨k + 1, n + fx.length, by first | rfl | (simp; done), by first | rfl | (simp; done), Lib.hid ⟨HLT.out, HN.out.1, HN.out.2, fun j f hj hf => by
          rcases Nat.lt_or_ge j k with h | h
          · exact H1.out.2.2.2.1 j f h hf
          · obtain rfl : j = k := by omega
            obtain rfl := Option.some.inj (HKX.out.symm.trans hf)
            exact HFX.out, HB2.out rfl⟩, G3⟩
        case measure =>
          have := HLT.out
          first | omega | (simp only [intOf]; omega) | (simp [intOf]; omega)
    · have hd : decide (k < L.length) = false := by rw [decide_eq_false_iff_not]; exact hlt
      have hd2 : decide ((k : Int) < (L.length : Int)) = false := by rw [decide_eq_false_iff_not]; omega
      have hkl : k = L.length := by have := H1.out.1; omega
      have hn := H1.out.2.1
      rw [hkl, List.take_length] at hn
      have hr := mayT_sum HL16.out (fun j f hf => H1.out.2.2.2.1 j f (by have := (List.getElem?_eq_some_iff.1 hf).1; omega) hf) (fun j f g hf hg => H1.out.2.2.2.2 j f g (by have := (List.getElem?_eq_some_iff.1 hg).1; omega) hf hg)
      rw [← hn] at hr
      have HRES := Lib.hid hr
      clear hlt hkl hn hr HT HIP
      by_cases h4 : n ≤ 4000
      · have e4 : decide ((n : Int) ≤ 4000) = true := by rw [decide_eq_true_eq]; omega
        rw [decide_eq_true h4] at HRES
        clear h4
        as_aux_lemma =>
          go_wp2_with fail
          go_ret
          exact ⟨by rw [HRES.out]; rfl, H2.out⟩
      · have e4 : decide ((n : Int) ≤ 4000) = false := by rw [decide_eq_false_iff_not]; omega
        rw [decide_eq_false h4] at HRES
        clear h4
        as_aux_lemma =>
          go_wp2_with fail
          go_ret
          exact ⟨by rw [HRES.out]; rfl, H2.out⟩

end Go.Proofs.YtglfakglcoffkaaDoor

namespace Go.Proofs.YtglfakglcoffkaaDoor
open Go.RowKit

def fileF (f : Fil) : List UInt8 := row f.p ++ row f.x
def treeB (L : List Fil) : List UInt8 := form L.length ++ L.flatMap fileF
def partT (L : List Fil) (k : Nat) : List UInt8 := form L.length ++ (L.take k).flatMap fileF
theorem partT_succ {L : List Fil} {k : Nat} {f : Fil} (h : L[k]? = some f) : partT L (k + 1) = partT L k ++ fileF f := by
  unfold partT
  rw [List.take_add_one, h]
  simp
theorem partT_all {L : List Fil} {k : Nat} (h : L.length ≤ k) : partT L k = treeB L := by
  unfold partT treeB
  rw [List.take_of_length_le h]
theorem t_path_len {s : List UInt8} (h : pathB s = true) : 1 ≤ s.length ∧ s.length ≤ 40 := by
  unfold pathB at h
  simp only [Bool.and_eq_true, decide_eq_true_eq] at h
  exact h.1
theorem mayT_parts {L : List Fil} (h : mayT L = true) : L.length ≤ 16 ∧ (∀ f ∈ L, pathB f.p = true ∧ f.x.length ≤ 2000) ∧ riseT L = true ∧ sumT L ≤ 4000 := by
  unfold mayT at h
  simp only [Bool.and_eq_true, decide_eq_true_eq, List.all_eq_true] at h
  refine ⟨h.1, fun f hf => ?_, h.2.2.1, h.2.2.2⟩
  have := h.2.1 f hf
  unfold fileT at this
  simpa only [Bool.and_eq_true, decide_eq_true_eq] using this
theorem fileF_len {f : Fil} (h : f.p.length ≤ 40 ∧ f.x.length ≤ 2000) : (fileF f).length ≤ 2058 := by
  unfold fileF
  have h1 := row_len f.p (by omega)
  have h2 := row_len f.x (by omega)
  rw [List.length_append]; omega
theorem flatF_len : ∀ L : List Fil, (∀ f ∈ L, f.p.length ≤ 40 ∧ f.x.length ≤ 2000) → (L.flatMap fileF).length ≤ 2058 * L.length
  | [], _ => by simp
  | f :: L, h => by
    rw [List.flatMap_cons, List.length_append, List.length_cons]
    have h1 := fileF_len (h f (by simp))
    have h2 := flatF_len L (fun g hg => h g (by simp [hg]))
    omega
theorem partT_len {L : List Fil} (h : mayT L = true) (k : Nat) : (partT L k).length ≤ 33000 := by
  obtain ⟨h1, h2, -, -⟩ := mayT_parts h
  unfold partT
  rw [List.length_append]
  have h3 := form_small L.length (by omega)
  have h4 := flatF_len (L.take k) (fun f hf => ⟨(t_path_len (h2 f (List.mem_of_mem_take hf)).1).2, (h2 f (List.mem_of_mem_take hf)).2⟩)
  rw [List.length_take] at h4
  omega

set_option maxHeartbeats 8000000 in
set_option maxRecDepth 100000 in
theorem tbytes_no (L : List Fil) (A : Option Addr) (c : Nat) (w : World) (hT : TreeAt w A L) (hl : L.length ≤ 9223372036854775807) (hm : mayT L = false) :
    Calls Tryd.prog 23 #[.slice A L.length c] w fun e w' => e = .returned (.tuple #[.slice none 0 0, .int .i64 2]) ∧ Chg none w w' := by
  have HM := Lib.hid (mayt_any L A c w hT hl)
  rw [hm] at HM
  clear hT hl hm
  go_enter Tryd.func23, Tryd.ntmps23
  go_wp2_with fail
  refine HM.out.mono ?_
  rintro e w1 ⟨rfl, g1⟩
  go_wp2_with fail
  go_ret2
  exact ⟨rfl, g1⟩

set_option maxHeartbeats 16000000 in
set_option maxRecDepth 100000 in
theorem tbytes_yes (L : List Fil) (A : Option Addr) (c : Nat) (w : World) (hT : TreeAt w A L) (hm : mayT L = true) :
    Calls Tryd.prog 23 #[.slice A L.length c] w fun e w' => ∃ A' n c', e = .returned (.tuple #[.slice A' n c', .int .i64 0]) ∧ ByAt w w' A' n c' (treeB L) := by
  obtain ⟨hl, hsm, -, -⟩ := mayT_parts hm
  have HSM := Lib.hid hsm
  have HMY := Lib.hid (mayt_any L A c w hT (by omega))
  rw [hm] at HMY
  have HT : Hid (∀ v, Chg none w v → TreeAt v A L) := fun v g => hT.chg g
  have HPL : Hid (∀ k, (partT L k).length ≤ 33000) := partT_len hm
  have HU : Hid (∀ (v : World) (A : Option Addr) (n c : Nat) (bs : List UInt8) (m : Nat), ByAt w v A n c bs → bs.length ≤ 40000 → m < 18446744073709551616 →
      Calls Tryd.prog 61 #[.slice A n c, .int .u64 m] v fun e w' => ∃ A' n' c', e = .returned (.slice A' n' c') ∧ ByAt w w' A' n' c' (bs ++ form m) ∧ Chg none v w') := fun v A n c bs m h h1 h2 => put_u m h (by omega) h2
  have HB : Hid (∀ (v : World) (A : Option Addr) (n c : Nat) (bs : List UInt8) (Ax : Option Addr) (x : List UInt8) (cx : Nat), ByAt w v A n c bs → bs.length ≤ 40000 → Reads v v.heap.size 1 Ax x.length (byteVals x) → x.length ≤ 2000 →
      Calls Tryd.prog 62 #[.slice A n c, .slice Ax x.length cx] v fun e w' => ∃ A' n' c', e = .returned (.slice A' n' c') ∧ ByAt w w' A' n' c' (bs ++ row x) ∧ Chg none v w') := fun v A n c bs Ax x cx h h1 h2 h3 => put_b Ax x cx h (by omega) h2 (by omega)
  clear hT hm hsm
  have hwl : IntKind.u64.wrap (L.length : Int) = (L.length : Int) := by rw [IntKind.wrap_u64]; omega
  go_enter Tryd.func23, Tryd.ntmps23
  go_wp2_with fail
  refine HMY.out.mono ?_
  rintro e w1 ⟨rfl, g1⟩
  have B1 : Hid (ByAt w w1 none 0 0 []) := ⟨rfl, World.ownsRow_nil _ _ _ _, g1⟩
  have HU1 := Lib.hid (HU.out w1 none 0 0 [] L.length B1.out (by simp) (by omega))
  clear g1 HMY
  go_wp2_with fail
  refine HU1.out.mono ?_
  rintro e w2 ⟨A2, n2, c2, rfl, hb2, -⟩
  have B2 : Hid (ByAt w w2 A2 n2 c2 (partT L 0)) := by
    show ByAt _ _ _ _ _ _
    have e : partT L 0 = [] ++ form L.length := by unfold partT; simp
    rw [e]; exact hb2
  clear hb2 HU1 B1 hwl
  go_wp2_with fail
  go_loopw [4, 16] (fun s4 s16 wr => ∃ (k : Nat) (A1 : Option Addr) (n1 c1 : Nat), s16 = .int .i64 k ∧ s4 = .slice A1 n1 c1 ∧ Hid (k ≤ L.length) ∧ Hid (ByAt w wr A1 n1 c1 (partT L k))) (fun _ s16 _ => L.length - (intOf s16).toNat)
  case atStart => exact ⟨0, A2, n2, c2, rfl, rfl, Lib.hid (Nat.zero_le _), B2⟩
  case round =>
    obtain ⟨k, A1, n1, c1, rfl, rfl, H1, H2⟩ := hrel
    by_cases hlt : k < L.length
    · have hd : decide ((k : Int) < (L.length : Int)) = true := by rw [decide_eq_true_eq]; omega
      obtain ⟨x, hkx⟩ : ∃ x, L[k]? = some x := ⟨_, List.getElem?_eq_getElem hlt⟩
      have hne : L ≠ [] := by intro e; subst e; simp at hlt
      have HRW := Lib.hid (HT.out wr H2.out.2.2)
      obtain ⟨b, off, rfl, -, -⟩ := HRW.out.1 hne
      obtain ⟨hb, x0, x1⟩ := HRW.out.1.two hkx
      have HLT := Lib.hid hlt
      have HSX := Lib.hid (HSM.out x (List.mem_of_getElem? hkx))
      have HPS := Lib.hid (partT_succ hkx)
      have HTX : Hid (∀ v, Chg none w v → Txt v x.A x.x) := fun v g => ((HT.out v g).2 x (List.mem_of_getElem? hkx)).t
      have HWR : Hid (Chg none w wr) := H2.out.2.2
      obtain ⟨V0, hV⟩ : ∃ V0, V0 = wr := ⟨_, rfl⟩
      rw [← hV] at hb x0 x1 H2 HWR ⊢
      clear hV hkx hne HRW HT hlt HSM B2
      obtain ⟨fp, fA, fx, fc⟩ := x
      dsimp only at x0 x1
      go_upto_region 7 with fail
      have HG0 : Hid (Chg none V0 (V0.alloc (.cells #[.string ⟨fp.toArray⟩, .slice fA fx.length fc] 86))) := (Chg.refl _ _).alloc _
      have HX0 : Hid (Blk (V0.alloc (.cells #[.string ⟨fp.toArray⟩, .slice fA fx.length fc] 86)) V0.heap.size #[.string ⟨fp.toArray⟩, .slice fA fx.length fc] 86) := Blk.new _ _ _
      generalize V0.alloc (.cells #[.string ⟨fp.toArray⟩, .slice fA fx.length fc] 86) = W0 at *
      have B0 := Lib.hid (H2.out.chg HG0.out)
      have HBX : Hid (∀ v, Chg none W0 v → Blk v V0.heap.size #[.string ⟨fp.toArray⟩, .slice fA fx.length fc] 86) := fun v g => HX0.out.chg g (by simp)
      have q0 : W0.cell? ⟨V0.heap.size, 0, none⟩ = some (.string ⟨fp.toArray⟩) := HX0.out.cell 0
      have HFP : Hid (fp.length ≤ 40) := (t_path_len HSX.out.1).2
      have HFX : Hid (fx.length ≤ 2000) := HSX.out.2
      have cs := fun v => conv_sb fp v
      have hrd := sb_reads fp W0
      have hcg := sb_chg ⟨fp.toArray⟩ W0
      have HB5 := fun cx => HB.out (Lib.bytesWorld W0 5 ⟨fp.toArray⟩) A1 n1 c1 _ (some ⟨W0.heap.size, 0, none⟩) fp cx (B0.out.chg hcg) (by have := HPL.out k; omega) hrd (by have := HFP.out; omega)
      have HB6 := Lib.hid HB5
      have HCG := Lib.hid hcg
      clear HX0 x0 x1 hb H2 hrd hcg HB5
      generalize V0.heap.size = PX at *
      go_wp2_with fail
      refine (HB6.out _).mono ?_
      rintro e v3 ⟨A3, n3, c3, rfl, hb3, hg3⟩
      have G3 := Lib.hid (HCG.out.trans hg3)
      have B3 := Lib.hid hb3
      have q1 : v3.cell? ⟨PX, 1, none⟩ = some (.slice fA fx.length fc) := (HBX.out v3 G3.out).cell 1
      have HB7 := Lib.hid (HB.out v3 A3 n3 c3 _ fA fx fc hb3 (by have h1 := HPL.out k; have h2 := row_len fp (by have := HFP.out; omega); have h3 := HFP.out; rw [List.length_append]; omega) (txt_reads (HTX.out v3 (HWR.out.trans (HG0.out.trans G3.out)))) HFX.out)
      clear hb3 hg3 HB6 q0 cs HCG
      go_wp2_with fail
      refine HB7.out.mono ?_
      rintro e v4 ⟨A4, n4, c4, rfl, hb4, hg4⟩
      have B4 : Hid (ByAt w v4 A4 n4 c4 (partT L (k + 1))) := by
        show ByAt _ _ _ _ _ _
        rw [HPS.out]
        unfold fileF
        simpa using hb4
      clear hb4 hg4 HB7 q1
      go_wp2_with fail
      go_roundw
      case rel => exact ⟨k + 1, A4, n4, c4, by first | rfl | (simp; done), rfl, Lib.hid HLT.out, B4⟩
      case measure =>
        have := HLT.out
        first | omega | (simp only [intOf]; omega) | (simp [intOf]; omega)
    · have hd : decide (k < L.length) = false := by rw [decide_eq_false_iff_not]; exact hlt
      have I2' : Hid (ByAt w wr A1 n1 c1 (treeB L)) := by
        show ByAt _ _ _ _ _ _
        rw [← partT_all (k := k) (by omega)]; exact H2.out
      clear hlt H2
      go_wp2_with fail
      go_ret2
      exact ⟨A1, n1, c1, rfl, I2'.out⟩

end Go.Proofs.YtglfakglcoffkaaDoor

namespace Go.Proofs.YtglfakglcoffkaaDoor
open Go.RowKit

theorem Tryd.info86 : (Tryd.prog.info? 86).map (fun i => (i.zero, i.size, i.bytes)) = some (some (.agg #[.string ⟨#[]⟩, .slice none 0 0]), 2, 40) := by kernel_rfl
theorem make25 (n : Nat) (hn : n < 1000000) (W : World) : ∃ cs : Array Value, cs.size = n * 2 ∧ (Instr.makeSlice 40 (.int .i64 n) (.int .i64 n)).run Tryd.prog W =
    .ok (.slice (some ⟨W.heap.size, 0, none⟩) n n) (W.alloc (.cells cs 86)) := by
  obtain ⟨i0, hi, hz0, hz1, hz2⟩ := info_parts Tryd.info86
  have hr := run_make (P := Tryd.prog) W 40 86 i0 (.agg #[.string ⟨#[]⟩, .slice none 0 0]) Tryd.underlying40 hi hz0 .i64 .i64 (n : Int) (n : Int) (by omega) (by omega) (by rw [hz2]; omega) (by omega)
  rw [hr, Int.toNat_natCast, hz1]
  exact ⟨_, size_madeCells _ _, rfl⟩

/-- The first files of a tree, copied: the row in block g, each file's bytes in memory of their own. -/
structure CopyAt (w0 wr : World) (g n : Nat) (L M : List Fil) (k : Nat) : Prop where
  len : M.length = k
  blk : ∃ cs : Array Value, Blk wr g cs 86 ∧ cs.size = n * 2 ∧ ∀ (i : Nat) (m : Fil), M[i]? = some m → cs[i * 2]? = some (.string ⟨m.p.toArray⟩) ∧ cs[i * 2 + 1]? = some (.slice m.A m.x.length m.c)
  same : ∀ (i : Nat) (m f : Fil), M[i]? = some m → L[i]? = some f → m.p = f.p ∧ m.x = f.x
  own : ∀ m ∈ M, wr.ownsRow w0.heap.size 5 1 (.slice m.A m.x.length m.c) m.x.length (byteVals m.x)
  base : w0.heap.size ≤ g
  chg : Chg none w0 wr
theorem own_other {w : World} {base n g : Nat} {v : Value} {xs : List Value} {cs : Array Value} {T : TypeId} (h : w.ownsRow base 5 1 v n xs) (hb : Blk w g cs T) (hT : T ≠ 5) : v.ownBlock ≠ some g := by
  intro e
  rcases h.2 with ⟨rfl, _⟩ | ⟨g', cap, cur, rfl, _, hg, _⟩
  · cases e
  · have e2 : g' = g := by simpa [Value.ownBlock] using e
    subst e2
    unfold Blk at hb
    rw [hg] at hb
    injection hb with hb
    injection hb with _ h2
    exact hT h2.symm
theorem CopyAt.on {w0 wr w' : World} {g n k : Nat} {L M : List Fil} (h : CopyAt w0 wr g n L M k) (hc : Chg none wr w') : CopyAt w0 w' g n L M k := by
  obtain ⟨cs, h1, h2, h3⟩ := h.blk
  exact ⟨h.len, ⟨cs, h1.chg hc (by simp), h2, h3⟩, h.same, fun m hm => own_chgW (h.own m hm) hc, h.base, h.chg.trans hc⟩
theorem CopyAt.step {w0 v : World} {g n k : Nat} {L M : List Fil} {f m : Fil} (h : CopyAt w0 v g n L M k) (hf : L[k]? = some f) (hp : m.p = f.p) (hx : m.x = f.x) (hk : k < n)
    (ho : v.ownsRow w0.heap.size 5 1 (.slice m.A m.x.length m.c) m.x.length (byteVals m.x)) :
    CopyAt w0 ((v.setCell ⟨g, k * 2, none⟩ (.string ⟨m.p.toArray⟩)).setCell ⟨g, k * 2 + 1, none⟩ (.slice m.A m.x.length m.c)) g n L (M ++ [m]) (k + 1) := by
  obtain ⟨cs, h1, h2, h3⟩ := h.blk
  have hgr : Chg (some g) v ((v.setCell ⟨g, k * 2, none⟩ (.string ⟨m.p.toArray⟩)).setCell ⟨g, k * 2 + 1, none⟩ (.slice m.A m.x.length m.c)) := ((Chg.refl _ _).setCell _ _).setCell _ _
  refine ⟨by rw [List.length_append, h.len]; rfl, ⟨_, (h1.set _ _).set _ _, by simp [h2], fun i m' hi => ?_⟩, fun i m' f' hi hf' => ?_, fun m' hm' => ?_, h.base, Chg.own (b := g) h.chg hgr h.base⟩
  · rcases Nat.lt_or_ge i k with hik | hik
    · rw [List.getElem?_append_left (by rw [h.len]; exact hik)] at hi
      have := h3 i m' hi
      rw [Array.getElem?_setIfInBounds_ne (by omega), Array.getElem?_setIfInBounds_ne (by omega), Array.getElem?_setIfInBounds_ne (by omega), Array.getElem?_setIfInBounds_ne (by omega)]
      exact this
    · have hlt := (List.getElem?_eq_some_iff.1 hi).1
      rw [List.length_append, h.len] at hlt
      obtain rfl : i = k := by simp at hlt; omega
      rw [List.getElem?_append_right (by rw [h.len]; exact Nat.le_refl _), h.len, Nat.sub_self] at hi
      obtain rfl : m = m' := by simpa using hi
      rw [Array.getElem?_setIfInBounds_ne (by omega)]
      have hs1 : i * 2 < cs.size := by omega
      have hs2 : i * 2 + 1 < cs.size := by omega
      refine ⟨?_, ?_⟩
      · simp [hs1]
      · simp [hs2]
  · rcases Nat.lt_or_ge i k with hik | hik
    · rw [List.getElem?_append_left (by rw [h.len]; exact hik)] at hi
      exact h.same i m' f' hi hf'
    · have hlt := (List.getElem?_eq_some_iff.1 hi).1
      rw [List.length_append, h.len] at hlt
      obtain rfl : i = k := by simp at hlt; omega
      rw [List.getElem?_append_right (by rw [h.len]; exact Nat.le_refl _), h.len, Nat.sub_self] at hi
      obtain rfl : m = m' := by simpa using hi
      obtain rfl := Option.some.inj (hf.symm.trans hf')
      exact ⟨hp, hx⟩
  · rcases List.mem_append.1 hm' with hm | hm
    · exact World.ownsRow.kept (h.own m' hm) hgr (.inr (own_other (h.own m' hm) h1 (by decide)))
    · obtain rfl := List.mem_singleton.1 hm
      exact World.ownsRow.kept ho hgr (.inr (own_other ho h1 (by decide)))

set_option maxHeartbeats 16000000 in
set_option maxRecDepth 100000 in
theorem copied_any (L : List Fil) (A : Option Addr) (c : Nat) (w : World) (hT : TreeAt w A L) (hl : L.length ≤ 1000) (hx : ∀ f ∈ L, f.x.length ≤ 1000000) :
    Calls Tryd.prog 87 #[.slice A L.length c] w fun e w' => ∃ g M, e = .returned (.slice (some ⟨g, 0, none⟩) L.length L.length) ∧ CopyAt w w' g L.length L M L.length := by
  have HT : Hid (∀ v, Chg none w v → TreeAt v A L) := fun v g => hT.chg g
  have HX := Lib.hid hx
  obtain ⟨cs, hcs, hmk⟩ := make25 L.length (by omega) w
  have hC0 : CopyAt w (w.alloc (.cells cs 86)) w.heap.size L.length L [] 0 := ⟨rfl, ⟨cs, Blk.new _ _ _, hcs, fun i m h => by simp at h⟩, fun i m f h => by simp at h, fun m h => (by cases h), Nat.le_refl _, (Chg.refl _ _).alloc _⟩
  have HC0 := Lib.hid hC0
  clear hT hx hC0
  go_enter Tryd.func87, Tryd.ntmps87
  go_wp2_with fail
  clear hmk
  generalize w.alloc (.cells cs 86) = w1 at *
  obtain ⟨g, hg⟩ : ∃ g, g = w.heap.size := ⟨_, rfl⟩
  rw [← hg] at HC0 ⊢
  clear hg hcs
  go_loopw [11] (fun s11 wr => ∃ (k : Nat) (M : List Fil), s11 = .int .i64 k ∧ Hid (k ≤ L.length) ∧ Hid (CopyAt w wr g L.length L M k)) (fun s11 _ => L.length - (intOf s11).toNat)
  case atStart => exact ⟨0, [], rfl, Lib.hid (Nat.zero_le _), HC0⟩
  case round =>
    obtain ⟨k, M, rfl, H1, H2⟩ := hrel
    by_cases hlt : k < L.length
    · have hd : decide ((k : Int) < (L.length : Int)) = true := by rw [decide_eq_true_eq]; omega
      obtain ⟨x, hkx⟩ : ∃ x, L[k]? = some x := ⟨_, List.getElem?_eq_getElem hlt⟩
      have hne : L ≠ [] := by intro e; subst e; simp at hlt
      have HRW := Lib.hid (HT.out wr H2.out.chg)
      obtain ⟨b, off, rfl, -, -⟩ := HRW.out.1 hne
      obtain ⟨hb, x0, x1⟩ := HRW.out.1.two hkx
      have HLT := Lib.hid hlt
      have HKX := Lib.hid hkx
      have HTX : Hid (∀ v, Chg none w v → x.ok v) := fun v g => (HT.out v g).2 x (List.mem_of_getElem? hkx)
      have HXL := Lib.hid (HX.out x (List.mem_of_getElem? hkx))
      obtain ⟨V0, hV⟩ : ∃ V0, V0 = wr := ⟨_, rfl⟩
      rw [← hV] at hb x0 x1 H2 ⊢
      clear hV hkx hne HRW HT hlt HC0
      obtain ⟨fp, fA, fx, fc⟩ := x
      dsimp only at x0 x1 HXL
      go_upto_region 5 with fail
      have HG0 : Hid (Chg none V0 (V0.alloc (.cells #[.string ⟨fp.toArray⟩, .slice fA fx.length fc] 86)).drew) := ((Chg.refl _ _).alloc _).drew
      have hX0 : Blk (V0.alloc (.cells #[.string ⟨fp.toArray⟩, .slice fA fx.length fc] 86)).drew V0.heap.size #[.string ⟨fp.toArray⟩, .slice fA fx.length fc] 86 := Blk.drew (Blk.new _ _ _)
      refine wp_region_held_drew (S := fun v => Blk v V0.heap.size #[.string ⟨fp.toArray⟩, .slice fA fx.length fc] 86) (by kernel_rfl) hX0 (fun _ => ?_)
      have HPG : Hid (V0.heap.size ≠ g) := by obtain ⟨cs2, h1, -, -⟩ := H2.out.blk; have := h1.lt; show _ ≠ _; omega
      generalize (V0.alloc (.cells #[.string ⟨fp.toArray⟩, .slice fA fx.length fc] 86)).drew = v0 at *
      generalize V0.heap.size = PX at *
      have HC1 := Lib.hid (H2.out.on HG0.out)
      have HCL := Lib.hid (clone27 fA fx fc v0 (HTX.out v0 HC1.out.chg).nil (txt_reads (HTX.out v0 HC1.out.chg).t) HXL.out)
      clear x0 x1 hb H2 HG0
      refine wpAnyH_take (i := 0) (oi := ⟨some 16, _, _, _, _, _⟩) (v := ?_) rfl (by kernel_rfl) (by kernel_rfl) (by kernel_rfl) (fun _ _ _ h => h) (Or.inl ⟨by rfl, ?_⟩) (by assumption) ?_
      rotate_left
      · intro w hSw; (try dsimp only at hSw); go_simp; (try with_reducible rfl)
      try simp only [Act.put, List.setIfInBounds_toArray, List.set_cons_zero, List.set_cons_succ]
      refine wpAnyH_take (i := 1) (oi := ⟨some 17, _, _, _, _, _⟩) (v := ?_) rfl (by kernel_rfl) (by kernel_rfl) (by kernel_rfl) (fun _ _ _ h => h) (Or.inl ⟨by rfl, ?_⟩) (by assumption) ?_
      rotate_left
      · intro w hSw; (try dsimp only at hSw); go_simp; (try with_reducible rfl)
      try simp only [Act.put, List.setIfInBounds_toArray, List.set_cons_zero, List.set_cons_succ]
      refine wpAnyH_take (i := 2) (oi := ⟨some 18, _, _, _, _, _⟩) (v := ?_) rfl (by kernel_rfl) (by kernel_rfl) (by kernel_rfl) (fun _ _ _ h => h) (Or.inl ⟨by rfl, ?_⟩) (by assumption) ?_
      rotate_left
      · intro w hSw; (try dsimp only at hSw); go_simp; (try with_reducible rfl)
      try simp only [Act.put, List.setIfInBounds_toArray, List.set_cons_zero, List.set_cons_succ]
      refine wpAnyH_take (i := 3) (oi := ⟨some 19, _, _, _, _, _⟩) (v := .string ⟨fp.toArray⟩) rfl (by kernel_rfl) (by kernel_rfl) (by kernel_rfl) (fun _ _ _ h => h) (Or.inl ⟨by rfl, ?_⟩) (by assumption) ?_
      · intro v hSv; have z : v.cell? ⟨PX, 0, none⟩ = some (.string ⟨fp.toArray⟩) := hSv.cell 0; go_simp
      try simp only [Act.put, List.setIfInBounds_toArray, List.set_cons_zero, List.set_cons_succ]
      refine wpAnyH_take (i := 4) (oi := ⟨some 20, _, _, _, _, _⟩) (v := ?_) rfl (by kernel_rfl) (by kernel_rfl) (by kernel_rfl) (fun _ _ _ h => h) (Or.inl ⟨by rfl, ?_⟩) (by assumption) ?_
      rotate_left
      · intro w hSw; (try dsimp only at hSw); go_simp; (try with_reducible rfl)
      try simp only [Act.put, List.setIfInBounds_toArray, List.set_cons_zero, List.set_cons_succ]
      refine wpAnyH_take (i := 5) (oi := ⟨some 21, _, _, _, _, _⟩) (v := .slice fA fx.length fc) rfl (by kernel_rfl) (by kernel_rfl) (by kernel_rfl) (fun _ _ _ h => h) (Or.inl ⟨by rfl, ?_⟩) (by assumption) ?_
      · intro v hSv; have z : v.cell? ⟨PX, 1, none⟩ = some (.slice fA fx.length fc) := hSv.cell 1; go_simp
      try simp only [Act.put, List.setIfInBounds_toArray, List.set_cons_zero, List.set_cons_succ]
      refine wpAnyH_ready (rs := [6]) (by kernel_rfl) (by simp) ?_
      refine AllReadyH.cons (o := ⟨some 22, _, _, _, _, _⟩) rfl (fun K hK => ?_) (AllReadyH.nil)
      go_simp
      go_at_call 90
      refine HCL.out.mono ?_
      rintro e v1 ⟨A1, n1, c1, rfl, rfl, hown1, hb1⟩
      have k1 : Chg none v0 v1 := ⟨hb1.os, hb1.tape, hb1.output, hb1.size, fun k hk _ => hb1.block k hk⟩
      have hX1 := hX0.chg k1 (by simp)
      have HC2 := Lib.hid (HC1.out.on k1)
      have HOW := Lib.hid (World.ownsRow.mono hown1 HC1.out.chg.size)
      clear hown1 hb1
      go_wp2_with fail
      refine hK.out _ _ hX1 (fun _ => ?_)
      clear hK K
      try simp only [Act.put, List.setIfInBounds_toArray, List.set_cons_zero, List.set_cons_succ]
      refine wpAnyH_take (i := 7) (oi := ⟨some 23, _, _, _, _, _⟩) (v := ?_) rfl (by kernel_rfl) (by kernel_rfl) (by kernel_rfl) (fun _ _ _ h => h) (Or.inl ⟨by rfl, ?_⟩) (by assumption) ?_
      rotate_left
      · intro w hSw; (try dsimp only at hSw); go_simp; (try with_reducible rfl)
      try simp only [Act.put, List.setIfInBounds_toArray, List.set_cons_zero, List.set_cons_succ]
      refine wpAnyH_take (i := 8) (oi := ⟨some 24, _, _, _, _, _⟩) (v := ?_) rfl (by kernel_rfl) (by kernel_rfl) (by kernel_rfl) (fun _ _ _ h => h) (Or.inl ⟨by rfl, ?_⟩) (by assumption) ?_
      rotate_left
      · intro w hSw; (try dsimp only at hSw); go_simp; (try with_reducible rfl)
      try simp only [Act.put, List.setIfInBounds_toArray, List.set_cons_zero, List.set_cons_succ]
      refine wpAnyH_ready (rs := [9]) (by kernel_rfl) (by simp) ?_
      refine AllReadyH.cons (o := ⟨none, _, _, _, _, _⟩) rfl (fun K hK => ?_) (AllReadyH.nil)
      obtain ⟨cs2, hcb, hcz, -⟩ := HC2.out.blk
      have hkl := HLT.out
      have y0 : ∃ z, v1.cell? ⟨g, k * 2, none⟩ = some z := ⟨cs2[k * 2]'(by omega), by rw [hcb.cell, Array.getElem?_eq_getElem]⟩
      have y1 : ∃ z, v1.cell? ⟨g, k * 2 + 1, none⟩ = some z := ⟨cs2[k * 2 + 1]'(by omega), by rw [hcb.cell, Array.getElem?_eq_getElem]⟩
      obtain ⟨z0, y0⟩ := y0
      obtain ⟨z1, y1⟩ := y1
      have t0 : v1.frozen? ⟨g, k * 2, none⟩ = false := hcb.frozen _
      have t1 : v1.frozen? ⟨g, k * 2 + 1, none⟩ = false := hcb.frozen _
      have HC3 := Lib.hid (HC2.out.step (m := ⟨fp, A1, fx, c1⟩) HKX.out rfl rfl HLT.out HOW.out)
      clear hcb hkl
      go_simp
      refine hK.out _ _ ((hX1.setOther _ _ HPG.out).setOther _ _ HPG.out) (fun _ => ?_)
      clear hK K
      refine wpAnyH_done (by kernel_rfl) ?_ _
      try simp only [Act.put]
      clear y0 y1 t0 t1
      go_wp2_with fail
      go_roundw
      case rel => exact ⟨k + 1, _, by first | rfl | (simp; done), Lib.hid HLT.out, HC3⟩
      case measure =>
        have := HLT.out
        first | omega | (simp only [intOf]; omega) | (simp [intOf]; omega)
    · have hd : decide (k < L.length) = false := by rw [decide_eq_false_iff_not]; exact hlt
      have hd2 : decide ((k : Int) < (L.length : Int)) = false := by rw [decide_eq_false_iff_not]; omega
      obtain rfl : k = L.length := by have := H1.out; omega
      clear hlt HT HC0
      go_wp2_with fail
      go_ret
      exact ⟨g, M, rfl, H2.out⟩

end Go.Proofs.YtglfakglcoffkaaDoor

namespace Go.Proofs.YtglfakglcoffkaaDoor
open Go.RowKit

def cmpB (x y : List UInt8) : Int := Lib.compareBytes x y
theorem cmp_cons (x y : UInt8) (a b : List UInt8) : cmpB (x :: a) (y :: b) = if x < y then -1 else if y < x then 1 else cmpB a b := rfl
theorem cmp_self : ∀ x, cmpB x x = 0
  | [] => rfl
  | x :: l => by rw [cmp_cons, if_neg (UInt8.lt_irrefl x), if_neg (UInt8.lt_irrefl x)]; exact cmp_self l
theorem cmp_tot : ∀ x y, cmpB x y < 0 ∨ x = y ∨ cmpB y x < 0
  | [], [] => .inr (.inl rfl)
  | [], _ :: _ => .inl (by show (-1 : Int) < 0; decide)
  | _ :: _, [] => .inr (.inr (by show (-1 : Int) < 0; decide))
  | x :: a, y :: b => by
    rw [cmp_cons, cmp_cons]
    by_cases h1 : x < y
    · rw [if_pos h1]; exact .inl (by decide)
    · by_cases h2 : y < x
      · simp only [if_neg h1, if_pos h2]; exact .inr (.inr (by decide))
      · have e : x = y := UInt8.le_antisymm (UInt8.not_lt.1 h2) (UInt8.not_lt.1 h1)
        rw [if_neg h1, if_neg h2, if_neg h2, if_neg h1]
        rcases cmp_tot a b with h | h | h
        · exact .inl h
        · exact .inr (.inl (by rw [e, h]))
        · exact .inr (.inr h)
theorem cmp_asym : ∀ x y, cmpB x y < 0 → ¬ cmpB y x < 0
  | [], [] => fun h => absurd h (by decide)
  | [], _ :: _ => fun _ => by show ¬ (1 : Int) < 0; decide
  | _ :: _, [] => fun h => absurd h (by show ¬ (1 : Int) < 0; decide)
  | x :: a, y :: b => by
    rw [cmp_cons, cmp_cons]
    by_cases h1 : x < y
    · rw [if_pos h1, if_neg (UInt8.not_lt.2 (UInt8.le_of_lt h1)), if_pos h1]; intro _; decide
    · by_cases h2 : y < x
      · rw [if_neg h1, if_pos h2]; intro h; exact absurd h (by decide)
      · rw [if_neg h1, if_neg h2, if_neg h2, if_neg h1]; exact cmp_asym a b
theorem cmp_trans : ∀ x y z, cmpB x y < 0 → cmpB y z < 0 → cmpB x z < 0
  | [], [], _ => fun h => absurd h (by decide)
  | [], _ :: _, [] => fun _ h => absurd h (by show ¬ (1 : Int) < 0; decide)
  | [], _ :: _, _ :: _ => fun _ _ => by show (-1 : Int) < 0; decide
  | _ :: _, [], _ => fun h => absurd h (by show ¬ (1 : Int) < 0; decide)
  | _ :: _, _ :: _, [] => fun _ h => absurd h (by show ¬ (1 : Int) < 0; decide)
  | x :: a, y :: b, z :: c => by
    rw [cmp_cons, cmp_cons, cmp_cons]
    have ih := cmp_trans a b c
    by_cases h1 : x < y
    · by_cases h2 : y < z
      · intro _ _; rw [if_pos (UInt8.lt_trans h1 h2)]; decide
      · by_cases h3 : z < y
        · rw [if_neg h2, if_pos h3]; intro _ h; exact absurd h (by decide)
        · have e : y = z := UInt8.le_antisymm (UInt8.not_lt.1 h3) (UInt8.not_lt.1 h2)
          subst e
          intro _ _; rw [if_pos h1]; decide
    · by_cases h2 : y < x
      · rw [if_neg h1, if_pos h2]; intro h; exact absurd h (by decide)
      · have e : x = y := UInt8.le_antisymm (UInt8.not_lt.1 h2) (UInt8.not_lt.1 h1)
        subst e
        rw [if_neg h1, if_neg h1]
        by_cases h4 : x < z
        · intro _ _; rw [if_pos h4]; decide
        · by_cases h5 : z < x
          · rw [if_neg h4, if_pos h5]; intro _ h; exact absurd h (by decide)
          · simp only [if_neg h4, if_neg h5]; exact ih
theorem less_cmp : ∀ (x y : List UInt8), Op.bytesLess x y = decide (cmpB x y < 0)
  | [], [] => rfl
  | _ :: _, [] => by symm; exact decide_eq_false (by show ¬ (1 : Int) < 0; decide)
  | [], _ :: _ => by symm; exact decide_eq_true (by show (-1 : Int) < 0; decide)
  | a :: x, b :: y => by
    rw [cmp_cons]
    show (decide (a < b) || (a == b && Op.bytesLess x y)) = _
    rw [less_cmp x y]
    by_cases h1 : a < b
    · simp [h1]
    · by_cases h2 : b < a
      · have h3 : (a == b) = false := by rw [beq_eq_false_iff_ne]; intro e; subst e; exact UInt8.lt_irrefl _ h2
        simp [h1, h2, h3]
      · have e : a = b := UInt8.le_antisymm (UInt8.not_lt.1 h2) (UInt8.not_lt.1 h1)
        subst e
        simp [h1]
theorem cmp_zero : ∀ x y, cmpB x y = 0 → x = y
  | [], [] => fun _ => rfl
  | [], _ :: _ => fun h => absurd h (by show ¬ (-1 : Int) = 0; decide)
  | _ :: _, [] => fun h => absurd h (by show ¬ (1 : Int) = 0; decide)
  | x :: a, y :: b => by
    rw [cmp_cons]
    by_cases h1 : x < y
    · rw [if_pos h1]; intro h; exact absurd h (by decide)
    · by_cases h2 : y < x
      · rw [if_neg h1, if_pos h2]; intro h; exact absurd h (by decide)
      · have e : x = y := UInt8.le_antisymm (UInt8.not_lt.1 h2) (UInt8.not_lt.1 h1)
        rw [if_neg h1, if_neg h2]
        intro h
        rw [e, cmp_zero a b h]
def cmpF (x y : Fil) : Int := cmpB x.p y.p
theorem swoF : Go.Sort.SWO (ltOf cmpF) where
  irrefl x := by unfold ltOf cmpF; rw [cmp_self]; rfl
  trans x y z h1 h2 := by
    unfold ltOf cmpF at *
    rw [decide_eq_true_eq] at *
    exact cmp_trans _ _ _ h1 h2
  ntrans x y z h1 h2 := by
    unfold ltOf cmpF at *
    rw [decide_eq_false_iff_not] at *
    intro h3
    rcases cmp_tot x.p y.p with h | h | h
    · exact h1 h
    · rw [h] at h3; exact h2 h3
    · exact h2 (cmp_trans _ _ _ h h3)
theorem leB_cmp (s t : List UInt8) : leB s t = decide (cmpB s t ≤ 0) := by
  unfold leB
  rw [less_cmp]
  by_cases e : s = t
  · subst e; rw [cmp_self]; simp
  · have h1 : (s == t) = false := by rw [beq_eq_false_iff_ne]; exact e
    rw [h1, Bool.or_false]
    rcases cmp_tot s t with h | h | h
    · rw [decide_eq_true h, decide_eq_true (by omega)]
    · exact absurd h e
    · have h2 := cmp_asym _ _ h
      rw [decide_eq_false h2]
      symm
      rw [decide_eq_false_iff_not]
      intro h3
      have h0 : cmpB s t ≠ 0 := by
        intro h0
        exact e (cmp_zero s t h0)
      omega

set_option maxHeartbeats 4000000 in
theorem clo58 (x y : Fil) (W : World) : Calls Tryd.prog 110 #[.agg (filCells x).toArray, .agg (filCells y).toArray] W fun e w' => e = .returned (.int .i64 (cmpF x y)) ∧ ∃ q os', w' = Go.Sort.grow (W.drewN q) os' := by
  have HC := Lib.hid (fun v => Tryd.strings_Compare ⟨x.p.toArray⟩ ⟨y.p.toArray⟩ v)
  obtain ⟨xp, xA, xx, xc⟩ := x
  obtain ⟨yp, yA, yx, yc⟩ := y
  unfold filCells
  dsimp only at HC ⊢
  have hz : Lib.compareBytes (⟨xp.toArray⟩ : ByteArray).data.toList (⟨yp.toArray⟩ : ByteArray).data.toList = cmpF ⟨xp, xA, xx, xc⟩ ⟨yp, yA, yx, yc⟩ := rfl
  rw [hz] at HC
  clear hz
  generalize cmpF ⟨xp, xA, xx, xc⟩ ⟨yp, yA, yx, yc⟩ = r at *
  go_enter Tryd.func110, Tryd.ntmps110
  go_wp2_with fail
  refine (HC.out _).mono ?_
  rintro e w' ⟨rfl, rfl⟩
  go_wp2_with fail
  go_ret
  exact ⟨rfl, 0, _, by rw [Go.Sort.alloc_eq_grow, Go.Sort.alloc_eq_grow, Go.Sort.grow_grow]; rfl⟩

theorem swk_chg {w W : World} {g : Nat} {d : Array Fil} (h : SWK filCells 2 w g 0 d W) : Chg (some g) w W := by
  obtain ⟨n, os, rfl⟩ := h
  refine ⟨rfl, rfl, rfl, by unfold sortWorldK; rw [Go.Sort.size_grow, Go.Sort.size_putRowK]; exact Nat.le_add_right _ _, fun i hi hn => ?_⟩
  unfold sortWorldK Go.Sort.grow Go.Sort.putRowK Go.Sort.putRow Go.Sort.mapBlock
  show (Array.modify w.heap g _ ++ os)[i]? = w.heap[i]?
  rw [Array.getElem?_append_left (by simpa using hi), Array.getElem?_modify, if_neg (fun e => hn (by rw [e]))]

set_option maxHeartbeats 8000000 in
set_option maxRecDepth 100000 in
theorem sort_any (d : Array Fil) (g cap : Nat) (w : World) (hH : Go.Sort.HoldsK filCells 2 w g 0 d) (hg : g < w.heap.size) (hsz : d.size < 1000000) :
    Calls Tryd.prog 109 #[.slice (some ⟨g, 0, none⟩) d.size cap, .func (.func 110) #[] #[]] w fun e w' => e = .returned (.tuple #[]) ∧
      ∃ d', Go.Sort.PermIn 0 d.size d d' ∧ Go.Sort.SortedIn (ltOf cmpF) 0 d.size d' ∧ Go.Sort.HoldsK filCells 2 w' g 0 d' ∧ Chg (some g) w w' := by
  have eg : ∀ args w, (callFunc 110 args).run Tryd.prog w = .ok (.enter 110 args) w := enters_of Tryd.func110 (by kernel_rfl) rfl
  have hlim : Lib.bitLen d.size < 4611686018427387904 := Nat.lt_of_le_of_lt (Lib.bitLen_le d.size 62 (by omega) (by omega)) (by omega)
  have R : RowK filCells 2 w g 0 d := ⟨fun _ => rfl, fun x v hv => by simp [filCells] at hv; rcases hv with rfl | rfl <;> rfl, hH, hg⟩
  have hp := AnyQ.pdqsortCmpFunc_all Tryd.pdqFile 2 Tryd.isAgg86 Tryd.sizeOf86 filCells cmpF 110 #[] swoF g 0 cap d w eg (fun m os dk hs x y => clo58 x y _) R (d.size + 1) 0 d.size (Lib.bitLen d.size) d w (by omega) rfl (SWK.start hH) (Nat.zero_le _) (Nat.le_refl _) (by omega) hlim (Or.inl rfl)
  change Calls Tryd.prog 123 _ _ _ at hp
  have hl := Tryd.bits_Len (d.size : Int) w (by omega) (by omega)
  rw [Int.toNat_natCast] at hl
  have hwr : IntKind.u64.wrap (d.size : Int) = d.size := by rw [IntKind.wrap_u64]; omega
  have hpost : ∀ w', SWK filCells 2 w g 0 (Go.Sort.pdq (ltOf cmpF) d 0 d.size (Lib.bitLen d.size) true true) w' →
      ∃ d', Go.Sort.PermIn 0 d.size d d' ∧ Go.Sort.SortedIn (ltOf cmpF) 0 d.size d' ∧ Go.Sort.HoldsK filCells 2 w' g 0 d' ∧ Chg (some g) w w' := fun w' h => by
    have hs := Go.Sort.pdq_sorts (ltOf cmpF) swoF d 0 d.size (Lib.bitLen d.size) true true (Nat.zero_le _) (Nat.le_refl _) (Or.inl rfl)
    refine ⟨_, hs.1, hs.2, h.holds hg hH hs.1.1, swk_chg h⟩
  have HP := Lib.hid hp
  have HL := Lib.hid hl
  have HQ := Lib.hid hpost
  clear hp hl hpost R hH eg
  generalize Lib.bitLen d.size = lim at *
  go_enter Tryd.func109, Tryd.ntmps109
  go_wp2_with fail
  refine HL.out.mono ?_
  rintro e w' ⟨rfl, rfl⟩
  go_wp2_with fail
  refine HP.out.mono ?_
  rintro e w' ⟨rfl, hsw⟩
  have HR := Lib.hid (HQ.out _ hsw)
  clear hsw
  go_wp2_with fail
  go_end0
  exact ⟨rfl, HR.out⟩

end Go.Proofs.YtglfakglcoffkaaDoor

namespace Go.Proofs.YtglfakglcoffkaaDoor
open Go.RowKit

/-- A tree of the call's own, made since w0: its row in block g. -/
structure OwnT (w0 w : World) (g : Nat) (M : List Fil) : Prop where
  blk : ∃ cs : Array Value, Blk w g cs 86 ∧ M.length * 2 ≤ cs.size ∧ ∀ (i : Nat) (m : Fil), M[i]? = some m → cs[i * 2]? = some (.string ⟨m.p.toArray⟩) ∧ cs[i * 2 + 1]? = some (.slice m.A m.x.length m.c)
  own : ∀ m ∈ M, w.ownsRow w0.heap.size 5 1 (.slice m.A m.x.length m.c) m.x.length (byteVals m.x)
  base : w0.heap.size ≤ g
  chg : Chg none w0 w
theorem CopyAt.ownT {w0 w : World} {g : Nat} {L M : List Fil} (h : CopyAt w0 w g L.length L M L.length) : OwnT w0 w g M := by
  obtain ⟨cs, h1, h2, h3⟩ := h.blk
  exact ⟨⟨cs, h1, by rw [h2, h.len]; exact Nat.le_refl _, h3⟩, h.own, h.base, h.chg⟩
theorem OwnT.on {w0 w w' : World} {g : Nat} {M : List Fil} (h : OwnT w0 w g M) (hc : Chg none w w') : OwnT w0 w' g M := by
  obtain ⟨cs, h1, h2, h3⟩ := h.blk
  exact ⟨⟨cs, h1.chg hc (by simp), h2, h3⟩, fun m hm => own_chgW (h.own m hm) hc, h.base, h.chg.trans hc⟩
theorem own_max {w : World} {base n c : Nat} {A : Option Addr} {xs : List Value} (h : w.ownsRow base 5 1 (.slice A n c) n xs) : c ≤ 9223372036854775807 := by
  rcases h.2 with ⟨h1, _⟩ | ⟨g, cap, cur, h1, _, _, _, h5, _⟩
  · injection h1 with _ _ h4; omega
  · injection h1 with _ _ h4
    have hM : maxLen ≤ 9223372036854775807 := by unfold maxLen; decide
    omega
theorem own_fil {w : World} {base : Nat} {m : Fil} (h : w.ownsRow base 5 1 (.slice m.A m.x.length m.c) m.x.length (byteVals m.x)) (hp : m.p.length ≤ 9223372036854775807) : m.ok w :=
  ⟨(own_txt h).1, (own_txt h).2.2, hp, own_max h, own_nilok h⟩
theorem OwnT.tree {w0 w : World} {g : Nat} {M : List Fil} (h : OwnT w0 w g M) (hp : ∀ m ∈ M, m.p.length ≤ 9223372036854775807) : TreeAt w (some ⟨g, 0, none⟩) M := by
  obtain ⟨cs, h1, h2, h3⟩ := h.blk
  refine ⟨fun _ => ⟨g, 0, rfl, h1.lt, fun i m hi j hj => ?_⟩, fun m hm => own_fil (h.own m hm) (hp m hm)⟩
  rw [h1.cell, Nat.zero_add]
  rcases (show j = 0 ∨ j = 1 by omega) with rfl | rfl
  · exact (h3 i m hi).1
  · exact (h3 i m hi).2
theorem arr_at {M : List Fil} {i : Nat} {m : Fil} (h : M[i]? = some m) : M.toArray[i]! = m := by
  obtain ⟨hi, rfl⟩ := List.getElem?_eq_some_iff.1 h
  simp [hi]
theorem OwnT.holds {w0 w : World} {g : Nat} {M : List Fil} (h : OwnT w0 w g M) : Go.Sort.HoldsK filCells 2 w g 0 M.toArray := by
  obtain ⟨cs, h1, h2, h3⟩ := h.blk
  intro j hj
  rw [Go.Sort.size_flatK] at hj
  have hj' : j < M.length * 2 := by simpa using hj
  refine ⟨?_, h1.frozen _⟩
  rw [h1.cell, Nat.zero_add, Go.Sort.get_flatK _ _ _ _ hj]
  obtain ⟨m, hm⟩ : ∃ m, M[j / 2]? = some m := ⟨_, List.getElem?_eq_getElem (by omega)⟩
  rw [arr_at hm]
  obtain ⟨k1, k2⟩ := h3 _ _ hm
  rcases (show j % 2 = 0 ∨ j % 2 = 1 by omega) with e | e
  · rw [e]
    have : j = j / 2 * 2 := by omega
    rw [← this] at k1
    rw [k1]; rfl
  · rw [e]
    have : j = j / 2 * 2 + 1 := by omega
    rw [← this] at k2
    rw [k2]; rfl
theorem holds_rows {w : World} {g : Nat} {d : Array Fil} (h : Go.Sort.HoldsK filCells 2 w g 0 d) (hg : g < w.heap.size) : RowsAt w 2 (some ⟨g, 0, none⟩) filCells d.toList := by
  intro _
  refine ⟨g, 0, rfl, hg, fun i m hi j hj => ?_⟩
  have hi' : i < d.size := by have := (List.getElem?_eq_some_iff.1 hi).1; simpa using this
  have hlt : i * 2 + j < d.size * 2 := by omega
  have h1 := (h (i * 2 + j) (by rw [Go.Sort.size_flatK]; exact hlt)).1
  rw [h1, Go.Sort.get_flatK _ _ _ _ hlt]
  have e1 : (i * 2 + j) / 2 = i := by omega
  have e2 : (i * 2 + j) % 2 = j := by omega
  rw [e1, e2]
  have hm : d[i]! = m := by
    have := arr_at hi
    simpa using this
  rw [hm]
  rcases (show j = 0 ∨ j = 1 by omega) with rfl | rfl <;> rfl
/-- Sorted by paths: no later one is less than an earlier one. -/
def sortT (M : List Fil) : Prop := ∀ (i j : Nat) f h, i < j → M[i]? = some f → M[j]? = some h → ¬ cmpB h.p f.p < 0

/-- What held tells. -/
def ToldH (w0 : World) (g cap : Nat) (M : List Fil) (e : Ending) (w' : World) : Prop :=
  ∃ M' : List Fil, M'.Perm M ∧ sortT M' ∧ TreeAt w' (some ⟨g, 0, none⟩) M' ∧ (∀ m ∈ M', w'.ownsRow w0.heap.size 5 1 (.slice m.A m.x.length m.c) m.x.length (byteVals m.x)) ∧ Chg none w0 w' ∧
    ((mayT M' = true ∧ e = .returned (.tuple #[.slice (some ⟨g, 0, none⟩) M'.length cap, .int .i64 0])) ∨ (mayT M' = false ∧ e = .returned (.tuple #[.slice none 0 0, .int .i64 8])))

set_option maxHeartbeats 8000000 in
set_option maxRecDepth 100000 in
theorem held_any2 (w0 w : World) (g cap : Nat) (M : List Fil) (h : OwnT w0 w g M) (hl : M.length < 100000) (hp : ∀ m ∈ M, m.p.length ≤ 9223372036854775807) :
    Calls Tryd.prog 88 #[.slice (some ⟨g, 0, none⟩) M.length cap] w fun e w' => ToldH w0 g cap M e w' ∧ Chg (some g) w w' := by
  have hg : g < w.heap.size := by obtain ⟨cs, h1, -, -⟩ := h.blk; exact h1.lt
  have HS := Lib.hid (sort_any M.toArray g cap w h.holds hg (by simpa using (by omega : M.length < 1000000)))
  rw [List.size_toArray] at HS
  have hpost : ∀ w', (∃ d', Go.Sort.PermIn 0 M.length M.toArray d' ∧ Go.Sort.SortedIn (ltOf cmpF) 0 M.length d' ∧ Go.Sort.HoldsK filCells 2 w' g 0 d' ∧ Chg (some g) w w') →
      ∃ M' : List Fil, M'.Perm M ∧ sortT M' ∧ TreeAt w' (some ⟨g, 0, none⟩) M' ∧ (∀ m ∈ M', w'.ownsRow w0.heap.size 5 1 (.slice m.A m.x.length m.c) m.x.length (byteVals m.x)) ∧ Chg none w0 w' ∧ Chg (some g) w w' := fun w' hw => by
    obtain ⟨d', hpm, hst, hh, hc⟩ := hw
    have hsz : d'.size = M.length := by have := hpm.1; simpa using this
    have hperm : d'.toList.Perm M := by
      have h1 := hpm.2.2
      have e1 : d'.extract 0 M.length = d' := by rw [← hsz]; simp
      have e2 : M.toArray.extract 0 M.length = M.toArray := by simp
      rw [e1, e2] at h1
      exact h1
    have hmem : ∀ m ∈ d'.toList, m ∈ M := fun m hm => hperm.mem_iff.1 hm
    have hown : ∀ m ∈ d'.toList, w'.ownsRow w0.heap.size 5 1 (.slice m.A m.x.length m.c) m.x.length (byteVals m.x) := fun m hm => by
      obtain ⟨cs, hb, -, -⟩ := h.blk
      exact World.ownsRow.kept (h.own m (hmem m hm)) hc (.inr (own_other (h.own m (hmem m hm)) hb (by decide)))
    refine ⟨d'.toList, hperm, fun i j f k hij hf hk => ?_, ⟨holds_rows hh (Nat.lt_of_lt_of_le hg hc.size), fun m hm => own_fil (hown m hm) (hp m (hmem m hm))⟩, hown, Chg.own (b := g) h.chg hc h.base, hc⟩
    have hj : j < M.length := by have := (List.getElem?_eq_some_iff.1 hk).1; simp at this; omega
    have := hst i j (Nat.zero_le _) hij hj
    unfold ltOf at this
    rw [decide_eq_false_iff_not] at this
    have e1 : d'[i]! = f := by have := arr_at hf; simpa using this
    have e2 : d'[j]! = k := by have := arr_at hk; simpa using this
    rw [e1, e2] at this
    exact this
  have HP := Lib.hid hpost
  have hlen : ∀ M' : List Fil, M'.Perm M → M'.length = M.length := fun M' h => h.length_eq
  have HLN := Lib.hid hlen
  clear hpost hlen h hp hg
  go_enter Tryd.func88, Tryd.ntmps88
  go_wp2_with fail
  refine HS.out.mono ?_
  rintro e w1 ⟨rfl, hw⟩
  obtain ⟨M', hpm, hst, htr, hown, hch, hcg⟩ := HP.out w1 hw
  have hln := HLN.out M' hpm
  have HMY := Lib.hid (mayt_any M' (some ⟨g, 0, none⟩) cap w1 htr (by omega))
  rw [hln] at HMY
  have HEND : Hid (∀ (w2 : World) (e : Ending), Chg none w1 w2 → ((mayT M' = true ∧ e = .returned (.tuple #[.slice (some ⟨g, 0, none⟩) M.length cap, .int .i64 0])) ∨ (mayT M' = false ∧ e = .returned (.tuple #[.slice none 0 0, .int .i64 8]))) → ToldH w0 g cap M e w2 ∧ Chg (some g) w w2) := fun w2 e hc he =>
    ⟨⟨M', hpm, hst, htr.chg hc, fun m hm => own_chgW (hown m hm) hc, hch.trans hc, by rw [hln]; exact he⟩, hcg.trans hc.weaken⟩
  clear hw HP HLN HS hpm hst htr hown hch hcg hln
  by_cases hm : mayT M' = true
  · have HM := Lib.hid hm
    rw [hm] at HMY
    clear hm
    go_wp2_with fail
    refine HMY.out.mono ?_
    rintro e w2 ⟨rfl, g2⟩
    have HE := Lib.hid (fun e he => HEND.out w2 e g2 (.inl ⟨HM.out, he⟩))
    clear g2
    go_wp2_with fail
    go_ret2
    exact HE.out _ rfl
  · have hm' : mayT M' = false := by simpa using hm
    have HM := Lib.hid hm'
    rw [hm'] at HMY
    clear hm hm'
    go_wp2_with fail
    refine HMY.out.mono ?_
    rintro e w2 ⟨rfl, g2⟩
    have HE := Lib.hid (fun e he => HEND.out w2 e g2 (.inr ⟨HM.out, he⟩))
    clear g2
    go_wp2_with fail
    go_ret2
    exact HE.out _ rfl
theorem held_any (w0 w : World) (g cap : Nat) (M : List Fil) (h : OwnT w0 w g M) (hl : M.length < 100000) (hp : ∀ m ∈ M, m.p.length ≤ 9223372036854775807) :
    Calls Tryd.prog 88 #[.slice (some ⟨g, 0, none⟩) M.length cap] w (ToldH w0 g cap M) := (held_any2 w0 w g cap M h hl hp).mono fun _ _ h => h.1

end Go.Proofs.YtglfakglcoffkaaDoor

namespace Go.Proofs.YtglfakglcoffkaaDoor
open Go.RowKit

def keyF (f : Fil) : List UInt8 × List UInt8 := (f.p, f.x)
def keys (L : List Fil) : List (List UInt8 × List UInt8) := L.map keyF

set_option maxHeartbeats 4000000 in
theorem equal51 (A B : Option Addr) (x y : List UInt8) (c d : Nat) (w : World) (hx : Txt w A x) (hy : Txt w B y) :
    Calls Tryd.prog 70 #[.slice A x.length c, .slice B y.length d] w fun e w' => e = .returned (.bool (x == y)) ∧ Chg none w w' := by
  have c1 := conv_reads (c := c) w (txt_reads hx)
  have c2 := conv_reads (c := d) w (txt_reads hy)
  go_enter Tryd.func70, Tryd.ntmps70
  go_wp2_with fail
  go_ret
  exact ⟨by simp, Chg.refl _ _⟩

set_option maxHeartbeats 4000000 in
theorem same50 (f h : Fil) (w : World) (hf : Txt w f.A f.x) (hh : Txt w h.A h.x) :
    Calls Tryd.prog 69 #[.agg (filCells f).toArray, .agg (filCells h).toArray] w fun e w' => e = .returned (.bool (f.p == h.p && f.x == h.x)) ∧ Chg none w w' := by
  obtain ⟨fp, fA, fx, fc⟩ := f
  obtain ⟨hp, hA, hx, hc⟩ := h
  dsimp only at hf hh
  have HE : Hid (∀ v, Chg none w v → Calls Tryd.prog 70 #[.slice fA fx.length fc, .slice hA hx.length hc] v fun e w' => e = .returned (.bool (fx == hx)) ∧ Chg none v w') := fun v g => equal51 fA hA fx hx fc hc v (hf.chg g) (hh.chg g)
  clear hf hh
  unfold filCells
  dsimp only
  by_cases e : fp = hp
  · have e1 : (fp == hp) = true := by rw [beq_iff_eq]; exact e
    rw [e1, Bool.true_and]
    subst e
    clear e1
    generalize hq : (fx == hx) = q at *
    clear hq
    go_enter Tryd.func69, Tryd.ntmps69
    go_wp2_with fail
    refine (HE.out _ (by repeat (first | exact Chg.refl _ _ | refine Chg.alloc ?_ _))).mono ?_
    rintro e w2 ⟨rfl, g2⟩
    have G2 : Hid (Chg none w w2) := Chg.trans (by repeat (first | exact Chg.refl _ _ | refine Chg.alloc ?_ _)) g2
    clear g2
    go_wp2_with fail
    go_ret
    exact ⟨rfl, G2.out⟩
  · have e1 : (fp == hp) = false := by rw [beq_eq_false_iff_ne]; exact e
    have e2 : ¬ fp = hp := e
    rw [e1, Bool.false_and]
    go_enter Tryd.func69, Tryd.ntmps69
    go_wp2_with fail
    go_ret
    exact ⟨rfl, by repeat (first | exact Chg.refl _ _ | refine Chg.alloc ?_ _)⟩

set_option maxHeartbeats 16000000 in
set_option maxRecDepth 100000 in
theorem eqfunc_any (L M : List Fil) (A B : Option Addr) (c d : Nat) (w : World) (hL : TreeAt w A L) (hM : TreeAt w B M) (hl : L.length ≤ 9223372036854775807) :
    Calls Tryd.prog 68 #[.slice A L.length c, .slice B M.length d, .func (.func 69) #[] #[]] w fun e w' => e = .returned (.bool (decide (keys L = keys M))) ∧ Chg none w w' := by
  by_cases hlm : L.length = M.length
  rotate_left
  · have d1 : ((L.length : Int) != (M.length : Int)) = true := by rw [bne_iff_ne]; omega
    rw [decide_eq_false (fun h => hlm (by have := congrArg List.length h; simpa [keys] using this))]
    clear hlm hL hM
    go_enter Tryd.func68, Tryd.ntmps68
    go_wp2_with fail
    go_ret
    exact ⟨rfl, Chg.refl _ _⟩
  have d1 : ((L.length : Int) != (M.length : Int)) = false := by rw [bne_eq_false_iff_eq]; omega
  have HL : Hid (∀ v, Chg none w v → TreeAt v A L) := fun v g => hL.chg g
  have HM : Hid (∀ v, Chg none w v → TreeAt v B M) := fun v g => hM.chg g
  have HLM := Lib.hid hlm
  clear hL hM
  rw [← hlm]
  rw [← hlm] at d1
  clear hlm
  go_enter Tryd.func68, Tryd.ntmps68
  go_wp2_with fail
  go_loopw [17] (fun s17 wr => ∃ k : Nat, s17 = .int .i64 k ∧ Hid (k ≤ L.length ∧ ∀ j, j < k → (keys L)[j]? = (keys M)[j]?) ∧ Hid (Chg none w wr)) (fun s17 _ => L.length - (intOf s17).toNat)
  case atStart => exact ⟨0, rfl, Lib.hid ⟨Nat.zero_le _, fun j h => absurd h (Nat.not_lt_zero _)⟩, Lib.hid (Chg.refl _ _)⟩
  case round =>
    obtain ⟨k, rfl, H1, H2⟩ := hrel
    by_cases hlt : k < L.length
    · have hd : decide ((k : Int) < (L.length : Int)) = true := by rw [decide_eq_true_eq]; omega
      obtain ⟨f, hkf⟩ : ∃ f, L[k]? = some f := ⟨_, List.getElem?_eq_getElem hlt⟩
      obtain ⟨h, hkh⟩ : ∃ h, M[k]? = some h := ⟨_, List.getElem?_eq_getElem (by rw [← HLM.out]; exact hlt)⟩
      have hneL : L ≠ [] := by intro e; subst e; simp at hlt
      have hneM : M ≠ [] := by intro e; subst e; simp at hkh
      have HRL := Lib.hid (HL.out wr H2.out)
      have HRM := Lib.hid (HM.out wr H2.out)
      obtain ⟨b, off, rfl, -, -⟩ := HRL.out.1 hneL
      obtain ⟨b2, off2, rfl, -, -⟩ := HRM.out.1 hneM
      obtain ⟨hb, x0, x1⟩ := HRL.out.1.two hkf
      obtain ⟨hb2, y0, y1⟩ := HRM.out.1.two hkh
      have HSM : Hid (∀ v, Chg none w v → Calls Tryd.prog 69 #[.agg (filCells f).toArray, .agg (filCells h).toArray] v fun e w' => e = .returned (.bool (f.p == h.p && f.x == h.x)) ∧ Chg none v w') :=
        fun v g => same50 f h v ((HL.out v g).2 f (List.mem_of_getElem? hkf)).t ((HM.out v g).2 h (List.mem_of_getElem? hkh)).t
      have HKF : Hid ((keys L)[k]? = some (keyF f)) := by show _ = _; unfold keys; rw [List.getElem?_map, hkf]; rfl
      have HKH : Hid ((keys M)[k]? = some (keyF h)) := by show _ = _; unfold keys; rw [List.getElem?_map, hkh]; rfl
      have HLT := Lib.hid hlt
      clear hkf hkh hneL hneM HRL HRM HL HM hlt
      by_cases hs : (f.p == h.p && f.x == h.x) = true
      · have HEQ : Hid ((keys L)[k]? = (keys M)[k]?) := by
          show _ = _
          rw [HKF.out, HKH.out]
          rw [Bool.and_eq_true, beq_iff_eq, beq_iff_eq] at hs
          unfold keyF
          rw [hs.1, hs.2]
        rw [hs] at HSM
        clear hs
        obtain ⟨fp, fA, fx, fc⟩ := f
        obtain ⟨hp, hA, hx, hc⟩ := h
        unfold filCells at HSM
        dsimp only at HSM x0 x1 y0 y1
        go_wp2_with fail
        refine (HSM.out _ (by repeat (first | exact H2.out | refine Chg.drew ?_ | refine Chg.alloc ?_ _))).mono ?_
        rintro e w2 ⟨rfl, g2⟩
        have G2 : Hid (Chg none w w2) := Chg.trans (by repeat (first | exact H2.out | refine Chg.drew ?_ | refine Chg.alloc ?_ _)) g2
        clear g2
        go_wp2_with fail
        go_roundw
        case rel => exact ⟨k + 1, by first | rfl | (simp; done), Lib.hid ⟨HLT.out, fun j hj => by
          rcases Nat.lt_or_ge j k with h | h
          · exact H1.out.2 j h
          · obtain rfl : j = k := by omega
            exact HEQ.out⟩, G2⟩
        case measure =>
          have := HLT.out
          first | omega | (simp only [intOf]; omega) | (simp [intOf]; omega)
      · have hs' : (f.p == h.p && f.x == h.x) = false := by simpa using hs
        have HRES : Hid (decide (keys L = keys M) = false) := decide_eq_false (fun e => hs (by
          have h1 := HKF.out
          rw [e, HKH.out] at h1
          have h2 := Option.some.inj h1
          unfold keyF at h2
          rw [Prod.mk.injEq] at h2
          rw [h2.1, h2.2]; simp))
        rw [hs'] at HSM
        clear hs hs'
        obtain ⟨fp, fA, fx, fc⟩ := f
        obtain ⟨hp, hA, hx, hc⟩ := h
        unfold filCells at HSM
        dsimp only at HSM x0 x1 y0 y1
        go_wp2_with fail
        refine (HSM.out _ (by repeat (first | exact H2.out | refine Chg.drew ?_ | refine Chg.alloc ?_ _))).mono ?_
        rintro e w2 ⟨rfl, g2⟩
        have G2 : Hid (Chg none w w2) := Chg.trans (by repeat (first | exact H2.out | refine Chg.drew ?_ | refine Chg.alloc ?_ _)) g2
        clear g2
        go_wp2_with fail
        go_ret
        exact ⟨by rw [HRES.out]; rfl, G2.out⟩
    · have hd : decide (k < L.length) = false := by rw [decide_eq_false_iff_not]; exact hlt
      have hd2 : decide ((k : Int) < (L.length : Int)) = false := by rw [decide_eq_false_iff_not]; omega
      have HRES : Hid (decide (keys L = keys M) = true) := decide_eq_true (by
        refine List.ext_getElem? fun j => ?_
        rcases Nat.lt_or_ge j k with h | h
        · exact H1.out.2 j h
        · rw [List.getElem?_eq_none (by unfold keys; rw [List.length_map]; omega), List.getElem?_eq_none (by unfold keys; rw [List.length_map, ← HLM.out]; omega)])
      clear hlt HL HM
      go_wp2_with fail
      go_ret
      exact ⟨by rw [HRES.out]; rfl, H2.out⟩

set_option maxHeartbeats 4000000 in
theorem tsame_any (L M : List Fil) (A B : Option Addr) (c d : Nat) (w : World) (hL : TreeAt w A L) (hM : TreeAt w B M) (hl : L.length ≤ 9223372036854775807) :
    Calls Tryd.prog 31 #[.slice A L.length c, .slice B M.length d] w fun e w' => e = .returned (.bool (decide (keys L = keys M))) ∧ Chg none w w' := by
  have HE := Lib.hid (eqfunc_any L M A B c d w hL hM hl)
  clear hL hM hl
  generalize decide (keys L = keys M) = q at *
  go_enter Tryd.func31, Tryd.ntmps31
  go_wp2_with fail
  refine HE.out.mono ?_
  rintro e w2 ⟨rfl, g2⟩
  go_wp2_with fail
  go_ret
  exact ⟨rfl, g2⟩

end Go.Proofs.YtglfakglcoffkaaDoor

namespace Go.Proofs.YtglfakglcoffkaaDoor
open Go.RowKit

theorem ba_append (a b : List UInt8) : (⟨a.toArray⟩ : ByteArray) ++ (⟨b.toArray⟩ : ByteArray) = ⟨(a ++ b).toArray⟩ := by
  apply ByteArray.ext
  simp
def putDir (dir : List UInt8) (m : Fil) : Fil := { m with p := dir ++ ([47] ++ m.p) }
theorem OwnT.setPath {w0 w : World} {g i : Nat} {M : List Fil} {m : Fil} (h : OwnT w0 w g M) (hi : M[i]? = some m) (p' : List UInt8) :
    OwnT w0 (w.setCell ⟨g, i * 2, none⟩ (.string ⟨p'.toArray⟩)) g (M.set i { m with p := p' }) := by
  obtain ⟨cs, h1, h2, h3⟩ := h.blk
  have hlt : i < M.length := (List.getElem?_eq_some_iff.1 hi).1
  have hgr : Chg (some g) w (w.setCell ⟨g, i * 2, none⟩ (.string ⟨p'.toArray⟩)) := (Chg.refl _ _).setCell _ _
  refine ⟨⟨_, h1.set _ _, by simpa using h2, fun j m' hj => ?_⟩, fun m' hm' => ?_, h.base, Chg.own (b := g) h.chg hgr h.base⟩
  · by_cases e : i = j
    · subst e
      rw [List.getElem?_set_self hlt] at hj
      obtain rfl := Option.some.inj hj
      have hs : i * 2 < cs.size := by omega
      refine ⟨by simp [hs], ?_⟩
      rw [Array.getElem?_setIfInBounds_ne (by omega)]
      exact (h3 i m hi).2
    · rw [List.getElem?_set_ne e] at hj
      rw [Array.getElem?_setIfInBounds_ne (by omega), Array.getElem?_setIfInBounds_ne (by omega)]
      exact h3 j m' hj
  · have hown : w.ownsRow w0.heap.size 5 1 (.slice m'.A m'.x.length m'.c) m'.x.length (byteVals m'.x) := by
      rcases List.mem_or_eq_of_mem_set hm' with hm | hm
      · exact h.own m' hm
      · rw [hm]; exact h.own m (List.mem_of_getElem? hi)
    exact World.ownsRow.kept hown hgr (.inr (own_other hown h1 (by decide)))
/-- The first k put under the directory. -/
def partU (dir : List UInt8) (M : List Fil) (k : Nat) : List Fil := (M.take k).map (putDir dir) ++ M.drop k
theorem partU_len (dir : List UInt8) (M : List Fil) (k : Nat) : (partU dir M k).length = M.length := by
  unfold partU; simp; omega
theorem partU_at {dir : List UInt8} {M : List Fil} {k : Nat} {m : Fil} (h : M[k]? = some m) : (partU dir M k)[k]? = some m := by
  have hlt := (List.getElem?_eq_some_iff.1 h).1
  unfold partU
  rw [List.getElem?_append_right (by rw [List.length_map, List.length_take]; omega), List.length_map, List.length_take, Nat.min_eq_left (by omega), Nat.sub_self, List.getElem?_drop, Nat.add_zero]
  exact h
theorem partU_succ {dir : List UInt8} {M : List Fil} {k : Nat} {m : Fil} (h : M[k]? = some m) : (partU dir M k).set k (putDir dir m) = partU dir M (k + 1) := by
  have hlt := (List.getElem?_eq_some_iff.1 h).1
  have hd : M.drop k = m :: M.drop (k + 1) := by
    have h1 := List.getElem?_eq_some_iff.1 h
    rw [← h1.2, ← List.drop_eq_getElem_cons h1.1]
  unfold partU
  rw [List.set_append_right _ _ (by rw [List.length_map, List.length_take]; omega), List.length_map, List.length_take, Nat.min_eq_left (by omega), Nat.sub_self, hd, List.set_cons_zero, List.take_add_one, h]
  simp
theorem partU_all {dir : List UInt8} {M : List Fil} {k : Nat} (h : M.length ≤ k) : partU dir M k = M.map (putDir dir) := by
  unfold partU
  rw [List.take_of_length_le h, List.drop_eq_nil_of_le h, List.append_nil]

set_option maxHeartbeats 8000000 in
set_option maxRecDepth 100000 in
theorem under_no (L : List Fil) (A : Option Addr) (c : Nat) (dir : List UInt8) (w : World) (hT : TreeAt w A L) (hl : L.length ≤ 9223372036854775807) (hd : dir.length ≤ 9223372036854775807) (hm : (mayT L && pathB dir) = false) :
    Calls Tryd.prog 58 #[.slice A L.length c, .string ⟨dir.toArray⟩] w fun e w' => e = .returned (.tuple #[.slice none 0 0, .int .i64 2]) ∧ Chg none w w' := by
  have HM := Lib.hid (mayt_any L A c w hT hl)
  have HD := Lib.hid (fun v => ispath_any dir v hd)
  clear hT hl hd
  by_cases h1 : mayT L = true
  · have h2 : pathB dir = false := by rw [h1, Bool.true_and] at hm; exact hm
    rw [h1] at HM
    rw [h2] at HD
    clear hm h1 h2
    go_enter Tryd.func58, Tryd.ntmps58
    go_wp2_with fail
    refine HM.out.mono ?_
    rintro e w1 ⟨rfl, g1⟩
    have HDD := Lib.hid (HD.out w1)
    have G1 := Lib.hid g1
    clear g1
    go_wp2_with fail
    refine HDD.out.mono ?_
    rintro e w2 ⟨rfl, g2⟩
    have G2 := Lib.hid (G1.out.trans g2)
    clear g2
    go_wp2_with fail
    go_ret2
    exact ⟨rfl, G2.out⟩
  · have h2 : mayT L = false := by simpa using h1
    rw [h2] at HM
    clear hm h1 h2
    go_enter Tryd.func58, Tryd.ntmps58
    go_wp2_with fail
    refine HM.out.mono ?_
    rintro e w1 ⟨rfl, g1⟩
    go_wp2_with fail
    go_ret2
    exact ⟨rfl, g1⟩

/-- What Under tells of a tree that may be. -/
def ToldU (w : World) (L : List Fil) (dir : List UInt8) (e : Ending) (w' : World) : Prop :=
  ∃ (g : Nat) (M : List Fil), M.length = L.length ∧ (∀ (i : Nat) (m f : Fil), M[i]? = some m → L[i]? = some f → m.p = f.p ∧ m.x = f.x) ∧ ToldH w g L.length (M.map (putDir dir)) e w'

set_option maxHeartbeats 16000000 in
set_option maxRecDepth 100000 in
theorem under_yes (L : List Fil) (A : Option Addr) (c : Nat) (dir : List UInt8) (w : World) (hT : TreeAt w A L) (hm : mayT L = true) (hd : pathB dir = true) :
    Calls Tryd.prog 58 #[.slice A L.length c, .string ⟨dir.toArray⟩] w (ToldU w L dir) := by
  obtain ⟨h16, hfl, -, -⟩ := mayT_parts hm
  have HM := Lib.hid (mayt_any L A c w hT (by omega))
  have HD := Lib.hid (fun v => ispath_any dir v (by have := (t_path_len hd).2; omega))
  rw [hm] at HM
  rw [hd] at HD
  have HCP := Lib.hid (fun v (g : Chg none w v) => copied_any L A c v (hT.chg g) (by omega) (fun f hf => by have := (hfl f hf).2; omega))
  have HPL : Hid (∀ f ∈ L, f.p.length ≤ 40) := fun f hf => (t_path_len (hfl f hf).1).2
  have HDL : Hid (dir.length ≤ 40) := (t_path_len hd).2
  have HL16 := Lib.hid h16
  clear hT hm hd hfl h16
  go_enter Tryd.func58, Tryd.ntmps58
  go_wp2_with fail
  refine HM.out.mono ?_
  rintro e w1 ⟨rfl, g1⟩
  have HDD := Lib.hid (HD.out w1)
  have G1 := Lib.hid g1
  clear g1
  go_wp2_with fail
  refine HDD.out.mono ?_
  rintro e w2 ⟨rfl, g2⟩
  have G2 := Lib.hid (G1.out.trans g2)
  have HC2 := Lib.hid (HCP.out w2 G2.out)
  clear g2 HCP HD HM HDD
  go_wp2_with fail
  refine HC2.out.mono ?_
  rintro e w3 ⟨g, M, rfl, hcp⟩
  have HML : Hid (M.length = L.length) := hcp.len
  have HSA := Lib.hid hcp.same
  have HO3 : Hid (OwnT w w3 g (partU dir M 0)) := by
    have h := hcp.ownT
    show OwnT w w3 g (partU dir M 0)
    have e : partU dir M 0 = M := by unfold partU; simp
    rw [e]
    exact ⟨h.blk, fun m hm => World.ownsRow.mono (h.own m hm) G2.out.size, Nat.le_trans G2.out.size h.base, G2.out.trans h.chg⟩
  have HMP : Hid (∀ m ∈ M, m.p.length ≤ 40) := fun m hm => by
    obtain ⟨i, hi, rfl⟩ := List.mem_iff_getElem.1 hm
    have hiL : i < L.length := by rw [← HML.out]; exact hi
    have h := HSA.out i M[i] L[i] (List.getElem?_eq_getElem hi) (List.getElem?_eq_getElem hiL)
    rw [h.1]
    exact HPL.out _ (List.getElem_mem hiL)
  clear hcp HC2
  go_wp2_with fail
  go_loopw [20] (fun s20 wr => ∃ k : Nat, s20 = .int .i64 k ∧ Hid (k ≤ L.length) ∧ Hid (OwnT w wr g (partU dir M k))) (fun s20 _ => L.length - (intOf s20).toNat)
  case atStart => exact ⟨0, rfl, Lib.hid (Nat.zero_le _), HO3⟩
  case round =>
    obtain ⟨k, rfl, H1, H2⟩ := hrel
    by_cases hlt : k < L.length
    · have hdd : decide ((k : Int) < (L.length : Int)) = true := by rw [decide_eq_true_eq]; omega
      obtain ⟨m, hkm⟩ : ∃ m, M[k]? = some m := ⟨_, List.getElem?_eq_getElem (by rw [HML.out]; exact hlt)⟩
      have HNX := Lib.hid (H2.out.setPath (partU_at (dir := dir) hkm) (dir ++ ([47] ++ m.p)))
      have hps := partU_succ (dir := dir) hkm
      unfold putDir at hps
      rw [hps] at HNX
      obtain ⟨cs, hb, -, hc⟩ := H2.out.blk
      have x0 : wr.cell? ⟨g, k * 2, none⟩ = some (.string ⟨m.p.toArray⟩) := by rw [hb.cell]; exact (hc k m (partU_at hkm)).1
      have y0 : wr.frozen? ⟨g, k * 2, none⟩ = false := hb.frozen _
      have HLT := Lib.hid hlt
      have h16 := HL16.out
      have hmp40 := HMP.out m (List.mem_of_getElem? hkm)
      have hdl40 := HDL.out
      have hs1 : ¬ 9223372036854775807 < dir.length + 1 := by omega
      have hs2 : ¬ 9223372036854775807 < dir.length + 1 + m.p.length := by omega
      clear hkm hps hb hc hlt HO3 hmp40 hdl40
      obtain ⟨mp, mA, mx, mc⟩ := m
      dsimp only at x0 HNX hs2
      have hc1 : (⟨dir.toArray⟩ : ByteArray) ++ (⟨#[47]⟩ : ByteArray) = ⟨(dir ++ [47]).toArray⟩ := ba_append dir [47]
      have hc2 : (⟨(dir ++ [47]).toArray⟩ : ByteArray) ++ (⟨mp.toArray⟩ : ByteArray) = ⟨(dir ++ ([47] ++ mp)).toArray⟩ := by rw [ba_append, List.append_assoc]
      go_wp2_with fail
      go_roundw
      case rel => exact ⟨k + 1, by first | rfl | (simp; done), Lib.hid HLT.out, by first | exact HNX | (simpa using HNX) | (trace_state; exact HNX)⟩
      case measure =>
        have := HLT.out
        first | omega | (simp only [intOf]; omega) | (simp [intOf]; omega)
    · have hdd : decide (k < L.length) = false := by rw [decide_eq_false_iff_not]; exact hlt
      have hd2 : decide ((k : Int) < (L.length : Int)) = false := by rw [decide_eq_false_iff_not]; omega
      have hkl : M.length ≤ k := by rw [HML.out]; omega
      have hO := H2.out
      rw [partU_all hkl] at hO
      have hh := held_any w wr g L.length (M.map (putDir dir)) hO (by rw [List.length_map, HML.out]; have := HL16.out; omega) (fun m hm => by
        obtain ⟨m0, hm0, rfl⟩ := List.mem_map.1 hm
        have h1 := HMP.out m0 hm0
        have h2 := HDL.out
        unfold putDir
        simp only [List.length_append, List.length_cons, List.length_nil]
        omega)
      rw [List.length_map, HML.out] at hh
      have HH := Lib.hid hh
      have HU : Hid (∀ e w', ToldH w g L.length (M.map (putDir dir)) e w' → ToldU w L dir e w') := fun e w' h => ⟨g, M, HML.out, HSA.out, h⟩
      clear hlt hkl hO hh HO3 H1 H2
      go_wp2_with fail
      refine HH.out.mono ?_
      rintro e w9 h9
      have h9' := h9
      obtain ⟨M', hpm, hst, htr, hown, hch, hend⟩ := h9
      have HE := Lib.hid (fun e he => HU.out e w9 ⟨M', hpm, hst, htr, hown, hch, he⟩)
      clear h9' hpm hst htr hown hch
      rcases hend with ⟨hm9, rfl⟩ | ⟨hm9, rfl⟩
      · have HM9 := Lib.hid hm9
        clear hm9
        go_wp2_with fail
        go_ret2
        exact HE.out _ (.inl ⟨HM9.out, rfl⟩)
      · have HM9 := Lib.hid hm9
        clear hm9
        go_wp2_with fail
        go_ret2
        exact HE.out _ (.inr ⟨HM9.out, rfl⟩)

end Go.Proofs.YtglfakglcoffkaaDoor

namespace Go.Proofs.YtglfakglcoffkaaDoor
open Go.RowKit

theorem ba_extract (s : List UInt8) (i j : Nat) : (⟨s.toArray⟩ : ByteArray).extract i j = ⟨((s.drop i).take (j - i)).toArray⟩ := by
  apply ByteArray.ext
  simp
set_option maxHeartbeats 4000000 in
theorem hasp_any (s p : List UInt8) (w : World) : Calls Tryd.prog 126 #[.string ⟨s.toArray⟩, .string ⟨p.toArray⟩] w fun e w' => e = .returned (.bool (decide (p.length ≤ s.length) && s.take p.length == p)) ∧ w' = w := by
  by_cases h : p.length ≤ s.length
  · have d1 : decide ((p.length : Int) ≤ (s.length : Int)) = true := by rw [decide_eq_true_eq]; omega
    have d2 : decide (p.length ≤ s.length) = true := by rw [decide_eq_true_eq]; omega
    have h2 : (p.length : Int) ≤ (s.length : Int) := by omega
    have he := ba_extract s 0 p.length
    rw [List.drop_zero, Nat.sub_zero] at he
    rw [d2, Bool.true_and]
    go_enter Tryd.func126, Tryd.ntmps126
    go_wp2_with fail
    go_ret
    exact ⟨by first | rfl | (rw [he]; rfl) | (simp only [he]; rfl), rfl⟩
  · have d1 : decide ((p.length : Int) ≤ (s.length : Int)) = false := by rw [decide_eq_false_iff_not]; omega
    have d2 : decide (p.length ≤ s.length) = false := by rw [decide_eq_false_iff_not]; omega
    rw [d2, Bool.false_and]
    go_enter Tryd.func126, Tryd.ntmps126
    go_wp2_with fail
    go_ret
    exact ⟨rfl, rfl⟩
/-- Does s begin with p? -/
def prefB (s p : List UInt8) : Bool := decide (p.length ≤ s.length) && s.take p.length == p
set_option maxHeartbeats 4000000 in
theorem cut60 (s p : List UInt8) (w : World) : Calls Tryd.prog 112 #[.string ⟨s.toArray⟩, .string ⟨p.toArray⟩] w fun e w' => e = .returned (.tuple #[.string ⟨(if prefB s p then s.drop p.length else s).toArray⟩, .bool (prefB s p)]) ∧ w' = w := by
  have HP := Lib.hid (fun v => hasp_any s p v)
  by_cases h : prefB s p = true
  · have hle : p.length ≤ s.length := by unfold prefB at h; rw [Bool.and_eq_true, decide_eq_true_eq] at h; exact h.1
    have h' : (decide (p.length ≤ s.length) && s.take p.length == p) = true := h
    rw [h'] at HP
    rw [h, if_pos rfl]
    have d1 : decide ((p.length : Int) ≤ (s.length : Int)) = true := by rw [decide_eq_true_eq]; omega
    have h2 : (p.length : Int) ≤ (s.length : Int) := by omega
    have he := ba_extract s p.length s.length
    have ht : (s.drop p.length).take (s.length - p.length) = s.drop p.length := List.take_of_length_le (by rw [List.length_drop]; exact Nat.le_refl _)
    rw [ht] at he
    clear h h' ht
    go_enter Tryd.func112, Tryd.ntmps112
    go_wp2_with fail
    refine (HP.out _).mono ?_
    rintro e w' ⟨rfl, rfl⟩
    go_wp2_with fail
    go_ret2
    exact ⟨rfl, rfl⟩
  · have h0 : prefB s p = false := by simpa using h
    have h' : (decide (p.length ≤ s.length) && s.take p.length == p) = false := h0
    rw [h'] at HP
    rw [h0, if_neg (by decide)]
    clear h h0 h'
    go_enter Tryd.func112, Tryd.ntmps112
    go_wp2_with fail
    refine (HP.out _).mono ?_
    rintro e w' ⟨rfl, rfl⟩
    go_wp2_with fail
    go_ret2
    exact ⟨rfl, rfl⟩
set_option maxHeartbeats 4000000 in
theorem cut46 (s p : List UInt8) (w : World) : Calls Tryd.prog 89 #[.string ⟨s.toArray⟩, .string ⟨p.toArray⟩] w fun e w' => e = .returned (.tuple #[.string ⟨(if prefB s p then s.drop p.length else s).toArray⟩, .bool (prefB s p)]) ∧ w' = w := by
  have HP := Lib.hid (fun v => cut60 s p v)
  generalize (if prefB s p then s.drop p.length else s) = r at *
  generalize prefB s p = q at *
  go_enter Tryd.func89, Tryd.ntmps89
  go_wp2_with fail
  refine (HP.out _).mono ?_
  rintro e w' ⟨rfl, rfl⟩
  go_wp2_with fail
  go_ret2
  exact ⟨rfl, rfl⟩

/-! A list of files of the call's own, grown by append. -/
theorem filCells_len (f : Fil) : (filCells f).length = 2 := rfl
theorem filCells_one {L : List Fil} : ∀ u ∈ L.flatMap filCells, u.oneCell' = true := by
  intro u hu
  obtain ⟨x, -, hx⟩ := List.mem_flatMap.1 hu
  simp only [filCells, List.mem_cons, List.not_mem_nil, or_false] at hx
  rcases hx with rfl | rfl <;> rfl
theorem reads_lit38 (w : World) (L : List Fil) : Reads (w.alloc (.cells (L.flatMap filCells).toArray 86 (0, 0))) (w.alloc (.cells (L.flatMap filCells).toArray 86 (0, 0))).heap.size 2 (some ⟨w.heap.size, 0, none⟩) L.length (L.flatMap filCells) :=
  ⟨flat_len filCells 2 filCells_len L, fun _ => ⟨_, rfl, by simp, fun j u hu => by
    rw [Go.WideShapes.add_plain, Nat.zero_add, (Blk.new w _ 86).cell, ← hu]; simp⟩⟩
theorem rows_of_own38 {w : World} {B n c : Nat} {A : Option Addr} {L : List Fil} (h : w.ownsRow B 86 2 (.slice A n c) n (L.flatMap filCells)) : RowsAt w 2 A filCells L ∧ n = L.length ∧ n ≤ c := by
  have hl := h.1
  rw [flat_len filCells 2 filCells_len] at hl
  have hn : n = L.length := by omega
  rcases h.2 with ⟨h1, h2⟩ | ⟨g, cap, cur, h1, h2, h3, h4, h5, h6, h7⟩
  · exact ⟨fun hne => absurd (List.eq_nil_of_length_eq_zero (by omega)) hne, hn, by omega⟩
  · injection h1 with e1 e2 e3
    refine ⟨fun _ => ⟨g, 0, e1, (Array.getElem?_eq_some_iff.1 h3).1, fun i x hi j hj => ?_⟩, hn, by omega⟩
    have hf := flat_get filCells 2 filCells_len L i j x hi hj
    have hj6 : j < (filCells x).length := hj
    rw [List.getElem?_eq_getElem hj6] at hf ⊢
    have := h.cells (g := g) (by rw [e1]; rfl) _ _ hf
    rwa [Go.WideShapes.add_plain] at this
theorem own_apart {w : World} {b b' n n' e' s' : Nat} {v v' : Value} {xs xs' : List Value} (h : w.ownsRow b 5 1 v n xs) (h' : w.ownsRow b' e' s' v' n' xs') (he : e' ≠ 5) : v.ownBlock = none ∨ v.ownBlock ≠ v'.ownBlock := by
  rcases h.2 with ⟨rfl, _⟩ | ⟨g, cap, cur, rfl, _, hg, _⟩
  · exact .inl rfl
  · right
    intro e
    rcases h'.2 with ⟨rfl, _⟩ | ⟨g', cap', cur', rfl, _, hg', _⟩
    · cases e
    · have e2 : g = g' := by simpa [Value.ownBlock] using e
      subst e2
      rw [hg] at hg'
      injection hg' with hg'
      injection hg' with _ h2
      exact he h2.symm
/-- Files of the call's own, in a row of its own. -/
structure OwnL (w0 w : World) (A : Option Addr) (c : Nat) (M : List Fil) : Prop where
  row : w.ownsRow w0.heap.size 86 2 (.slice A M.length c) M.length (M.flatMap filCells)
  own : ∀ m ∈ M, w.ownsRow w0.heap.size 5 1 (.slice m.A m.x.length m.c) m.x.length (byteVals m.x)
  chg : Chg none w0 w
theorem OwnL.on {w0 w w' : World} {A : Option Addr} {c : Nat} {M : List Fil} (h : OwnL w0 w A c M) (g : Chg none w w') : OwnL w0 w' A c M :=
  ⟨World.ownsRow.kept h.row g (by cases (Value.slice A M.length c).ownBlock <;> simp), fun m hm => own_chgW (h.own m hm) g, h.chg.trans g⟩
theorem OwnL.tree {w0 w : World} {A : Option Addr} {c : Nat} {M : List Fil} (h : OwnL w0 w A c M) (hp : ∀ m ∈ M, m.p.length ≤ 9223372036854775807) : TreeAt w A M :=
  ⟨(rows_of_own38 h.row).1, fun m hm => own_fil (h.own m hm) (hp m hm)⟩
theorem OwnL.app {w0 w w' : World} {A A' : Option Addr} {c c' : Nat} {M : List Fil} {m : Fil} (h : OwnL w0 w A c M) (hm : w.ownsRow w0.heap.size 5 1 (.slice m.A m.x.length m.c) m.x.length (byteVals m.x))
    (hr : w'.ownsRow w0.heap.size 86 2 (.slice A' (M.length + 1) c') (M.length + 1) (M.flatMap filCells ++ filCells m)) (g : w.grownBy w' (Value.slice A M.length c).ownBlock) : OwnL w0 w' A' c' (M ++ [m]) := by
  refine ⟨?_, fun k hk => ?_, own_chg h.chg h.row (Nat.le_refl _) g⟩
  · rw [List.length_append, List.length_singleton, List.flatMap_append]
    simpa using hr
  · rcases List.mem_append.1 hk with h1 | h1
    · exact World.ownsRow.kept (h.own k h1) g (own_apart (h.own k h1) h.row (by decide))
    · rw [List.mem_singleton.1 h1]
      exact World.ownsRow.kept hm g (own_apart hm h.row (by decide))

/-- What is below dir, by what is left of the paths. -/
def belowK (dir : List UInt8) (L : List (List UInt8 × List UInt8)) : List (List UInt8 × List UInt8) :=
  (L.filter fun f => prefB f.1 (dir ++ [47])).map fun f => (f.1.drop (dir.length + 1), f.2)
theorem belowK_step {dir : List UInt8} {L : List (List UInt8 × List UInt8)} {k : Nat} {f : List UInt8 × List UInt8} (h : L[k]? = some f) :
    belowK dir (L.take (k + 1)) = belowK dir (L.take k) ++ (if prefB f.1 (dir ++ [47]) then [(f.1.drop (dir.length + 1), f.2)] else []) := by
  unfold belowK
  rw [List.take_add_one, h]
  simp only [Option.toList_some, List.filter_append, List.map_append]
  congr 1
  by_cases hp : prefB f.1 (dir ++ [47]) = true
  · simp [hp]
  · have : prefB f.1 (dir ++ [47]) = false := by simpa using hp
    simp [this]

set_option maxHeartbeats 16000000 in
set_option maxRecDepth 100000 in
theorem below_yes (L : List Fil) (A : Option Addr) (c : Nat) (dir : List UInt8) (w : World) (hT : TreeAt w A L) (hm : mayT L = true) (hd : pathB dir = true) :
    Calls Tryd.prog 59 #[.slice A L.length c, .string ⟨dir.toArray⟩] w fun e w' => ∃ A' c' M, e = .returned (.slice A' M.length c') ∧ OwnL w w' A' c' M ∧ M.map (fun m => (m.p, m.x)) = belowK dir (L.map fun m => (m.p, m.x)) ∧ M.length ≤ L.length ∧ ∀ m ∈ M, m.p.length ≤ 40 := by
  obtain ⟨i0, hi, hz0, hz1, hz2⟩ := info_parts Tryd.info86
  obtain ⟨h16, hfl, -, -⟩ := mayT_parts hm
  have HM := Lib.hid (mayt_any L A c w hT (by omega))
  have HD := Lib.hid (fun v => ispath_any dir v (by have := (t_path_len hd).2; omega))
  rw [hm] at HM
  rw [hd] at HD
  have HT : Hid (∀ v, Chg none w v → TreeAt v A L) := fun v g => hT.chg g
  have HPL : Hid (∀ f ∈ L, f.p.length ≤ 40 ∧ f.x.length ≤ 2000) := fun f hf => ⟨(t_path_len (hfl f hf).1).2, (hfl f hf).2⟩
  have HDL : Hid (dir.length ≤ 40) := (t_path_len hd).2
  have HL16 := Lib.hid h16
  clear hT hm hd hfl h16
  go_enter Tryd.func59, Tryd.ntmps59
  go_wp2_with fail
  refine HM.out.mono ?_
  rintro e w1 ⟨rfl, g1⟩
  have HDD := Lib.hid (HD.out w1)
  have G1 := Lib.hid g1
  clear g1
  go_wp2_with fail
  refine HDD.out.mono ?_
  rintro e w2 ⟨rfl, g2⟩
  have HO0 : Hid (OwnL w w2 none 0 []) := ⟨World.ownsRow_nil _ _ _ _, fun m h => (by cases h), G1.out.trans g2⟩
  clear g2 HD HM HDD
  go_wp2_with fail
  go_loopw [5, 20] (fun s5 s20 wr => ∃ (k : Nat) (A1 : Option Addr) (c1 : Nat) (M : List Fil), s20 = .int .i64 k ∧ s5 = .slice A1 M.length c1 ∧ Hid (k ≤ L.length) ∧ Hid (OwnL w wr A1 c1 M) ∧ Hid (M.map (fun m => (m.p, m.x)) = belowK dir ((L.map fun m => (m.p, m.x)).take k) ∧ M.length ≤ k ∧ ∀ m ∈ M, m.p.length ≤ 40)) (fun _ s20 _ => L.length - (intOf s20).toNat)
  case atStart => exact ⟨0, none, 0, [], rfl, rfl, Lib.hid (Nat.zero_le _), HO0, Lib.hid ⟨rfl, Nat.le_refl _, fun m h => (by cases h)⟩⟩
  case round =>
    obtain ⟨k, A1, c1, M, rfl, rfl, H1, H2, H3⟩ := hrel
    by_cases hlt : k < L.length
    · have hdd : decide ((k : Int) < (L.length : Int)) = true := by rw [decide_eq_true_eq]; omega
      obtain ⟨x, hkx⟩ : ∃ x, L[k]? = some x := ⟨_, List.getElem?_eq_getElem hlt⟩
      have hne : L ≠ [] := by intro e; subst e; simp at hlt
      have HRW := Lib.hid (HT.out wr H2.out.chg)
      obtain ⟨b, off, rfl, -, -⟩ := HRW.out.1 hne
      obtain ⟨hb, x0, x1⟩ := HRW.out.1.two hkx
      have HLT := Lib.hid hlt
      have HTX : Hid (∀ v, Chg none w v → x.ok v) := fun v g => (HT.out v g).2 x (List.mem_of_getElem? hkx)
      have HXL := Lib.hid (HPL.out x (List.mem_of_getElem? hkx))
      have HBS := Lib.hid (belowK_step (dir := dir) (L := L.map fun m => (m.p, m.x)) (k := k) (f := (x.p, x.x)) (by rw [List.getElem?_map, hkx]; rfl))
      have h16 := HL16.out
      have hdl40 := HDL.out
      have hs1 : ¬ 9223372036854775807 < dir.length + 1 := by omega
      obtain ⟨V0, hV⟩ : ∃ V0, V0 = wr := ⟨_, rfl⟩
      rw [← hV] at hb x0 x1 H2 ⊢
      clear hV hkx hne HRW HT hlt HO0 HPL
      obtain ⟨fp, fA, fx, fc⟩ := x
      dsimp only at x0 x1 HXL HBS
      have hc1 : (⟨dir.toArray⟩ : ByteArray) ++ (⟨#[47]⟩ : ByteArray) = ⟨(dir ++ [47]).toArray⟩ := ba_append dir [47]
      have HCT := Lib.hid (fun v => cut46 fp (dir ++ [47]) v)
      have hdl : (dir ++ [47]).length = dir.length + 1 := by simp
      rw [hdl] at HCT
      go_upto_region 7 with fail
      have HG0 : Hid (Chg none V0 (V0.alloc (.cells #[.string ⟨fp.toArray⟩, .slice fA fx.length fc] 86))) := (Chg.refl _ _).alloc _
      have HX0 : Hid (Blk (V0.alloc (.cells #[.string ⟨fp.toArray⟩, .slice fA fx.length fc] 86)) V0.heap.size #[.string ⟨fp.toArray⟩, .slice fA fx.length fc] 86) := Blk.new _ _ _
      generalize V0.alloc (.cells #[.string ⟨fp.toArray⟩, .slice fA fx.length fc] 86) = W0 at *
      have HO1 := Lib.hid (H2.out.on HG0.out)
      have q0 : W0.cell? ⟨V0.heap.size, 0, none⟩ = some (.string ⟨fp.toArray⟩) := HX0.out.cell 0
      have q1 : W0.cell? ⟨V0.heap.size, 1, none⟩ = some (.slice fA fx.length fc) := HX0.out.cell 1
      clear HX0 HG0 x0 x1 hb H2 hdl
      generalize V0.heap.size = PX at *
      by_cases hp : prefB fp (dir ++ [47]) = true
      rotate_left
      · have hp' : prefB fp (dir ++ [47]) = false := by simpa using hp
        rw [hp', if_neg (by decide), List.append_nil] at HBS
        rw [hp', if_neg (by decide)] at HCT
        clear hp hp' hdl40
        go_wp2_with fail
        refine (HCT.out _).mono ?_
        rintro e v1 ⟨rfl, rfl⟩
        clear q0 q1
        go_wp2_with fail
        go_roundw
        case rel => exact ⟨k + 1, A1, c1, M, by first | rfl | (simp; done), rfl, Lib.hid HLT.out, HO1, Lib.hid ⟨by rw [HBS.out]; exact H3.out.1, by have := H3.out.2.1; omega, H3.out.2.2⟩⟩
        case measure =>
          have := HLT.out
          first | omega | (simp only [intOf]; omega) | (simp [intOf]; omega)
      · rw [hp, if_pos rfl] at HBS
        rw [hp, if_pos rfl] at HCT
        have HCL := Lib.hid (clone27 fA fx fc W0 (HTX.out W0 HO1.out.chg).nil (txt_reads (HTX.out W0 HO1.out.chg).t) (by have := HXL.out.2; omega))
        clear hp hdl40
        go_wp2_with fail
        refine (HCT.out _).mono ?_
        rintro e v1 ⟨rfl, rfl⟩
        go_wp2_with fail
        refine HCL.out.mono ?_
        rintro e v2 ⟨A2, n2, c2, rfl, rfl, hown2, hb2⟩
        have k2 : Chg none v1 v2 := ⟨hb2.os, hb2.tape, hb2.output, hb2.size, fun k hk _ => hb2.block k hk⟩
        have HO2 := Lib.hid (HO1.out.on k2)
        have HW2 := Lib.hid (World.ownsRow.mono hown2 HO1.out.chg.size)
        obtain ⟨rp, hrp⟩ : ∃ rp, rp = fp.drop (dir.length + 1) := ⟨_, rfl⟩
        rw [← hrp] at HBS ⊢
        have HRP : Hid (rp.length ≤ 40) := by have := HXL.out.1; show _ ≤ _; rw [hrp, List.length_drop]; omega
        have HFI : Hid (∀ v : World, Reads (v.alloc (.cells #[.string ⟨rp.toArray⟩, .slice A2 fx.length c2] 86)) (v.alloc (.cells #[.string ⟨rp.toArray⟩, .slice A2 fx.length c2] 86)).heap.size 2 (some ⟨v.heap.size, 0, none⟩) 1 (filCells ⟨rp, A2, fx, c2⟩)) := fun v => by
          have h := reads_lit38 v [⟨rp, A2, fx, c2⟩]
          simp only [List.flatMap_cons, List.flatMap_nil, List.append_nil, List.length_cons, List.length_nil, Nat.zero_add] at h
          exact h
        have HON : Hid (∀ u ∈ filCells ⟨rp, A2, fx, c2⟩, u.oneCell' = true) := fun u hu => filCells_one (L := [⟨rp, A2, fx, c2⟩]) u (by simpa using hu)
        have HSE : Hid (∀ ob : Obj, w.heap.size ≤ (v2.alloc ob).heap.size) := fun ob => (HO2.out.chg.alloc ob).size
        have HML : Hid (M.length ≤ 16) := by have h1 := H3.out.2.1; have h2 := HLT.out; show _ ≤ _; omega
        clear hown2 hb2 k2 hrp q0 q1 HCL HCT
        go_wp2_with (at_builtin; refine wpList_append_any _ rfl (.tmp 33) (.tmp 39) 40 rfl w.heap.size 86 i0 (.agg #[.string ⟨#[]⟩, .slice none 0 0]) 2 40 Tryd.underlying40 hi hz0 hz1 hz2 rfl (by decide) _ M.length (M.flatMap filCells) rfl (HO2.out.row.alloc _) _ (some ⟨v2.heap.size, 0, none⟩) 1 1 _ rfl (HFI.out v2) HON.out (by have := HML.out; unfold maxLen; omega) (by have := HML.out; omega) (HSE.out _) ?_)
        intro v3 w3 hown3 hgr3 _
        obtain ⟨A3, c3, rfl⟩ := own_slice hown3
        have HO3 := Lib.hid ((HO2.out.on ((Chg.refl none v2).alloc _)).app (m := ⟨rp, A2, fx, c2⟩) (HW2.out.alloc _) hown3 hgr3)
        have HLN : Hid ((M ++ [(⟨rp, A2, fx, c2⟩ : Fil)]).length = M.length + 1) := by show _ = _; simp
        clear hown3 hgr3 HFI HON HSE HO2 HW2
        rw [← HLN.out]
        go_wp2_with fail
        go_roundw
        case rel => exact ⟨k + 1, A3, c3, M ++ [⟨rp, A2, fx, c2⟩], by first | rfl | (simp; done), rfl, Lib.hid HLT.out, HO3, Lib.hid ⟨by rw [HBS.out, List.map_append, H3.out.1]; rfl, by have h1 := H3.out.2.1; rw [HLN.out]; omega, fun m hm => by
          rcases List.mem_append.1 hm with h | h
          · exact H3.out.2.2 m h
          · rw [List.mem_singleton.1 h]; exact HRP.out⟩⟩
        case measure =>
          have := HLT.out
          first | omega | (simp only [intOf]; omega) | (simp [intOf]; omega)
    · have hdd : decide (k < L.length) = false := by rw [decide_eq_false_iff_not]; exact hlt
      have hd2 : decide ((k : Int) < (L.length : Int)) = false := by rw [decide_eq_false_iff_not]; omega
      have HE : Hid (M.map (fun m => (m.p, m.x)) = belowK dir (L.map fun m => (m.p, m.x)) ∧ M.length ≤ L.length ∧ ∀ m ∈ M, m.p.length ≤ 40) := by
        refine ⟨?_, by have := H3.out.2.1; have := H1.out; omega, H3.out.2.2⟩
        rw [H3.out.1, List.take_of_length_le (by rw [List.length_map]; omega)]
      clear hlt HT HO0
      go_wp2_with fail
      go_ret
      exact ⟨A1, c1, M, rfl, H2.out, HE.out⟩

end Go.Proofs.YtglfakglcoffkaaDoor

namespace Go.Proofs.YtglfakglcoffkaaDoor
open Go.RowKit

/-- Paths that rise. -/
def Up (K : List (List UInt8 × List UInt8)) : Prop := K.Pairwise fun a b => cmpB a.1 b.1 < 0
theorem up_unique {K K' : List (List UInt8 × List UInt8)} (h : Up K) (h' : Up K') (hp : K.Perm K') : K = K' :=
  List.Perm.eq_of_pairwise (fun _ _ _ _ h1 h2 => absurd h2 (cmp_asym _ _ h1)) h h' hp
def sumK (K : List (List UInt8 × List UInt8)) : Nat := (K.map fun f => f.2.length).sum
def okF (f : List UInt8 × List UInt8) : Bool := pathB f.1 && decide (f.2.length ≤ 2000)
/-- May these files be a tree, in some order? -/
def okK (K : List (List UInt8 × List UInt8)) : Prop := K.length ≤ 16 ∧ K.all okF = true ∧ (K.Pairwise fun a b => a.1 ≠ b.1) ∧ sumK K ≤ 4000
theorem okK_mp {K K' : List (List UInt8 × List UInt8)} (h : K.Perm K') (hk : okK K) : okK K' := by
  obtain ⟨h1, h2, h3, h4⟩ := hk
  refine ⟨by rw [← h.length_eq]; exact h1, by rw [← h.all_eq]; exact h2, (h.pairwise_iff (fun h => Ne.symm h)).1 h3, ?_⟩
  unfold sumK
  rw [← (h.map _).sum_nat]
  exact h4
theorem okK_perm {K K' : List (List UInt8 × List UInt8)} (h : K.Perm K') : okK K ↔ okK K' := ⟨okK_mp h, okK_mp h.symm⟩
theorem le_false {a b : List UInt8} : leB b a = false ↔ cmpB a b < 0 := by
  rw [leB_cmp, decide_eq_false_iff_not]
  constructor
  · intro h
    rcases cmp_tot a b with h1 | h1 | h1
    · exact h1
    · subst h1; rw [cmp_self] at h; exact absurd (by decide) h
    · exact absurd (by omega) h
  · intro h h2
    have h3 := cmp_asym _ _ h
    have h4 : cmpB b a = 0 := by omega
    rw [cmp_zero _ _ h4, cmp_self] at h
    exact absurd h (by decide)
theorem rise_up : ∀ L : List Fil, riseT L = true ↔ Up (keys L)
  | [] => by simp [riseT, Up, keys]
  | [f] => by simp [riseT, Up, keys]
  | f :: g :: L => by
    have ih := rise_up (g :: L)
    unfold riseT
    rw [Bool.and_eq_true, ih]
    show ((!leB g.p f.p) = true ∧ List.Pairwise _ ((g :: L).map keyF)) ↔ List.Pairwise (fun a b => cmpB a.1 b.1 < 0) (keyF f :: (g :: L).map keyF)
    rw [List.pairwise_cons]
    constructor
    · rintro ⟨h1, h2⟩
      have h3 : cmpB f.p g.p < 0 := le_false.1 (by simpa using h1)
      refine ⟨fun b hb => ?_, h2⟩
      rw [List.map_cons] at hb h2
      rcases List.mem_cons.1 hb with rfl | hb
      · exact h3
      · exact cmp_trans _ _ _ h3 ((List.pairwise_cons.1 h2).1 b hb)
    · rintro ⟨h1, h2⟩
      refine ⟨?_, h2⟩
      have h3 : cmpB f.p g.p < 0 := h1 (keyF g) (by simp)
      rw [le_false.2 h3]; rfl
theorem sum_acc : ∀ (L : List Fil) (n : Nat), L.foldl (fun n f => n + f.x.length) n = n + sumK (keys L)
  | [], n => by simp [sumK, keys]
  | f :: L, n => by
    rw [List.foldl_cons, sum_acc L]
    simp [sumK, keys, keyF]; omega
theorem sumT_sumK (L : List Fil) : sumT L = sumK (keys L) := by
  unfold sumT; rw [sum_acc]; omega
theorem all_keys (L : List Fil) : L.all fileT = (keys L).all okF := by
  unfold keys; rw [List.all_map]; rfl
theorem up_ne {K : List (List UInt8 × List UInt8)} (h : Up K) : K.Pairwise fun a b => a.1 ≠ b.1 :=
  List.Pairwise.imp (fun {a b} hab e => by rw [e, cmp_self] at hab; exact absurd hab (by decide)) h
theorem mayT_iff (L : List Fil) : mayT L = true ↔ okK (keys L) ∧ Up (keys L) := by
  unfold mayT okK
  simp only [Bool.and_eq_true, decide_eq_true_eq]
  rw [rise_up, all_keys, sumT_sumK]
  have hl : (keys L).length = L.length := by unfold keys; simp
  rw [hl]
  constructor
  · rintro ⟨h1, h2, h3, h4⟩
    exact ⟨⟨h1, h2, up_ne h3, h4⟩, h3⟩
  · rintro ⟨⟨h1, h2, -, h4⟩, h3⟩
    exact ⟨h1, h2, h3, h4⟩
theorem sort_up {M : List Fil} (hs : sortT M) (hn : (keys M).Pairwise fun a b => a.1 ≠ b.1) : Up (keys M) := by
  unfold Up keys
  unfold keys at hn
  rw [List.pairwise_map] at hn ⊢
  rw [List.pairwise_iff_getElem] at hn ⊢
  intro i j hi hj hij
  have h1 := hs i j M[i] M[j] hij (List.getElem?_eq_getElem hi) (List.getElem?_eq_getElem hj)
  have h2 := hn i j hi hj hij
  rcases cmp_tot (keyF M[i]).1 (keyF M[j]).1 with h | h | h
  · exact h
  · exact absurd h h2
  · exact absurd h h1
theorem may_sorted {M : List Fil} (hs : sortT M) : mayT M = true ↔ okK (keys M) := by
  rw [mayT_iff]
  exact ⟨fun h => h.1, fun h => ⟨h, sort_up hs h.2.2.1⟩⟩
theorem keys_perm {M M' : List Fil} (h : M.Perm M') : (keys M).Perm (keys M') := h.map _

/-- What is told of a tree that was put together: its files are K's, if they may be a tree. -/
def ToldK (w0 : World) (K : List (List UInt8 × List UInt8)) (e : Ending) (w' : World) : Prop :=
  Chg none w0 w' ∧ ((¬ okK K ∧ e = .returned (.tuple #[.slice none 0 0, .int .i64 8])) ∨
    (okK K ∧ ∃ (g cap : Nat) (M : List Fil), e = .returned (.tuple #[.slice (some ⟨g, 0, none⟩) M.length cap, .int .i64 0]) ∧ TreeAt w' (some ⟨g, 0, none⟩) M ∧
      (∀ m ∈ M, w'.ownsRow w0.heap.size 5 1 (.slice m.A m.x.length m.c) m.x.length (byteVals m.x)) ∧ (keys M).Perm K ∧ mayT M = true))
theorem ToldH.toldK {w0 w' : World} {g cap : Nat} {M : List Fil} {K : List (List UInt8 × List UInt8)} {e : Ending} (h : ToldH w0 g cap M e w') (hk : (keys M).Perm K) : ToldK w0 K e w' := by
  obtain ⟨M', hpm, hst, htr, hown, hch, hend⟩ := h
  have hp : (keys M').Perm K := (keys_perm hpm).trans hk
  refine ⟨hch, ?_⟩
  rcases hend with ⟨hm, he⟩ | ⟨hm, he⟩
  · exact .inr ⟨(okK_perm hp).1 ((may_sorted hst).1 hm), g, cap, M', he, htr, hown, hp, hm⟩
  · exact .inl ⟨(fun h => by rw [(may_sorted hst).2 ((okK_perm hp).2 h)] at hm; cases hm), he⟩
/-- The files under a directory. -/
def underK (dir : List UInt8) (K : List (List UInt8 × List UInt8)) : List (List UInt8 × List UInt8) := K.map fun f => (dir ++ ([47] ++ f.1), f.2)
theorem keys_put (dir : List UInt8) (M : List Fil) : keys (M.map (fun m => ({ m with p := dir ++ ([47] ++ m.p) } : Fil))) = underK dir (keys M) := by
  unfold keys underK; rw [List.map_map, List.map_map]; rfl
theorem keys_same {L M : List Fil} (hl : M.length = L.length) (h : ∀ (i : Nat) (m f : Fil), M[i]? = some m → L[i]? = some f → m.p = f.p ∧ m.x = f.x) : keys M = keys L := by
  unfold keys
  refine List.ext_getElem (by simpa using hl) fun i h1 h2 => ?_
  rw [List.getElem_map, List.getElem_map]
  have h3 : i < M.length := by simpa using h1
  have h4 : i < L.length := by simpa using h2
  obtain ⟨e1, e2⟩ := h i M[i] L[i] (List.getElem?_eq_getElem h3) (List.getElem?_eq_getElem h4)
  unfold keyF; rw [e1, e2]
/-- What stands at a path. -/
def getK (path : List UInt8) (K : List (List UInt8 × List UInt8)) : Option (List UInt8) := (K.find? fun f => f.1 == path).map (·.2)
theorem getK_none {path : List UInt8} {K : List (List UInt8 × List UInt8)} : getK path K = none ↔ ∀ f ∈ K, f.1 ≠ path := by
  unfold getK; rw [Option.map_eq_none_iff, List.find?_eq_none]; simp
theorem getK_mem {path x : List UInt8} : ∀ {K : List (List UInt8 × List UInt8)}, (K.Pairwise fun a b => a.1 ≠ b.1) → (path, x) ∈ K → getK path K = some x
  | [], _, h => by cases h
  | f :: K, hn, h => by
    rw [List.pairwise_cons] at hn
    unfold getK
    rw [List.find?_cons]
    rcases List.mem_cons.1 h with rfl | h
    · simp
    · have h1 : (f.1 == path) = false := by rw [beq_eq_false_iff_ne]; exact hn.1 _ h
      rw [h1]
      exact getK_mem hn.2 h

end Go.Proofs.YtglfakglcoffkaaDoor

namespace Go.Proofs.YtglfakglcoffkaaDoor
open Go.RowKit

set_option maxHeartbeats 8000000 in
set_option maxRecDepth 100000 in
/-- Great tells something, and changes nothing. -/
theorem t_great_any (L : List Fil) (A : Option Addr) (c : Nat) (w : World) (hT : TreeAt w A L) (hl : L.length ≤ 9223372036854775807) :
    Calls Tryd.prog 20 #[.slice A L.length c] w fun e w' => ∃ b : Bool, e = .returned (.bool b) ∧ Chg none w w' := by
  have HT : Hid (∀ v, Chg none w v → TreeAt v A L) := fun v g => hT.chg g
  clear hT
  go_enter Tryd.func20, Tryd.ntmps20
  go_wp2_with fail
  go_loopw [3, 4] (fun s3 s4 wr => ∃ (z : Int) (k : Nat), s3 = .int .i64 z ∧ s4 = .int .i64 k ∧ Hid (k ≤ L.length) ∧ Hid (Chg none w wr)) (fun _ s4 _ => L.length - (intOf s4).toNat)
  case atStart => exact ⟨0, 0, rfl, rfl, Lib.hid (Nat.zero_le _), Lib.hid (Chg.refl _ _)⟩
  case round =>
    obtain ⟨z, k, rfl, rfl, H1, H2⟩ := hrel
    by_cases hlt : k < L.length
    · have hd : decide ((k : Int) < (L.length : Int)) = true := by rw [decide_eq_true_eq]; omega
      obtain ⟨x, hkx⟩ : ∃ x, L[k]? = some x := ⟨_, List.getElem?_eq_getElem hlt⟩
      have hne : L ≠ [] := by intro e; subst e; simp at hlt
      have HRW := Lib.hid (HT.out wr H2.out)
      obtain ⟨b, off, rfl, -, -⟩ := HRW.out.1 hne
      obtain ⟨hb, x0, x1⟩ := HRW.out.1.two hkx
      have HLT := Lib.hid hlt
      have hkl : (k : Int) < (L.length : Int) := by omega
      clear hkx hne HRW HT
      obtain ⟨fp, fA, fx, fc⟩ := x
      dsimp only at x0 x1
      go_wp2_with fail
      go_region
      all_goals
        go_wp2_with fail
        go_roundw
        case rel => exact ⟨_, k + 1, rfl, by first | rfl | (simp; done), Lib.hid HLT.out, Lib.hid H2.out.drew⟩
        case measure =>
          have := HLT.out
          first | omega | (simp only [intOf]; omega) | (simp [intOf]; omega)
    · have hd : decide (k < L.length) = false := by rw [decide_eq_false_iff_not]; exact hlt
      have hd2 : decide ((k : Int) < (L.length : Int)) = false := by rw [decide_eq_false_iff_not]; omega
      clear hlt HT
      go_wp2_with fail
      go_ret
      exact ⟨_, rfl, H2.out⟩

end Go.Proofs.YtglfakglcoffkaaDoor

namespace Go.Proofs.YtglfakglcoffkaaDoor
open Go.RowKit

/-- A tree of one file, typed out: its bytes in one block, its row in the next. -/
theorem lit_tree (p x : List UInt8) (fl : Nat × Nat) (v : World) (hp : p.length ≤ 9223372036854775807) (hx : x.length ≤ 9223372036854775807) :
    TreeAt ((v.alloc (.cells (byteVals x).toArray 5 fl)).alloc (.cells #[.string ⟨p.toArray⟩, .slice (some ⟨v.heap.size, 0, none⟩) x.length x.length] 86 (0, 0))) (some ⟨v.heap.size + 1, 0, none⟩) [⟨p, some ⟨v.heap.size, 0, none⟩, x, x.length⟩] := by
  have hb : Blk ((v.alloc (.cells (byteVals x).toArray 5 fl)).alloc (.cells #[.string ⟨p.toArray⟩, .slice (some ⟨v.heap.size, 0, none⟩) x.length x.length] 86 (0, 0))) (v.heap.size + 1) #[.string ⟨p.toArray⟩, .slice (some ⟨v.heap.size, 0, none⟩) x.length x.length] 86 := by
    have h := Blk.new (v.alloc (.cells (byteVals x).toArray 5 fl)) #[.string ⟨p.toArray⟩, .slice (some ⟨v.heap.size, 0, none⟩) x.length x.length] 86
    rwa [show (v.alloc (.cells (byteVals x).toArray 5 fl)).heap.size = v.heap.size + 1 by simp] at h
  refine ⟨fun _ => ⟨_, 0, rfl, hb.lt, fun i a hi j hj => ?_⟩, fun f hf => ?_⟩
  · have hi0 : i = 0 := by
      have := (List.getElem?_eq_some_iff.1 hi).1
      simp at this; exact this
    subst hi0
    obtain rfl : (⟨p, some ⟨v.heap.size, 0, none⟩, x, x.length⟩ : Fil) = a := by simpa using hi
    rw [hb.cell]
    rcases (show j = 0 ∨ j = 1 by omega) with rfl | rfl <;> rfl
  · rw [List.mem_singleton.1 hf]
    refine ⟨fun _ => ⟨v.heap.size, 0, rfl, by simp; omega, fun j c hj => ?_⟩, Nat.le_refl _, hp, hx, fun h => by cases h⟩
    rw [World.cell?_alloc_lt _ _ _ (by simp)]
    unfold World.cell?
    rw [heap_alloc_new v (.cells (byteVals x).toArray 5 fl)]
    have h := byteVals_get hj
    simp [h]
theorem k_bytes (A : Option Addr) (c : Nat) : treeB [⟨[97], A, [120, 121], c⟩] = [1, 1, 1, 1, 97, 1, 2, 120, 121] := by
  show form 1 ++ ((row [97] ++ row [120, 121]) ++ []) = _
  decide +kernel
theorem t_k_may (A : Option Addr) (c : Nat) : mayT [⟨[97], A, [120, 121], c⟩] = true := by rfl
theorem k_may2 (A : Option Addr) (c : Nat) : mayT [⟨[100, 47, 101, 47, 97], A, [120, 121], c⟩] = true := by rfl
theorem k_below : belowK [100] [([100, 47, 101, 47, 97], [120, 121])] = [([101, 47, 97], [120, 121])] := by rfl

theorem under_one {w w' : World} {A : Option Addr} {c : Nat} {e : Ending} (h : ToldU w [⟨[97], A, [120, 121], c⟩] [100, 47, 101] e w') :
    ∃ g fA fc, e = .returned (.tuple #[.slice (some ⟨g, 0, none⟩) 1 1, .int .i64 0]) ∧ TreeAt w' (some ⟨g, 0, none⟩) [⟨[100, 47, 101, 47, 97], fA, [120, 121], fc⟩] ∧ Chg none w w' := by
  obtain ⟨g, M, hml, hsame, M', hpm, -, htr, -, hch, hend⟩ := h
  match M, hml with
  | [m], _ =>
    obtain ⟨h1, h2⟩ := hsame 0 m ⟨[97], A, [120, 121], c⟩ rfl rfl
    obtain ⟨mp, mA, mx, mc⟩ := m
    dsimp only at h1 h2
    subst h1 h2
    have hM : M' = [⟨[100, 47, 101, 47, 97], mA, [120, 121], mc⟩] := List.perm_singleton.1 hpm
    subst hM
    refine ⟨g, mA, mc, ?_, htr, hch⟩
    rcases hend with ⟨-, he⟩ | ⟨hf, -⟩
    · exact he
    · rw [k_may2] at hf; cases hf

set_option maxHeartbeats 16000000 in
set_option maxRecDepth 100000 in
theorem known5_any (w : World) : Calls Tryd.prog 21 #[] w fun e w' => e = .returned (.bool true) ∧ Chg none w w' := by
  have kc := fun (w : World) (C : Array Value) (n c : Nat) => Lib.run_convert_bytes_const (P := Tryd.prog) w 22 5 C n c Tryd.underlying22 Tryd.underlying5
  go_enter Tryd.func21, Tryd.ntmps21
  go_wp2_with fail
  have hT1 : TreeAt ((w.alloc (.cells #[.int .u8 120, .int .u8 121] 5 (2, 3))).alloc (.cells #[.string ⟨#[97]⟩, .slice (some ⟨w.heap.size, 0, none⟩) 2 2] 86)) (some ⟨w.heap.size + 1, 0, none⟩) [⟨[97], some ⟨w.heap.size, 0, none⟩, [120, 121], 2⟩] := lit_tree [97] [120, 121] (2, 3) w (by decide) (by decide)
  have hG1 : Chg none w ((w.alloc (.cells #[.int .u8 120, .int .u8 121] 5 (2, 3))).alloc (.cells #[.string ⟨#[97]⟩, .slice (some ⟨w.heap.size, 0, none⟩) 2 2] 86)) := ((Chg.refl _ _).alloc _).alloc _
  generalize (w.alloc (.cells #[.int .u8 120, .int .u8 121] 5 (2, 3))).alloc (.cells #[.string ⟨#[97]⟩, .slice (some ⟨w.heap.size, 0, none⟩) 2 2] 86) = W1 at *
  generalize w.heap.size = PB at *
  have HT1 := Lib.hid hT1
  have G1 := Lib.hid hG1
  have HB1 : Hid (Calls Tryd.prog 23 #[.slice (some ⟨PB + 1, 0, none⟩) 1 1] W1 fun e w' => ∃ A' n c', e = .returned (.tuple #[.slice A' n c', .int .i64 0]) ∧ ByAt W1 w' A' n c' (treeB [⟨[97], some ⟨PB, 0, none⟩, [120, 121], 2⟩])) := tbytes_yes [⟨[97], some ⟨PB, 0, none⟩, [120, 121], 2⟩] (some ⟨PB + 1, 0, none⟩) 1 W1 hT1 (t_k_may _ _)
  rw [k_bytes] at HB1
  clear hT1 hG1
  refine HB1.out.mono ?_
  rintro e w2 ⟨A2, n2, c2, rfl, hb2⟩
  have HB2 := Lib.hid hb2
  have G2 := Lib.hid (G1.out.trans hb2.2.2)
  have HU2 : Hid (Calls Tryd.prog 58 #[.slice (some ⟨PB + 1, 0, none⟩) 1 1, .string ⟨#[100, 47, 101]⟩] w2 (ToldU w2 [⟨[97], some ⟨PB, 0, none⟩, [120, 121], 2⟩] [100, 47, 101])) := under_yes [⟨[97], some ⟨PB, 0, none⟩, [120, 121], 2⟩] (some ⟨PB + 1, 0, none⟩) 1 [100, 47, 101] w2 (HT1.out.chg hb2.2.2) (t_k_may _ _) (by rfl)
  clear hb2 HB1 HT1
  go_wp2_with fail
  refine HU2.out.mono ?_
  rintro e w3 hu
  obtain ⟨g, fA, fc, rfl, htr, hch⟩ := under_one hu
  have HTR := Lib.hid htr
  have G3 := Lib.hid (G2.out.trans hch)
  have hcv := conv_reads (c := c2) w3 (Reads.of_own (own_chgW HB2.out.2.1 hch))
  have x0 : w3.cell? ⟨g, 0, none⟩ = some (.string ⟨#[100, 47, 101, 47, 97]⟩) := (htr.1.two (i := 0) rfl).2.1
  have HBL : Hid (Calls Tryd.prog 59 #[.slice (some ⟨g, 0, none⟩) 1 1, .string ⟨#[100]⟩] w3 fun e w' => ∃ A' c' M, e = .returned (.slice A' M.length c') ∧ OwnL w3 w' A' c' M ∧ M.map (fun m => (m.p, m.x)) = belowK [100] [([100, 47, 101, 47, 97], [120, 121])] ∧ M.length ≤ 1 ∧ ∀ m ∈ M, m.p.length ≤ 40) :=
    below_yes [⟨[100, 47, 101, 47, 97], fA, [120, 121], fc⟩] (some ⟨g, 0, none⟩) 1 [100] w3 htr (k_may2 _ _) (by rfl)
  rw [k_below] at HBL
  clear hu htr hch HU2 HB2
  go_wp2_with fail
  refine HBL.out.mono ?_
  rintro e w4 ⟨A4, c4, M, rfl, hol, hmk, hml, hmp⟩
  have G4 := Lib.hid (G3.out.trans hol.chg)
  have HTM := Lib.hid (hol.tree (fun m hm => by have := hmp m hm; omega))
  have HMK : Hid (keys M = [([101, 47, 97], [120, 121])]) := hmk
  have HML := Lib.hid hml
  clear hol hmk hml hmp hcv x0 HBL HTR
  go_wp2_with fail
  have hT5 : TreeAt ((w4.alloc (.cells #[.int .u8 120, .int .u8 121] 5 (2, 3))).alloc (.cells #[.string ⟨#[101, 47, 97]⟩, .slice (some ⟨w4.heap.size, 0, none⟩) 2 2] 86)) (some ⟨w4.heap.size + 1, 0, none⟩) [⟨[101, 47, 97], some ⟨w4.heap.size, 0, none⟩, [120, 121], 2⟩] := lit_tree [101, 47, 97] [120, 121] (2, 3) w4 (by decide) (by decide)
  have k5 : Chg none w4 ((w4.alloc (.cells #[.int .u8 120, .int .u8 121] 5 (2, 3))).alloc (.cells #[.string ⟨#[101, 47, 97]⟩, .slice (some ⟨w4.heap.size, 0, none⟩) 2 2] 86)) := ((Chg.refl _ _).alloc _).alloc _
  generalize (w4.alloc (.cells #[.int .u8 120, .int .u8 121] 5 (2, 3))).alloc (.cells #[.string ⟨#[101, 47, 97]⟩, .slice (some ⟨w4.heap.size, 0, none⟩) 2 2] 86) = W5 at *
  have HSA : Hid (Calls Tryd.prog 31 #[.slice A4 M.length c4, .slice (some ⟨w4.heap.size + 1, 0, none⟩) 1 1] W5 fun e w' => e = .returned (.bool true) ∧ Chg none W5 w') := by
    have h := tsame_any M [⟨[101, 47, 97], some ⟨w4.heap.size, 0, none⟩, [120, 121], 2⟩] A4 (some ⟨w4.heap.size + 1, 0, none⟩) c4 1 W5 (HTM.out.chg k5) hT5 (by have := HML.out; omega)
    rw [decide_eq_true (show keys M = keys [⟨[101, 47, 97], some ⟨w4.heap.size, 0, none⟩, [120, 121], 2⟩] from HMK.out)] at h
    exact h
  have G5 := Lib.hid (G4.out.trans k5)
  clear hT5 k5 HTM
  refine HSA.out.mono ?_
  rintro e w6 ⟨rfl, g6⟩
  have G6 := Lib.hid (G5.out.trans g6)
  have HI1 : Hid (Calls Tryd.prog 60 #[.string ⟨#[97, 47, 47, 98]⟩] w6 fun e w' => e = .returned (.bool false) ∧ Chg none w6 w') := ispath_any [97, 47, 47, 98] w6 (by decide)
  clear g6 HSA
  go_wp2_with fail
  refine HI1.out.mono ?_
  rintro e w7 ⟨rfl, g7⟩
  have G7 := Lib.hid (G6.out.trans g7)
  have HI2 : Hid (Calls Tryd.prog 60 #[.string ⟨#[65]⟩] w7 fun e w' => e = .returned (.bool false) ∧ Chg none w7 w') := ispath_any [65] w7 (by decide)
  clear g7 HI1
  go_wp2_with fail
  refine HI2.out.mono ?_
  rintro e w8 ⟨rfl, g8⟩
  have G8 := Lib.hid (G7.out.trans g8)
  clear g8 HI2
  go_wp2_with fail
  go_ret
  exact ⟨rfl, G8.out⟩

end Go.Proofs.YtglfakglcoffkaaDoor
