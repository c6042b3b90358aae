/-
  The document's May.
-/
import Derived.Test.YtbadkkilblgpmaaDoorTA
namespace Go.Proofs.YtbadkkilblgpmaaDoor
open Go.RowKit

theorem less_not : ∀ x y : List UInt8, (!Op.bytesLess y x) = (Op.bytesLess x y || x == y)
  | [], [] => rfl
  | [], _ :: _ => rfl
  | _ :: _, [] => rfl
  | a :: x, b :: y => by
    unfold Op.bytesLess
    have ih := less_not x y
    rcases Nat.lt_trichotomy a.toNat b.toNat with h | h | h
    · have h1 : decide (a < b) = true := by rw [decide_eq_true_eq]; exact h
      have h2 : decide (b < a) = false := by rw [decide_eq_false_iff_not]; intro h'; have : b.toNat < a.toNat := h'; omega
      have h3 : (b == a) = false := by rw [beq_eq_false_iff_ne]; intro e; subst e; omega
      rw [h1, h2, h3]; simp
    · obtain rfl : a = b := UInt8.toNat_inj.1 h
      have h2 : decide (a < a) = false := by rw [decide_eq_false_iff_not]; intro h'; have : a.toNat < a.toNat := h'; omega
      rw [h2]
      simp only [BEq.rfl, Bool.false_or, Bool.true_and]
      rw [ih]
      simp
    · have h1 : decide (a < b) = false := by rw [decide_eq_false_iff_not]; intro h'; have : a.toNat < b.toNat := h'; omega
      have h2 : decide (b < a) = true := by rw [decide_eq_true_eq]; exact h
      have h3 : (a == b) = false := by rw [beq_eq_false_iff_ne]; intro e; subst e; omega
      rw [h1, h2, h3]
      have h4 : a ≠ b := by intro e; subst e; omega
      simp [h4]

set_option maxHeartbeats 16000000 in
set_option maxRecDepth 100000 in
theorem t_refmay_any (L : List Fil) (A : Option Addr) (c : Nat) (w : World) (hT : TreeAt w A L) (hl : L.length ≤ 9223372036854775807) :
    Calls Tryd.prog 32 #[.slice A L.length c] w fun e w' => e = .returned (.bool (mayT L)) ∧ Chg none w w' := by
  by_cases h16 : 16 < L.length
  · have d1 : decide ((16 : Int) < (L.length : Int)) = true := by rw [decide_eq_true_eq]; omega
    rw [mayT_long h16]
    clear h16
    go_enter Tryd.func32, Tryd.ntmps32
    go_wp2_with fail
    go_ret
    exact ⟨rfl, Chg.refl _ _⟩
  have d1 : decide ((16 : Int) < (L.length : Int)) = false := by rw [decide_eq_false_iff_not]; omega
  have HT : Hid (∀ v, Chg none w v → TreeAt v A L) := fun v g => hT.chg g
  have HIP : Hid (∀ f ∈ L, ∀ v, Calls Tryd.prog 77 #[.string ⟨f.p.toArray⟩] v fun e w' => e = .returned (.bool (pathB f.p)) ∧ w' = v) := fun f hf v => refpath_any f.p v (hT.2 f hf).p
  have HL16 : Hid (L.length ≤ 16) := by show _ ≤ _; omega
  clear hT h16
  go_enter Tryd.func32, Tryd.ntmps32
  go_wp2_with fail
  go_loopw [3, 4] (fun s3 s4 wr => ∃ k n : Nat, s4 = .int .i64 k ∧ s3 = .int .i64 n ∧ Hid (k ≤ L.length ∧ n = sumT (L.take k) ∧ n ≤ k * 2000 ∧ (∀ (j : Nat) f, j < k → L[j]? = some f → fileT f = true) ∧ (∀ (j : Nat) f g, j + 1 < k → L[j]? = some f → L[j + 1]? = some g → leB g.p f.p = false)) ∧ Hid (Chg none w wr)) (fun _ s4 _ => L.length - (intOf s4).toNat)
  case atStart => exact ⟨0, 0, rfl, rfl, Lib.hid ⟨Nat.zero_le _, rfl, Nat.zero_le _, fun j f h => absurd h (Nat.not_lt_zero _), fun j f g h => absurd h (Nat.not_lt_zero _)⟩, Lib.hid (Chg.refl _ _)⟩
  case round =>
    obtain ⟨k, n, rfl, rfl, H1, H2⟩ := hrel
    by_cases hlt : k < L.length
    · have hd : decide ((k : Int) < (L.length : Int)) = true := by rw [decide_eq_true_eq]; omega
      obtain ⟨x, hkx⟩ : ∃ x, L[k]? = some x := ⟨_, List.getElem?_eq_getElem hlt⟩
      have hne : L ≠ [] := by intro e; subst e; simp at hlt
      have HRW := Lib.hid (HT.out wr H2.out)
      obtain ⟨b, off, rfl, -, -⟩ := HRW.out.1 hne
      obtain ⟨hb, x0, x1⟩ := HRW.out.1.two hkx
      have HMX := Lib.hid (HIP.out x (List.mem_of_getElem? hkx))
      have HKX := Lib.hid hkx
      have HLT := Lib.hid hlt
      clear hne HRW
      by_cases hp : pathB x.p = true
      rotate_left
      · have hp' : pathB x.p = false := by simpa using hp
        have HRES := Lib.hid (mayT_file HKX.out (by unfold fileT; rw [hp', Bool.false_and]))
        rw [hp'] at HMX
        clear hp hp' hkx HT HIP
        obtain ⟨fp, fA, fx, fc⟩ := x
        dsimp only at x0 x1 HMX
        as_aux_lemma =>
          go_wp2_with fail
          refine (HMX.out _).mono ?_
          rintro e w2 ⟨rfl, rfl⟩
          go_wp2_with fail
          go_ret
          exact ⟨by rw [HRES.out]; rfl, H2.out⟩
      by_cases hx : x.x.length ≤ 2000
      rotate_left
      · have d2 : decide ((2000 : Int) < (x.x.length : Int)) = true := by rw [decide_eq_true_eq]; omega
        have HRES := Lib.hid (mayT_file HKX.out (by unfold fileT; rw [decide_eq_false hx, Bool.and_false]))
        rw [hp] at HMX
        clear hp hx hkx HT HIP
        obtain ⟨fp, fA, fx, fc⟩ := x
        dsimp only at x0 x1 HMX d2
        as_aux_lemma =>
          go_wp2_with fail
          refine (HMX.out _).mono ?_
          rintro e w2 ⟨rfl, rfl⟩
          go_wp2_with fail
          go_ret
          exact ⟨by rw [HRES.out]; rfl, H2.out⟩
      have d2 : decide ((2000 : Int) < (x.x.length : Int)) = false := by rw [decide_eq_false_iff_not]; omega
      have HFX : Hid (fileT x = true) := by show _ = _; unfold fileT; rw [hp, decide_eq_true hx]; rfl
      have HXL := Lib.hid hx
      have HST := Lib.hid (sumT_step hkx)
      rw [hp] at HMX
      clear hp hx
      have HPV : Hid (0 < k → ∃ y, L[k - 1]? = some y) := fun h => ⟨_, List.getElem?_eq_getElem (by omega)⟩
      clear hkx HIP
      obtain ⟨fp, fA, fx, fc⟩ := x
      dsimp only at x0 x1 HMX d2 HXL HST
      go_wp2_with fail
      refine (HMX.out _).mono ?_
      rintro e w2 ⟨rfl, rfl⟩
      clear HMX
      obtain ⟨bR, hb1, hb2, hb3⟩ : ∃ bR : Bool, (bR = true → mayT L = false) ∧ (bR = false → ∀ (j : Nat) f g, j + 1 < k + 1 → L[j]? = some f → L[j + 1]? = some g → leB g.p f.p = false) ∧ (k = 0 → bR = false) ∧ (0 < k → ∀ y, L[k - 1]? = some y → (Op.bytesLess fp y.p || fp == y.p) = bR) := by
        rcases Nat.eq_zero_or_pos k with h0 | h0
        · exact ⟨false, fun h => (by cases h), fun _ j f g hj => by omega, fun _ => rfl, fun h => by omega⟩
        · obtain ⟨y, hy⟩ := HPV.out h0
          refine ⟨leB fp y.p, fun h => mayT_rise hy (by rw [Nat.sub_add_cancel h0]; exact HKX.out) h, fun h j f g hj hf hg => ?_, fun h => by omega, fun _ y' hy' => ?_⟩
          · rcases Nat.lt_or_ge (j + 1) k with h1 | h1
            · exact H1.out.2.2.2.2 j f g h1 hf hg
            · obtain rfl : j = k - 1 := by omega
              rw [Nat.sub_add_cancel h0] at hg
              obtain rfl := Option.some.inj (hy.symm.trans hf)
              obtain rfl := Option.some.inj (HKX.out.symm.trans hg)
              exact h
          · obtain rfl := Option.some.inj (hy.symm.trans hy')
            rfl
      have HB1 := Lib.hid hb1
      have HB2 := Lib.hid hb2
      have HB3 := Lib.hid hb3
      have HX1 : Hid (w2.cell? ⟨b, off + k * 2 + 1, none⟩ = some (.slice fA fx.length fc)) := x1
      clear hb1 hb2 hb3
      go_upto_region 9 with fail
      go_cut [45] from 30 to 44 (fun s45 wx => RiseMid w2 bR s45 wx)
      case first =>
        rcases Nat.eq_zero_or_pos k with h0 | h0
        · have hbf := HB3.out.1 h0
          have HBF := Lib.hid hbf
          subst h0
          clear hbf HB1 HB2 HB3
          as_aux_lemma =>
            go_region
            all_goals
              go_wp2_with fail
              go_meet
              case rel => exact ⟨by rw [HBF.out], (Chg.refl _ _).drew⟩
        · obtain ⟨K, hK⟩ : ∃ K, k = K + 1 := ⟨k - 1, by omega⟩
          obtain ⟨y, hy⟩ := HPV.out h0
          have hle := HB3.out.2 h0 y hy
          rw [← less_not] at hle
          rw [hK, Nat.add_sub_cancel] at hy
          obtain ⟨_, z0, -⟩ := (HT.out w2.drew H2.out.drew).1.two hy
          obtain ⟨_, z1, -⟩ := (HT.out w2.drew H2.out.drew).1.two HKX.out
          obtain ⟨yp, yA, yx, yc⟩ := y
          dsimp only at z0 z1 hle
          have hlk := HLT.out
          have hl16 := HL16.out
          have hw1 : IntKind.i64.wrap ((K : Int) + 1 - 1) = (K : Int) := by rw [IntKind.wrap_i64]; omega
          have hw2 : IntKind.i64.wrap (K : Int) = (K : Int) := by rw [IntKind.wrap_i64]; omega
          have hw3 : IntKind.i64.wrap ((k : Int) - 1) = (K : Int) := by rw [IntKind.wrap_i64]; omega
          have hk0 : decide ((0 : Int) < (k : Int)) = true := by rw [decide_eq_true_eq]; omega
          have hk1 : decide (0 < k) = true := by rw [decide_eq_true_eq]; exact h0
          have hkl : (K : Int) < (L.length : Int) := by omega
          have hkn : K < L.length := by omega
          clear HB1 HB2 HB3 hy hlk hl16 HPV hK h0 HKX HT H1
          as_aux_lemma =>
            go_region
            all_goals
              go_wp2_with fail
              go_meet
              case rel => exact ⟨by first | rfl | (simp only [hle]; done) | (rw [← hle]; simp; done), (Chg.refl _ _).drew⟩
      case rest =>
        obtain ⟨rfl, g3⟩ := hcut
        have G3 := Lib.hid (H2.out.trans g3)
        obtain ⟨_, y0, y1⟩ := (HT.out wc G3.out).1.two HKX.out
        dsimp only at y1
        clear g3 x0 x1
        cases bR
        rotate_left
        · have HRES := Lib.hid (HB1.out rfl)
          as_aux_lemma =>
            go_wp2_with fail
            go_ret
            exact ⟨by rw [HRES.out]; rfl, G3.out⟩
        have hnn : n ≤ k * 2000 := H1.out.2.2.1
        have h16 := HL16.out
        have hlk := HLT.out
        have hws : IntKind.i64.wrap ((n : Int) + (fx.length : Int)) = ((n + fx.length : Nat) : Int) := by have := HXL.out; rw [IntKind.wrap_i64]; omega
        have hwk : wrap64 ((k : Int) + 1) = ((k + 1 : Nat) : Int) := by unfold wrap64; omega
        have HWK := Lib.hid hwk
        have HN : Hid (n + fx.length = sumT (L.take (k + 1)) ∧ n + fx.length ≤ (k + 1) * 2000) := by
          have h := HXL.out
          show _ ∧ _
          rw [HST.out, ← H1.out.2.1]
          omega
        clear hnn h16 hlk hwk
        go_wp2_with fail
        go_roundw
        case rel => exact ⟨k + 1, n + fx.length, by first | (rw [HWK.out]; done) | rfl | (simp; done), by first | rfl | (simp; done), Lib.hid ⟨HLT.out, HN.out.1, HN.out.2, fun j f hj hf => by
          rcases Nat.lt_or_ge j k with h | h
          · exact H1.out.2.2.2.1 j f h hf
          · obtain rfl : j = k := by omega
            obtain rfl := Option.some.inj (HKX.out.symm.trans hf)
            exact HFX.out, HB2.out rfl⟩, G3⟩
        case measure =>
          have := HLT.out
          first | (rw [HWK.out]; simp only [intOf]; omega) | omega | (simp only [intOf]; omega) | (simp [intOf]; omega)
    · have hd : decide (k < L.length) = false := by rw [decide_eq_false_iff_not]; exact hlt
      have hd2 : decide ((k : Int) < (L.length : Int)) = false := by rw [decide_eq_false_iff_not]; omega
      have hkl : k = L.length := by have := H1.out.1; omega
      have hn := H1.out.2.1
      rw [hkl, List.take_length] at hn
      have hr := mayT_sum HL16.out (fun j f hf => H1.out.2.2.2.1 j f (by have := (List.getElem?_eq_some_iff.1 hf).1; omega) hf) (fun j f g hf hg => H1.out.2.2.2.2 j f g (by have := (List.getElem?_eq_some_iff.1 hg).1; omega) hf hg)
      rw [← hn] at hr
      have HRES := Lib.hid hr
      clear hlt hkl hn hr HT HIP
      by_cases h4 : n ≤ 4000
      · have e4 : decide ((n : Int) ≤ 4000) = true := by rw [decide_eq_true_eq]; omega
        rw [decide_eq_true h4] at HRES
        clear h4
        as_aux_lemma =>
          go_wp2_with fail
          go_ret
          exact ⟨by rw [HRES.out]; rfl, H2.out⟩
      · have e4 : decide ((n : Int) ≤ 4000) = false := by rw [decide_eq_false_iff_not]; omega
        rw [decide_eq_false h4] at HRES
        clear h4
        as_aux_lemma =>
          go_wp2_with fail
          go_ret
          exact ⟨by rw [HRES.out]; rfl, H2.out⟩

end Go.Proofs.YtbadkkilblgpmaaDoor
