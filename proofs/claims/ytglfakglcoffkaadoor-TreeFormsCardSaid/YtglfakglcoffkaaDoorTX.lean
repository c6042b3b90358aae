/-
  The document's May. Package tree: trees written and read (plain); one form. The document's Bytes. Package tree: Read. The document's Same.
-/
import Derived.Test.YtglfakglcoffkaaDoorTT
namespace Go.Proofs.YtglfakglcoffkaaDoor
open Go.RowKit

theorem less_not : ∀ x y : List UInt8, (!Op.bytesLess y x) = (Op.bytesLess x y || x == y)
  | [], [] => rfl
  | [], _ :: _ => rfl
  | _ :: _, [] => rfl
  | a :: x, b :: y => by
    unfold Op.bytesLess
    have ih := less_not x y
    rcases Nat.lt_trichotomy a.toNat b.toNat with h | h | h
    · have h1 : decide (a < b) = true := by rw [decide_eq_true_eq]; exact h
      have h2 : decide (b < a) = false := by rw [decide_eq_false_iff_not]; intro h'; have : b.toNat < a.toNat := h'; omega
      have h3 : (b == a) = false := by rw [beq_eq_false_iff_ne]; intro e; subst e; omega
      rw [h1, h2, h3]; simp
    · obtain rfl : a = b := UInt8.toNat_inj.1 h
      have h2 : decide (a < a) = false := by rw [decide_eq_false_iff_not]; intro h'; have : a.toNat < a.toNat := h'; omega
      rw [h2]
      simp only [BEq.rfl, Bool.false_or, Bool.true_and]
      rw [ih]
      simp
    · have h1 : decide (a < b) = false := by rw [decide_eq_false_iff_not]; intro h'; have : a.toNat < b.toNat := h'; omega
      have h2 : decide (b < a) = true := by rw [decide_eq_true_eq]; exact h
      have h3 : (a == b) = false := by rw [beq_eq_false_iff_ne]; intro e; subst e; omega
      rw [h1, h2, h3]
      have h4 : a ≠ b := by intro e; subst e; omega
      simp [h4]

set_option maxHeartbeats 16000000 in
set_option maxRecDepth 100000 in
theorem t_refmay_any (L : List Fil) (A : Option Addr) (c : Nat) (w : World) (hT : TreeAt w A L) (hl : L.length ≤ 9223372036854775807) :
    Calls Tryd.prog 26 #[.slice A L.length c] w fun e w' => e = .returned (.bool (mayT L)) ∧ Chg none w w' := by
  by_cases h16 : 16 < L.length
  · have d1 : decide ((16 : Int) < (L.length : Int)) = true := by rw [decide_eq_true_eq]; omega
    rw [mayT_long h16]
    clear h16
    go_enter Tryd.func26, Tryd.ntmps26
    go_wp2_with fail
    go_ret
    exact ⟨rfl, Chg.refl _ _⟩
  have d1 : decide ((16 : Int) < (L.length : Int)) = false := by rw [decide_eq_false_iff_not]; omega
  have HT : Hid (∀ v, Chg none w v → TreeAt v A L) := fun v g => hT.chg g
  have HIP : Hid (∀ f ∈ L, ∀ v, Calls Tryd.prog 64 #[.string ⟨f.p.toArray⟩] v fun e w' => e = .returned (.bool (pathB f.p)) ∧ w' = v) := fun f hf v => refpath_any f.p v (hT.2 f hf).p
  have HL16 : Hid (L.length ≤ 16) := by show _ ≤ _; omega
  clear hT h16
  go_enter Tryd.func26, Tryd.ntmps26
  go_wp2_with fail
  go_loopw [3, 4] (fun s3 s4 wr => ∃ k n : Nat, s4 = .int .i64 k ∧ s3 = .int .i64 n ∧ Hid (k ≤ L.length ∧ n = sumT (L.take k) ∧ n ≤ k * 2000 ∧ (∀ (j : Nat) f, j < k → L[j]? = some f → fileT f = true) ∧ (∀ (j : Nat) f g, j + 1 < k → L[j]? = some f → L[j + 1]? = some g → leB g.p f.p = false)) ∧ Hid (Chg none w wr)) (fun _ s4 _ => L.length - (intOf s4).toNat)
  case atStart => exact ⟨0, 0, rfl, rfl, Lib.hid ⟨Nat.zero_le _, rfl, Nat.zero_le _, fun j f h => absurd h (Nat.not_lt_zero _), fun j f g h => absurd h (Nat.not_lt_zero _)⟩, Lib.hid (Chg.refl _ _)⟩
  case round =>
    obtain ⟨k, n, rfl, rfl, H1, H2⟩ := hrel
    by_cases hlt : k < L.length
    · have hd : decide ((k : Int) < (L.length : Int)) = true := by rw [decide_eq_true_eq]; omega
      obtain ⟨x, hkx⟩ : ∃ x, L[k]? = some x := ⟨_, List.getElem?_eq_getElem hlt⟩
      have hne : L ≠ [] := by intro e; subst e; simp at hlt
      have HRW := Lib.hid (HT.out wr H2.out)
      obtain ⟨b, off, rfl, -, -⟩ := HRW.out.1 hne
      obtain ⟨hb, x0, x1⟩ := HRW.out.1.two hkx
      have HMX := Lib.hid (HIP.out x (List.mem_of_getElem? hkx))
      have HKX := Lib.hid hkx
      have HLT := Lib.hid hlt
      clear hne HRW
      by_cases hp : pathB x.p = true
      rotate_left
      · have hp' : pathB x.p = false := by simpa using hp
        have HRES := Lib.hid (mayT_file HKX.out (by unfold fileT; rw [hp', Bool.false_and]))
        rw [hp'] at HMX
        clear hp hp' hkx HT HIP
        obtain ⟨fp, fA, fx, fc⟩ := x
        dsimp only at x0 x1 HMX
        as_aux_lemma =>
          go_wp2_with fail
          refine (HMX.out _).mono ?_
          rintro e w2 ⟨rfl, rfl⟩
          go_wp2_with fail
          go_ret
          exact ⟨by rw [HRES.out]; rfl, H2.out⟩
      by_cases hx : x.x.length ≤ 2000
      rotate_left
      · have d2 : decide ((2000 : Int) < (x.x.length : Int)) = true := by rw [decide_eq_true_eq]; omega
        have HRES := Lib.hid (mayT_file HKX.out (by unfold fileT; rw [decide_eq_false hx, Bool.and_false]))
        rw [hp] at HMX
        clear hp hx hkx HT HIP
        obtain ⟨fp, fA, fx, fc⟩ := x
        dsimp only at x0 x1 HMX d2
        as_aux_lemma =>
          go_wp2_with fail
          refine (HMX.out _).mono ?_
          rintro e w2 ⟨rfl, rfl⟩
          go_wp2_with fail
          go_ret
          exact ⟨by rw [HRES.out]; rfl, H2.out⟩
      have d2 : decide ((2000 : Int) < (x.x.length : Int)) = false := by rw [decide_eq_false_iff_not]; omega
      have HFX : Hid (fileT x = true) := by show _ = _; unfold fileT; rw [hp, decide_eq_true hx]; rfl
      have HXL := Lib.hid hx
      have HST := Lib.hid (sumT_step hkx)
      rw [hp] at HMX
      clear hp hx
      have HPV : Hid (0 < k → ∃ y, L[k - 1]? = some y) := fun h => ⟨_, List.getElem?_eq_getElem (by omega)⟩
      clear hkx HIP
      obtain ⟨fp, fA, fx, fc⟩ := x
      dsimp only at x0 x1 HMX d2 HXL HST
      go_wp2_with fail
      refine (HMX.out _).mono ?_
      rintro e w2 ⟨rfl, rfl⟩
      clear HMX
      obtain ⟨bR, hb1, hb2, hb3⟩ : ∃ bR : Bool, (bR = true → mayT L = false) ∧ (bR = false → ∀ (j : Nat) f g, j + 1 < k + 1 → L[j]? = some f → L[j + 1]? = some g → leB g.p f.p = false) ∧ (k = 0 → bR = false) ∧ (0 < k → ∀ y, L[k - 1]? = some y → (Op.bytesLess fp y.p || fp == y.p) = bR) := by
        rcases Nat.eq_zero_or_pos k with h0 | h0
        · exact ⟨false, fun h => (by cases h), fun _ j f g hj => by omega, fun _ => rfl, fun h => by omega⟩
        · obtain ⟨y, hy⟩ := HPV.out h0
          refine ⟨leB fp y.p, fun h => mayT_rise hy (by rw [Nat.sub_add_cancel h0]; exact HKX.out) h, fun h j f g hj hf hg => ?_, fun h => by omega, fun _ y' hy' => ?_⟩
          · rcases Nat.lt_or_ge (j + 1) k with h1 | h1
            · exact H1.out.2.2.2.2 j f g h1 hf hg
            · obtain rfl : j = k - 1 := by omega
              rw [Nat.sub_add_cancel h0] at hg
              obtain rfl := Option.some.inj (hy.symm.trans hf)
              obtain rfl := Option.some.inj (HKX.out.symm.trans hg)
              exact h
          · obtain rfl := Option.some.inj (hy.symm.trans hy')
            rfl
      have HB1 := Lib.hid hb1
      have HB2 := Lib.hid hb2
      have HB3 := Lib.hid hb3
      have HX1 : Hid (w2.cell? ⟨b, off + k * 2 + 1, none⟩ = some (.slice fA fx.length fc)) := x1
      clear hb1 hb2 hb3
      go_upto_region 9 with fail
      go_cut [45] from 30 to 44 (fun s45 wx => RiseMid w2 bR s45 wx)
      case first =>
        rcases Nat.eq_zero_or_pos k with h0 | h0
        · have hbf := HB3.out.1 h0
          have HBF := Lib.hid hbf
          subst h0
          clear hbf HB1 HB2 HB3
          as_aux_lemma =>
            go_region
            all_goals
              go_wp2_with fail
              go_meet
              case rel => exact ⟨by rw [HBF.out], (Chg.refl _ _).drew⟩
        · obtain ⟨K, hK⟩ : ∃ K, k = K + 1 := ⟨k - 1, by omega⟩
          obtain ⟨y, hy⟩ := HPV.out h0
          have hle := HB3.out.2 h0 y hy
          rw [← less_not] at hle
          rw [hK, Nat.add_sub_cancel] at hy
          obtain ⟨_, z0, -⟩ := (HT.out w2.drew H2.out.drew).1.two hy
          obtain ⟨_, z1, -⟩ := (HT.out w2.drew H2.out.drew).1.two HKX.out
          obtain ⟨yp, yA, yx, yc⟩ := y
          dsimp only at z0 z1 hle
          have hlk := HLT.out
          have hl16 := HL16.out
          have hw1 : IntKind.i64.wrap ((K : Int) + 1 - 1) = (K : Int) := by rw [IntKind.wrap_i64]; omega
          have hw2 : IntKind.i64.wrap (K : Int) = (K : Int) := by rw [IntKind.wrap_i64]; omega
          have hw3 : IntKind.i64.wrap ((k : Int) - 1) = (K : Int) := by rw [IntKind.wrap_i64]; omega
          have hk0 : decide ((0 : Int) < (k : Int)) = true := by rw [decide_eq_true_eq]; omega
          have hk1 : decide (0 < k) = true := by rw [decide_eq_true_eq]; exact h0
          have hkl : (K : Int) < (L.length : Int) := by omega
          have hkn : K < L.length := by omega
          clear HB1 HB2 HB3 hy hlk hl16 HPV hK h0 HKX HT H1
          as_aux_lemma =>
            go_region
            all_goals
              go_wp2_with fail
              go_meet
              case rel => exact ⟨by first | rfl | (simp only [hle]; done) | (rw [← hle]; simp; done), (Chg.refl _ _).drew⟩
      case rest =>
        obtain ⟨rfl, g3⟩ := hcut
        have G3 := Lib.hid (H2.out.trans g3)
        obtain ⟨_, y0, y1⟩ := (HT.out wc G3.out).1.two HKX.out
        dsimp only at y1
        clear g3 x0 x1
        cases bR
        rotate_left
        · have HRES := Lib.hid (HB1.out rfl)
          as_aux_lemma =>
            go_wp2_with fail
            go_ret
            exact ⟨by rw [HRES.out]; rfl, G3.out⟩
        have hnn : n ≤ k * 2000 := H1.out.2.2.1
        have h16 := HL16.out
        have hlk := HLT.out
        have hws : IntKind.i64.wrap ((n : Int) + (fx.length : Int)) = ((n + fx.length : Nat) : Int) := by have := HXL.out; rw [IntKind.wrap_i64]; omega
        have hwk : wrap64 ((k : Int) + 1) = ((k + 1 : Nat) : Int) := by unfold wrap64; omega
        have HWK := Lib.hid hwk
        have HN : Hid (n + fx.length = sumT (L.take (k + 1)) ∧ n + fx.length ≤ (k + 1) * 2000) := by
          have h := HXL.out
          show _ ∧ _
          rw [HST.out, ← H1.out.2.1]
          omega
        clear hnn h16 hlk hwk
        go_wp2_with fail
        go_roundw
        case rel => exact ⟨k + 1, n + fx.length, by first | (rw [HWK.out]; done) | rfl | (simp; done), by first | rfl | (simp; done), Lib.hid ⟨HLT.out, HN.out.1, HN.out.2, fun j f hj hf => by
          rcases Nat.lt_or_ge j k with h | h
          · exact H1.out.2.2.2.1 j f h hf
          · obtain rfl : j = k := by omega
            obtain rfl := Option.some.inj (HKX.out.symm.trans hf)
            exact HFX.out, HB2.out rfl⟩, G3⟩
        case measure =>
          have := HLT.out
          first | (rw [HWK.out]; simp only [intOf]; omega) | omega | (simp only [intOf]; omega) | (simp [intOf]; omega)
    · have hd : decide (k < L.length) = false := by rw [decide_eq_false_iff_not]; exact hlt
      have hd2 : decide ((k : Int) < (L.length : Int)) = false := by rw [decide_eq_false_iff_not]; omega
      have hkl : k = L.length := by have := H1.out.1; omega
      have hn := H1.out.2.1
      rw [hkl, List.take_length] at hn
      have hr := mayT_sum HL16.out (fun j f hf => H1.out.2.2.2.1 j f (by have := (List.getElem?_eq_some_iff.1 hf).1; omega) hf) (fun j f g hf hg => H1.out.2.2.2.2 j f g (by have := (List.getElem?_eq_some_iff.1 hg).1; omega) hf hg)
      rw [← hn] at hr
      have HRES := Lib.hid hr
      clear hlt hkl hn hr HT HIP
      by_cases h4 : n ≤ 4000
      · have e4 : decide ((n : Int) ≤ 4000) = true := by rw [decide_eq_true_eq]; omega
        rw [decide_eq_true h4] at HRES
        clear h4
        as_aux_lemma =>
          go_wp2_with fail
          go_ret
          exact ⟨by rw [HRES.out]; rfl, H2.out⟩
      · have e4 : decide ((n : Int) ≤ 4000) = false := by rw [decide_eq_false_iff_not]; omega
        rw [decide_eq_false h4] at HRES
        clear h4
        as_aux_lemma =>
          go_wp2_with fail
          go_ret
          exact ⟨by rw [HRES.out]; rfl, H2.out⟩

end Go.Proofs.YtglfakglcoffkaaDoor

namespace Go.Proofs.YtglfakglcoffkaaDoor
open Go.RowKit

abbrev Key := List UInt8 × List UInt8
def keyB (f : Key) : List UInt8 := row f.1 ++ row f.2
def treeK (K : List Key) : List UInt8 := form K.length ++ K.flatMap keyB
def mkF (k : Key) : Fil := ⟨k.1, none, k.2, 0⟩
def mayK (K : List Key) : Bool := mayT (K.map mkF)
theorem riseT_keys : ∀ L : List Fil, riseT ((keys L).map mkF) = riseT L
  | [] => rfl
  | [_] => rfl
  | f :: g :: L => by
    show (!leB g.p f.p && riseT ((keys (g :: L)).map mkF)) = _
    rw [riseT_keys (g :: L)]; rfl
theorem sumT_cons (f : Fil) (L : List Fil) : sumT (f :: L) = f.x.length + sumT L := by
  have h : ∀ (L : List Fil) (a : Nat), L.foldl (fun n f => n + f.x.length) a = a + sumT L := by
    intro L
    induction L with
    | nil => intro a; rfl
    | cons g L ih =>
      intro a
      unfold sumT
      rw [List.foldl_cons, List.foldl_cons, ih, ih (0 + g.x.length)]
      omega
  show L.foldl (fun n f => n + f.x.length) (0 + f.x.length) = _
  rw [h, Nat.zero_add]
theorem sumT_keys : ∀ L : List Fil, sumT ((keys L).map mkF) = sumT L
  | [] => rfl
  | f :: L => by
    show sumT (mkF (keyF f) :: (keys L).map mkF) = _
    rw [sumT_cons, sumT_cons, sumT_keys L]; rfl
theorem allT_keys : ∀ L : List Fil, ((keys L).map mkF).all fileT = L.all fileT
  | [] => rfl
  | f :: L => by
    show (fileT f && ((keys L).map mkF).all fileT) = _
    rw [allT_keys L]; rfl
/-- Whether a tree may be is told by its paths and bytes. -/
theorem mayT_keys (L : List Fil) : mayT L = mayK (keys L) := by
  unfold mayK mayT
  rw [riseT_keys, sumT_keys, allT_keys]
  simp [keys]
theorem treeB_keys (L : List Fil) : treeB L = treeK (keys L) := by
  unfold treeB treeK keys
  rw [List.length_map, List.flatMap_map]
  rfl
theorem mayK_parts {K : List Key} (h : mayK K = true) : K.length ≤ 16 ∧ ∀ k ∈ K, k.1.length ≤ 40 ∧ k.2.length ≤ 2000 := by
  obtain ⟨h1, h2, -, -⟩ := mayT_parts h
  rw [List.length_map] at h1
  refine ⟨h1, fun k hk => ?_⟩
  obtain ⟨h3, h4⟩ := h2 (mkF k) (List.mem_map_of_mem hk)
  exact ⟨(t_path_len h3).2, h4⟩

/-- A number, and where reading goes on: none behind a fault. -/
def t_numS (bs : List UInt8) (most : Nat) : Option Nat → Nat × Option Nat
  | none => (0, none)
  | some at_ => if (readU bs at_).2.2 = 0 ∧ (readU bs at_).1 ≤ most then ((readU bs at_).1, some (readU bs at_).2.1.toNat) else (0, none)
def t_txtS (bs : List UInt8) (most : Nat) : Option Nat → List UInt8 × Option Nat
  | none => ([], none)
  | some at_ => if (readB bs at_ most).2.2 = 0 then ((readB bs at_ most).1, some (readB bs at_ most).2.1.toNat) else ([], none)
def filS (bs : List UInt8) (s : Option Nat) : Key × Option Nat :=
  let a := t_txtS bs 40 s
  let b := t_txtS bs 2000 a.2
  ((a.1, b.1), b.2)
def filsS (bs : List UInt8) : Nat → Option Nat → List Key × Option Nat
  | 0, s => ([], s)
  | k + 1, s => ((filsS bs k s).1 ++ [(filS bs (filsS bs k s).2).1], (filS bs (filsS bs k s).2).2)
def readT (bs : List UInt8) : Option (List Key) :=
  let n := t_numS bs 16 (some 0)
  let l := filsS bs n.1 n.2
  if l.2 = some bs.length ∧ mayK l.1 = true then some l.1 else none
theorem filsS_len (bs : List UInt8) : ∀ k s, (filsS bs k s).1.length = k
  | 0, _ => rfl
  | k + 1, s => by
    show ((filsS bs k s).1 ++ [_]).length = k + 1
    rw [List.length_append, filsS_len bs k s]; rfl
theorem filsS_none (bs : List UInt8) : ∀ k, (filsS bs k none).2 = none
  | 0 => rfl
  | k + 1 => by
    show (filS bs (filsS bs k none).2).2 = none
    rw [filsS_none bs k]; rfl
theorem filsS_lost {bs : List UInt8} {k : Nat} {s : Option Nat} (h : (filsS bs k s).2 = none) : ∀ d, (filsS bs (k + d) s).2 = none
  | 0 => h
  | d + 1 => by
    show (filS bs (filsS bs (k + d) s).2).2 = none
    rw [filsS_lost h d]; rfl
theorem t_numS_le (bs : List UInt8) (most : Nat) (s : Option Nat) : (t_numS bs most s).1 ≤ most := by
  cases s with
  | none => exact Nat.zero_le _
  | some a =>
    unfold t_numS
    dsimp only
    split
    · rename_i h; exact h.2
    · exact Nat.zero_le _
theorem readT_lost {bs : List UInt8} (h : (t_numS bs 16 (some 0)).2 = none) : readT bs = none := by
  unfold readT
  dsimp only
  rw [h, filsS_none, if_neg (fun h => by cases h.1)]
theorem readT_lost_at {bs : List UInt8} {k : Nat} (hk : k < (t_numS bs 16 (some 0)).1) (h : (filsS bs (k + 1) (t_numS bs 16 (some 0)).2).2 = none) : readT bs = none := by
  unfold readT
  dsimp only
  have h2 := filsS_lost h ((t_numS bs 16 (some 0)).1 - (k + 1))
  rw [show k + 1 + ((t_numS bs 16 (some 0)).1 - (k + 1)) = (t_numS bs 16 (some 0)).1 by omega] at h2
  rw [h2, if_neg (fun h => by cases h.1)]

/-! What is written is read. -/
theorem t_numS_form (pre rest : List UInt8) (n most : Nat) (h : n < 18446744073709551616) (hm : n ≤ most) : t_numS (pre ++ (form n ++ rest)) most (some pre.length) = (n, some (pre ++ form n).length) := by
  unfold t_numS
  dsimp only
  rw [readU_form pre rest n h, if_pos ⟨rfl, hm⟩]
  dsimp only
  rw [Int.toNat_natCast, List.length_append]
theorem t_txtS_row (pre rest x : List UInt8) (most : Nat) (h : x.length ≤ most) (hm : most ≤ 1000000) : t_txtS (pre ++ (row x ++ rest)) most (some pre.length) = (x, some (pre ++ row x).length) := by
  have h1 := readB_row pre rest x most (by omega)
  unfold t_txtS
  dsimp only
  rw [h1, if_pos (show (x.length : Int) ≤ (most : Int) by omega), if_pos rfl]
  dsimp only
  rw [Int.toNat_natCast, List.length_append]

/-! What is read was written. -/
theorem t_wbe_add : ∀ k a v, wbe k (a * 256 ^ k + v) = wbe k v
  | 0, _, _ => rfl
  | k + 1, a, v => by
    have e0 : a * 256 ^ (k + 1) + v = (a * 256) * 256 ^ k + v := by rw [Nat.pow_succ, Nat.mul_assoc, Nat.mul_comm 256]
    rw [e0, wbe, wbe, t_wbe_add k (a * 256) v]
    have e1 : (a * 256 * 256 ^ k + v) / 256 ^ k = a * 256 + v / 256 ^ k := by
      rw [Nat.mul_comm (a * 256), Nat.mul_add_div (Nat.pow_pos (by omega))]
    rw [e1]
    have e2 : UInt8.ofNat (a * 256 + v / 256 ^ k) = UInt8.ofNat (v / 256 ^ k) := by
      apply UInt8.toNat_inj.1
      rw [UInt8.toNat_ofNat', UInt8.toNat_ofNat']
      omega
    rw [e2]
theorem t_wbe_val : ∀ l : List UInt8, wbe l.length (valW l) = l
  | [] => rfl
  | c :: l => by
    rw [List.length_cons, wbe, val_cons]
    have h := valW_lt l
    have e1 : (c.toNat * 256 ^ l.length + valW l) / 256 ^ l.length = c.toNat := by
      rw [Nat.mul_comm, Nat.mul_add_div (Nat.pow_pos (by omega)), Nat.div_eq_of_lt h, Nat.add_zero]
    rw [e1, UInt8.ofNat_toNat, t_wbe_add, t_wbe_val l]
theorem t_nb_is {n k : Nat} (h : n < 18446744073709551616) (h1 : 1 ≤ k) (hlo : 256 ^ (k - 1) ≤ n) (hhi : n < 256 ^ k) : nb n = k := by
  have h0 : n ≠ 0 := by have := Nat.pow_pos (n := k - 1) (show 0 < 256 by omega); omega
  obtain ⟨g1, g2⟩ := nb_ge n h h0
  have g3 := lt_nb n h
  have a1 : nb n - 1 < k := (Nat.pow_lt_pow_iff_right (by omega : 1 < 256)).1 (Nat.lt_of_le_of_lt g2 hhi)
  have a2 : k - 1 < nb n := (Nat.pow_lt_pow_iff_right (by omega : 1 < 256)).1 (Nat.lt_of_le_of_lt hlo g3)
  omega
/-- A number that is read was written so. -/
theorem t_readU_was {bs : List UInt8} {k n : Nat} {x : Int} (h : readU bs k = (n, x, 0)) : ∃ k' : Nat, x = k' ∧ k ≤ k' ∧ k' ≤ bs.length ∧ bs.take k' = bs.take k ++ form n := by
  have hwell := readU_well bs k
  rw [h] at hwell
  have hr := hwell.ok rfl
  have htop := hwell.top
  dsimp only at hr htop
  have hkl : k ≤ bs.length := by omega
  unfold readU at h
  rw [if_neg (by omega), Int.toNat_natCast] at h
  have key : ∀ m, (bs.drop k).take m = form n → x = ((k + m : Nat) : Int) → ∃ k' : Nat, x = k' ∧ k ≤ k' ∧ k' ≤ bs.length ∧ bs.take k' = bs.take k ++ form n := fun m e1 e2 =>
    ⟨k + m, e2, by omega, by omega, by rw [List.take_add, e1]⟩
  generalize bs.drop k = r at h key
  match r, h, key with
  | [], h, _ => simp [readTail] at h
  | c :: t, h, key =>
    unfold readTail at h
    dsimp only at h
    by_cases h8 : 8 < c.toNat
    · rw [if_pos h8] at h; simp at h
    rw [if_neg h8] at h
    unfold digits at h
    by_cases hc0 : c.toNat = 0
    · rw [if_pos hc0] at h
      simp only [Prod.mk.injEq, and_true] at h
      obtain ⟨rfl, rfl⟩ := h
      refine key 1 ?_ (by omega)
      have e : c = 0 := UInt8.toNat_inj.1 (by rw [hc0]; rfl)
      rw [e]; rfl
    rw [if_neg hc0] at h
    match t, h, key with
    | [], h, _ => simp at h
    | d :: t, h, key =>
      dsimp only at h
      by_cases hd : d.toNat = 0
      · rw [if_pos hd] at h; simp at h
      rw [if_neg hd] at h
      by_cases hl : (d :: t).length < c.toNat
      · rw [if_pos hl] at h; simp at h
      rw [if_neg hl] at h
      simp only [Prod.mk.injEq, and_true] at h
      obtain ⟨hv, hx⟩ := h
      obtain ⟨j, hj⟩ : ∃ j, c.toNat = j + 1 := ⟨c.toNat - 1, by omega⟩
      have htk : (d :: t).take c.toNat = d :: t.take j := by rw [hj, List.take_succ_cons]
      have hlen : (d :: t.take j).length = c.toNat := by
        rw [← htk, List.length_take]; omega
      have hjl : (t.take j).length = j := by simp only [List.length_cons] at hlen; omega
      rw [htk] at hv
      have hnb : nb n = c.toNat := by
        refine t_nb_is htop (by omega) ?_ ?_
        · rw [← hv, val_cons, hjl, hj, Nat.add_sub_cancel]
          have : 1 * 256 ^ j ≤ d.toNat * 256 ^ j := Nat.mul_le_mul_right _ (by omega)
          omega
        · rw [← hv, ← hlen]; exact valW_lt _
      refine key (1 + c.toNat) ?_ (by omega)
      unfold form
      rw [hnb, UInt8.ofNat_toNat, Nat.add_comm, List.take_succ_cons, htk, ← hv, ← hlen, t_wbe_val]
theorem t_numS_was {bs : List UInt8} {most k n k' : Nat} (h : t_numS bs most (some k) = (n, some k')) : k ≤ k' ∧ k' ≤ bs.length ∧ n ≤ most ∧ bs.take k' = bs.take k ++ form n := by
  unfold t_numS at h
  dsimp only at h
  by_cases hc : (readU bs k).2.2 = 0 ∧ (readU bs k).1 ≤ most
  · rw [if_pos hc] at h
    obtain ⟨m, x, e, hq⟩ : ∃ m x e, readU bs k = (m, x, e) := ⟨_, _, _, rfl⟩
    rw [hq] at h hc
    simp only [Prod.mk.injEq, Option.some.injEq] at h
    obtain ⟨rfl, rfl⟩ := h
    obtain ⟨he, hm⟩ := hc
    dsimp only at he hm
    subst he
    obtain ⟨k2, rfl, h1, h2, h3⟩ := t_readU_was hq
    rw [Int.toNat_natCast]
    exact ⟨h1, h2, hm, h3⟩
  · rw [if_neg hc] at h; simp at h
theorem t_txtS_was {bs l : List UInt8} {most k k' : Nat} (h : t_txtS bs most (some k) = (l, some k')) : k ≤ k' ∧ k' ≤ bs.length ∧ l.length ≤ most ∧ bs.take k' = bs.take k ++ row l := by
  unfold t_txtS at h
  dsimp only at h
  by_cases hc : (readB bs k most).2.2 = 0
  · rw [if_pos hc] at h
    unfold readB at h hc
    by_cases h0 : (readC bs k most).2.2 = 0
    · rw [if_pos h0] at h hc
      by_cases h1 : (bs.length : Int) - (readC bs k most).2.1 < ((readC bs k most).1 : Int)
      · rw [if_pos h1] at hc; cases hc
      · rw [if_neg h1] at h
        obtain ⟨m, x, e, hq⟩ : ∃ m x e, readC bs k most = (m, x, e) := ⟨_, _, _, rfl⟩
        rw [hq] at h h0 h1
        dsimp only at h h0 h1
        subst h0
        simp only [Prod.mk.injEq, Option.some.injEq] at h
        obtain ⟨h2, h3⟩ := h
        have hU : readU bs k = (m, x, 0) ∧ m ≤ most := by
          unfold readC at hq
          by_cases g0 : (readU bs k).2.2 = 0
          · rw [if_pos g0] at hq
            by_cases g1 : (most : Int) < 0 ∨ (most : Int) < ((readU bs k).1 : Int)
            · rw [if_pos g1] at hq; simp at hq
            · rw [if_neg g1] at hq
              rw [hq] at g1
              dsimp only at g1
              exact ⟨hq, by omega⟩
          · rw [if_neg g0] at hq
            simp only [Prod.mk.injEq] at hq
            exact absurd hq.2.2 g0
        obtain ⟨k2, rfl, g1, g2, g3⟩ := t_readU_was hU.1
        rw [Int.toNat_natCast] at h2
        have hll : l.length = m := by rw [← h2, List.length_take, List.length_drop]; omega
        have hk' : k' = k2 + m := by omega
        subst hk'
        refine ⟨by omega, by omega, by omega, ?_⟩
        rw [List.take_add, g3, h2]
        unfold row
        rw [hll, List.append_assoc]
    · rw [if_neg h0] at hc; exact absurd hc h0
  · rw [if_neg hc] at h; simp at h

/-! One form. -/
theorem t_numS_at {bs pre rest : List UInt8} {n most k : Nat} (h : bs = pre ++ (form n ++ rest)) (hk : k = pre.length) (hn : n < 18446744073709551616) (hm : n ≤ most) : t_numS bs most (some k) = (n, some (pre ++ form n).length) := by
  subst h hk; exact t_numS_form pre rest n most hn hm
theorem t_txtS_at {bs pre rest x : List UInt8} {k most : Nat} (h : bs = pre ++ (row x ++ rest)) (hk : k = pre.length) (hx : x.length ≤ most) (hm : most ≤ 1000000) : t_txtS bs most (some k) = (x, some (pre ++ row x).length) := by
  subst h hk; exact t_txtS_row pre rest x most hx hm
theorem filS_form {bs pre rest : List UInt8} {x : Key} {k : Nat} (h : bs = pre ++ (keyB x ++ rest)) (hk : k = pre.length) (h1 : x.1.length ≤ 40) (h2 : x.2.length ≤ 2000) : filS bs (some k) = (x, some (pre ++ keyB x).length) := by
  obtain ⟨a, b⟩ := x
  dsimp only at h1 h2
  unfold keyB at h ⊢
  dsimp only at h ⊢
  simp only [List.append_assoc] at h
  unfold filS
  have e1 := t_txtS_at (most := 40) h hk h1 (by omega)
  rw [e1]
  dsimp only
  have h3 : bs = (pre ++ row a) ++ (row b ++ rest) := by rw [h]; simp only [List.append_assoc]
  have e2 := t_txtS_at (most := 2000) h3 rfl h2 (by omega)
  rw [e2]
  simp only [List.append_assoc]
theorem filsS_form {bs pre rest : List UInt8} {L : List Key} (h : bs = pre ++ (L.flatMap keyB ++ rest)) (hL : ∀ x ∈ L, x.1.length ≤ 40 ∧ x.2.length ≤ 2000) : ∀ k, k ≤ L.length → filsS bs k (some pre.length) = (L.take k, some (pre ++ (L.take k).flatMap keyB).length)
  | 0, _ => by simp [filsS]
  | k + 1, hk => by
    have ih := filsS_form h hL k (by omega)
    obtain ⟨x, hx⟩ : ∃ x, L[k]? = some x := ⟨_, List.getElem?_eq_getElem (by omega)⟩
    have ht : L.take (k + 1) = L.take k ++ [x] := by rw [List.take_add_one, hx]; rfl
    have hs : L = L.take k ++ (x :: L.drop (k + 1)) := by
      have h1 := List.getElem?_eq_some_iff.1 hx
      rw [← h1.2, ← List.drop_eq_getElem_cons h1.1, List.take_append_drop]
    have hb : bs = (pre ++ (L.take k).flatMap keyB) ++ (keyB x ++ ((L.drop (k + 1)).flatMap keyB ++ rest)) := by
      rw [h]
      have e : L.flatMap keyB = (L.take k).flatMap keyB ++ (keyB x ++ (L.drop (k + 1)).flatMap keyB) := by
        conv => lhs; rw [hs]
        rw [List.flatMap_append, List.flatMap_cons]
      rw [e]
      simp only [List.append_assoc]
    have hx2 := hL x (List.mem_of_getElem? hx)
    have hi := filS_form hb rfl hx2.1 hx2.2
    show ((filsS bs k (some pre.length)).1 ++ [(filS bs (filsS bs k (some pre.length)).2).1], (filS bs (filsS bs k (some pre.length)).2).2) = _
    rw [ih]
    dsimp only
    rw [hi, ht]
    simp only [List.flatMap_append, List.flatMap_cons, List.flatMap_nil, List.append_nil, List.append_assoc]
theorem readT_tree {L : List Key} (h : mayK L = true) (rest : List UInt8) : readT (treeK L ++ rest) = if rest = [] then some L else none := by
  obtain ⟨h1, h2⟩ := mayK_parts h
  have hb : treeK L ++ rest = [] ++ (form L.length ++ (L.flatMap keyB ++ rest)) := by unfold treeK; simp
  have hb2 : treeK L ++ rest = form L.length ++ (L.flatMap keyB ++ rest) := by unfold treeK; simp
  have e1 := t_numS_at (most := 16) (k := 0) hb rfl (by omega) h1
  unfold readT
  rw [e1]
  dsimp only
  rw [List.nil_append]
  have e2 := filsS_form hb2 h2 L.length (Nat.le_refl _)
  rw [e2]
  dsimp only
  rw [List.take_length]
  have e3 : (form L.length ++ L.flatMap keyB) = treeK L := rfl
  rw [e3]
  by_cases hr : rest = []
  · rw [if_pos hr, if_pos ⟨by rw [hr, List.append_nil], h⟩]
  · rw [if_neg hr, if_neg]
    intro hh
    have := Option.some.inj hh.1
    rw [List.length_append] at this
    exact hr (List.eq_nil_of_length_eq_zero (by omega))
theorem filS_was {bs : List UInt8} {k k' : Nat} {x : Key} (h : filS bs (some k) = (x, some k')) : k ≤ k' ∧ k' ≤ bs.length ∧ bs.take k' = bs.take k ++ keyB x := by
  unfold filS at h
  obtain ⟨a, s1, e1⟩ : ∃ x y, t_txtS bs 40 (some k) = (x, y) := ⟨_, _, rfl⟩
  rw [e1] at h
  dsimp only at h
  obtain ⟨b, s2, e2⟩ : ∃ x y, t_txtS bs 2000 s1 = (x, y) := ⟨_, _, rfl⟩
  rw [e2] at h
  simp only [Prod.mk.injEq] at h
  obtain ⟨rfl, rfl⟩ := h
  cases s1 with
  | none => cases e2
  | some k1 =>
  obtain ⟨p1, q1, _, r1⟩ := t_txtS_was e1
  obtain ⟨p2, q2, _, r2⟩ := t_txtS_was e2
  refine ⟨by omega, q2, ?_⟩
  unfold keyB
  dsimp only
  rw [r2, r1]
  simp only [List.append_assoc]
theorem filsS_was {bs : List UInt8} {k : Nat} : ∀ (n : Nat) {k' : Nat}, k ≤ bs.length → (filsS bs n (some k)).2 = some k' → k' ≤ bs.length ∧ bs.take k' = bs.take k ++ (filsS bs n (some k)).1.flatMap keyB
  | 0, k', hk, h => by
    obtain rfl := Option.some.inj h
    exact ⟨hk, by simp [filsS]⟩
  | n + 1, k', hk, h => by
    have h' : (filS bs (filsS bs n (some k)).2).2 = some k' := h
    obtain ⟨s, hs⟩ : ∃ s, (filsS bs n (some k)).2 = s := ⟨_, rfl⟩
    rw [hs] at h'
    cases s with
    | none => cases h'
    | some k1 =>
      obtain ⟨g1, g2⟩ := filsS_was n hk hs
      obtain ⟨x, hx⟩ : ∃ x, filS bs (some k1) = (x, some k') := ⟨(filS bs (some k1)).1, by rw [← h']⟩
      obtain ⟨_, q1, q2⟩ := filS_was hx
      refine ⟨q1, ?_⟩
      show _ = _ ++ ((filsS bs n (some k)).1 ++ [(filS bs (filsS bs n (some k)).2).1]).flatMap keyB
      rw [hs, hx, q2, g2, List.flatMap_append]
      simp
theorem readT_was {bs : List UInt8} {L : List Key} (h : readT bs = some L) : bs = treeK L ∧ mayK L = true := by
  unfold readT at h
  obtain ⟨n, s, e1⟩ : ∃ x y, t_numS bs 16 (some 0) = (x, y) := ⟨_, _, rfl⟩
  rw [e1] at h
  dsimp only at h
  by_cases hc : (filsS bs n s).2 = some bs.length ∧ mayK (filsS bs n s).1 = true
  · rw [if_pos hc] at h
    have hL := Option.some.inj h
    cases s with
    | none => rw [filsS_none] at hc; cases hc.1
    | some k =>
      obtain ⟨_, q1, _, r1⟩ := t_numS_was e1
      obtain ⟨_, g2⟩ := filsS_was n q1 hc.1
      rw [List.take_length, r1, List.take_zero, List.nil_append, hL] at g2
      refine ⟨?_, by rw [← hL]; exact hc.2⟩
      unfold treeK
      rw [g2, ← hL, filsS_len]
  · rw [if_neg hc] at h; cases h
theorem readT_self {L : List Key} (h : mayK L = true) : readT (treeK L) = some L := by
  have := readT_tree h []
  rwa [List.append_nil, if_pos rfl] at this
theorem tree_inj {L M : List Key} (hL : mayK L = true) (hM : mayK M = true) : treeK L = treeK M ↔ L = M := by
  constructor
  · intro h
    have h1 := readT_self hL
    rw [h, readT_self hM] at h1
    exact (Option.some.inj h1).symm
  · intro h; rw [h]
theorem readT_more {bs : List UInt8} {L : List Key} (h : readT bs = some L) (y : UInt8) : readT (bs ++ [y]) = none := by
  obtain ⟨h1, h2⟩ := readT_was h
  rw [h1, readT_tree h2, if_neg (by simp)]
theorem readT_pos {bs : List UInt8} {L : List Key} (h : readT bs = some L) : 0 < bs.length := by
  rw [(readT_was h).1]
  unfold treeK
  rw [List.length_append, form_len]; omega
theorem readT_less {bs : List UInt8} {L : List Key} (h : readT bs = some L) : readT (bs.take (bs.length - 1)) = none := by
  have hp := readT_pos h
  cases hm : readT (bs.take (bs.length - 1)) with
  | none => rfl
  | some M =>
    have h1 : bs = bs.take (bs.length - 1) ++ [bs[bs.length - 1]'(by omega)] := by
      rw [← List.take_succ_eq_append_getElem (by omega), Nat.sub_add_cancel hp, List.take_length]
    have h2 := readT_more hm (bs[bs.length - 1]'(by omega))
    rw [← h1, h] at h2
    cases h2
theorem t_txtS_le (bs : List UInt8) (most : Nat) (s : Option Nat) : (t_txtS bs most s).1.length ≤ most := by
  cases s with
  | none => exact Nat.zero_le _
  | some k =>
    obtain ⟨l, e, h⟩ : ∃ l e, t_txtS bs most (some k) = (l, e) := ⟨_, _, rfl⟩
    rw [h]
    cases e with
    | none =>
      unfold t_txtS at h
      dsimp only at h
      split at h
      · simp at h
      · simp only [Prod.mk.injEq] at h; rw [← h.1]; exact Nat.zero_le _
    | some k' => exact (t_txtS_was h).2.2.1

end Go.Proofs.YtglfakglcoffkaaDoor

namespace Go.Proofs.YtglfakglcoffkaaDoor
open Go.RowKit

set_option maxHeartbeats 32000000 in
set_option maxRecDepth 100000 in
theorem refbytes37 (L : List Fil) (A : Option Addr) (c : Nat) (w : World) (hT : TreeAt w A L) (hm : mayT L = true) :
    Calls Tryd.prog 29 #[.slice A L.length c] w fun e w' => ∃ A' n c', e = .returned (.slice A' n c') ∧ ByAt w w' A' n c' (treeB L) := by
  obtain ⟨i0, hi, hz0, hz1, hz2⟩ := info_parts Tryd.info5
  obtain ⟨hl, hsm, -, -⟩ := mayT_parts hm
  have HSM := Lib.hid hsm
  have HT : Hid (∀ v, Chg none w v → TreeAt v A L) := fun v g => hT.chg g
  have HPL : Hid (∀ k, (partT L k).length ≤ 33000) := partT_len hm
  have HFO : Hid (∀ (m : Nat) (v : World), m < 18446744073709551616 → Calls Tryd.prog 67 #[.int .u64 m] v fun e w' => ∃ A n c, e = .returned (.slice A n c) ∧ n = (form m).length ∧ Reads w' w'.heap.size 1 A n (byteVals (form m)) ∧ Chg none v w') :=
    fun m v h => (refForm_any m v h).mono fun e w' hp => post_chg hp
  have HOB : Hid (∀ x : List UInt8, ∀ u ∈ byteVals x, u.oneCell' = true) := fun x => byteVals_one x
  have HL16 := Lib.hid hl
  have hwl : IntKind.u64.wrap (L.length : Int) = (L.length : Int) := by rw [IntKind.wrap_u64]; omega
  have HF1 := Lib.hid (refForm_any L.length w (by omega))
  clear hT hm hsm hl
  go_enter Tryd.func29, Tryd.ntmps29
  go_wp2_with fail
  refine HF1.out.mono ?_
  rintro e w2 hp2
  obtain ⟨A2, n2, c2, rfl, hb2, -⟩ := ByAt.of_post hp2 (Chg.refl none w)
  have B2 : Hid (ByAt w w2 A2 n2 c2 (partT L 0)) := by
    show ByAt _ _ _ _ _ _
    have e : partT L 0 = form L.length := by unfold partT; simp
    rw [e]; exact hb2
  clear hb2 hp2 HF1 hwl
  go_wp2_with fail
  go_loopw [3, 4] (fun s3 s4 wr => ∃ (k : Nat) (A1 : Option Addr) (n1 c1 : Nat), s4 = .int .i64 k ∧ s3 = .slice A1 n1 c1 ∧ Hid (k ≤ L.length) ∧ Hid (ByAt w wr A1 n1 c1 (partT L k))) (fun _ s4 _ => L.length - (intOf s4).toNat)
  case atStart => exact ⟨0, A2, n2, c2, rfl, rfl, Lib.hid (Nat.zero_le _), B2⟩
  case round =>
    obtain ⟨k, A1, n1, c1, rfl, rfl, H1, H2⟩ := hrel
    by_cases hlt : k < L.length
    · have hd : decide ((k : Int) < (L.length : Int)) = true := by rw [decide_eq_true_eq]; omega
      obtain ⟨x, hkx⟩ : ∃ x, L[k]? = some x := ⟨_, List.getElem?_eq_getElem hlt⟩
      have hne : L ≠ [] := by intro e; subst e; simp at hlt
      have HRW := Lib.hid (HT.out wr H2.out.2.2)
      obtain ⟨b, off, rfl, -, -⟩ := HRW.out.1 hne
      have HTW : Hid (∀ v, Chg none w v → v.cell? ⟨b, off + k * 2, none⟩ = some (.string ⟨x.p.toArray⟩) ∧ v.cell? ⟨b, off + k * 2 + 1, none⟩ = some (.slice x.A x.x.length x.c)) := fun v g => ((HT.out v g).1.two hkx).2
      have hblt := (HRW.out.1.two hkx).1
      have HTX : Hid (∀ v, Chg none w v → Reads v v.heap.size 1 x.A x.x.length (byteVals x.x)) := fun v g => txt_reads ((HT.out v g).2 x (List.mem_of_getElem? hkx)).t
      have HLT := Lib.hid hlt
      have HFP : Hid (x.p.length ≤ 40) := (t_path_len (HSM.out x (List.mem_of_getElem? hkx)).1).2
      have HFX : Hid (x.x.length ≤ 2000) := (HSM.out x (List.mem_of_getElem? hkx)).2
      have HPS := Lib.hid (partT_succ hkx)
      unfold fileF row at HPS
      have HPK : Hid ((partT L k).length ≤ 33000) := HPL.out k
      have hwk : wrap64 ((k : Int) + 1) = ((k + 1 : Nat) : Int) := by have h1 := HL16.out; unfold wrap64; omega
      have HWK := Lib.hid hwk
      obtain ⟨x0, x1⟩ := HTW.out wr H2.out.2.2
      clear hkx hne HRW HT hlt HSM B2 HPL hwk hblt
      obtain ⟨fp, fA, fx, fc⟩ := x
      dsimp only at x0 x1 HTW HTX HFP HFX HPS
      obtain ⟨B0, HB0⟩ : ∃ B0, Hid (B0 = partT L k) := ⟨_, Lib.hid rfl⟩
      rw [← HB0.out] at H2 HPS HPK
      have HN1 : Hid (n1 ≤ 33000) := by show _ ≤ _; rw [H2.out.1]; exact HPK.out
      have hwp : IntKind.u64.wrap (fp.length : Int) = (fp.length : Int) := by have := HFP.out; rw [IntKind.wrap_u64]; omega
      have hwx : IntKind.u64.wrap (fx.length : Int) = (fx.length : Int) := by have := HFX.out; rw [IntKind.wrap_u64]; omega
      have HFm := Lib.hid (HFO.out fp.length wr (by have := HFP.out; omega))
      have HFn : Hid (∀ v, Calls Tryd.prog 67 #[.int .u64 fx.length] v fun e w' => ∃ A n c, e = .returned (.slice A n c) ∧ n = (form fx.length).length ∧ Reads w' w'.heap.size 1 A n (byteVals (form fx.length)) ∧ Chg none v w') := fun v => HFO.out fx.length v (by have := HFX.out; omega)
      go_wp2_with fail
      refine HFm.out.mono ?_
      rintro e v3 ⟨Af, nf, cf, rfl, hnf, hrf, hgf⟩
      have HBf := Lib.hid (H2.out.chg hgf)
      have HRf := Lib.hid hrf
      have HOf := Lib.hid (HOB.out (form fp.length))
      have hfs := form_small fp.length (by have := HFP.out; omega)
      have HNf : Hid (nf ≤ 9) := by show _ ≤ _; rw [hnf]; exact hfs
      have HSf : Hid (w.heap.size ≤ v3.heap.size) := HBf.out.2.2.size
      have HEf := Lib.hid hnf
      clear hnf hrf hgf hfs HFm H2 hwp x0 x1
      go_wp2_with (at_builtin; refine wpList_append_any _ rfl (.tmp 15) (.tmp 23) 22 rfl w.heap.size 5 i0 (.int .u8 0) 1 1 Tryd.underlying22 hi hz0 hz1 hz2 rfl (by decide) _ n1 (byteVals (B0)) rfl HBf.out.2.1 _ Af nf cf (byteVals (form fp.length)) rfl HRf.out HOf.out (by have := HNf.out; have := HN1.out; unfold maxLen; omega) (by have := HNf.out; have := HN1.out; omega) HSf.out ?_)
      intro vv w3 hown hgr _
      obtain ⟨A3, c3, rfl⟩ := own_slice hown
      have B3 := Lib.hid (HBf.out.app HEf.out hown hgr)
      clear HBf HRf HOf HSf HEf hown hgr
      have HN3 : Hid (n1 + nf ≤ 33009) := by have := HNf.out; have := HN1.out; show _ ≤ _; omega
      obtain ⟨n3, hnk⟩ : ∃ n3, n3 = n1 + nf := ⟨_, rfl⟩
      obtain ⟨B1, HB1⟩ : ∃ B1, Hid (B1 = B0 ++ form fp.length) := ⟨_, Lib.hid rfl⟩
      rw [← hnk] at B3 HN3
      rw [← HB1.out] at B3
      try rw [← hnk]
      clear hnk HNf HN1
      obtain ⟨x0, x1⟩ := HTW.out w3 B3.out.2.2
      have cs := fun v => conv_sb fp v
      have hrd := sb_reads fp w3
      have hcg := sb_chg ⟨fp.toArray⟩ w3
      have HB4 := Lib.hid (B3.out.chg hcg)
      have HR4 := Lib.hid hrd
      have HO4 := Lib.hid (HOB.out fp)
      have HS4 : Hid (w.heap.size ≤ (Lib.bytesWorld w3 5 ⟨fp.toArray⟩).heap.size) := HB4.out.2.2.size
      clear hrd hcg
      go_wp2_with (at_builtin; refine wpList_append_any _ rfl (.tmp 25) (.tmp 31) 22 rfl w.heap.size 5 i0 (.int .u8 0) 1 1 Tryd.underlying22 hi hz0 hz1 hz2 rfl (by decide) _ n3 (byteVals (B1)) rfl HB4.out.2.1 _ (some ⟨w3.heap.size, 0, none⟩) fp.length _ (byteVals (fp)) rfl HR4.out HO4.out (by have := HFP.out; have := HN3.out; unfold maxLen; omega) (by have := HFP.out; have := HN3.out; omega) HS4.out ?_)
      intro vv w5 hown hgr _
      obtain ⟨A5, c5, rfl⟩ := own_slice hown
      have B5 := Lib.hid (HB4.out.app (y := fp) rfl hown hgr)
      clear HB4 HR4 HO4 HS4 hown hgr cs B3 x0 x1
      have HN5 : Hid (n3 + fp.length ≤ 33049) := by have := HFP.out; have := HN3.out; show _ ≤ _; omega
      obtain ⟨n5, hnk⟩ : ∃ n5, n5 = n3 + fp.length := ⟨_, rfl⟩
      obtain ⟨B2, HB2⟩ : ∃ B2, Hid (B2 = B1 ++ fp) := ⟨_, Lib.hid rfl⟩
      rw [← hnk] at B5 HN5
      rw [← HB2.out] at B5
      try rw [← hnk]
      clear hnk HN3
      obtain ⟨x0, x1⟩ := HTW.out w5 B5.out.2.2
      go_wp2_with fail
      refine (HFn.out _).mono ?_
      rintro e v6 ⟨Af, nf, cf, rfl, hnf, hrf, hgf⟩
      have HBf := Lib.hid (B5.out.chg hgf)
      have HRf := Lib.hid hrf
      have HOf := Lib.hid (HOB.out (form fx.length))
      have hfs := form_small fx.length (by have := HFX.out; omega)
      have HNf : Hid (nf ≤ 9) := by show _ ≤ _; rw [hnf]; exact hfs
      have HSf : Hid (w.heap.size ≤ v6.heap.size) := HBf.out.2.2.size
      have HEf := Lib.hid hnf
      clear hnf hrf hgf hfs HFn B5 hwx x0 x1
      go_wp2_with (at_builtin; refine wpList_append_any _ rfl (.tmp 33) (.tmp 41) 22 rfl w.heap.size 5 i0 (.int .u8 0) 1 1 Tryd.underlying22 hi hz0 hz1 hz2 rfl (by decide) _ n5 (byteVals (B2)) rfl HBf.out.2.1 _ Af nf cf (byteVals (form fx.length)) rfl HRf.out HOf.out (by have := HNf.out; have := HN5.out; unfold maxLen; omega) (by have := HNf.out; have := HN5.out; omega) HSf.out ?_)
      intro vv w7 hown hgr _
      obtain ⟨A7, c7, rfl⟩ := own_slice hown
      have B7 := Lib.hid (HBf.out.app HEf.out hown hgr)
      clear HBf HRf HOf HSf HEf hown hgr
      have HN7 : Hid (n5 + nf ≤ 33058) := by have := HNf.out; have := HN5.out; show _ ≤ _; omega
      obtain ⟨n7, hnk⟩ : ∃ n7, n7 = n5 + nf := ⟨_, rfl⟩
      obtain ⟨B3, HB3⟩ : ∃ B3, Hid (B3 = B2 ++ form fx.length) := ⟨_, Lib.hid rfl⟩
      rw [← hnk] at B7 HN7
      rw [← HB3.out] at B7
      try rw [← hnk]
      clear hnk HNf HN5
      obtain ⟨x0, x1⟩ := HTW.out w7 B7.out.2.2
      have HR8 := Lib.hid (HTX.out w7 B7.out.2.2)
      have HO8 := Lib.hid (HOB.out fx)
      have HS8 : Hid (w.heap.size ≤ w7.heap.size) := B7.out.2.2.size
      go_wp2_with (at_builtin; refine wpList_append_any _ rfl (.tmp 43) (.tmp 48) 22 rfl w.heap.size 5 i0 (.int .u8 0) 1 1 Tryd.underlying22 hi hz0 hz1 hz2 rfl (by decide) _ n7 (byteVals (B3)) rfl B7.out.2.1 _ fA fx.length fc (byteVals (fx)) rfl HR8.out HO8.out (by have := HFX.out; have := HN7.out; unfold maxLen; omega) (by have := HFX.out; have := HN7.out; omega) HS8.out ?_)
      intro vv w9 hown hgr _
      obtain ⟨A9, c9, rfl⟩ := own_slice hown
      have B9 := Lib.hid (B7.out.app (y := fx) rfl hown hgr)
      clear B7 HR8 HO8 HS8 hown hgr x0 x1
      have HFIN : Hid (ByAt w w9 A9 (n7 + fx.length) c9 (partT L (k + 1))) := by
        show ByAt _ _ _ _ _ _
        have e : partT L (k + 1) = B3 ++ fx := by
          rw [HPS.out, HB3.out, HB2.out, HB1.out]
          simp only [List.append_assoc]
        rw [e]; exact B9.out
      clear B9 HB0 HB1 HB2 HB3 HPS HPK
      go_wp2_with fail
      go_roundw
      case rel => exact ⟨k + 1, A9, n7 + fx.length, c9, by first | (rw [HWK.out]; done) | rfl | (simp; done), by first | rfl | (simp; done), Lib.hid HLT.out, HFIN⟩
      case measure =>
        have := HLT.out
        first | (rw [HWK.out]; simp only [intOf]; omega) | omega | (simp only [intOf]; omega) | (simp [intOf]; omega)
    · have hd : decide (k < L.length) = false := by rw [decide_eq_false_iff_not]; exact hlt
      have hd2 : decide ((k : Int) < (L.length : Int)) = false := by rw [decide_eq_false_iff_not]; omega
      have I2' : Hid (ByAt w wr A1 n1 c1 (treeB L)) := by
        show ByAt _ _ _ _ _ _
        rw [← partT_all (k := k) (by omega)]; exact H2.out
      clear hlt H2
      go_wp2_with fail
      go_ret
      exact ⟨A1, n1, c1, rfl, I2'.out⟩

end Go.Proofs.YtglfakglcoffkaaDoor

namespace Go.Proofs.YtglfakglcoffkaaDoor
open Go.RowKit

theorem readB_nat {bs : List UInt8} {a : Nat} {most : Int} (h : (readB bs a most).2.2 = 0) : ∃ b : Nat, (readB bs a most).2.1 = b := by
  unfold readB at h ⊢
  by_cases h0 : (readC bs a most).2.2 = 0
  · rw [if_pos h0] at h ⊢
    by_cases h1 : (bs.length : Int) - (readC bs a most).2.1 < ((readC bs a most).1 : Int)
    · rw [if_pos h1] at h; cases h
    · rw [if_neg h1]
      obtain ⟨q0, q1, q2⟩ := (readC_well bs a most).ok h0
      exact ⟨((readC bs a most).2.1 + (readC bs a most).1).toNat, by dsimp only; omega⟩
  · rw [if_neg h0] at h; exact absurd h h0
theorem reads_up {w : World} {B C k n : Nat} {A : Option Addr} {xs : List Value} (h : Reads w B k A n xs) (hB : B ≤ C) : Reads w C k A n xs :=
  ⟨h.1, fun h0 => by
    obtain ⟨ad, e, hb, hc⟩ := h.2 h0
    exact ⟨ad, e, Nat.lt_of_lt_of_le hb hB, hc⟩⟩
theorem txtS_of {bs x : List UInt8} {a b m : Nat} (h : readB bs a m = (x, (b : Int), 0)) : t_txtS bs m (some a) = (x, some b) := by
  unfold t_txtS
  dsimp only
  rw [h, if_pos rfl]
  dsimp only
  rw [Int.toNat_natCast]
theorem t_txtS_no {bs : List UInt8} {a m : Nat} (h : (readB bs a m).2.2 ≠ 0) : t_txtS bs m (some a) = ([], none) := if_neg h
theorem filS_bad1 {bs : List UInt8} {a : Nat} (h : (readB bs a 40).2.2 ≠ 0) : (filS bs (some a)).2 = none := by
  show (t_txtS bs 2000 (t_txtS bs 40 (some a)).2).2 = none
  rw [t_txtS_no (m := 40) h]; rfl
theorem filS_bad2 {bs x : List UInt8} {a b : Nat} (h1 : readB bs a 40 = (x, (b : Int), 0)) (h : (readB bs b 2000).2.2 ≠ 0) : (filS bs (some a)).2 = none := by
  show (t_txtS bs 2000 (t_txtS bs 40 (some a)).2).2 = none
  rw [txtS_of (m := 40) h1, t_txtS_no (m := 2000) h]
theorem filS_good {bs x y : List UInt8} {a b d : Nat} (h1 : readB bs a 40 = (x, (b : Int), 0)) (h2 : readB bs b 2000 = (y, (d : Int), 0)) : filS bs (some a) = ((x, y), some d) := by
  unfold filS
  rw [txtS_of (m := 40) h1]
  dsimp only
  rw [txtS_of (m := 2000) h2]

/-- What Read tells. -/
def ToldR (w : World) (r : Option (List Key)) (e : Ending) (w' : World) : Prop :=
  (r = none ∧ e = .returned (.tuple #[.slice none 0 0, .int .i64 5]) ∧ Chg none w w') ∨
  (∃ A c M, r = some (keys M) ∧ e = .returned (.tuple #[.slice A M.length c, .int .i64 0]) ∧ OwnL w w' A c M ∧ mayT M = true)

set_option maxHeartbeats 16000000 in
set_option maxRecDepth 100000 in
theorem tread_any (A : Option Addr) (bs : List UInt8) (c : Nat) (w : World) (hr : Reads w w.heap.size 1 A bs.length (byteVals bs)) (hcap : bs.length ≤ c) (hl : bs.length ≤ 1000000) :
    Calls Tryd.prog 28 #[.slice A bs.length c] w (ToldR w (readT bs)) := by
  obtain ⟨i0, hi, hz0, hz1, hz2⟩ := info_parts Tryd.info86
  have HU : Hid (Calls Tryd.prog 65 #[.slice A bs.length c, .int .i64 0] w (Told3 w (readU bs 0))) := uint_any A bs c 0 w hr hcap hl
  have HBY : Hid (∀ (a : Nat) (m : Int) v, m ≤ 2000 → Chg none w v → Calls Tryd.prog 66 #[.slice A bs.length c, .int .i64 a, .int .i64 m] v (ToldB v (readB bs a m))) := fun a m v hm g => bytes_any A bs c a m v (reads_up (hr.below (g.belowNone (Nat.le_refl _))) g.size) hcap hl (by omega)
  have hwell := readU_well bs 0
  have HNS : Hid (t_numS bs 16 (some 0) = if (readU bs 0).2.2 = 0 ∧ (readU bs 0).1 ≤ 16 then ((readU bs 0).1, some (readU bs 0).2.1.toNat) else (0, none)) := rfl
  obtain ⟨n, at0, er, hq⟩ : ∃ n at0 er, readU bs 0 = (n, at0, er) := ⟨_, _, _, rfl⟩
  rw [hq] at HU HNS hwell
  dsimp only at HNS
  clear hr hq
  by_cases her : er = 0
  rotate_left
  · have d0 : (er != 0) = true := by rw [bne_iff_ne]; exact her
    have HNO : Hid (readT bs = none) := readT_lost (by rw [HNS.out, if_neg (fun h => her h.1)])
    clear her hwell HNS HBY
    as_aux_lemma =>
      go_enter Tryd.func28, Tryd.ntmps28
      go_wp2_with fail
      refine HU.out.mono ?_
      rintro e w' ⟨rfl, rfl⟩
      go_wp2_with fail
      go_ret2
      exact .inl ⟨HNO.out, rfl, Chg.refl _ _⟩
  subst her
  by_cases hn : n ≤ 16
  rotate_left
  · have d0 : decide ((16 : Int) < (n : Int)) = true := by rw [decide_eq_true_eq]; omega
    have HNO : Hid (readT bs = none) := readT_lost (by rw [HNS.out, if_neg (fun h => hn h.2)])
    clear hn hwell HNS HBY
    as_aux_lemma =>
      go_enter Tryd.func28, Tryd.ntmps28
      go_wp2_with fail
      refine HU.out.mono ?_
      rintro e w' ⟨rfl, rfl⟩
      go_wp2_with fail
      go_ret2
      exact .inl ⟨HNO.out, rfl, Chg.refl _ _⟩
  have d0 : decide ((16 : Int) < (n : Int)) = false := by rw [decide_eq_false_iff_not]; omega
  obtain ⟨q0, q1, q2⟩ := hwell.ok rfl
  dsimp only at q0 q1 q2
  obtain ⟨a0, rfl⟩ := Int.eq_ofNat_of_zero_le (show 0 ≤ at0 by omega)
  have hns : t_numS bs 16 (some 0) = (n, some a0) := by rw [HNS.out, if_pos ⟨rfl, hn⟩]; rfl
  have HN2 := Lib.hid hns
  have HN16 := Lib.hid hn
  obtain ⟨RP, HRP⟩ : ∃ RP, Hid (RP = readT bs ∧ RP = if (filsS bs n (some a0)).2 = some bs.length ∧ mayK (filsS bs n (some a0)).1 = true then some (filsS bs n (some a0)).1 else none) := ⟨_, rfl, by unfold readT; rw [hns]⟩
  have HLOST : Hid (∀ k, k < n → (filS bs (filsS bs k (some a0)).2).2 = none → RP = none) := fun k hk h => by
    rw [HRP.out.1]
    refine readT_lost_at (k := k) (by rw [hns]; exact hk) ?_
    rw [hns]; exact h
  rw [← HRP.out.1]
  clear hns hn hwell HNS q0 q1 q2
  go_enter Tryd.func28, Tryd.ntmps28
  go_wp2_with fail
  refine HU.out.mono ?_
  rintro e w' ⟨rfl, rfl⟩
  clear HU
  have HO0 : Hid (OwnL w w none 0 []) := ⟨World.ownsRow_nil _ _ _ _, fun m h => (by cases h), Chg.refl _ _⟩
  go_wp2_with fail
  go_loopw [5, 7, 26] (fun s5 s7 s26 wr => ∃ (k a : Nat) (A1 : Option Addr) (c1 : Nat) (M : List Fil), s26 = .int .u64 k ∧ s5 = .int .i64 a ∧ s7 = .slice A1 M.length c1 ∧ Hid (k ≤ n) ∧ Hid (OwnL w wr A1 c1 M) ∧ Hid (keys M = (filsS bs k (some a0)).1 ∧ (filsS bs k (some a0)).2 = some a ∧ M.length = k)) (fun _ _ s26 _ => n - (intOf s26).toNat)
  case atStart => exact ⟨0, a0, none, 0, [], rfl, rfl, rfl, Lib.hid (Nat.zero_le _), HO0, Lib.hid ⟨rfl, rfl, rfl⟩⟩
  case round =>
    obtain ⟨k, a, A1, c1, M, rfl, rfl, rfl, H1, H2, H3⟩ := hrel
    by_cases hlt : k < n
    · have hdd : decide ((k : Int) < (n : Int)) = true := by rw [decide_eq_true_eq]; omega
      have HLT := Lib.hid hlt
      have HML : Hid (M.length ≤ 16) := by have h1 := H3.out.2.2; have h2 := HN16.out; show _ ≤ _; omega
      have HB1 := Lib.hid (HBY.out a 40 wr (by decide) H2.out.chg)
      have HLO : Hid ((filS bs (some a)).2 = none → RP = none) := fun h => HLOST.out k hlt (by rw [H3.out.2.1]; exact h)
      have hbn1 := readB_nat (bs := bs) (a := a) (most := 40)
      have hbx1 := t_txtS_le bs 40 (some a)
      unfold t_txtS at hbx1
      dsimp only at hbx1
      have hb1 := filS_bad1 (bs := bs) (a := a)
      obtain ⟨x1, p1, e1, hq1⟩ : ∃ x1 p1 e1, readB bs a 40 = (x1, p1, e1) := ⟨_, _, _, rfl⟩
      rw [hq1] at hbn1 hb1 HB1
      rw [show ((40 : Nat) : Int) = 40 from rfl, hq1] at hbx1
      dsimp only at hbn1 hb1 hbx1
      by_cases he1 : e1 = 0
      rotate_left
      · have d1 : (e1 != 0) = true := by rw [bne_iff_ne]; exact he1
        have HNO := Lib.hid (HLO.out (hb1 he1))
        clear he1 hb1 hbn1 hbx1 hq1 hlt HBY HLOST HO0
        as_aux_lemma =>
          go_wp2_with fail
          refine HB1.out.mono ?_
          rintro e w2 ⟨A2, n2, c2, rfl, -, -, hb2⟩
          have G2 : Hid (Chg none w w2) := chg_ofX H2.out.chg hb2 H2.out.chg.size
          clear hb2
          go_wp2_with fail
          go_ret2
          exact .inl ⟨HNO.out, rfl, G2.out⟩
      subst he1
      obtain ⟨b, rfl⟩ := hbn1 rfl
      rw [if_pos rfl] at hbx1
      dsimp only at hbx1
      have HX1 := Lib.hid hbx1
      have hbn2 := readB_nat (bs := bs) (a := b) (most := 2000)
      have hbx2 := t_txtS_le bs 2000 (some b)
      unfold t_txtS at hbx2
      dsimp only at hbx2
      have hb2' := fun h => filS_bad2 (bs := bs) (a := a) hq1 h
      have hg2 := fun (y : List UInt8) (d : Nat) h => filS_good (bs := bs) (a := a) (y := y) (d := d) hq1 h
      obtain ⟨x2, p2, e2, hq2⟩ : ∃ x2 p2 e2, readB bs b 2000 = (x2, p2, e2) := ⟨_, _, _, rfl⟩
      rw [hq2] at hbn2 hb2'
      rw [show ((2000 : Nat) : Int) = 2000 from rfl, hq2] at hbx2
      dsimp only at hbn2 hb2' hbx2
      have HQ2 := Lib.hid hq2
      clear hb1 hbn1 hbx1 hq1 hlt hq2
      by_cases he2 : e2 = 0
      rotate_left
      · have d1 : (e2 != 0) = true := by rw [bne_iff_ne]; exact he2
        have HNO := Lib.hid (HLO.out (hb2' he2))
        clear he2 hb2' hg2 hbn2 hbx2 HLOST HO0
        as_aux_lemma =>
          go_wp2_with fail
          refine HB1.out.mono ?_
          rintro e w2 ⟨A2, n2, c2, rfl, -, -, hb2⟩
          have G2 : Hid (Chg none w w2) := chg_ofX H2.out.chg hb2 H2.out.chg.size
          have HB2 := Lib.hid (HBY.out b 2000 w2 (by decide) G2.out)
          rw [HQ2.out] at HB2
          clear hb2 HBY
          go_wp2_with fail
          refine HB2.out.mono ?_
          rintro e w3 ⟨A3, n3, c3, rfl, -, -, hb3⟩
          have G3 : Hid (Chg none w w3) := chg_ofX G2.out hb3 G2.out.size
          clear hb3
          go_wp2_with fail
          go_ret2
          exact .inl ⟨HNO.out, rfl, G3.out⟩
      subst he2
      obtain ⟨d, rfl⟩ := hbn2 rfl
      rw [if_pos rfl] at hbx2
      dsimp only at hbx2
      have HX2 := Lib.hid hbx2
      have hfs := hg2 x2 d HQ2.out
      have HFS : Hid ((filsS bs (k + 1) (some a0)).1 = (filsS bs k (some a0)).1 ++ [(x1, x2)] ∧ (filsS bs (k + 1) (some a0)).2 = some d) := by
        constructor
        · show _ ++ [(filS bs (filsS bs k (some a0)).2).1] = _
          rw [H3.out.2.1, hfs]
        · show (filS bs (filsS bs k (some a0)).2).2 = _
          rw [H3.out.2.1, hfs]
      clear hbn2 hb2' hg2 hbx2 hfs HLO HLOST HO0
      go_wp2_with fail
      refine HB1.out.mono ?_
      rintro e w2 ⟨A2, n2, c2, rfl, hn2, ho2, hb2⟩
      dsimp only at hn2 ho2
      subst hn2
      have G2 : Hid (Chg none w w2) := chg_ofX H2.out.chg hb2 H2.out.chg.size
      have k2 : Chg none wr w2 := ⟨hb2.os, hb2.tape, hb2.output, hb2.size, fun k hk _ => hb2.block k hk⟩
      have HL2 := Lib.hid (H2.out.on k2)
      have HB2 := Lib.hid (HBY.out b 2000 w2 (by decide) G2.out)
      rw [HQ2.out] at HB2
      have HO2 := Lib.hid ho2
      clear hb2 ho2 k2 HB1 HBY
      go_wp2_with fail
      refine HB2.out.mono ?_
      rintro e w3 ⟨A3, n3, c3, rfl, hn3, ho3, hb3⟩
      dsimp only at hn3 ho3
      subst hn3
      have k3 : Chg none w2 w3 := ⟨hb3.os, hb3.tape, hb3.output, hb3.size, fun k hk _ => hb3.block k hk⟩
      have HL3 := Lib.hid (HL2.out.on k3)
      have HO3 := Lib.hid (World.ownsRow.mono ho3 G2.out.size)
      have hcv := conv_reads (c := c2) w3 (Reads.of_own (own_chgW HO2.out k3))
      have HFI : Hid (∀ v : World, Reads (v.alloc (.cells #[.string ⟨x1.toArray⟩, .slice A3 x2.length c3] 86)) (v.alloc (.cells #[.string ⟨x1.toArray⟩, .slice A3 x2.length c3] 86)).heap.size 2 (some ⟨v.heap.size, 0, none⟩) 1 (filCells ⟨x1, A3, x2, c3⟩)) := fun v => by
        have h := reads_lit38 v [⟨x1, A3, x2, c3⟩]
        simp only [List.flatMap_cons, List.flatMap_nil, List.append_nil, List.length_cons, List.length_nil, Nat.zero_add] at h
        exact h
      have HON : Hid (∀ u ∈ filCells ⟨x1, A3, x2, c3⟩, u.oneCell' = true) := fun u hu => filCells_one (L := [⟨x1, A3, x2, c3⟩]) u (by simpa using hu)
      have HSE : Hid (∀ ob : Obj, w.heap.size ≤ (w3.alloc ob).heap.size) := fun ob => (HL3.out.chg.alloc ob).size
      clear ho3 hb3 k3 HB2 HL2 HO2
      go_wp2_with (at_builtin; refine wpList_append_any _ rfl (.tmp 46) (.tmp 51) 40 rfl w.heap.size 86 i0 (.agg #[.string ⟨#[]⟩, .slice none 0 0]) 2 40 Tryd.underlying40 hi hz0 hz1 hz2 rfl (by decide) _ M.length (M.flatMap filCells) rfl (HL3.out.row.alloc _) _ (some ⟨w3.heap.size, 0, none⟩) 1 1 _ rfl (HFI.out w3) HON.out (by have := HML.out; unfold maxLen; omega) (by have := HML.out; omega) (HSE.out _) ?_)
      intro v4 w4 hown4 hgr4 _
      obtain ⟨A4, c4, rfl⟩ := own_slice hown4
      have HO4 := Lib.hid ((HL3.out.on ((Chg.refl none w3).alloc _)).app (m := ⟨x1, A3, x2, c3⟩) (HO3.out.alloc _) hown4 hgr4)
      have HLN : Hid ((M ++ [(⟨x1, A3, x2, c3⟩ : Fil)]).length = M.length + 1) := by show _ = _; simp
      have hwk : IntKind.u64.wrap ((k : Int) + 1) = ((k + 1 : Nat) : Int) := by have h1 := HLT.out; have h2 := HN16.out; rw [IntKind.wrap_u64]; omega
      have HWK := Lib.hid hwk
      clear hown4 hgr4 HFI HON HSE HL3 HO3 hcv hwk
      rw [← HLN.out]
      go_wp2_with fail
      go_roundw
      case rel => exact ⟨k + 1, d, A4, c4, M ++ [⟨x1, A3, x2, c3⟩], by first | rfl | (rw [HWK.out]; done) | (simp; done), rfl, rfl, Lib.hid HLT.out, HO4, Lib.hid ⟨by rw [HFS.out.1, ← H3.out.1]; unfold keys; rw [List.map_append]; rfl, HFS.out.2, by rw [HLN.out, H3.out.2.2]⟩⟩
      case measure =>
        have h1 := HLT.out
        first | (rw [HWK.out]; simp only [intOf]; omega) | (simp only [intOf]; rw [HWK.out]; omega) | (simp only [intOf, HWK.out]; omega)
    · have hdd : decide (k < n) = false := by rw [decide_eq_false_iff_not]; exact hlt
      have hd2 : decide ((k : Int) < (n : Int)) = false := by rw [decide_eq_false_iff_not]; omega
      obtain rfl : k = n := by have := H1.out; omega
      have HT := Lib.hid (H2.out.tree (fun m hm => by
        have h1 : keyF m ∈ (filsS bs k (some a0)).1 := by rw [← H3.out.1]; exact List.mem_map_of_mem hm
        have h2 : ∀ j, ∀ x ∈ (filsS bs j (some a0)).1, x.1.length ≤ 40 := by
          intro j
          induction j with
          | zero => intro x hx; cases hx
          | succ j ih =>
            intro x hx
            rcases List.mem_append.1 (show x ∈ (filsS bs j (some a0)).1 ++ [(filS bs (filsS bs j (some a0)).2).1] from hx) with h | h
            · exact ih x h
            · rw [List.mem_singleton.1 h]; exact t_txtS_le _ _ _
        have := h2 k _ h1
        exact Nat.le_trans this (by decide)))
      have hmy := mayt_any M A1 c1 wr HT.out (by have h1 := H3.out.2.2; have h2 := HN16.out; omega)
      have hrp := HRP.out.2
      rw [H3.out.2.1, ← H3.out.1, ← mayT_keys] at hrp
      have HMY := Lib.hid hmy
      clear hmy hlt HLOST HBY HO0 HRP
      by_cases hat : a = bs.length
      rotate_left
      · have dne : ((a : Int) != (bs.length : Int)) = true := by rw [bne_iff_ne]; omega
        have HNO : Hid (RP = none) := by rw [hrp]; exact if_neg (fun h => hat (Option.some.inj h.1))
        clear hrp hat
        as_aux_lemma =>
          go_wp2_with fail
          go_ret2
          exact .inl ⟨HNO.out, rfl, H2.out.chg⟩
      have dne : ((a : Int) != (bs.length : Int)) = false := by rw [bne_eq_false_iff_eq]; omega
      by_cases hmb : mayT M = true
      · have HYES : Hid (RP = some (keys M) ∧ mayT M = true) := ⟨by rw [hrp]; exact if_pos ⟨by rw [hat], hmb⟩, hmb⟩
        rw [hmb] at HMY
        clear hrp hat hmb
        as_aux_lemma =>
          go_wp2_with fail
          refine HMY.out.mono ?_
          rintro e w9 ⟨rfl, g9⟩
          have G9 := Lib.hid g9
          clear g9
          go_wp2_with fail
          go_ret2
          exact .inr ⟨A1, c1, M, HYES.out.1, rfl, H2.out.on G9.out, HYES.out.2⟩
      · have hmb' : mayT M = false := by simpa using hmb
        have HNO : Hid (RP = none) := by rw [hrp]; exact if_neg (fun h => hmb h.2)
        rw [hmb'] at HMY
        clear hrp hat hmb hmb'
        as_aux_lemma =>
          go_wp2_with fail
          refine HMY.out.mono ?_
          rintro e w9 ⟨rfl, g9⟩
          have G9 := Lib.hid g9
          clear g9
          go_wp2_with fail
          go_ret2
          exact .inl ⟨HNO.out, rfl, H2.out.chg.trans G9.out⟩

end Go.Proofs.YtglfakglcoffkaaDoor

namespace Go.Proofs.YtglfakglcoffkaaDoor
open Go.RowKit

set_option maxHeartbeats 16000000 in
set_option maxRecDepth 100000 in
theorem t_refsame_any (L M : List Fil) (A B : Option Addr) (c d : Nat) (w : World) (hL : TreeAt w A L) (hM : TreeAt w B M) (hl : L.length ≤ 9223372036854775806) :
    Calls Tryd.prog 27 #[.slice A L.length c, .slice B M.length d] w fun e w' => e = .returned (.bool (decide (keys L = keys M))) ∧ Chg none w w' := by
  by_cases hlm : L.length = M.length
  rotate_left
  · have d1 : ((L.length : Int) != (M.length : Int)) = true := by rw [bne_iff_ne]; omega
    rw [decide_eq_false (fun h => hlm (by have := congrArg List.length h; simpa [keys] using this))]
    clear hlm hL hM
    go_enter Tryd.func27, Tryd.ntmps27
    go_wp2_with fail
    go_ret
    exact ⟨rfl, Chg.refl _ _⟩
  have d1 : ((L.length : Int) != (M.length : Int)) = false := by rw [bne_eq_false_iff_eq]; omega
  have HL : Hid (∀ v, Chg none w v → TreeAt v A L) := fun v g => hL.chg g
  have HM : Hid (∀ v, Chg none w v → TreeAt v B M) := fun v g => hM.chg g
  have HLM := Lib.hid hlm
  have HLL := Lib.hid hl
  clear hL hM hl
  rw [← hlm]
  rw [← hlm] at d1
  clear hlm
  go_enter Tryd.func27, Tryd.ntmps27
  go_wp2_with fail
  go_loopw [5] (fun s5 wr => ∃ k : Nat, s5 = .int .i64 k ∧ Hid (k ≤ L.length ∧ ∀ j, j < k → (keys L)[j]? = (keys M)[j]?) ∧ Hid (Chg none w wr)) (fun s5 _ => L.length - (intOf s5).toNat)
  case atStart => exact ⟨0, rfl, Lib.hid ⟨Nat.zero_le _, fun j h => absurd h (Nat.not_lt_zero _)⟩, Lib.hid (Chg.refl _ _)⟩
  case round =>
    obtain ⟨k, rfl, H1, H2⟩ := hrel
    by_cases hlt : k < L.length
    · have hd : decide ((k : Int) < (L.length : Int)) = true := by rw [decide_eq_true_eq]; omega
      obtain ⟨f, hkf⟩ : ∃ f, L[k]? = some f := ⟨_, List.getElem?_eq_getElem hlt⟩
      obtain ⟨h, hkh⟩ : ∃ h, M[k]? = some h := ⟨_, List.getElem?_eq_getElem (by rw [← HLM.out]; exact hlt)⟩
      have hneL : L ≠ [] := by intro e; subst e; simp at hlt
      have hneM : M ≠ [] := by intro e; subst e; simp at hkh
      have G1 : Hid (Chg none w wr.drew) := H2.out.drew
      have HRL := Lib.hid (HL.out _ G1.out)
      have HRM := Lib.hid (HM.out _ G1.out)
      obtain ⟨b, off, rfl, -, -⟩ := HRL.out.1 hneL
      obtain ⟨b2, off2, rfl, -, -⟩ := HRM.out.1 hneM
      obtain ⟨hb, x0, x1⟩ := HRL.out.1.two hkf
      obtain ⟨hb2, y0, y1⟩ := HRM.out.1.two hkh
      have tx := (HRL.out.2 f (List.mem_of_getElem? hkf)).t
      have ty := (HRM.out.2 h (List.mem_of_getElem? hkh)).t
      have c1 := conv_reads (c := f.c) wr.drew (txt_reads tx)
      have c2 := conv_reads (c := h.c) wr.drew (txt_reads ty)
      have HKF : Hid ((keys L)[k]? = some (keyF f)) := by show _ = _; unfold keys; rw [List.getElem?_map, hkf]; rfl
      have HKH : Hid ((keys M)[k]? = some (keyF h)) := by show _ = _; unfold keys; rw [List.getElem?_map, hkh]; rfl
      have HLT := Lib.hid hlt
      have hwk : wrap64 ((k : Int) + 1) = ((k + 1 : Nat) : Int) := by have h1 := HLL.out; unfold wrap64; omega
      have HWK := Lib.hid hwk
      clear hkf hkh hneL hneM HRL HRM HL HM hlt tx ty hwk
      obtain ⟨fp, fA, fx, fc⟩ := f
      obtain ⟨hp, hA, hx, hc⟩ := h
      dsimp only at x0 x1 y0 y1 c1 c2
      unfold keyF at HKF HKH
      dsimp only at HKF HKH
      by_cases ep : fp = hp
      rotate_left
      · have e1 : (fp == hp) = false := by rw [beq_eq_false_iff_ne]; exact ep
        have HRES : Hid (decide (keys L = keys M) = false) := decide_eq_false (fun e => ep (by
          have h1 := HKF.out
          rw [e, HKH.out] at h1
          have h2 := Option.some.inj h1
          rw [Prod.mk.injEq] at h2
          exact h2.1.symm))
        have e2 : ¬ fp = hp := ep
        clear c1 c2 x1 y1 ep
        as_aux_lemma =>
          go_wp2_with fail
          go_region
          all_goals
            go_wp2_with fail
            go_ret
            exact ⟨by rw [HRES.out]; rfl, G1.out⟩
      subst ep
      by_cases ex : fx = hx
      rotate_left
      · have e1 : (fx == hx) = false := by rw [beq_eq_false_iff_ne]; exact ex
        have HRES : Hid (decide (keys L = keys M) = false) := decide_eq_false (fun e => ex (by
          have h1 := HKF.out
          rw [e, HKH.out] at h1
          have h2 := Option.some.inj h1
          rw [Prod.mk.injEq] at h2
          exact h2.2.symm))
        have e2 : ¬ fx = hx := ex
        clear ex
        as_aux_lemma =>
          go_wp2_with fail
          go_region
          all_goals
            go_wp2_with fail
            go_ret
            exact ⟨by rw [HRES.out]; rfl, G1.out⟩
      subst ex
      have HEQ : Hid ((keys L)[k]? = (keys M)[k]?) := by show _ = _; rw [HKF.out, HKH.out]
      go_upto_region 6 with fail
      go_cut [42] from 17 to 41 (fun s42 wx => s42 = .bool false ∧ Hid (Chg none w wx))
      case first =>
        as_aux_lemma =>
          go_region
          all_goals
            go_wp2_with fail
            go_meet
            case rel => exact ⟨by first | rfl | (simp; done), G1⟩
      case rest =>
        obtain ⟨rfl, G9⟩ := hcut
        clear x0 x1 y0 y1 c1 c2
        go_wp2_with fail
        go_roundw
        case rel => exact ⟨k + 1, by rw [HWK.out], Lib.hid ⟨HLT.out, fun j hj => by
          rcases Nat.lt_or_ge j k with h | h
          · exact H1.out.2 j h
          · obtain rfl : j = k := by omega
            exact HEQ.out⟩, G9⟩
        case measure =>
          have h1 := HLL.out
          have h2 := HLT.out
          rw [HWK.out]; simp only [intOf]; omega
    · have hd : decide (k < L.length) = false := by rw [decide_eq_false_iff_not]; exact hlt
      have hd2 : decide ((k : Int) < (L.length : Int)) = false := by rw [decide_eq_false_iff_not]; omega
      have HRES : Hid (decide (keys L = keys M) = true) := decide_eq_true (by
        refine List.ext_getElem? fun j => ?_
        rcases Nat.lt_or_ge j k with h | h
        · exact H1.out.2 j h
        · rw [List.getElem?_eq_none (by unfold keys; rw [List.length_map]; omega), List.getElem?_eq_none (by unfold keys; rw [List.length_map, ← HLM.out]; omega)])
      clear hlt HL HM
      go_wp2_with fail
      go_ret
      exact ⟨by rw [HRES.out]; rfl, H2.out⟩

end Go.Proofs.YtglfakglcoffkaaDoor
