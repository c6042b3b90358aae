/-
  Package tree: Same.
-/
import Derived.Test.YtbadkkilblgpmaaDoorTE
namespace Go.Proofs.YtbadkkilblgpmaaDoor
open Go.RowKit

def keyF (f : Fil) : List UInt8 × List UInt8 := (f.p, f.x)
def keys (L : List Fil) : List (List UInt8 × List UInt8) := L.map keyF

set_option maxHeartbeats 4000000 in
theorem equal51 (A B : Option Addr) (x y : List UInt8) (c d : Nat) (w : World) (hx : Txt w A x) (hy : Txt w B y) :
    Calls Tryd.prog 85 #[.slice A x.length c, .slice B y.length d] w fun e w' => e = .returned (.bool (x == y)) ∧ Chg none w w' := by
  have c1 := conv_reads (c := c) w (txt_reads hx)
  have c2 := conv_reads (c := d) w (txt_reads hy)
  go_enter Tryd.func85, Tryd.ntmps85
  go_wp2_with fail
  go_ret
  exact ⟨by simp, Chg.refl _ _⟩

set_option maxHeartbeats 4000000 in
theorem same50 (f h : Fil) (w : World) (hf : Txt w f.A f.x) (hh : Txt w h.A h.x) :
    Calls Tryd.prog 84 #[.agg (filCells f).toArray, .agg (filCells h).toArray] w fun e w' => e = .returned (.bool (f.p == h.p && f.x == h.x)) ∧ Chg none w w' := by
  obtain ⟨fp, fA, fx, fc⟩ := f
  obtain ⟨hp, hA, hx, hc⟩ := h
  dsimp only at hf hh
  have HE : Hid (∀ v, Chg none w v → Calls Tryd.prog 85 #[.slice fA fx.length fc, .slice hA hx.length hc] v fun e w' => e = .returned (.bool (fx == hx)) ∧ Chg none v w') := fun v g => equal51 fA hA fx hx fc hc v (hf.chg g) (hh.chg g)
  clear hf hh
  unfold filCells
  dsimp only
  by_cases e : fp = hp
  · have e1 : (fp == hp) = true := by rw [beq_iff_eq]; exact e
    rw [e1, Bool.true_and]
    subst e
    clear e1
    generalize hq : (fx == hx) = q at *
    clear hq
    go_enter Tryd.func84, Tryd.ntmps84
    go_wp2_with fail
    refine (HE.out _ (by repeat (first | exact Chg.refl _ _ | refine Chg.alloc ?_ _))).mono ?_
    rintro e w2 ⟨rfl, g2⟩
    have G2 : Hid (Chg none w w2) := Chg.trans (by repeat (first | exact Chg.refl _ _ | refine Chg.alloc ?_ _)) g2
    clear g2
    go_wp2_with fail
    go_ret
    exact ⟨rfl, G2.out⟩
  · have e1 : (fp == hp) = false := by rw [beq_eq_false_iff_ne]; exact e
    have e2 : ¬ fp = hp := e
    rw [e1, Bool.false_and]
    go_enter Tryd.func84, Tryd.ntmps84
    go_wp2_with fail
    go_ret
    exact ⟨rfl, by repeat (first | exact Chg.refl _ _ | refine Chg.alloc ?_ _)⟩

set_option maxHeartbeats 16000000 in
set_option maxRecDepth 100000 in
theorem eqfunc_any (L M : List Fil) (A B : Option Addr) (c d : Nat) (w : World) (hL : TreeAt w A L) (hM : TreeAt w B M) (hl : L.length ≤ 9223372036854775807) :
    Calls Tryd.prog 83 #[.slice A L.length c, .slice B M.length d, .func (.func 84) #[] #[]] w fun e w' => e = .returned (.bool (decide (keys L = keys M))) ∧ Chg none w w' := by
  by_cases hlm : L.length = M.length
  rotate_left
  · have d1 : ((L.length : Int) != (M.length : Int)) = true := by rw [bne_iff_ne]; omega
    rw [decide_eq_false (fun h => hlm (by have := congrArg List.length h; simpa [keys] using this))]
    clear hlm hL hM
    go_enter Tryd.func83, Tryd.ntmps83
    go_wp2_with fail
    go_ret
    exact ⟨rfl, Chg.refl _ _⟩
  have d1 : ((L.length : Int) != (M.length : Int)) = false := by rw [bne_eq_false_iff_eq]; omega
  have HL : Hid (∀ v, Chg none w v → TreeAt v A L) := fun v g => hL.chg g
  have HM : Hid (∀ v, Chg none w v → TreeAt v B M) := fun v g => hM.chg g
  have HLM := Lib.hid hlm
  clear hL hM
  rw [← hlm]
  rw [← hlm] at d1
  clear hlm
  go_enter Tryd.func83, Tryd.ntmps83
  go_wp2_with fail
  go_loopw [17] (fun s17 wr => ∃ k : Nat, s17 = .int .i64 k ∧ Hid (k ≤ L.length ∧ ∀ j, j < k → (keys L)[j]? = (keys M)[j]?) ∧ Hid (Chg none w wr)) (fun s17 _ => L.length - (intOf s17).toNat)
  case atStart => exact ⟨0, rfl, Lib.hid ⟨Nat.zero_le _, fun j h => absurd h (Nat.not_lt_zero _)⟩, Lib.hid (Chg.refl _ _)⟩
  case round =>
    obtain ⟨k, rfl, H1, H2⟩ := hrel
    by_cases hlt : k < L.length
    · have hd : decide ((k : Int) < (L.length : Int)) = true := by rw [decide_eq_true_eq]; omega
      obtain ⟨f, hkf⟩ : ∃ f, L[k]? = some f := ⟨_, List.getElem?_eq_getElem hlt⟩
      obtain ⟨h, hkh⟩ : ∃ h, M[k]? = some h := ⟨_, List.getElem?_eq_getElem (by rw [← HLM.out]; exact hlt)⟩
      have hneL : L ≠ [] := by intro e; subst e; simp at hlt
      have hneM : M ≠ [] := by intro e; subst e; simp at hkh
      have HRL := Lib.hid (HL.out wr H2.out)
      have HRM := Lib.hid (HM.out wr H2.out)
      obtain ⟨b, off, rfl, -, -⟩ := HRL.out.1 hneL
      obtain ⟨b2, off2, rfl, -, -⟩ := HRM.out.1 hneM
      obtain ⟨hb, x0, x1⟩ := HRL.out.1.two hkf
      obtain ⟨hb2, y0, y1⟩ := HRM.out.1.two hkh
      have HSM : Hid (∀ v, Chg none w v → Calls Tryd.prog 84 #[.agg (filCells f).toArray, .agg (filCells h).toArray] v fun e w' => e = .returned (.bool (f.p == h.p && f.x == h.x)) ∧ Chg none v w') :=
        fun v g => same50 f h v ((HL.out v g).2 f (List.mem_of_getElem? hkf)).t ((HM.out v g).2 h (List.mem_of_getElem? hkh)).t
      have HKF : Hid ((keys L)[k]? = some (keyF f)) := by show _ = _; unfold keys; rw [List.getElem?_map, hkf]; rfl
      have HKH : Hid ((keys M)[k]? = some (keyF h)) := by show _ = _; unfold keys; rw [List.getElem?_map, hkh]; rfl
      have HLT := Lib.hid hlt
      clear hkf hkh hneL hneM HRL HRM HL HM hlt
      by_cases hs : (f.p == h.p && f.x == h.x) = true
      · have HEQ : Hid ((keys L)[k]? = (keys M)[k]?) := by
          show _ = _
          rw [HKF.out, HKH.out]
          rw [Bool.and_eq_true, beq_iff_eq, beq_iff_eq] at hs
          unfold keyF
          rw [hs.1, hs.2]
        rw [hs] at HSM
        clear hs
        obtain ⟨fp, fA, fx, fc⟩ := f
        obtain ⟨hp, hA, hx, hc⟩ := h
        unfold filCells at HSM
        dsimp only at HSM x0 x1 y0 y1
        go_wp2_with fail
        refine (HSM.out _ (by repeat (first | exact H2.out | refine Chg.drew ?_ | refine Chg.alloc ?_ _))).mono ?_
        rintro e w2 ⟨rfl, g2⟩
        have G2 : Hid (Chg none w w2) := Chg.trans (by repeat (first | exact H2.out | refine Chg.drew ?_ | refine Chg.alloc ?_ _)) g2
        clear g2
        go_wp2_with fail
        go_roundw
        case rel => exact ⟨k + 1, by first | rfl | (simp; done), Lib.hid ⟨HLT.out, fun j hj => by
          rcases Nat.lt_or_ge j k with h | h
          · exact H1.out.2 j h
          · obtain rfl : j = k := by omega
            exact HEQ.out⟩, G2⟩
        case measure =>
          have := HLT.out
          first | omega | (simp only [intOf]; omega) | (simp [intOf]; omega)
      · have hs' : (f.p == h.p && f.x == h.x) = false := by simpa using hs
        have HRES : Hid (decide (keys L = keys M) = false) := decide_eq_false (fun e => hs (by
          have h1 := HKF.out
          rw [e, HKH.out] at h1
          have h2 := Option.some.inj h1
          unfold keyF at h2
          rw [Prod.mk.injEq] at h2
          rw [h2.1, h2.2]; simp))
        rw [hs'] at HSM
        clear hs hs'
        obtain ⟨fp, fA, fx, fc⟩ := f
        obtain ⟨hp, hA, hx, hc⟩ := h
        unfold filCells at HSM
        dsimp only at HSM x0 x1 y0 y1
        go_wp2_with fail
        refine (HSM.out _ (by repeat (first | exact H2.out | refine Chg.drew ?_ | refine Chg.alloc ?_ _))).mono ?_
        rintro e w2 ⟨rfl, g2⟩
        have G2 : Hid (Chg none w w2) := Chg.trans (by repeat (first | exact H2.out | refine Chg.drew ?_ | refine Chg.alloc ?_ _)) g2
        clear g2
        go_wp2_with fail
        go_ret
        exact ⟨by rw [HRES.out]; rfl, G2.out⟩
    · have hd : decide (k < L.length) = false := by rw [decide_eq_false_iff_not]; exact hlt
      have hd2 : decide ((k : Int) < (L.length : Int)) = false := by rw [decide_eq_false_iff_not]; omega
      have HRES : Hid (decide (keys L = keys M) = true) := decide_eq_true (by
        refine List.ext_getElem? fun j => ?_
        rcases Nat.lt_or_ge j k with h | h
        · exact H1.out.2 j h
        · rw [List.getElem?_eq_none (by unfold keys; rw [List.length_map]; omega), List.getElem?_eq_none (by unfold keys; rw [List.length_map, ← HLM.out]; omega)])
      clear hlt HL HM
      go_wp2_with fail
      go_ret
      exact ⟨by rw [HRES.out]; rfl, H2.out⟩

set_option maxHeartbeats 4000000 in
theorem tsame_any (L M : List Fil) (A B : Option Addr) (c d : Nat) (w : World) (hL : TreeAt w A L) (hM : TreeAt w B M) (hl : L.length ≤ 9223372036854775807) :
    Calls Tryd.prog 37 #[.slice A L.length c, .slice B M.length d] w fun e w' => e = .returned (.bool (decide (keys L = keys M))) ∧ Chg none w w' := by
  have HE := Lib.hid (eqfunc_any L M A B c d w hL hM hl)
  clear hL hM hl
  generalize decide (keys L = keys M) = q at *
  go_enter Tryd.func37, Tryd.ntmps37
  go_wp2_with fail
  refine HE.out.mono ?_
  rintro e w2 ⟨rfl, g2⟩
  go_wp2_with fail
  go_ret
  exact ⟨rfl, g2⟩

end Go.Proofs.YtbadkkilblgpmaaDoor
