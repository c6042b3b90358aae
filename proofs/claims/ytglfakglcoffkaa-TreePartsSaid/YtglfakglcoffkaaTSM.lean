/-
  The document's Same.
-/
import Derived.Test.YtglfakglcoffkaaTQ
namespace Go.Proofs.Ytglfakglcoffkaa
open Go.RowKit

set_option maxHeartbeats 16000000 in
set_option maxRecDepth 100000 in
theorem refsame_any (L M : List Fil) (A B : Option Addr) (c d : Nat) (w : World) (hL : TreeAt w A L) (hM : TreeAt w B M) (hl : L.length ≤ 9223372036854775806) :
    Calls Try.prog 13 #[.slice A L.length c, .slice B M.length d] w fun e w' => e = .returned (.bool (decide (keys L = keys M))) ∧ Chg none w w' := by
  by_cases hlm : L.length = M.length
  rotate_left
  · have d1 : ((L.length : Int) != (M.length : Int)) = true := by rw [bne_iff_ne]; omega
    rw [decide_eq_false (fun h => hlm (by have := congrArg List.length h; simpa [keys] using this))]
    clear hlm hL hM
    go_enter Try.func13, Try.ntmps13
    go_wp2_with fail
    go_ret
    exact ⟨rfl, Chg.refl _ _⟩
  have d1 : ((L.length : Int) != (M.length : Int)) = false := by rw [bne_eq_false_iff_eq]; omega
  have HL : Hid (∀ v, Chg none w v → TreeAt v A L) := fun v g => hL.chg g
  have HM : Hid (∀ v, Chg none w v → TreeAt v B M) := fun v g => hM.chg g
  have HLM := Lib.hid hlm
  have HLL := Lib.hid hl
  clear hL hM hl
  rw [← hlm]
  rw [← hlm] at d1
  clear hlm
  go_enter Try.func13, Try.ntmps13
  go_wp2_with fail
  go_loopw [5] (fun s5 wr => ∃ k : Nat, s5 = .int .i64 k ∧ Hid (k ≤ L.length ∧ ∀ j, j < k → (keys L)[j]? = (keys M)[j]?) ∧ Hid (Chg none w wr)) (fun s5 _ => L.length - (intOf s5).toNat)
  case atStart => exact ⟨0, rfl, Lib.hid ⟨Nat.zero_le _, fun j h => absurd h (Nat.not_lt_zero _)⟩, Lib.hid (Chg.refl _ _)⟩
  case round =>
    obtain ⟨k, rfl, H1, H2⟩ := hrel
    by_cases hlt : k < L.length
    · have hd : decide ((k : Int) < (L.length : Int)) = true := by rw [decide_eq_true_eq]; omega
      obtain ⟨f, hkf⟩ : ∃ f, L[k]? = some f := ⟨_, List.getElem?_eq_getElem hlt⟩
      obtain ⟨h, hkh⟩ : ∃ h, M[k]? = some h := ⟨_, List.getElem?_eq_getElem (by rw [← HLM.out]; exact hlt)⟩
      have hneL : L ≠ [] := by intro e; subst e; simp at hlt
      have hneM : M ≠ [] := by intro e; subst e; simp at hkh
      have G1 : Hid (Chg none w wr.drew) := H2.out.drew
      have HRL := Lib.hid (HL.out _ G1.out)
      have HRM := Lib.hid (HM.out _ G1.out)
      obtain ⟨b, off, rfl, -, -⟩ := HRL.out.1 hneL
      obtain ⟨b2, off2, rfl, -, -⟩ := HRM.out.1 hneM
      obtain ⟨hb, x0, x1⟩ := HRL.out.1.two hkf
      obtain ⟨hb2, y0, y1⟩ := HRM.out.1.two hkh
      have tx := (HRL.out.2 f (List.mem_of_getElem? hkf)).t
      have ty := (HRM.out.2 h (List.mem_of_getElem? hkh)).t
      have c1 := conv_reads (c := f.c) wr.drew (txt_reads tx)
      have c2 := conv_reads (c := h.c) wr.drew (txt_reads ty)
      have HKF : Hid ((keys L)[k]? = some (keyF f)) := by show _ = _; unfold keys; rw [List.getElem?_map, hkf]; rfl
      have HKH : Hid ((keys M)[k]? = some (keyF h)) := by show _ = _; unfold keys; rw [List.getElem?_map, hkh]; rfl
      have HLT := Lib.hid hlt
      have hwk : wrap64 ((k : Int) + 1) = ((k + 1 : Nat) : Int) := by have h1 := HLL.out; unfold wrap64; omega
      have HWK := Lib.hid hwk
      clear hkf hkh hneL hneM HRL HRM HL HM hlt tx ty hwk
      obtain ⟨fp, fA, fx, fc⟩ := f
      obtain ⟨hp, hA, hx, hc⟩ := h
      dsimp only at x0 x1 y0 y1 c1 c2
      unfold keyF at HKF HKH
      dsimp only at HKF HKH
      by_cases ep : fp = hp
      rotate_left
      · have e1 : (fp == hp) = false := by rw [beq_eq_false_iff_ne]; exact ep
        have HRES : Hid (decide (keys L = keys M) = false) := decide_eq_false (fun e => ep (by
          have h1 := HKF.out
          rw [e, HKH.out] at h1
          have h2 := Option.some.inj h1
          rw [Prod.mk.injEq] at h2
          exact h2.1.symm))
        have e2 : ¬ fp = hp := ep
        clear c1 c2 x1 y1 ep
        as_aux_lemma =>
          go_wp2_with fail
          go_region
          all_goals
            go_wp2_with fail
            go_ret
            exact ⟨by rw [HRES.out]; rfl, G1.out⟩
      subst ep
      by_cases ex : fx = hx
      rotate_left
      · have e1 : (fx == hx) = false := by rw [beq_eq_false_iff_ne]; exact ex
        have HRES : Hid (decide (keys L = keys M) = false) := decide_eq_false (fun e => ex (by
          have h1 := HKF.out
          rw [e, HKH.out] at h1
          have h2 := Option.some.inj h1
          rw [Prod.mk.injEq] at h2
          exact h2.2.symm))
        have e2 : ¬ fx = hx := ex
        clear ex
        as_aux_lemma =>
          go_wp2_with fail
          go_region
          all_goals
            go_wp2_with fail
            go_ret
            exact ⟨by rw [HRES.out]; rfl, G1.out⟩
      subst ex
      have HEQ : Hid ((keys L)[k]? = (keys M)[k]?) := by show _ = _; rw [HKF.out, HKH.out]
      go_upto_region 6 with fail
      go_cut [42] from 17 to 41 (fun s42 wx => s42 = .bool false ∧ Hid (Chg none w wx))
      case first =>
        as_aux_lemma =>
          go_region
          all_goals
            go_wp2_with fail
            go_meet
            case rel => exact ⟨by first | rfl | (simp; done), G1⟩
      case rest =>
        obtain ⟨rfl, G9⟩ := hcut
        clear x0 x1 y0 y1 c1 c2
        go_wp2_with fail
        go_roundw
        case rel => exact ⟨k + 1, by rw [HWK.out], Lib.hid ⟨HLT.out, fun j hj => by
          rcases Nat.lt_or_ge j k with h | h
          · exact H1.out.2 j h
          · obtain rfl : j = k := by omega
            exact HEQ.out⟩, G9⟩
        case measure =>
          have h1 := HLL.out
          have h2 := HLT.out
          rw [HWK.out]; simp only [intOf]; omega
    · have hd : decide (k < L.length) = false := by rw [decide_eq_false_iff_not]; exact hlt
      have hd2 : decide ((k : Int) < (L.length : Int)) = false := by rw [decide_eq_false_iff_not]; omega
      have HRES : Hid (decide (keys L = keys M) = true) := decide_eq_true (by
        refine List.ext_getElem? fun j => ?_
        rcases Nat.lt_or_ge j k with h | h
        · exact H1.out.2 j h
        · rw [List.getElem?_eq_none (by unfold keys; rw [List.length_map]; omega), List.getElem?_eq_none (by unfold keys; rw [List.length_map, ← HLM.out]; omega)])
      clear hlt HL HM
      go_wp2_with fail
      go_ret
      exact ⟨by rw [HRES.out]; rfl, H2.out⟩

end Go.Proofs.Ytglfakglcoffkaa
