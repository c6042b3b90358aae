/-
  TreeReads, walked.
-/
import Derived.Test.YtglfakglcoffkaaTRR
import Derived.Test.YtglfakglcoffkaaTSM
import Derived.Test.YtglfakglcoffkaaTK
namespace Go.Proofs.Ytglfakglcoffkaa
open Go.RowKit

def KR : Option (List Key) → List Key
  | none => []
  | some L => L
def ER : Option (List Key) → Int
  | none => 5
  | some _ => 0
theorem toldR_form {w w' : World} {r : Option (List Key)} {e : Ending} (h : ToldR w r e w') : ∃ A c M, e = .returned (.tuple #[.slice A M.length c, .int .i64 (ER r)]) ∧ keys M = KR r ∧ TreeAt w' A M ∧ M.length ≤ 16 ∧ Chg none w w' := by
  rcases h with ⟨rfl, rfl, g⟩ | ⟨A, c, M, rfl, rfl, ho, hm⟩
  · exact ⟨none, 0, [], rfl, rfl, ⟨fun h => absurd rfl h, fun f hf => (by cases hf)⟩, by decide, g⟩
  · obtain ⟨h1, h2, -, -⟩ := mayT_parts hm
    exact ⟨A, c, M, rfl, rfl, ho.tree (fun m hm => by have := (path_len (h2 m hm).1).2; omega), h1, ho.chg⟩

set_option maxRecDepth 100000 in
set_option maxHeartbeats 32000000 in
theorem treads_law (p : Prt) (s : List UInt8) (w : World) (hp : p.ok w) (hpm : p.c ≤ 9223372036854775807) (hs : s.length ≤ 9223372036854775807) :
    Calls Try.prog 3 #[.slice p.A p.x.length p.c, .string ⟨s.toArray⟩] w fun e w' => e = .returned (.bool true) ∧ Chg none w w' := by
  obtain ⟨i0, hi, hz0, hz1, hz2⟩ := info_parts Try.info5
  have hpl : p.x.length ≤ 9223372036854775807 := by have := hp.2; omega
  have HK := Lib.hid (fun v => known5_any v)
  obtain ⟨pA, px, pc⟩ := p
  dsimp only at hpl hpm ⊢
  by_cases h4 : 6000 < px.length
  · have d1 : decide ((6000 : Int) < (px.length : Int)) = true := by rw [decide_eq_true_eq]; omega
    clear hp h4 hpl hpm hs
    as_aux_lemma =>
      go_enter Try.func3, Try.ntmps3
      go_wp2_with fail
      refine (HK.out _).mono ?_
      rintro e w1 ⟨rfl, g1⟩
      go_wp2_with fail
      go_ret
      exact ⟨rfl, g1⟩
  have d1 : decide ((6000 : Int) < (px.length : Int)) = false := by rw [decide_eq_false_iff_not]; omega
  by_cases h5 : 1000 < s.length
  · have d2 : decide ((1000 : Int) < (s.length : Int)) = true := by rw [decide_eq_true_eq]; omega
    clear hp h4 hpl hpm hs h5
    as_aux_lemma =>
      go_enter Try.func3, Try.ntmps3
      go_wp2_with fail
      refine (HK.out _).mono ?_
      rintro e w1 ⟨rfl, g1⟩
      go_wp2_with fail
      go_ret
      exact ⟨rfl, g1⟩
  have d2 : decide ((1000 : Int) < (s.length : Int)) = false := by rw [decide_eq_false_iff_not]; omega
  have HPX : Hid (px.length ≤ 6000) := by show _ ≤ _; omega
  have hpo : ∀ v, Chg none w v → Prt.ok v ⟨pA, px, pc⟩ := fun v g => hp.chg g
  have HPO : Hid (∀ v, Chg none w v → Txt v pA px) := fun v g => (hp.chg g).1
  have HRD : Hid (∀ A c v, Reads v v.heap.size 1 A px.length (byteVals px) → px.length ≤ c → Calls Try.prog 11 #[.slice A px.length c] v (ToldR v (readT px))) := fun A c v hr hc => tread_any A px c v hr hc (by omega)
  have HRR : Hid (∀ v, Chg none w v → Calls Try.prog 12 #[.slice pA px.length pc] v (ToldR v (readT px))) := fun v g => refread_any pA px pc v (txt_reads (hpo v g).1) (by omega)
  have HP1 : Hid (∀ v, Calls Try.prog 14 #[.string ⟨s.toArray⟩] v fun e w' => e = .returned (.bool (pathB s)) ∧ Chg none v w') := fun v => ispath_any s v hs
  have HP2 : Hid (∀ v, Calls Try.prog 15 #[.string ⟨s.toArray⟩] v fun e w' => e = .returned (.bool (pathB s)) ∧ w' = v) := fun v => refpath_any s v hs
  generalize pathB s = PB at *
  have hbb : (PB == PB) = true := by cases PB <;> rfl
  have hE := own_empty5 w w.heap.size (Nat.le_refl _)
  have gE : Chg none w (w.alloc (.cells #[] 5 (0, 0))) := (Chg.refl _ _).alloc _
  have HE := Lib.hid hE
  have HGE := Lib.hid gE
  have HRX := Lib.hid (txt_reads (HPO.out _ gE))
  have HOX := Lib.hid (byteVals_one px)
  have HSE : Hid (w.heap.size ≤ (w.alloc (.cells #[] 5 (0, 0))).heap.size) := gE.size
  clear hpo hp h4 h5 hE gE hs
  go_enter Try.func3, Try.ntmps3
  go_wp2_with (at_builtin; refine wpList_append_any _ rfl (.tmp 19) (.tmp 20) 22 rfl w.heap.size 5 i0 (.int .u8 0) 1 1 Try.underlying22 hi hz0 hz1 hz2 rfl (by decide) _ 0 (byteVals []) rfl HE.out _ pA px.length pc (byteVals px) rfl HRX.out HOX.out (by have := HPX.out; unfold maxLen; omega) (by have := HPX.out; omega) HSE.out ?_)
  intro v3 w3 hown3 hgr3 _
  obtain ⟨A3, c3, rfl⟩ := own_slice hown3
  have g3 : Chg none w w3 := own_chg HGE.out HE.out (Nat.le_refl _) hgr3
  have e3 : byteVals [] ++ byteVals px = byteVals px := rfl
  try rw [e3] at hown3
  try simp only [Nat.zero_add] at hown3
  try simp only [Nat.zero_add]
  have HRDI := Lib.hid (HRD.out A3 c3 w3 (Reads.of_own hown3) (own_capN hown3))
  have HOW3 := Lib.hid hown3
  have G3 := Lib.hid g3
  clear hown3 hgr3 e3 g3 HE HGE HRX HOX HSE HRD
  go_wp2_with fail
  refine HRDI.out.mono ?_
  rintro e w4 h4
  obtain ⟨A4, c4, M4, rfl, hk4, ht4, hl4, g4⟩ := toldR_form h4
  have HK4 := Lib.hid hk4
  have HT4 := Lib.hid ht4
  have HL4 := Lib.hid hl4
  have G34 := Lib.hid g4
  have G4 := Lib.hid (G3.out.trans g4)
  have HRR4 := Lib.hid (HRR.out w4 G4.out)
  clear h4 HRDI HRR hk4 ht4 hl4 g4
  obtain ⟨eR, HER⟩ : ∃ eR, Hid (eR = ER (readT px)) := ⟨_, Lib.hid rfl⟩
  rw [← HER.out]
  go_wp2_with fail
  refine HRR4.out.mono ?_
  rintro e w5 h5
  obtain ⟨A5, c5, M5, he5, hk5, ht5, -, g5⟩ := toldR_form h5
  rw [← HER.out] at he5
  subst he5
  have G5 := Lib.hid (G4.out.trans g5)
  have HS5 : Hid (Calls Try.prog 13 #[.slice A4 M4.length c4, .slice A5 M5.length c5] w5 fun e w' => e = .returned (.bool true) ∧ Chg none w5 w') := by
    have h := refsame_any M4 M5 A4 A5 c4 c5 w5 (HT4.out.chg g5) ht5 (by have := HL4.out; omega)
    rw [decide_eq_true (HK4.out.trans hk5.symm)] at h
    exact h
  have G35 := Lib.hid (G34.out.trans g5)
  have hee : (eR == eR) = true := by simp
  have HCV : Hid (∀ v, Chg none w3 v → (convert 22 9 (.slice A3 px.length c3)).run Try.prog v = .ok (.string ⟨px.toArray⟩) v) := fun v g => conv_reads v (Reads.of_own (own_chgW HOW3.out g))
  have HCB : Hid (∀ v, Chg none w v → (convert 22 9 (.slice pA px.length pc)).run Try.prog v = .ok (.string ⟨px.toArray⟩) v) := fun v g => conv_reads v (txt_reads (HPO.out v g))
  clear h5 HRR4 hk5 ht5 g5 HK4 HT4 HL4 HOW3 HPO HER
  generalize M4.length = n4 at *
  generalize M5.length = n5 at *
  go_wp2_with fail
  refine HS5.out.mono ?_
  rintro e w6 ⟨rfl, g6⟩
  have G6 := Lib.hid (G5.out.trans g6)
  have hc1 := HCV.out w6 (G35.out.trans g6)
  have hc2 := HCB.out w6 G6.out
  clear g6 HS5 HCV HCB G35 G34
  go_wp2_with fail
  refine (HP1.out _).mono ?_
  rintro e w7 ⟨rfl, g7⟩
  have G7 := Lib.hid (G6.out.trans g7)
  clear g7 hc1 hc2
  go_wp2_with fail
  refine (HP2.out _).mono ?_
  rintro e w8 ⟨rfl, rfl⟩
  go_wp2_with fail
  refine (HK.out _).mono ?_
  rintro e w9 ⟨rfl, g9⟩
  go_wp2_with fail
  go_ret
  exact ⟨rfl, G7.out.trans g9⟩

end Go.Proofs.Ytglfakglcoffkaa
