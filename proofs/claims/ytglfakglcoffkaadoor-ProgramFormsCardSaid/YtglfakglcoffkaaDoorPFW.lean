/-
  ProgramForms: the walk.
-/
import Derived.Test.YtglfakglcoffkaaDoorPO
import Derived.Test.YtglfakglcoffkaaDoorPB3
namespace Go.Proofs.YtglfakglcoffkaaDoor
open Go.RowKit

theorem wpAnyH_to {P : Program} {md : Region.Mode} {ops : Array Oper} {Q : Exit → Act → World → Prop} {S S2 : World → Prop} (hs : ∀ w, S2 w → S w) :
    ∀ {fuel : Nat} {listed : Array Bool} {a : Act} {w : World}, wpAnyH P md ops Q S2 fuel listed a w → wpAnyH P md ops Q S fuel listed a w
  | 0, _, _, _, h => h
  | _ + 1, _, _, _, h => ⟨h.1, fun i hi => wpOp_mono (fun _ _ h' => ⟨hs _ h'.1, wpAnyH_to hs h'.2⟩) (h.2 i hi)⟩

set_option maxRecDepth 100000 in
set_option maxHeartbeats 32000000 in
theorem forms_law (P Q : List Ins) (A B : Option Addr) (c d : Nat) (w : World)
    (hrP : RowsAt w 6 A insCells P) (hxP : ∀ x ∈ P, x.fits) (hlP : P.length ≤ 9223372036854775807) (hrQ : RowsAt w 6 B insCells Q) (hlQ : Q.length ≤ 9223372036854775807) (hF : Flds w) :
    Calls Tryd.prog 8 #[.slice A P.length c, .slice B Q.length d] w fun e w' => e = .returned (.bool true) ∧ Chg none w w' := by
  obtain ⟨i0, hi, hz0, hz1, hz2⟩ := info_parts Tryd.info61
  have HC := calls6 w hF
  have HKN := Lib.hid HC.known
  have HGP := Lib.hid (fun v (g : Chg none w v) => HC.great P A c v g (hrP.chg g) hlP)
  have HGQ := Lib.hid (fun v (g : Chg none w v) => HC.great Q B d v g (hrQ.chg g) hlQ)
  have HRP : Hid (∀ v, Chg none w v → RowsAt v 6 A insCells P) := fun v g => hrP.chg g
  have HRQ : Hid (∀ v, Chg none w v → RowsAt v 6 B insCells Q) := fun v g => hrQ.chg g
  have HXP := Lib.hid hxP
  have HRM : Hid (∀ v, Chg none w v → Calls Tryd.prog 36 #[.slice A P.length c] v fun e w' => e = .returned (.bool (mayB P)) ∧ Chg none v w') := fun v g => refmay_any P A c v (hrP.chg g) hxP hlP
  have HRS : Hid (∀ v, Chg none w v → Calls Tryd.prog 38 #[.slice A P.length c, .slice B Q.length d] v fun e w' => e = .returned (.bool (decide (P = Q))) ∧ Chg none v w') := fun v g => refsame_any P Q A B c d v (hrP.chg g) (hrQ.chg g) hlP hlQ
  have HRB : Hid (mayB P = true → ∀ v, Chg none w v → Calls Tryd.prog 40 #[.slice A P.length c] v fun e w' => ∃ A' n c', e = .returned (.slice A' n c') ∧ ByAt v w' A' n c' (progB P)) := fun h v g => refbytes_any P A c v (hrP.chg g) h
  have HCC := Lib.hid HC
  clear HC hrP hrQ hF hxP
  go_enter Tryd.func8, Tryd.ntmps8
  go_wp2_with fail
  refine (HGP.out _ (Chg.refl _ _)).mono ?_
  rintro e w1 ⟨⟨G, rfl, hG⟩, g1⟩
  cases G
  rotate_left
  · have HK := Lib.hid (HKN.out _ g1)
    have G1 := Lib.hid g1
    clear g1
    as_aux_lemma =>
      go_wp2_with fail
      refine HK.out.mono ?_
      rintro e w3 ⟨rfl, g3⟩
      go_wp2_with fail
      go_ret
      exact ⟨rfl, G1.out.trans g3⟩
  have HP6 : Hid (P.length ≤ 60) := hG rfl
  clear hG
  go_wp2_with fail
  refine (HGQ.out _ g1).mono ?_
  rintro e w2 ⟨⟨G, rfl, -⟩, g2⟩
  have G2 := Lib.hid (g1.trans g2)
  clear g1 g2
  cases G
  rotate_left
  · have HK := Lib.hid (HKN.out _ G2.out)
    as_aux_lemma =>
      go_wp2_with fail
      refine HK.out.mono ?_
      rintro e w3 ⟨rfl, g3⟩
      go_wp2_with fail
      go_ret
      exact ⟨rfl, G2.out.trans g3⟩
  have hE := own_empty61 w2 w.heap.size G2.out.size
  have gE : Chg none w (w2.alloc (.cells #[] 61 (0, 0))) := G2.out.alloc _
  have HE := Lib.hid hE
  have HGE := Lib.hid gE
  have HRX := Lib.hid ((HRP.out _ gE).reads insCells_len (by decide))
  have HOX := Lib.hid (insCells_one (L := P))
  have HSE : Hid (w.heap.size ≤ (w2.alloc (.cells #[] 61 (0, 0))).heap.size) := gE.size
  clear hE gE HGP HGQ
  go_wp2_with (at_builtin; refine wpList_append_any _ rfl (.tmp 17) (.tmp 18) 52 rfl w.heap.size 61 i0 (.agg #[.int .u8 0, .string ⟨#[]⟩, .string ⟨#[]⟩, .string ⟨#[]⟩, .int .i64 0, .int .i64 0]) 6 72 Tryd.underlying52 hi hz0 hz1 hz2 rfl (by decide) _ 0 (([] : List Ins).flatMap insCells) rfl HE.out _ A P.length c (P.flatMap insCells) rfl HRX.out HOX.out (by have := HP6.out; unfold maxLen; omega) (by have := HP6.out; omega) HSE.out ?_)
  intro v3 w3 hown3 hgr3 _
  obtain ⟨A3, c3, rfl⟩ := own_slice hown3
  have g3 : Chg none w w3 := own_chg HGE.out HE.out (Nat.le_refl _) hgr3
  try rw [List.flatMap_nil, List.nil_append] at hown3
  try simp only [Nat.zero_add] at hown3
  try simp only [Nat.zero_add]
  obtain ⟨hr3, -, hc3⟩ := rows_of_own hown3
  have G3 := Lib.hid g3
  have HMI := Lib.hid (fun v (g : Chg none w3 v) => HCC.out.may P A3 c3 v (g3.trans g) (hr3.chg g) HXP.out hlP)
  have HSI : Hid (∀ v, Chg none w3 v → Calls Tryd.prog 37 #[.slice A3 P.length c3, .slice B Q.length d] v fun e w' => e = .returned (.bool (decide (P = Q))) ∧ Chg none v w') := fun v g => same_any P Q A3 B c3 d v (hr3.chg g) (HRQ.out v (g3.trans g)) hlP hlQ
  have HSS : Hid (∀ v, Chg none w3 v → Calls Tryd.prog 38 #[.slice A3 P.length c3, .slice A P.length c] v fun e w' => e = .returned (.bool true) ∧ Chg none v w') := fun v g => by
    have h := refsame_any P P A3 A c3 c v (hr3.chg g) (HRP.out v (g3.trans g)) hlP hlP
    rw [decide_eq_true rfl] at h
    exact h
  have HBI0 := Lib.hid (fun v (g : Chg none w3 v) => HCC.out.bno P A3 c3 v (g3.trans g) (hr3.chg g) HXP.out hlP)
  have HBI1 := Lib.hid (fun v (g : Chg none w3 v) => HCC.out.byes P A3 c3 v (g3.trans g) (hr3.chg g) HXP.out)
  clear hown3 hgr3 g3 hr3 hc3 HE HGE HRX HOX HSE
  obtain ⟨rS, hrS⟩ : ∃ rS, rS = decide (P = Q) := ⟨_, rfl⟩
  rw [← hrS] at HSI HRS
  have hss : (rS != rS) = false := by cases rS <;> rfl
  clear hrS
  by_cases hP : mayB P = true
  rotate_left
  · have hP' : mayB P = false := by simpa using hP
    have HB := Lib.hid (HBI0.out _ (Chg.refl _ _) hP')
    rw [hP'] at HMI HRM
    clear hP hP' HBI0 HBI1 HRB
    as_aux_lemma =>
      go_wp2_with fail
      refine HB.out.mono ?_
      rintro e w4 ⟨rfl, g4⟩
      have K4 := Lib.hid g4
      clear g4
      go_wp2_with fail
      refine (HMI.out _ K4.out).mono ?_
      rintro e w5 ⟨rfl, k5⟩
      have K5 := Lib.hid (K4.out.trans k5)
      clear k5
      go_wp2_with fail
      refine (HRM.out _ (G3.out.trans K5.out)).mono ?_
      rintro e w6 ⟨rfl, k6⟩
      have K6 := Lib.hid (K5.out.trans k6)
      clear k6
      go_wp2_with fail
      refine (HSI.out _ K6.out).mono ?_
      rintro e w7 ⟨rfl, k7⟩
      have K7 := Lib.hid (K6.out.trans k7)
      clear k7
      go_wp2_with fail
      refine (HRS.out _ (G3.out.trans K7.out)).mono ?_
      rintro e w8 ⟨rfl, k8⟩
      have K8 := Lib.hid (K7.out.trans k8)
      clear k8
      go_wp2_with fail
      refine (HSS.out _ K8.out).mono ?_
      rintro e w9 ⟨rfl, k9⟩
      have K9 := Lib.hid (K8.out.trans k9)
      clear k9
      go_wp2_with fail
      refine (HRM.out _ (G3.out.trans K9.out)).mono ?_
      rintro e u9 ⟨rfl, k10⟩
      have K9 := Lib.hid (K9.out.trans k10)
      clear k10
      have HK := Lib.hid (HKN.out _ (G3.out.trans K9.out))
      go_wp2_with fail
      refine HK.out.mono ?_
      rintro e u10 ⟨rfl, k10⟩
      go_wp2_with fail
      go_ret
      exact ⟨rfl, (G3.out.trans K9.out).trans k10⟩
  have HB := Lib.hid (HBI1.out _ (Chg.refl _ _) hP)
  have HRB := Lib.hid (HRB.out hP)
  rw [hP] at HMI HRM
  have HPM := Lib.hid hP
  clear hP HBI0 HBI1
  go_wp2_with fail
  refine HB.out.mono ?_
  rintro e w4 ⟨A4, n4, c4, rfl, hb4⟩
  have HB4 := Lib.hid hb4
  have K4 : Hid (Chg none w3 w4) := hb4.2.2
  clear hb4
  go_wp2_with fail
  refine (HMI.out _ K4.out).mono ?_
  rintro e w5 ⟨rfl, k5⟩
  have K5 := Lib.hid (K4.out.trans k5)
  have J5 := Lib.hid k5
  clear k5
  go_wp2_with fail
  refine (HRM.out _ (G3.out.trans K5.out)).mono ?_
  rintro e w6 ⟨rfl, k6⟩
  have K6 := Lib.hid (K5.out.trans k6)
  have J6 := Lib.hid (J5.out.trans k6)
  clear k6
  go_wp2_with fail
  refine (HSI.out _ K6.out).mono ?_
  rintro e w7 ⟨rfl, k7⟩
  have K7 := Lib.hid (K6.out.trans k7)
  have J7 := Lib.hid (J6.out.trans k7)
  clear k7
  go_wp2_with fail
  refine (HRS.out _ (G3.out.trans K7.out)).mono ?_
  rintro e w8 ⟨rfl, k8⟩
  have K8 := Lib.hid (K7.out.trans k8)
  have J8 := Lib.hid (J7.out.trans k8)
  clear k8
  go_wp2_with fail
  refine (HSS.out _ K8.out).mono ?_
  rintro e w9 ⟨rfl, k9⟩
  have K9 := Lib.hid (K8.out.trans k9)
  have J9 := Lib.hid (J8.out.trans k9)
  clear k9
  go_wp2_with fail
  refine (HRM.out _ (G3.out.trans K9.out)).mono ?_
  rintro e u9 ⟨rfl, k10⟩
  have K9 := Lib.hid (K9.out.trans k10)
  have J10 := Lib.hid (J9.out.trans k10)
  clear k10
  have K49 : Hid (Chg none w4 u9) := J10.out
  have HR9 := HCC.out.read A4 (progB P) c4 u9 (G3.out.trans K9.out) (by rw [← HB4.out.1]; exact Reads.of_own (own_chgW HB4.out.2.1 K49.out)) (by rw [← HB4.out.1]; exact own_capN HB4.out.2.1) (by have := partB_len HPM.out P.length; rw [partB_all (Nat.le_refl _)] at this; omega)
  rw [← HB4.out.1, readP_self HPM.out] at HR9
  have HR9 := Lib.hid HR9
  go_wp2_with fail
  refine HR9.out.mono ?_
  rintro e u10 h10
  rcases h10 with ⟨h, -⟩ | ⟨L, A5, c5, hL, rfl, hr5, hc5, -, hx5, k10⟩
  · cases h
  obtain rfl := Option.some.inj hL
  have K10 := Lib.hid (K9.out.trans k10)
  have HRX5 : Hid (∀ v, Chg none u10 v → Calls Tryd.prog 38 #[.slice A5 P.length c5, .slice A P.length c] v fun e w' => e = .returned (.bool true) ∧ Chg none v w') := fun v g => by
    have h := refsame_any P P A5 A c5 c v (hr5.chg g) (HRP.out v ((G3.out.trans K10.out).trans g)) hlP hlP
    rw [decide_eq_true rfl] at h
    exact h
  have HCX : Hid (∀ v, Chg none u10 v → (convert 22 9 (.slice A4 n4 c4)).run Tryd.prog v = .ok (.string ⟨(progB P).toArray⟩) v) := fun v g => conv_reads v (Reads.of_own (own_chgW HB4.out.2.1 ((K49.out.trans k10).trans g)))
  have G10 := Lib.hid (G3.out.trans K10.out)
  clear hL hr5 hc5 hx5 k10 K9 K49 HB4 HR9 HPM K4
  generalize progB P = X at *
  as_aux_lemma =>
    go_upto_region 10 with fail
    have E0 := (Chg.refl none u10).drew
    refine wp_region_held_drew (S := fun v => Chg none u10 v) (by kernel_rfl) E0 (fun _ => ?_)
    generalize u10.drew = v0 at *
    refine wpAnyH_take (i := 0) (oi := ⟨some 63, _, _, _, _, _⟩) (v := ?_) rfl (by kernel_rfl) (by kernel_rfl) (by kernel_rfl) (fun _ _ _ h => h) (Or.inl ⟨by rfl, ?_⟩) (by assumption) ?_
    rotate_left
    · intro w hSw; (try dsimp only at hSw); go_simp; (try with_reducible rfl)
    try simp only [Act.put, List.setIfInBounds_toArray, List.set_cons_zero, List.set_cons_succ]
    refine wpAnyH_take (i := 1) (oi := ⟨some 64, _, _, _, _, _⟩) (v := ?_) rfl (by kernel_rfl) (by kernel_rfl) (by kernel_rfl) (fun _ _ _ h => h) (Or.inl ⟨by rfl, ?_⟩) (by assumption) ?_
    rotate_left
    · intro w hSw; (try dsimp only at hSw); go_simp; (try with_reducible rfl)
    try simp only [Act.put, List.setIfInBounds_toArray, List.set_cons_zero, List.set_cons_succ]
    refine wpAnyH_take (i := 2) (oi := ⟨some 65, _, _, _, _, _⟩) (v := ?_) rfl (by kernel_rfl) (by kernel_rfl) (by kernel_rfl) (fun _ _ _ h => h) (Or.inl ⟨by rfl, ?_⟩) (by assumption) ?_
    rotate_left
    · intro w hSw; (try dsimp only at hSw); go_simp; (try with_reducible rfl)
    try simp only [Act.put, List.setIfInBounds_toArray, List.set_cons_zero, List.set_cons_succ]
    refine wpAnyH_take (i := 3) (oi := ⟨some 66, _, _, _, _, _⟩) (v := ?_) rfl (by kernel_rfl) (by kernel_rfl) (by kernel_rfl) (fun _ _ _ h => h) (Or.inl ⟨by rfl, ?_⟩) (by assumption) ?_
    rotate_left
    · intro w hSw; (try dsimp only at hSw); go_simp; (try with_reducible rfl)
    try simp only [Act.put, List.setIfInBounds_toArray, List.set_cons_zero, List.set_cons_succ]
    refine wpAnyH_take (i := 4) (oi := ⟨some 67, _, _, _, _, _⟩) (v := ?_) rfl (by kernel_rfl) (by kernel_rfl) (by kernel_rfl) (fun _ _ _ h => h) (Or.inl ⟨by rfl, ?_⟩) (by assumption) ?_
    rotate_left
    · intro w hSw; (try dsimp only at hSw); go_simp; (try with_reducible rfl)
    try simp only [Act.put, List.setIfInBounds_toArray, List.set_cons_zero, List.set_cons_succ]
    refine wpAnyH_take (i := 5) (oi := ⟨some 68, _, _, _, _, _⟩) (v := ?_) rfl (by kernel_rfl) (by kernel_rfl) (by kernel_rfl) (fun _ _ _ h => h) (Or.inl ⟨by rfl, ?_⟩) (by assumption) ?_
    rotate_left
    · intro w hSw; (try dsimp only at hSw); go_simp; (try with_reducible rfl)
    try simp only [Act.put, List.setIfInBounds_toArray, List.set_cons_zero, List.set_cons_succ]
    refine wpAnyH_take (i := 6) (oi := ⟨some 69, _, _, _, _, _⟩) (v := ?_) rfl (by kernel_rfl) (by kernel_rfl) (by kernel_rfl) (fun _ _ _ h => h) (Or.inl ⟨by rfl, ?_⟩) (by assumption) ?_
    rotate_left
    · intro w hSw; (try dsimp only at hSw); go_simp; (try with_reducible rfl)
    try simp only [Act.put, List.setIfInBounds_toArray, List.set_cons_zero, List.set_cons_succ]
    refine wpAnyH_take (i := 7) (oi := ⟨some 70, _, _, _, _, _⟩) (v := ?_) rfl (by kernel_rfl) (by kernel_rfl) (by kernel_rfl) (fun _ _ _ h => h) (Or.inl ⟨by rfl, ?_⟩) (by assumption) ?_
    rotate_left
    · intro w hSw; (try dsimp only at hSw); go_simp; (try with_reducible rfl)
    try simp only [Act.put, List.setIfInBounds_toArray, List.set_cons_zero, List.set_cons_succ]
    refine wpAnyH_take (i := 8) (oi := ⟨some 71, _, _, _, _, _⟩) (v := .string ⟨X.toArray⟩) rfl (by kernel_rfl) (by kernel_rfl) (by kernel_rfl) (fun _ _ _ h => h) (Or.inl ⟨by rfl, ?_⟩) (by assumption) ?_
    · intro v hSv; have hcx := HCX.out v hSv; go_simp
    try simp only [Act.put, List.setIfInBounds_toArray, List.set_cons_zero, List.set_cons_succ]
    refine wpAnyH_take (i := 9) (oi := ⟨some 72, _, _, _, _, _⟩) (v := ?_) rfl (by kernel_rfl) (by kernel_rfl) (by kernel_rfl) (fun _ _ _ h => h) (Or.inl ⟨by rfl, ?_⟩) (by assumption) ?_
    rotate_left
    · intro w hSw; (try dsimp only at hSw); go_simp; (try with_reducible rfl)
    try simp only [Act.put, List.setIfInBounds_toArray, List.set_cons_zero, List.set_cons_succ]
    refine wpAnyH_ready (rs := [10]) (by kernel_rfl) (by simp) ?_
    refine AllReadyH.cons (o := ⟨some 73, _, _, _, _, _⟩) rfl (fun K hK => ?_) (AllReadyH.nil)
    go_simp
    go_at_call 40
    refine (HRB.out _ (G10.out.trans E0)).mono ?_
    rintro e v1 ⟨AR, nR, cR, rfl, hbR⟩
    have g21 : Chg none u10 v1 := E0.trans hbR.2.2
    have HCR : Hid (∀ v, Chg none v1 v → (convert 22 9 (.slice AR nR cR)).run Tryd.prog v = .ok (.string ⟨X.toArray⟩) v) := fun v g => conv_reads v (Reads.of_own (own_chgW hbR.2.1 g))
    clear hbR
    go_wp2_with fail
    refine hK.out _ _ g21 (fun _ => ?_)
    clear hK K
    try simp only [Act.put, List.setIfInBounds_toArray, List.set_cons_zero, List.set_cons_succ]
    refine wpAnyH_to (S2 := fun v => Chg none v1 v) (fun v h => g21.trans h) ?_
    have E1 := Chg.refl none v1
    refine wpAnyH_take (i := 11) (oi := ⟨some 74, _, _, _, _, _⟩) (v := .string ⟨X.toArray⟩) rfl (by kernel_rfl) (by kernel_rfl) (by kernel_rfl) (fun _ _ _ h => h) (Or.inl ⟨by rfl, ?_⟩) (by assumption) ?_
    · intro v hSv; have hcy := HCR.out v hSv; go_simp
    try simp only [Act.put, List.setIfInBounds_toArray, List.set_cons_zero, List.set_cons_succ]
    refine wpAnyH_take (i := 12) (oi := ⟨some 75, _, _, _, _, _⟩) (v := .bool true) rfl (by kernel_rfl) (by kernel_rfl) (by kernel_rfl) (fun _ _ _ h => h) (Or.inl ⟨by rfl, ?_⟩) (by assumption) ?_
    · intro v hSv; go_simp
    try simp only [Act.put, List.setIfInBounds_toArray, List.set_cons_zero, List.set_cons_succ]
    refine wpAnyH_take (i := 13) (oi := ⟨some 76, _, _, _, _, _⟩) (v := ?_) rfl (by kernel_rfl) (by kernel_rfl) (by kernel_rfl) (fun _ _ _ h => h) (Or.inl ⟨by rfl, ?_⟩) (by assumption) ?_
    rotate_left
    · intro w hSw; (try dsimp only at hSw); go_simp; (try with_reducible rfl)
    try simp only [Act.put, List.setIfInBounds_toArray, List.set_cons_zero, List.set_cons_succ]
    refine wpAnyH_take (i := 14) (oi := ⟨some 77, _, _, _, _, _⟩) (v := ?_) rfl (by kernel_rfl) (by kernel_rfl) (by kernel_rfl) (fun _ _ _ h => h) (Or.inl ⟨by rfl, ?_⟩) (by assumption) ?_
    rotate_left
    · intro w hSw; (try dsimp only at hSw); go_simp; (try with_reducible rfl)
    try simp only [Act.put, List.setIfInBounds_toArray, List.set_cons_zero, List.set_cons_succ]
    refine wpAnyH_take (i := 15) (oi := ⟨some 78, _, _, _, _, _⟩) (v := ?_) rfl (by kernel_rfl) (by kernel_rfl) (by kernel_rfl) (fun _ _ _ h => h) (Or.inl ⟨by rfl, ?_⟩) (by assumption) ?_
    rotate_left
    · intro w hSw; (try dsimp only at hSw); go_simp; (try with_reducible rfl)
    try simp only [Act.put, List.setIfInBounds_toArray, List.set_cons_zero, List.set_cons_succ]
    refine wpAnyH_take (i := 16) (oi := ⟨some 79, _, _, _, _, _⟩) (v := ?_) rfl (by kernel_rfl) (by kernel_rfl) (by kernel_rfl) (fun _ _ _ h => h) (Or.inl ⟨by rfl, ?_⟩) (by assumption) ?_
    rotate_left
    · intro w hSw; (try dsimp only at hSw); go_simp; (try with_reducible rfl)
    try simp only [Act.put, List.setIfInBounds_toArray, List.set_cons_zero, List.set_cons_succ]
    refine wpAnyH_ready (rs := [17]) (by kernel_rfl) (by simp) ?_
    refine AllReadyH.cons (o := ⟨some 80, _, _, _, _, _⟩) rfl (fun K hK => ?_) (AllReadyH.nil)
    go_simp
    go_at_call 38
    refine (HRX5.out _ (g21.trans E1)).mono ?_
    rintro e v2 ⟨rfl, g22⟩
    have E2 := E1.trans g22
    go_wp2_with fail
    refine hK.out _ _ E2 (fun _ => ?_)
    clear hK K
    try simp only [Act.put, List.setIfInBounds_toArray, List.set_cons_zero, List.set_cons_succ]
    refine wpAnyH_take (i := 18) (oi := ⟨some 81, _, _, _, _, _⟩) (v := ?_) rfl (by kernel_rfl) (by kernel_rfl) (by kernel_rfl) (fun _ _ _ h => h) (Or.inl ⟨by rfl, ?_⟩) (by assumption) ?_
    rotate_left
    · intro w hSw; (try dsimp only at hSw); go_simp; (try with_reducible rfl)
    try simp only [Act.put, List.setIfInBounds_toArray, List.set_cons_zero, List.set_cons_succ]
    refine wpAnyH_take (i := 19) (oi := ⟨some 82, _, _, _, _, _⟩) (v := ?_) rfl (by kernel_rfl) (by kernel_rfl) (by kernel_rfl) (fun _ _ _ h => h) (Or.inl ⟨by rfl, ?_⟩) (by assumption) ?_
    rotate_left
    · intro w hSw; (try dsimp only at hSw); go_simp; (try with_reducible rfl)
    try simp only [Act.put, List.setIfInBounds_toArray, List.set_cons_zero, List.set_cons_succ]
    refine wpAnyH_ready (rs := [20]) (by kernel_rfl) (by simp) ?_
    refine AllReadyH.cons (o := ⟨some 83, _, _, _, _, _⟩) rfl (fun K hK => ?_) (AllReadyH.nil)
    go_simp
    go_at_call 33
    refine (HKN.out _ (G10.out.trans (g21.trans E2))).mono ?_
    rintro e v3 ⟨rfl, g23⟩
    have E3 := E2.trans g23
    go_wp2_with fail
    refine hK.out _ _ E3 (fun _ => ?_)
    clear hK K
    try simp only [Act.put, List.setIfInBounds_toArray, List.set_cons_zero, List.set_cons_succ]
    refine wpAnyH_take (i := 21) (oi := ⟨some 84, _, _, _, _, _⟩) (v := ?_) rfl (by kernel_rfl) (by kernel_rfl) (by kernel_rfl) (fun _ _ _ h => h) (Or.inl ⟨by rfl, ?_⟩) (by assumption) ?_
    rotate_left
    · intro w hSw; (try dsimp only at hSw); go_simp; (try with_reducible rfl)
    try simp only [Act.put, List.setIfInBounds_toArray, List.set_cons_zero, List.set_cons_succ]
    refine wpAnyH_take (i := 22) (oi := ⟨some 4, _, _, _, _, _⟩) (v := ?_) rfl (by kernel_rfl) (by kernel_rfl) (by kernel_rfl) (fun _ _ _ h => h) (Or.inl ⟨by rfl, ?_⟩) (by assumption) ?_
    rotate_left
    · intro w hSw; (try dsimp only at hSw); go_simp; (try with_reducible rfl)
    try simp only [Act.put, List.setIfInBounds_toArray, List.set_cons_zero, List.set_cons_succ]
    refine wpAnyH_done (by kernel_rfl) ?_ _
    try simp only [Act.put]
    go_wp2_with fail
    go_ret
    exact ⟨rfl, G10.out.trans (g21.trans E3)⟩

end Go.Proofs.YtglfakglcoffkaaDoor
