/-
  TreeParts, walked.
-/
import Derived.Test.YtglfakglcoffkaaUI
namespace Go.Proofs.Ytglfakglcoffkaa
open Go.RowKit

set_option maxRecDepth 100000 in
set_option maxHeartbeats 64000000 in
theorem tparts_law (L N : List Fil) (A B : Option Addr) (c d : Nat) (path : List UInt8) (Ax : Option Addr) (x : List UInt8) (cx : Nat) (w : World) (hT : TreeAt w A L) (hN : TreeAt w B N)
    (hnl : L.length * 40 ≤ 140737488355328) (hnx : ∀ f ∈ L, f.x.length ≤ 140737488355328) (hol : N.length * 40 ≤ 140737488355328) (hox : ∀ f ∈ N, f.x.length ≤ 140737488355328)
    (hp : path.length ≤ 9223372036854775807) (hf : Fil.ok w ⟨path, Ax, x, cx⟩) :
    Calls Try.prog 4 #[.slice A L.length c, .slice B N.length d, .string ⟨path.toArray⟩, .slice Ax x.length cx] w fun e w' => e = .returned (.bool true) ∧ Chg none w w' := by
  have HK : Hid (∀ v, Calls Try.prog 10 #[] v fun e w' => e = .returned (.bool true) ∧ Chg none v w') := Lib.hid fun v => known5_any v
  have HLL : Hid (L.length ≤ 9223372036854775807) := Lib.hid (by omega)
  have HLN : Hid (N.length ≤ 9223372036854775807) := Lib.hid (by omega)
  have HLM : Hid (L.length ≤ 9223372036854775806) := Lib.hid (by omega)
  have HLM2 : Hid (N.length ≤ 9223372036854775806) := Lib.hid (by omega)
  have HLF : Hid (L.length ≤ 4611686018427387904) := Lib.hid (by omega)
  have hpl := Lib.hid hp
  have HTA := Lib.hid (fun v (g : Chg none w v) => hT.chg g)
  have HTO := Lib.hid (fun v (g : Chg none w v) => hN.chg g)
  have HFX : Hid (∀ v, Chg none w v → Fil.ok v ⟨path, Ax, x, cx⟩) := Lib.hid fun v g => hf.chg g
  have HGL := Lib.hid (great_any L A c w hT HLL.out)
  have HGO := Lib.hid (fun v (g : Chg none w v) => great_any N B d v (hN.chg g) HLN.out)
  have HCL := Lib.hid (fun v (g : Chg none w v) => tcopy_any L A c v (hT.chg g) hnl hnx)
  have HCO := Lib.hid (fun v (g : Chg none w v) => tcopy_any N B d v (hN.chg g) hol hox)
  clear hT hN hnl hnx hol hox hp hf
  go_enter Try.func4, Try.ntmps4
  go_wp2_with fail
  refine HGL.out.mono ?_
  rintro e w1 ⟨b, rfl, g1⟩
  have G1 := Lib.hid g1
  clear g1 HGL
  cases b
  rotate_left
  · as_aux_lemma =>
    go_wp2_with fail
    refine (HK.out _).mono ?_
    rintro e wk ⟨rfl, gk⟩
    have GK := Lib.hid (G1.out.trans gk)
    clear gk
    go_wp2_with fail
    go_ret
    exact ⟨rfl, GK.out⟩
  go_wp2_with fail
  refine (HGO.out _ G1.out).mono ?_
  rintro e w2 ⟨b, rfl, g2⟩
  have G2 := Lib.hid (G1.out.trans g2)
  clear g2 HGO
  cases b
  rotate_left
  · as_aux_lemma =>
    go_wp2_with fail
    refine (HK.out _).mono ?_
    rintro e wk ⟨rfl, gk⟩
    have GK := Lib.hid (G2.out.trans gk)
    clear gk
    go_wp2_with fail
    go_ret
    exact ⟨rfl, GK.out⟩
  by_cases hpp : 1000 < path.length
  · have d1 : decide ((1000 : Int) < (path.length : Int)) = true := by rw [decide_eq_true_eq]; omega
    clear hpp
    as_aux_lemma =>
      go_wp2_with fail
      refine (HK.out _).mono ?_
      rintro e wk ⟨rfl, gk⟩
      have GK := Lib.hid (G2.out.trans gk)
      clear gk
      go_wp2_with fail
      go_ret
      exact ⟨rfl, GK.out⟩
  have d1 : decide ((1000 : Int) < (path.length : Int)) = false := by rw [decide_eq_false_iff_not]; omega
  by_cases hxx : 3000 < x.length
  · have d2 : decide ((3000 : Int) < (x.length : Int)) = true := by rw [decide_eq_true_eq]; omega
    clear hpp hxx
    as_aux_lemma =>
      go_wp2_with fail
      refine (HK.out _).mono ?_
      rintro e wk ⟨rfl, gk⟩
      have GK := Lib.hid (G2.out.trans gk)
      clear gk
      go_wp2_with fail
      go_ret
      exact ⟨rfl, GK.out⟩
  have d2 : decide ((3000 : Int) < (x.length : Int)) = false := by rw [decide_eq_false_iff_not]; omega
  have HXL : Hid (x.length ≤ 1000000) := Lib.hid (by omega)
  have HC2 := Lib.hid (HCL.out w2 G2.out)
  clear hpp hxx HCL
  go_wp2_with fail
  refine HC2.out.mono ?_
  rintro e w3 ⟨A1, c1, M1, rfl, ho1, hk1, hm1⟩
  have G3 := Lib.hid (G2.out.trans ho1.chg)
  have HC3 := Lib.hid (HCO.out w3 G3.out)
  have HO1 := Lib.hid ho1
  have HK1 := Lib.hid hk1
  have HM1 := Lib.hid hm1
  clear ho1 hk1 hm1 HC2 HCO
  go_wp2_with fail
  refine HC3.out.mono ?_
  rintro e w4 ⟨A2, c2, M2, rfl, ho2, hk2, hm2⟩
  have G4 := Lib.hid (G3.out.trans ho2.chg)
  have hkp1 : ∀ m ∈ M1, m.p.length ≤ 9223372036854775807 := fun m hm => by
    have h1 : keyF m ∈ keys L := by rw [← HK1.out]; exact List.mem_map_of_mem hm
    obtain ⟨f, hf, hfe⟩ := List.mem_map.1 h1
    have h2 := ((HTA.out w (Chg.refl _ _)).2 f hf).p
    have h3 : f.p = m.p := congrArg Prod.fst hfe
    rw [← h3]; exact h2
  have hkp2 : ∀ m ∈ M2, m.p.length ≤ 9223372036854775807 := fun m hm => by
    have h1 : keyF m ∈ keys N := by rw [← hk2]; exact List.mem_map_of_mem hm
    obtain ⟨f, hf, hfe⟩ := List.mem_map.1 h1
    have h2 := ((HTO.out w (Chg.refl _ _)).2 f hf).p
    have h3 : f.p = m.p := congrArg Prod.fst hfe
    rw [← h3]; exact h2
  have HT1 : Hid (∀ v, Chg none w4 v → TreeAt v A1 M1) := Lib.hid fun v g => (HO1.out.tree hkp1).chg (ho2.chg.trans g)
  have HT2 : Hid (∀ v, Chg none w4 v → TreeAt v A2 M2) := Lib.hid fun v g => (ho2.tree hkp2).chg g
  have HK2 := Lib.hid hk2
  have HM2 := Lib.hid hm2
  have HL1 : Hid (M1.length ≤ 9223372036854775807) := Lib.hid (by rw [HM1.out]; exact HLL.out)
  have HL2 : Hid (M2.length ≤ 9223372036854775807) := Lib.hid (by rw [hm2]; exact HLN.out)
  have HMY1 : Hid (mayT M1 = mayT L) := Lib.hid (by rw [mayT_keys, HK1.out, ← mayT_keys])
  have HMY2 : Hid (mayT M2 = mayT N) := Lib.hid (by rw [mayT_keys, hk2, ← mayT_keys])
  have HBK1 : Hid (belowA M1 path = belowA L path) := Lib.hid (by unfold belowA; rw [HMY1.out, HK1.out])
  have HMT : Hid (meetsT M1 M2 = meetsT L N) := Lib.hid (meets_keys HK1.out hk2)
  have HGT := Lib.hid (pget_any M1 A1 c1 path w4 (HT1.out w4 (Chg.refl _ _)) HL1.out)
  rw [HM1.out] at HGT
  have HS29 : Hid (∀ v, Chg none w4 v → Calls Try.prog 29 #[.slice A1 L.length c1, .slice A2 N.length c2] v fun e w' => e = .returned (.bool (decide (keys L = keys N))) ∧ Chg none v w') := Lib.hid fun v g => by
    have h := tsame_any M1 M2 A1 A2 c1 c2 v (HT1.out v g) (HT2.out v g) HL1.out
    rw [HM1.out, HM2.out, HK1.out, HK2.out] at h
    exact h
  have HS13 : Hid (∀ v, Chg none w v → Calls Try.prog 13 #[.slice A L.length c, .slice B N.length d] v fun e w' => e = .returned (.bool (decide (keys L = keys N))) ∧ Chg none v w') := Lib.hid fun v g => refsame_any L N A B c d v (HTA.out v g) (HTO.out v g) HLM.out
  have HSI : Hid (∀ v, Chg none w4 v → Calls Try.prog 29 #[.slice A1 L.length c1, .slice A L.length c] v fun e w' => e = .returned (.bool true) ∧ Chg none v w') := Lib.hid fun v g => by
    have h := tsame_any M1 L A1 A c1 c v (HT1.out v g) (HTA.out v (G4.out.trans g)) HL1.out
    rw [HM1.out, decide_eq_true HK1.out] at h
    exact h
  have HE13 : Hid (∀ v, Chg none w4 v → Calls Try.prog 13 #[.slice A1 L.length c1, .slice A L.length c] v fun e w' => e = .returned (.bool true) ∧ Chg none v w') := Lib.hid fun v g => by
    have h := refsame_any M1 L A1 A c1 c v (HT1.out v g) (HTA.out v (G4.out.trans g)) (by rw [HM1.out]; exact HLM.out)
    rw [HM1.out, decide_eq_true HK1.out] at h
    exact h
  have HF13 : Hid (∀ v, Chg none w4 v → Calls Try.prog 13 #[.slice A2 N.length c2, .slice B N.length d] v fun e w' => e = .returned (.bool true) ∧ Chg none v w') := Lib.hid fun v g => by
    have h := refsame_any M2 N A2 B c2 d v (HT2.out v g) (HTO.out v (G4.out.trans g)) (by rw [HM2.out]; exact HLM2.out)
    rw [HM2.out, decide_eq_true HK2.out] at h
    exact h
  have HFD := Lib.hid (fun v (g : Chg none w v) => find_any L A c path v (HTA.out v g) HLF.out)
  have HM20 : Hid (∀ v, Chg none w v → Calls Try.prog 20 #[.slice A L.length c] v fun e w' => e = .returned (.bool (mayT L)) ∧ Chg none v w') := Lib.hid fun v g => refmay_any L A c v (HTA.out v g) HLL.out
  generalize decide (keys L = keys N) = db at *
  obtain ⟨b0, hb0⟩ : ∃ b0, b0 = w4.heap.size := ⟨_, rfl⟩
  have HB0 : Hid (b0 ≤ w4.heap.size ∧ w4.heap.size ≤ b0) := Lib.hid ⟨by omega, by omega⟩
  clear ho2 hk2 hm2 hkp1 hkp2 hb0 HC3 HO1
  go_wp2_with fail
  refine HGT.out.mono ?_
  intro e w7 h7
  have h7 : PGet w4 L path e w7 := by
    unfold PGet at h7 ⊢
    rw [HMY1.out, HK1.out] at h7
    exact h7
  obtain ⟨g7, h7⟩ := h7
  have G47 := Lib.hid g7
  have G7 := Lib.hid (G4.out.trans g7)
  rcases h7 with ⟨hm, rfl⟩ | ⟨hm, hgk, rfl⟩ | ⟨x1, Aa, ca, hm, hgk, rfl, hoa⟩
  · have HFD1 := Lib.hid (HFD.out w7 G7.out)
    rw [hm] at HM20
    clear g7 hm HGT HFD
    go_wp2_with fail
    refine HFD1.out.mono ?_
    rintro e w7' ⟨z, rfl, rfl, -⟩
    have hS0 : Chg none w7 w7.drew := (Chg.refl _ _).drew
    have hb1 : (false != false) = false := rfl
    go_wp2_with fail
    refine wp_region_held_drew (S := fun v => Chg none w7 v) (by kernel_rfl) hS0 (fun _ => ?_)
    refine wpAnyH_take (i := 0) (oi := ⟨some 61, _, _, _, _, _⟩) (v := ?_) rfl (by kernel_rfl) (by kernel_rfl) (by kernel_rfl) (fun _ _ _ h => h) (Or.inl ⟨by rfl, ?_⟩) (by assumption) ?_
    rotate_left
    · intro v hSv; (try dsimp only at hSv); skip; go_simp; (try with_reducible rfl)
    try simp only [Act.put, List.setIfInBounds_toArray, List.set_cons_zero, List.set_cons_succ]
    refine wpAnyH_take (i := 1) (oi := ⟨some 62, _, _, _, _, _⟩) (v := ?_) rfl (by kernel_rfl) (by kernel_rfl) (by kernel_rfl) (fun _ _ _ h => h) (Or.inl ⟨by rfl, ?_⟩) (by assumption) ?_
    rotate_left
    · intro v hSv; (try dsimp only at hSv); skip; go_simp; (try with_reducible rfl)
    try simp only [Act.put, List.setIfInBounds_toArray, List.set_cons_zero, List.set_cons_succ]
    refine wpAnyH_ready (rs := [2]) (by kernel_rfl) (by simp) ?_
    refine AllReadyH.cons (o := ⟨some 63, _, _, _, _, _⟩) rfl (fun K hK => ?_) (AllReadyH.nil)
    go_simp
    go_at_call 20
    refine (HM20.out _ (G7.out.trans hS0)).mono ?_
    rintro e v1 ⟨rfl, gv⟩
    have hS1 : Chg none w7 v1 := hS0.trans gv
    clear gv
    go_wp2_with fail
    refine hK.out _ _ hS1 (fun _ => ?_)
    clear hK K
    try simp only [Act.put, List.setIfInBounds_toArray, List.set_cons_zero, List.set_cons_succ]
    refine wpAnyH_take (i := 3) (oi := ⟨some 64, _, _, _, _, _⟩) (v := ?_) rfl (by kernel_rfl) (by kernel_rfl) (by kernel_rfl) (fun _ _ _ h => h) (Or.inl ⟨by rfl, ?_⟩) (by assumption) ?_
    rotate_left
    · intro v hSv; (try dsimp only at hSv); skip; go_simp; (try with_reducible rfl)
    try simp only [Act.put, List.setIfInBounds_toArray, List.set_cons_zero, List.set_cons_succ]
    refine wpAnyH_take (i := 4) (oi := ⟨some 65, _, _, _, _, _⟩) (v := undef) rfl (by kernel_rfl) (by kernel_rfl) (by kernel_rfl) (fun _ _ _ h => h) (Or.inr ⟨by rfl, by rfl⟩) (by assumption) ?_
    try simp only [Act.put, List.setIfInBounds_toArray, List.set_cons_zero, List.set_cons_succ]
    refine wpAnyH_take (i := 5) (oi := ⟨some 66, _, _, _, _, _⟩) (v := undef) rfl (by kernel_rfl) (by kernel_rfl) (by kernel_rfl) (fun _ _ _ h => h) (Or.inr ⟨by rfl, by rfl⟩) (by assumption) ?_
    try simp only [Act.put, List.setIfInBounds_toArray, List.set_cons_zero, List.set_cons_succ]
    refine wpAnyH_take (i := 6) (oi := ⟨some 67, _, _, _, _, _⟩) (v := ?_) rfl (by kernel_rfl) (by kernel_rfl) (by kernel_rfl) (fun _ _ _ h => h) (Or.inl ⟨by rfl, ?_⟩) (by assumption) ?_
    rotate_left
    · intro v hSv; (try dsimp only at hSv); skip; go_simp; (try with_reducible rfl)
    try simp only [Act.put, List.setIfInBounds_toArray, List.set_cons_zero, List.set_cons_succ]
    refine wpAnyH_take (i := 7) (oi := ⟨some 68, _, _, _, _, _⟩) (v := ?_) rfl (by kernel_rfl) (by kernel_rfl) (by kernel_rfl) (fun _ _ _ h => h) (Or.inl ⟨by rfl, ?_⟩) (by assumption) ?_
    rotate_left
    · intro v hSv; (try dsimp only at hSv); skip; go_simp; (try with_reducible rfl)
    try simp only [Act.put, List.setIfInBounds_toArray, List.set_cons_zero, List.set_cons_succ]
    refine wpAnyH_take (i := 8) (oi := ⟨some 69, _, _, _, _, _⟩) (v := ?_) rfl (by kernel_rfl) (by kernel_rfl) (by kernel_rfl) (fun _ _ _ h => h) (Or.inl ⟨by rfl, ?_⟩) (by assumption) ?_
    rotate_left
    · intro v hSv; (try dsimp only at hSv); skip; go_simp; (try with_reducible rfl)
    try simp only [Act.put, List.setIfInBounds_toArray, List.set_cons_zero, List.set_cons_succ]
    refine wpAnyH_take (i := 9) (oi := ⟨some 70, _, _, _, _, _⟩) (v := ?_) rfl (by kernel_rfl) (by kernel_rfl) (by kernel_rfl) (fun _ _ _ h => h) (Or.inl ⟨by rfl, ?_⟩) (by assumption) ?_
    rotate_left
    · intro v hSv; (try dsimp only at hSv); skip; go_simp; (try with_reducible rfl)
    try simp only [Act.put, List.setIfInBounds_toArray, List.set_cons_zero, List.set_cons_succ]
    refine wpAnyH_take (i := 10) (oi := ⟨some 71, _, _, _, _, _⟩) (v := ?_) rfl (by kernel_rfl) (by kernel_rfl) (by kernel_rfl) (fun _ _ _ h => h) (Or.inl ⟨by rfl, ?_⟩) (by assumption) ?_
    rotate_left
    · intro v hSv; (try dsimp only at hSv); skip; go_simp; (try with_reducible rfl)
    try simp only [Act.put, List.setIfInBounds_toArray, List.set_cons_zero, List.set_cons_succ]
    refine wpAnyH_take (i := 11) (oi := ⟨some 72, _, _, _, _, _⟩) (v := undef) rfl (by kernel_rfl) (by kernel_rfl) (by kernel_rfl) (fun _ _ _ h => h) (Or.inr ⟨by rfl, by rfl⟩) (by assumption) ?_
    try simp only [Act.put, List.setIfInBounds_toArray, List.set_cons_zero, List.set_cons_succ]
    refine wpAnyH_take (i := 12) (oi := ⟨some 73, _, _, _, _, _⟩) (v := undef) rfl (by kernel_rfl) (by kernel_rfl) (by kernel_rfl) (fun _ _ _ h => h) (Or.inr ⟨by rfl, by rfl⟩) (by assumption) ?_
    try simp only [Act.put, List.setIfInBounds_toArray, List.set_cons_zero, List.set_cons_succ]
    refine wpAnyH_take (i := 13) (oi := ⟨some 74, _, _, _, _, _⟩) (v := undef) rfl (by kernel_rfl) (by kernel_rfl) (by kernel_rfl) (fun _ _ _ h => h) (Or.inr ⟨by rfl, by rfl⟩) (by assumption) ?_
    try simp only [Act.put, List.setIfInBounds_toArray, List.set_cons_zero, List.set_cons_succ]
    refine wpAnyH_take (i := 14) (oi := ⟨some 75, _, _, _, _, _⟩) (v := undef) rfl (by kernel_rfl) (by kernel_rfl) (by kernel_rfl) (fun _ _ _ h => h) (Or.inr ⟨by rfl, by rfl⟩) (by assumption) ?_
    try simp only [Act.put, List.setIfInBounds_toArray, List.set_cons_zero, List.set_cons_succ]
    refine wpAnyH_take (i := 15) (oi := ⟨some 76, _, _, _, _, _⟩) (v := undef) rfl (by kernel_rfl) (by kernel_rfl) (by kernel_rfl) (fun _ _ _ h => h) (Or.inr ⟨by rfl, by rfl⟩) (by assumption) ?_
    try simp only [Act.put, List.setIfInBounds_toArray, List.set_cons_zero, List.set_cons_succ]
    refine wpAnyH_take (i := 16) (oi := ⟨some 77, _, _, _, _, _⟩) (v := undef) rfl (by kernel_rfl) (by kernel_rfl) (by kernel_rfl) (fun _ _ _ h => h) (Or.inr ⟨by rfl, by rfl⟩) (by assumption) ?_
    try simp only [Act.put, List.setIfInBounds_toArray, List.set_cons_zero, List.set_cons_succ]
    refine wpAnyH_take (i := 17) (oi := ⟨some 78, _, _, _, _, _⟩) (v := undef) rfl (by kernel_rfl) (by kernel_rfl) (by kernel_rfl) (fun _ _ _ h => h) (Or.inr ⟨by rfl, by rfl⟩) (by assumption) ?_
    try simp only [Act.put, List.setIfInBounds_toArray, List.set_cons_zero, List.set_cons_succ]
    refine wpAnyH_take (i := 18) (oi := ⟨some 79, _, _, _, _, _⟩) (v := undef) rfl (by kernel_rfl) (by kernel_rfl) (by kernel_rfl) (fun _ _ _ h => h) (Or.inr ⟨by rfl, by rfl⟩) (by assumption) ?_
    try simp only [Act.put, List.setIfInBounds_toArray, List.set_cons_zero, List.set_cons_succ]
    refine wpAnyH_take (i := 19) (oi := ⟨some 80, _, _, _, _, _⟩) (v := undef) rfl (by kernel_rfl) (by kernel_rfl) (by kernel_rfl) (fun _ _ _ h => h) (Or.inr ⟨by rfl, by rfl⟩) (by assumption) ?_
    try simp only [Act.put, List.setIfInBounds_toArray, List.set_cons_zero, List.set_cons_succ]
    refine wpAnyH_take (i := 20) (oi := ⟨some 81, _, _, _, _, _⟩) (v := ?_) rfl (by kernel_rfl) (by kernel_rfl) (by kernel_rfl) (fun _ _ _ h => h) (Or.inl ⟨by rfl, ?_⟩) (by assumption) ?_
    rotate_left
    · intro v hSv; (try dsimp only at hSv); skip; go_simp; (try with_reducible rfl)
    try simp only [Act.put, List.setIfInBounds_toArray, List.set_cons_zero, List.set_cons_succ]
    refine wpAnyH_take (i := 21) (oi := ⟨some 82, _, _, _, _, _⟩) (v := ?_) rfl (by kernel_rfl) (by kernel_rfl) (by kernel_rfl) (fun _ _ _ h => h) (Or.inl ⟨by rfl, ?_⟩) (by assumption) ?_
    rotate_left
    · intro v hSv; (try dsimp only at hSv); skip; go_simp; (try with_reducible rfl)
    try simp only [Act.put, List.setIfInBounds_toArray, List.set_cons_zero, List.set_cons_succ]
    refine wpAnyH_take (i := 22) (oi := ⟨some 83, _, _, _, _, _⟩) (v := ?_) rfl (by kernel_rfl) (by kernel_rfl) (by kernel_rfl) (fun _ _ _ h => h) (Or.inl ⟨by rfl, ?_⟩) (by assumption) ?_
    rotate_left
    · intro v hSv; (try dsimp only at hSv); skip; go_simp; (try with_reducible rfl)
    try simp only [Act.put, List.setIfInBounds_toArray, List.set_cons_zero, List.set_cons_succ]
    refine wpAnyH_take (i := 23) (oi := ⟨some 84, _, _, _, _, _⟩) (v := ?_) rfl (by kernel_rfl) (by kernel_rfl) (by kernel_rfl) (fun _ _ _ h => h) (Or.inl ⟨by rfl, ?_⟩) (by assumption) ?_
    rotate_left
    · intro v hSv; (try dsimp only at hSv); skip; go_simp; (try with_reducible rfl)
    try simp only [Act.put, List.setIfInBounds_toArray, List.set_cons_zero, List.set_cons_succ]
    refine wpAnyH_take (i := 24) (oi := ⟨some 85, _, _, _, _, _⟩) (v := ?_) rfl (by kernel_rfl) (by kernel_rfl) (by kernel_rfl) (fun _ _ _ h => h) (Or.inl ⟨by rfl, ?_⟩) (by assumption) ?_
    rotate_left
    · intro v hSv; (try dsimp only at hSv); skip; go_simp; (try with_reducible rfl)
    try simp only [Act.put, List.setIfInBounds_toArray, List.set_cons_zero, List.set_cons_succ]
    refine wpAnyH_take (i := 25) (oi := ⟨some 86, _, _, _, _, _⟩) (v := ?_) rfl (by kernel_rfl) (by kernel_rfl) (by kernel_rfl) (fun _ _ _ h => h) (Or.inl ⟨by rfl, ?_⟩) (by assumption) ?_
    rotate_left
    · intro v hSv; (try dsimp only at hSv); skip; go_simp; (try with_reducible rfl)
    try simp only [Act.put, List.setIfInBounds_toArray, List.set_cons_zero, List.set_cons_succ]
    refine wpAnyH_take (i := 26) (oi := ⟨some 87, _, _, _, _, _⟩) (v := ?_) rfl (by kernel_rfl) (by kernel_rfl) (by kernel_rfl) (fun _ _ _ h => h) (Or.inl ⟨by rfl, ?_⟩) (by assumption) ?_
    rotate_left
    · intro v hSv; (try dsimp only at hSv); skip; go_simp; (try with_reducible rfl)
    try simp only [Act.put, List.setIfInBounds_toArray, List.set_cons_zero, List.set_cons_succ]
    refine wpAnyH_take (i := 27) (oi := ⟨some 88, _, _, _, _, _⟩) (v := ?_) rfl (by kernel_rfl) (by kernel_rfl) (by kernel_rfl) (fun _ _ _ h => h) (Or.inl ⟨by rfl, ?_⟩) (by assumption) ?_
    rotate_left
    · intro v hSv; (try dsimp only at hSv); skip; go_simp; (try with_reducible rfl)
    try simp only [Act.put, List.setIfInBounds_toArray, List.set_cons_zero, List.set_cons_succ]
    refine wpAnyH_take (i := 28) (oi := ⟨some 89, _, _, _, _, _⟩) (v := ?_) rfl (by kernel_rfl) (by kernel_rfl) (by kernel_rfl) (fun _ _ _ h => h) (Or.inl ⟨by rfl, ?_⟩) (by assumption) ?_
    rotate_left
    · intro v hSv; (try dsimp only at hSv); skip; go_simp; (try with_reducible rfl)
    try simp only [Act.put, List.setIfInBounds_toArray, List.set_cons_zero, List.set_cons_succ]
    refine wpAnyH_take (i := 29) (oi := ⟨some 90, _, _, _, _, _⟩) (v := ?_) rfl (by kernel_rfl) (by kernel_rfl) (by kernel_rfl) (fun _ _ _ h => h) (Or.inl ⟨by rfl, ?_⟩) (by assumption) ?_
    rotate_left
    · intro v hSv; (try dsimp only at hSv); skip; go_simp; (try with_reducible rfl)
    try simp only [Act.put, List.setIfInBounds_toArray, List.set_cons_zero, List.set_cons_succ]
    refine wpAnyH_take (i := 30) (oi := ⟨some 91, _, _, _, _, _⟩) (v := ?_) rfl (by kernel_rfl) (by kernel_rfl) (by kernel_rfl) (fun _ _ _ h => h) (Or.inl ⟨by rfl, ?_⟩) (by assumption) ?_
    rotate_left
    · intro v hSv; (try dsimp only at hSv); skip; go_simp; (try with_reducible rfl)
    try simp only [Act.put, List.setIfInBounds_toArray, List.set_cons_zero, List.set_cons_succ]
    refine wpAnyH_done (by kernel_rfl) ?_ _
    obtain ⟨w8, rfl⟩ : ∃ v, v = v1 := ⟨_, rfl⟩
    have G48 := Lib.hid (G47.out.trans hS1)
    have HRA : Hid (∀ v, Chg none w8 v → RowC b0 v none 0) := Lib.hid fun v g h => absurd h (Nat.lt_irrefl 0)
    obtain ⟨Aa, hAa⟩ : ∃ Aa : Option Addr, Aa = none := ⟨_, rfl⟩
    obtain ⟨na, hna⟩ : ∃ na : Nat, na = 0 := ⟨_, rfl⟩
    obtain ⟨ca, hca⟩ : ∃ ca : Nat, ca = 0 := ⟨_, rfl⟩
    rw [← hAa, ← hna] at HRA
    have HNA : Hid (na ≤ 1000000) := Lib.hid (by omega)
    have HSL : Hid (Value.slice none 0 0 = .slice Aa na ca) := Lib.hid (by rw [hAa, hna, hca])
    clear hAa hna hca hS0 hS1 hb1
    rw [HSL.out]
    have HP1 := Lib.hid (pwith_any M1 A1 c1 path Ax x cx w8 (HT1.out w8 G48.out) HL1.out hpl.out (HFX.out w8 (G4.out.trans G48.out)).t (HFX.out w8 (G4.out.trans G48.out)).nil HXL.out)
    rw [HM1.out, HK1.out, HMY1.out] at HP1
    go_wp2_with fail
    refine HP1.out.mono ?_
    intro e w9 h9
    obtain ⟨n1, Ab, cb, Mb, rfl, g9, hc1, htb, hob⟩ := pval_of h9
    have G9 := Lib.hid (G48.out.trans g9)
    have K89 := Lib.hid g9
    have HTB := Lib.hid htb
    have HOB := Lib.hid hob
    have HC1 := Lib.hid hc1
    clear h9 g9 hc1 htb hob HP1
    have HR1 := Lib.hid (rwith_any L A c path Ax x cx w9 (HTA.out w9 (G4.out.trans G9.out)) HLL.out hpl.out (fun v g => HFX.out v ((G4.out.trans G9.out).trans g)))
    go_wp2_with fail
    refine HR1.out.mono ?_
    intro e wA hA
    obtain ⟨n1', Ap, cp, Mp, rfl, gA, hc1, htp⟩ := rval_of hA
    obtain rfl : n1 = n1' := HC1.out.one hc1
    have GA := Lib.hid (G9.out.trans gA)
    have K8A := Lib.hid (K89.out.trans gA)
    have hk : keys Mb = keys Mp := HTB.out.same htp
    have HBP : Hid (∀ v, Chg none wA v → Calls Try.prog 13 #[.slice Ab Mb.length cb, .slice Ap Mp.length cp] v fun e w' => e = .returned (.bool true) ∧ Chg none v w') := Lib.hid fun v g => by
      have h := refsame_any Mb Mp Ab Ap cb cp v (HTB.out.tree.chg (gA.trans g)) (htp.tree.chg g) (by have := HTB.out.len; omega)
      rw [decide_eq_true hk] at h
      exact h
    have HSB : Hid (∀ v, Chg none wA v → SpoilAt b0 v Ab Mb) := Lib.hid fun v g => SpoilAt.of (HTB.out.tree.chg (gA.trans g)) ((HOB.out.chg (gA.trans g)).rows (by have := HB0.out; have := G48.out.size; omega))
    have HLB : Hid (Mb.length ≤ 16 ∧ ∀ m ∈ Mb, m.x.length ≤ 2000) := Lib.hid ⟨HTB.out.len, HTB.out.byt⟩
    clear hA gA hc1 htp hk HR1 HTB HOB HC1
    have HP2 := Lib.hid (pbelow_any M1 A1 c1 path wA (HT1.out wA GA.out) HL1.out hpl.out)
    rw [HM1.out, HBK1.out] at HP2
    go_wp2_with fail
    refine HP2.out.mono ?_
    intro e wB hB
    obtain ⟨Ac, cc, Mc, rfl, gB, htc, hoc, hkc, hlc⟩ := hB
    have GB := Lib.hid (GA.out.trans gB)
    have K8B := Lib.hid (K8A.out.trans gB)
    have KB := Lib.hid gB
    have HTC := Lib.hid htc
    have HKC := Lib.hid hkc
    have HLC : Hid (Mc.length ≤ 16 ∧ ∀ m ∈ Mc, m.x.length ≤ 2000) := Lib.hid ⟨hlc, below_byt hkc⟩
    have HOC : Hid (OwnB wA wB Mc) := Lib.hid hoc
    clear gB htc hoc hkc hlc HP2
    have HR2 := Lib.hid (rbelow_any L A c path wB (HTA.out wB (G4.out.trans GB.out)) HLL.out hpl.out)
    go_wp2_with fail
    refine HR2.out.mono ?_
    intro e wC hC
    obtain ⟨Aq, cq, Mq, rfl, gC, htq, hkq, hlq⟩ := hC
    have GC := Lib.hid (GB.out.trans gC)
    have K8C := Lib.hid (K8B.out.trans gC)
    have KC := Lib.hid (KB.out.trans gC)
    have hk : keys Mc = keys Mq := by rw [HKC.out, hkq]
    have HCQ : Hid (∀ v, Chg none wC v → Calls Try.prog 13 #[.slice Ac Mc.length cc, .slice Aq Mq.length cq] v fun e w' => e = .returned (.bool true) ∧ Chg none v w') := Lib.hid fun v g => by
      have h := refsame_any Mc Mq Ac Aq cc cq v (HTC.out.chg (gC.trans g)) (htq.chg g) (by have := HLC.out.1; omega)
      rw [decide_eq_true hk] at h
      exact h
    have HSC : Hid (∀ v, Chg none wC v → SpoilAt b0 v Ac Mc) := Lib.hid fun v g => SpoilAt.of (HTC.out.chg (gC.trans g)) ((HOC.out.chg (gC.trans g)).rows (by have := HB0.out; have := GA.out.size; omega))
    clear gC htq hkq hlq hk HR2 HTC HKC HOC KB
    have HP3 := Lib.hid (punder_any M1 A1 c1 path wC (HT1.out wC GC.out) HL1.out hpl.out)
    rw [HM1.out, HK1.out, HMY1.out] at HP3
    go_wp2_with fail
    refine HP3.out.mono ?_
    intro e wD hD
    obtain ⟨n2, Ad, cd, Md, rfl, gD, hc1, htb, hob⟩ := pval_of hD
    have GD := Lib.hid (GC.out.trans gD)
    have K8D := Lib.hid (K8C.out.trans gD)
    have KD := Lib.hid (KC.out.trans gD)
    have LD := Lib.hid gD
    have HTB := Lib.hid htb
    have HOB := Lib.hid hob
    have HC1 := Lib.hid hc1
    clear hD gD hc1 htb hob HP3 KC
    have HR3 := Lib.hid (runder_any L A c path wD (HTA.out wD (G4.out.trans GD.out)) HLL.out hpl.out)
    go_wp2_with fail
    refine HR3.out.mono ?_
    intro e wE hE
    obtain ⟨n2', Ar, cr, Mr, rfl, gE, hc1, htp⟩ := rval_of hE
    obtain rfl : n2 = n2' := HC1.out.one hc1
    have GE := Lib.hid (GD.out.trans gE)
    have K8E := Lib.hid (K8D.out.trans gE)
    have KE := Lib.hid (KD.out.trans gE)
    have LE := Lib.hid (LD.out.trans gE)
    have hk : keys Md = keys Mr := HTB.out.same htp
    have HDR : Hid (∀ v, Chg none wE v → Calls Try.prog 13 #[.slice Ad Md.length cd, .slice Ar Mr.length cr] v fun e w' => e = .returned (.bool true) ∧ Chg none v w') := Lib.hid fun v g => by
      have h := refsame_any Md Mr Ad Ar cd cr v (HTB.out.tree.chg (gE.trans g)) (htp.tree.chg g) (by have := HTB.out.len; omega)
      rw [decide_eq_true hk] at h
      exact h
    have HSD : Hid (∀ v, Chg none wE v → SpoilAt b0 v Ad Md) := Lib.hid fun v g => SpoilAt.of (HTB.out.tree.chg (gE.trans g)) ((HOB.out.chg (gE.trans g)).rows (by have := HB0.out; have := GC.out.size; omega))
    have HLD : Hid (Md.length ≤ 16 ∧ ∀ m ∈ Md, m.x.length ≤ 2000) := Lib.hid ⟨HTB.out.len, HTB.out.byt⟩
    clear hE gE hc1 htp hk HR3 HTB HOB HC1 KD LD
    have HP4 := Lib.hid (pjoin_any M1 M2 A1 A2 c1 c2 wE (HT1.out wE GE.out) (HT2.out wE GE.out) HL1.out HL2.out)
    rw [HM1.out, HM2.out, HK1.out, HK2.out, HMY1.out, HMY2.out, HMT.out] at HP4
    go_wp2_with fail
    refine HP4.out.mono ?_
    intro e wF hF
    obtain ⟨n3, Aj, cj, Mj, rfl, gF, hc1, htb, hob⟩ := pval_of hF
    have GF := Lib.hid (GE.out.trans gF)
    have K8F := Lib.hid (K8E.out.trans gF)
    have KF := Lib.hid (KE.out.trans gF)
    have LF := Lib.hid (LE.out.trans gF)
    have NF := Lib.hid gF
    have HTB := Lib.hid htb
    have HOB := Lib.hid hob
    have HC1 := Lib.hid hc1
    clear hF gF hc1 htb hob HP4 KE LE
    have HR4 := Lib.hid (rjoin_any L N A B c d wF (HTA.out wF (G4.out.trans GF.out)) (HTO.out wF (G4.out.trans GF.out)) HLL.out HLN.out)
    go_wp2_with fail
    refine HR4.out.mono ?_
    intro e wG hG
    obtain ⟨n3', As, cs, Ms, rfl, gG, hc1, htp⟩ := rval_of hG
    obtain rfl : n3 = n3' := HC1.out.one hc1
    have GG := Lib.hid (GF.out.trans gG)
    have K8G := Lib.hid (K8F.out.trans gG)
    have KG := Lib.hid (KF.out.trans gG)
    have LG := Lib.hid (LF.out.trans gG)
    have NG := Lib.hid (NF.out.trans gG)
    have hk : keys Mj = keys Ms := HTB.out.same htp
    have HJS : Hid (∀ v, Chg none wG v → Calls Try.prog 13 #[.slice Aj Mj.length cj, .slice As Ms.length cs] v fun e w' => e = .returned (.bool true) ∧ Chg none v w') := Lib.hid fun v g => by
      have h := refsame_any Mj Ms Aj As cj cs v (HTB.out.tree.chg (gG.trans g)) (htp.tree.chg g) (by have := HTB.out.len; omega)
      rw [decide_eq_true hk] at h
      exact h
    have HSJ : Hid (∀ v, Chg none wG v → SpoilAt b0 v Aj Mj) := Lib.hid fun v g => SpoilAt.of (HTB.out.tree.chg (gG.trans g)) ((HOB.out.chg (gG.trans g)).rows (by have := HB0.out; have := GE.out.size; omega))
    have HLJ : Hid (Mj.length ≤ 16 ∧ ∀ m ∈ Mj, m.x.length ≤ 2000) := Lib.hid ⟨HTB.out.len, HTB.out.byt⟩
    have GA8 := K8G
    clear hG gG hc1 htp hk HR4 HTB HOB HC1 KF LF NF G9 GA GB GC GD GE GF K89 K8A K8B K8C K8D K8E K8F K8G
    have hn1 : (n1 != n1) = false := by simp
    have hn2 : (n2 != n2) = false := by simp
    have hn3 : (n3 != n3) = false := by simp
    have hdb : (db != db) = false := by simp
    go_wp2_with fail
    refine (HBP.out _ (KG.out)).mono ?_
    rintro e x1 ⟨rfl, gs⟩
    have Sx1 := Lib.hid (gs)
    clear gs
    go_wp2_with fail
    refine (HCQ.out _ (LG.out.trans Sx1.out)).mono ?_
    rintro e x2 ⟨rfl, gs⟩
    have Sx2 := Lib.hid (Sx1.out.trans gs)
    clear gs
    go_wp2_with fail
    refine (HDR.out _ (NG.out.trans Sx2.out)).mono ?_
    rintro e x3 ⟨rfl, gs⟩
    have Sx3 := Lib.hid (Sx2.out.trans gs)
    clear gs
    go_wp2_with fail
    refine (HJS.out _ Sx3.out).mono ?_
    rintro e x4 ⟨rfl, gs⟩
    have Sx4 := Lib.hid (Sx3.out.trans gs)
    clear gs
    go_wp2_with fail
    refine (HS29.out _ (GG.out.trans Sx4.out)).mono ?_
    rintro e x5 ⟨rfl, gs⟩
    have Sx5 := Lib.hid (Sx4.out.trans gs)
    clear gs
    go_wp2_with fail
    refine (HS13.out _ (G4.out.trans (GG.out.trans Sx5.out))).mono ?_
    rintro e x6 ⟨rfl, gs⟩
    have Sx6 := Lib.hid (Sx5.out.trans gs)
    clear gs
    go_wp2_with fail
    refine (HSI.out _ (GG.out.trans Sx6.out)).mono ?_
    rintro e x7 ⟨rfl, gs⟩
    have Sx7 := Lib.hid (Sx6.out.trans gs)
    clear gs
    obtain ⟨wT, rfl⟩ : ∃ v, v = x7 := ⟨_, rfl⟩
    have GT : Hid (Chg none w4 wT) := Lib.hid (GG.out.trans Sx7.out)
    have KA := Lib.hid (G48.out)
    have HRA2 : Hid (∀ v, Spoilt b0 wT v → RowC b0 v Aa na) := Lib.hid fun v s => (HRA.out wT (GA8.out.trans Sx7.out)).spoilt s
    have HB2 : Hid (∀ v, Spoilt b0 wT v → SpoilAt b0 v Ab Mb) := Lib.hid fun v s => (HSB.out wT (KG.out.trans Sx7.out)).spoilt s
    have HC2 : Hid (∀ v, Spoilt b0 wT v → SpoilAt b0 v Ac Mc) := Lib.hid fun v s => (HSC.out wT (LG.out.trans Sx7.out)).spoilt s
    have HD2 : Hid (∀ v, Spoilt b0 wT v → SpoilAt b0 v Ad Md) := Lib.hid fun v s => (HSD.out wT (NG.out.trans Sx7.out)).spoilt s
    have HJ2 : Hid (∀ v, Spoilt b0 wT v → SpoilAt b0 v Aj Mj) := Lib.hid fun v s => (HSJ.out wT Sx7.out).spoilt s
    clear HRA HSB HSC HSD HSJ KG LG NG GG Sx1 Sx2 Sx3 Sx4 Sx5 Sx6 Sx7 HS29 HS13 HSI HBP HCQ HDR HJS hn1 hn2 hn3 hdb GA8
    go_wp2_with fail
    go_loopw [190] (fun s190 wr => ∃ k : Nat, s190 = .int .i64 k ∧ Hid (k ≤ na) ∧ Hid (Spoilt b0 wT wr)) (fun s190 _ => na - (intOf s190).toNat)
    case atStart => exact ⟨0, rfl, Lib.hid (Nat.zero_le _), Lib.hid (Spoilt.refl _ _)⟩
    case round =>
      obtain ⟨k, rfl, H1, H2⟩ := hrel
      by_cases hlt : k < na
      · have hdd : decide ((k : Int) < (na : Int)) = true := by rw [decide_eq_true_eq]; omega
        obtain ⟨g, rfl, hg, hrow⟩ := HRA2.out wr H2.out (by omega)
        obtain ⟨y, hy0, hy1, hcy, hfy⟩ := hrow k hlt
        have hna := HNA.out
        have HLT := Lib.hid hlt
        have HCX := Lib.hid hcy
        have HG := Lib.hid hg
        clear hrow hg
        go_wp2_with fail
        go_roundw
        case rel => exact ⟨k + 1, by first | rfl | go_num, Lib.hid HLT.out, Lib.hid (H2.out.trans (Spoilt.set HG.out HCX.out (by omega) (by omega)))⟩
        case measure => have := HLT.out; first | omega | (simp only [intOf]; omega) | (simp [intOf]; omega)
      · have hdd : decide (k < na) = false := by rw [decide_eq_false_iff_not]; exact hlt
        have hd2 : decide ((k : Int) < (na : Int)) = false := by rw [decide_eq_false_iff_not]; omega
        obtain ⟨wU, rfl⟩ : ∃ v, v = wr := ⟨_, rfl⟩
        have GU : Hid (Chg none w4 wU) := Lib.hid (H2.out.chg GT.out HB0.out.2)
        obtain ⟨wV, hwV⟩ : ∃ v, v = wU.alloc (.cells #[.slice Ab Mb.length cb, .slice Ac Mc.length cc, .slice Ad Md.length cd, .slice Aj Mj.length cj] 25) := ⟨_, rfl⟩
        have gV : Chg none wU wV := by rw [hwV]; exact (Chg.refl _ _).alloc _
        have hbV : Blk wV wU.heap.size #[.slice Ab Mb.length cb, .slice Ac Mc.length cc, .slice Ad Md.length cd, .slice Aj Mj.length cj] 25 := by rw [hwV]; exact Blk.new _ _ _
        have GV : Hid (Chg none w4 wV) := Lib.hid (GU.out.trans gV)
        have hsp : ∀ {A' : Option Addr} {M' : List Fil}, SpoilAt b0 wU A' M' → SpoilAt b0 wV A' M' := fun h => h.grow gV
        have HV : Hid (∀ k : Nat, k < 4 → ∃ (A' : Option Addr) (M' : List Fil) (c' : Nat), (∀ v, Spoilt b0 wV v → v.cell? ⟨wU.heap.size, k, none⟩ = some (.slice A' M'.length c') ∧ SpoilAt b0 v A' M') ∧ M'.length ≤ 16 ∧ ∀ m ∈ M', m.x.length ≤ 1000000) := Lib.hid fun k hk => by
          have hcell : ∀ (j : Nat) (u : Value), (#[.slice Ab Mb.length cb, .slice Ac Mc.length cc, .slice Ad Md.length cd, .slice Aj Mj.length cj] : Array Value)[j]? = some u → (∀ z, u ≠ .int .u8 z) → ∀ v, Spoilt b0 wV v → v.cell? ⟨wU.heap.size, j, none⟩ = some u := fun j u hu hne v s => by
            rcases s.cell ⟨wU.heap.size, j, none⟩ u (by rw [hbV.cell]; exact hu) with h | ⟨z, _, e, _⟩
            · exact h
            · exact absurd e (hne z)
          match k, hk with
          | 0, _ => exact ⟨Ab, Mb, cb, fun v s => ⟨hcell 0 _ rfl (fun z e => by cases e) v s, (hsp (HB2.out wU H2.out)).spoilt s⟩, HLB.out.1, fun m hm => by have := HLB.out.2 m hm; omega⟩
          | 1, _ => exact ⟨Ac, Mc, cc, fun v s => ⟨hcell 1 _ rfl (fun z e => by cases e) v s, (hsp (HC2.out wU H2.out)).spoilt s⟩, HLC.out.1, fun m hm => by have := HLC.out.2 m hm; omega⟩
          | 2, _ => exact ⟨Ad, Md, cd, fun v s => ⟨hcell 2 _ rfl (fun z e => by cases e) v s, (hsp (HD2.out wU H2.out)).spoilt s⟩, HLD.out.1, fun m hm => by have := HLD.out.2 m hm; omega⟩
          | 3, _ => exact ⟨Aj, Mj, cj, fun v s => ⟨hcell 3 _ rfl (fun z e => by cases e) v s, (hsp (HJ2.out wU H2.out)).spoilt s⟩, HLJ.out.1, fun m hm => by have := HLJ.out.2 m hm; omega⟩
        have hlV : wU.heap.size < wV.heap.size := hbV.lt
        have HLV := Lib.hid hlV
        have HWV := Lib.hid hwV
        clear hlt hwV gV hbV hsp hlV HB2 HC2 HD2 HJ2 HRA2 HLB HLC HLD HLJ
        go_wp2_with fail
        rw [← HWV.out]
        clear HWV
        generalize wU.heap.size = pv at *
        go_loopw [206] (fun s206 wr => ∃ k : Nat, s206 = .int .i64 k ∧ Hid (k ≤ 4) ∧ Hid (Spoilt b0 wV wr)) (fun s206 _ => 4 - (intOf s206).toNat)
        case atStart => exact ⟨0, rfl, Lib.hid (Nat.zero_le _), Lib.hid (Spoilt.refl _ _)⟩
        case round =>
          obtain ⟨k, rfl, H3, H4⟩ := hrel
          by_cases hlt : k < 4
          · have hd4 : decide ((k : Int) < 4) = true := by rw [decide_eq_true_eq]; omega
            have hlt4 : (k : Int) < 4 := by omega
            obtain ⟨A', M', c', hv, hl', hx'⟩ := HV.out k hlt
            have cv := (hv wr H4.out).1
            have HSP := Lib.hid (spoil_any b0 M' A' c' wr (hv wr H4.out).2 hl' hx')
            have HLT := Lib.hid hlt
            clear hv hl' hx'
            go_wp2_with fail
            refine HSP.out.mono ?_
            rintro e wW ⟨rfl, gW⟩
            have GW := Lib.hid (H4.out.trans gW)
            clear gW HSP cv
            go_wp2_with fail
            go_roundw
            case rel => exact ⟨k + 1, by first | rfl | go_num, Lib.hid HLT.out, GW⟩
            case measure => have := HLT.out; first | omega | (simp only [intOf]; omega) | (simp [intOf]; omega)
          · have hk4 : k = 4 := by have := H3.out; omega
            have hd4 : decide ((k : Int) < 4) = false := by rw [decide_eq_false_iff_not]; omega
            have hlt4 : ¬ (k : Int) < 4 := by omega
            have GX : Hid (Chg none w4 wr) := Lib.hid (H4.out.chg GV.out HB0.out.2)
            clear hk4 HV
            go_wp2_with fail
            refine (HE13.out _ GX.out).mono ?_
            rintro e wY ⟨rfl, gY⟩
            have GY := Lib.hid (GX.out.trans gY)
            clear gY
            go_wp2_with fail
            refine (HF13.out _ GY.out).mono ?_
            rintro e wZ ⟨rfl, gZ⟩
            have GZ := Lib.hid (GY.out.trans gZ)
            clear gZ
            go_wp2_with fail
            refine (HK.out _).mono ?_
            rintro e wk ⟨rfl, gk⟩
            have GK := Lib.hid (G4.out.trans (GZ.out.trans gk))
            clear gk
            go_wp2_with fail
            go_ret
            exact ⟨rfl, GK.out⟩
  · have hno : ∀ f ∈ L, f.p ≠ path := fun f hf e => getK_none.1 hgk (keyF f) (List.mem_map_of_mem hf) e
    have HFD1 := Lib.hid (HFD.out w7 G7.out)
    rw [hm] at HM20
    clear g7 hm HGT HFD hgk
    go_wp2_with fail
    refine HFD1.out.mono ?_
    rintro e w7' ⟨z, rfl, rfl, hz⟩
    obtain rfl : z = -1 := by
      rcases hz with ⟨h, -⟩ | ⟨i, f, -, h2, h3, -⟩
      · exact h
      · exact absurd h3 (hno f (List.mem_of_getElem? h2))
    clear hno hz
    have hS0 : Chg none w7 w7.drew := (Chg.refl _ _).drew
    have hb1 : (false != false) = false := rfl
    go_wp2_with fail
    refine wp_region_held_drew (S := fun v => Chg none w7 v) (by kernel_rfl) hS0 (fun _ => ?_)
    refine wpAnyH_take (i := 0) (oi := ⟨some 61, _, _, _, _, _⟩) (v := ?_) rfl (by kernel_rfl) (by kernel_rfl) (by kernel_rfl) (fun _ _ _ h => h) (Or.inl ⟨by rfl, ?_⟩) (by assumption) ?_
    rotate_left
    · intro v hSv; (try dsimp only at hSv); skip; go_simp; (try with_reducible rfl)
    try simp only [Act.put, List.setIfInBounds_toArray, List.set_cons_zero, List.set_cons_succ]
    refine wpAnyH_take (i := 1) (oi := ⟨some 62, _, _, _, _, _⟩) (v := ?_) rfl (by kernel_rfl) (by kernel_rfl) (by kernel_rfl) (fun _ _ _ h => h) (Or.inl ⟨by rfl, ?_⟩) (by assumption) ?_
    rotate_left
    · intro v hSv; (try dsimp only at hSv); skip; go_simp; (try with_reducible rfl)
    try simp only [Act.put, List.setIfInBounds_toArray, List.set_cons_zero, List.set_cons_succ]
    refine wpAnyH_ready (rs := [2]) (by kernel_rfl) (by simp) ?_
    refine AllReadyH.cons (o := ⟨some 63, _, _, _, _, _⟩) rfl (fun K hK => ?_) (AllReadyH.nil)
    go_simp
    go_at_call 20
    refine (HM20.out _ (G7.out.trans hS0)).mono ?_
    rintro e v1 ⟨rfl, gv⟩
    have hS1 : Chg none w7 v1 := hS0.trans gv
    clear gv
    go_wp2_with fail
    refine hK.out _ _ hS1 (fun _ => ?_)
    clear hK K
    try simp only [Act.put, List.setIfInBounds_toArray, List.set_cons_zero, List.set_cons_succ]
    refine wpAnyH_take (i := 3) (oi := ⟨some 64, _, _, _, _, _⟩) (v := ?_) rfl (by kernel_rfl) (by kernel_rfl) (by kernel_rfl) (fun _ _ _ h => h) (Or.inl ⟨by rfl, ?_⟩) (by assumption) ?_
    rotate_left
    · intro v hSv; (try dsimp only at hSv); skip; go_simp; (try with_reducible rfl)
    try simp only [Act.put, List.setIfInBounds_toArray, List.set_cons_zero, List.set_cons_succ]
    refine wpAnyH_take (i := 4) (oi := ⟨some 65, _, _, _, _, _⟩) (v := ?_) rfl (by kernel_rfl) (by kernel_rfl) (by kernel_rfl) (fun _ _ _ h => h) (Or.inl ⟨by rfl, ?_⟩) (by assumption) ?_
    rotate_left
    · intro v hSv; (try dsimp only at hSv); skip; go_simp; (try with_reducible rfl)
    try simp only [Act.put, List.setIfInBounds_toArray, List.set_cons_zero, List.set_cons_succ]
    refine wpAnyH_take (i := 5) (oi := ⟨some 66, _, _, _, _, _⟩) (v := ?_) rfl (by kernel_rfl) (by kernel_rfl) (by kernel_rfl) (fun _ _ _ h => h) (Or.inl ⟨by rfl, ?_⟩) (by assumption) ?_
    rotate_left
    · intro v hSv; (try dsimp only at hSv); skip; go_simp; (try with_reducible rfl)
    try simp only [Act.put, List.setIfInBounds_toArray, List.set_cons_zero, List.set_cons_succ]
    refine wpAnyH_take (i := 6) (oi := ⟨some 67, _, _, _, _, _⟩) (v := ?_) rfl (by kernel_rfl) (by kernel_rfl) (by kernel_rfl) (fun _ _ _ h => h) (Or.inl ⟨by rfl, ?_⟩) (by assumption) ?_
    rotate_left
    · intro v hSv; (try dsimp only at hSv); skip; go_simp; (try with_reducible rfl)
    try simp only [Act.put, List.setIfInBounds_toArray, List.set_cons_zero, List.set_cons_succ]
    refine wpAnyH_take (i := 7) (oi := ⟨some 68, _, _, _, _, _⟩) (v := ?_) rfl (by kernel_rfl) (by kernel_rfl) (by kernel_rfl) (fun _ _ _ h => h) (Or.inl ⟨by rfl, ?_⟩) (by assumption) ?_
    rotate_left
    · intro v hSv; (try dsimp only at hSv); skip; go_simp; (try with_reducible rfl)
    try simp only [Act.put, List.setIfInBounds_toArray, List.set_cons_zero, List.set_cons_succ]
    refine wpAnyH_take (i := 8) (oi := ⟨some 69, _, _, _, _, _⟩) (v := ?_) rfl (by kernel_rfl) (by kernel_rfl) (by kernel_rfl) (fun _ _ _ h => h) (Or.inl ⟨by rfl, ?_⟩) (by assumption) ?_
    rotate_left
    · intro v hSv; (try dsimp only at hSv); skip; go_simp; (try with_reducible rfl)
    try simp only [Act.put, List.setIfInBounds_toArray, List.set_cons_zero, List.set_cons_succ]
    refine wpAnyH_take (i := 9) (oi := ⟨some 70, _, _, _, _, _⟩) (v := ?_) rfl (by kernel_rfl) (by kernel_rfl) (by kernel_rfl) (fun _ _ _ h => h) (Or.inl ⟨by rfl, ?_⟩) (by assumption) ?_
    rotate_left
    · intro v hSv; (try dsimp only at hSv); skip; go_simp; (try with_reducible rfl)
    try simp only [Act.put, List.setIfInBounds_toArray, List.set_cons_zero, List.set_cons_succ]
    refine wpAnyH_take (i := 10) (oi := ⟨some 71, _, _, _, _, _⟩) (v := ?_) rfl (by kernel_rfl) (by kernel_rfl) (by kernel_rfl) (fun _ _ _ h => h) (Or.inl ⟨by rfl, ?_⟩) (by assumption) ?_
    rotate_left
    · intro v hSv; (try dsimp only at hSv); skip; go_simp; (try with_reducible rfl)
    try simp only [Act.put, List.setIfInBounds_toArray, List.set_cons_zero, List.set_cons_succ]
    refine wpAnyH_take (i := 11) (oi := ⟨some 72, _, _, _, _, _⟩) (v := undef) rfl (by kernel_rfl) (by kernel_rfl) (by kernel_rfl) (fun _ _ _ h => h) (Or.inr ⟨by rfl, by rfl⟩) (by assumption) ?_
    try simp only [Act.put, List.setIfInBounds_toArray, List.set_cons_zero, List.set_cons_succ]
    refine wpAnyH_take (i := 12) (oi := ⟨some 73, _, _, _, _, _⟩) (v := undef) rfl (by kernel_rfl) (by kernel_rfl) (by kernel_rfl) (fun _ _ _ h => h) (Or.inr ⟨by rfl, by rfl⟩) (by assumption) ?_
    try simp only [Act.put, List.setIfInBounds_toArray, List.set_cons_zero, List.set_cons_succ]
    refine wpAnyH_take (i := 13) (oi := ⟨some 74, _, _, _, _, _⟩) (v := undef) rfl (by kernel_rfl) (by kernel_rfl) (by kernel_rfl) (fun _ _ _ h => h) (Or.inr ⟨by rfl, by rfl⟩) (by assumption) ?_
    try simp only [Act.put, List.setIfInBounds_toArray, List.set_cons_zero, List.set_cons_succ]
    refine wpAnyH_take (i := 14) (oi := ⟨some 75, _, _, _, _, _⟩) (v := undef) rfl (by kernel_rfl) (by kernel_rfl) (by kernel_rfl) (fun _ _ _ h => h) (Or.inr ⟨by rfl, by rfl⟩) (by assumption) ?_
    try simp only [Act.put, List.setIfInBounds_toArray, List.set_cons_zero, List.set_cons_succ]
    refine wpAnyH_take (i := 15) (oi := ⟨some 76, _, _, _, _, _⟩) (v := undef) rfl (by kernel_rfl) (by kernel_rfl) (by kernel_rfl) (fun _ _ _ h => h) (Or.inr ⟨by rfl, by rfl⟩) (by assumption) ?_
    try simp only [Act.put, List.setIfInBounds_toArray, List.set_cons_zero, List.set_cons_succ]
    refine wpAnyH_take (i := 16) (oi := ⟨some 77, _, _, _, _, _⟩) (v := undef) rfl (by kernel_rfl) (by kernel_rfl) (by kernel_rfl) (fun _ _ _ h => h) (Or.inr ⟨by rfl, by rfl⟩) (by assumption) ?_
    try simp only [Act.put, List.setIfInBounds_toArray, List.set_cons_zero, List.set_cons_succ]
    refine wpAnyH_take (i := 17) (oi := ⟨some 78, _, _, _, _, _⟩) (v := undef) rfl (by kernel_rfl) (by kernel_rfl) (by kernel_rfl) (fun _ _ _ h => h) (Or.inr ⟨by rfl, by rfl⟩) (by assumption) ?_
    try simp only [Act.put, List.setIfInBounds_toArray, List.set_cons_zero, List.set_cons_succ]
    refine wpAnyH_take (i := 18) (oi := ⟨some 79, _, _, _, _, _⟩) (v := undef) rfl (by kernel_rfl) (by kernel_rfl) (by kernel_rfl) (fun _ _ _ h => h) (Or.inr ⟨by rfl, by rfl⟩) (by assumption) ?_
    try simp only [Act.put, List.setIfInBounds_toArray, List.set_cons_zero, List.set_cons_succ]
    refine wpAnyH_take (i := 19) (oi := ⟨some 80, _, _, _, _, _⟩) (v := undef) rfl (by kernel_rfl) (by kernel_rfl) (by kernel_rfl) (fun _ _ _ h => h) (Or.inr ⟨by rfl, by rfl⟩) (by assumption) ?_
    try simp only [Act.put, List.setIfInBounds_toArray, List.set_cons_zero, List.set_cons_succ]
    refine wpAnyH_take (i := 20) (oi := ⟨some 81, _, _, _, _, _⟩) (v := ?_) rfl (by kernel_rfl) (by kernel_rfl) (by kernel_rfl) (fun _ _ _ h => h) (Or.inl ⟨by rfl, ?_⟩) (by assumption) ?_
    rotate_left
    · intro v hSv; (try dsimp only at hSv); skip; go_simp; (try with_reducible rfl)
    try simp only [Act.put, List.setIfInBounds_toArray, List.set_cons_zero, List.set_cons_succ]
    refine wpAnyH_take (i := 21) (oi := ⟨some 82, _, _, _, _, _⟩) (v := ?_) rfl (by kernel_rfl) (by kernel_rfl) (by kernel_rfl) (fun _ _ _ h => h) (Or.inl ⟨by rfl, ?_⟩) (by assumption) ?_
    rotate_left
    · intro v hSv; (try dsimp only at hSv); skip; go_simp; (try with_reducible rfl)
    try simp only [Act.put, List.setIfInBounds_toArray, List.set_cons_zero, List.set_cons_succ]
    refine wpAnyH_take (i := 22) (oi := ⟨some 83, _, _, _, _, _⟩) (v := ?_) rfl (by kernel_rfl) (by kernel_rfl) (by kernel_rfl) (fun _ _ _ h => h) (Or.inl ⟨by rfl, ?_⟩) (by assumption) ?_
    rotate_left
    · intro v hSv; (try dsimp only at hSv); skip; go_simp; (try with_reducible rfl)
    try simp only [Act.put, List.setIfInBounds_toArray, List.set_cons_zero, List.set_cons_succ]
    refine wpAnyH_take (i := 23) (oi := ⟨some 84, _, _, _, _, _⟩) (v := ?_) rfl (by kernel_rfl) (by kernel_rfl) (by kernel_rfl) (fun _ _ _ h => h) (Or.inl ⟨by rfl, ?_⟩) (by assumption) ?_
    rotate_left
    · intro v hSv; (try dsimp only at hSv); skip; go_simp; (try with_reducible rfl)
    try simp only [Act.put, List.setIfInBounds_toArray, List.set_cons_zero, List.set_cons_succ]
    refine wpAnyH_take (i := 24) (oi := ⟨some 85, _, _, _, _, _⟩) (v := ?_) rfl (by kernel_rfl) (by kernel_rfl) (by kernel_rfl) (fun _ _ _ h => h) (Or.inl ⟨by rfl, ?_⟩) (by assumption) ?_
    rotate_left
    · intro v hSv; (try dsimp only at hSv); skip; go_simp; (try with_reducible rfl)
    try simp only [Act.put, List.setIfInBounds_toArray, List.set_cons_zero, List.set_cons_succ]
    refine wpAnyH_take (i := 25) (oi := ⟨some 86, _, _, _, _, _⟩) (v := ?_) rfl (by kernel_rfl) (by kernel_rfl) (by kernel_rfl) (fun _ _ _ h => h) (Or.inl ⟨by rfl, ?_⟩) (by assumption) ?_
    rotate_left
    · intro v hSv; (try dsimp only at hSv); skip; go_simp; (try with_reducible rfl)
    try simp only [Act.put, List.setIfInBounds_toArray, List.set_cons_zero, List.set_cons_succ]
    refine wpAnyH_take (i := 26) (oi := ⟨some 87, _, _, _, _, _⟩) (v := ?_) rfl (by kernel_rfl) (by kernel_rfl) (by kernel_rfl) (fun _ _ _ h => h) (Or.inl ⟨by rfl, ?_⟩) (by assumption) ?_
    rotate_left
    · intro v hSv; (try dsimp only at hSv); skip; go_simp; (try with_reducible rfl)
    try simp only [Act.put, List.setIfInBounds_toArray, List.set_cons_zero, List.set_cons_succ]
    refine wpAnyH_take (i := 27) (oi := ⟨some 88, _, _, _, _, _⟩) (v := ?_) rfl (by kernel_rfl) (by kernel_rfl) (by kernel_rfl) (fun _ _ _ h => h) (Or.inl ⟨by rfl, ?_⟩) (by assumption) ?_
    rotate_left
    · intro v hSv; (try dsimp only at hSv); skip; go_simp; (try with_reducible rfl)
    try simp only [Act.put, List.setIfInBounds_toArray, List.set_cons_zero, List.set_cons_succ]
    refine wpAnyH_take (i := 28) (oi := ⟨some 89, _, _, _, _, _⟩) (v := ?_) rfl (by kernel_rfl) (by kernel_rfl) (by kernel_rfl) (fun _ _ _ h => h) (Or.inl ⟨by rfl, ?_⟩) (by assumption) ?_
    rotate_left
    · intro v hSv; (try dsimp only at hSv); skip; go_simp; (try with_reducible rfl)
    try simp only [Act.put, List.setIfInBounds_toArray, List.set_cons_zero, List.set_cons_succ]
    refine wpAnyH_take (i := 29) (oi := ⟨some 90, _, _, _, _, _⟩) (v := ?_) rfl (by kernel_rfl) (by kernel_rfl) (by kernel_rfl) (fun _ _ _ h => h) (Or.inl ⟨by rfl, ?_⟩) (by assumption) ?_
    rotate_left
    · intro v hSv; (try dsimp only at hSv); skip; go_simp; (try with_reducible rfl)
    try simp only [Act.put, List.setIfInBounds_toArray, List.set_cons_zero, List.set_cons_succ]
    refine wpAnyH_take (i := 30) (oi := ⟨some 91, _, _, _, _, _⟩) (v := ?_) rfl (by kernel_rfl) (by kernel_rfl) (by kernel_rfl) (fun _ _ _ h => h) (Or.inl ⟨by rfl, ?_⟩) (by assumption) ?_
    rotate_left
    · intro v hSv; (try dsimp only at hSv); skip; go_simp; (try with_reducible rfl)
    try simp only [Act.put, List.setIfInBounds_toArray, List.set_cons_zero, List.set_cons_succ]
    refine wpAnyH_done (by kernel_rfl) ?_ _
    obtain ⟨w8, rfl⟩ : ∃ v, v = v1 := ⟨_, rfl⟩
    have G48 := Lib.hid (G47.out.trans hS1)
    have HRA : Hid (∀ v, Chg none w8 v → RowC b0 v none 0) := Lib.hid fun v g h => absurd h (Nat.lt_irrefl 0)
    obtain ⟨Aa, hAa⟩ : ∃ Aa : Option Addr, Aa = none := ⟨_, rfl⟩
    obtain ⟨na, hna⟩ : ∃ na : Nat, na = 0 := ⟨_, rfl⟩
    obtain ⟨ca, hca⟩ : ∃ ca : Nat, ca = 0 := ⟨_, rfl⟩
    rw [← hAa, ← hna] at HRA
    have HNA : Hid (na ≤ 1000000) := Lib.hid (by omega)
    have HSL : Hid (Value.slice none 0 0 = .slice Aa na ca) := Lib.hid (by rw [hAa, hna, hca])
    clear hAa hna hca hS0 hS1 hb1
    rw [HSL.out]
    have HP1 := Lib.hid (pwith_any M1 A1 c1 path Ax x cx w8 (HT1.out w8 G48.out) HL1.out hpl.out (HFX.out w8 (G4.out.trans G48.out)).t (HFX.out w8 (G4.out.trans G48.out)).nil HXL.out)
    rw [HM1.out, HK1.out, HMY1.out] at HP1
    go_wp2_with fail
    refine HP1.out.mono ?_
    intro e w9 h9
    obtain ⟨n1, Ab, cb, Mb, rfl, g9, hc1, htb, hob⟩ := pval_of h9
    have G9 := Lib.hid (G48.out.trans g9)
    have K89 := Lib.hid g9
    have HTB := Lib.hid htb
    have HOB := Lib.hid hob
    have HC1 := Lib.hid hc1
    clear h9 g9 hc1 htb hob HP1
    have HR1 := Lib.hid (rwith_any L A c path Ax x cx w9 (HTA.out w9 (G4.out.trans G9.out)) HLL.out hpl.out (fun v g => HFX.out v ((G4.out.trans G9.out).trans g)))
    go_wp2_with fail
    refine HR1.out.mono ?_
    intro e wA hA
    obtain ⟨n1', Ap, cp, Mp, rfl, gA, hc1, htp⟩ := rval_of hA
    obtain rfl : n1 = n1' := HC1.out.one hc1
    have GA := Lib.hid (G9.out.trans gA)
    have K8A := Lib.hid (K89.out.trans gA)
    have hk : keys Mb = keys Mp := HTB.out.same htp
    have HBP : Hid (∀ v, Chg none wA v → Calls Try.prog 13 #[.slice Ab Mb.length cb, .slice Ap Mp.length cp] v fun e w' => e = .returned (.bool true) ∧ Chg none v w') := Lib.hid fun v g => by
      have h := refsame_any Mb Mp Ab Ap cb cp v (HTB.out.tree.chg (gA.trans g)) (htp.tree.chg g) (by have := HTB.out.len; omega)
      rw [decide_eq_true hk] at h
      exact h
    have HSB : Hid (∀ v, Chg none wA v → SpoilAt b0 v Ab Mb) := Lib.hid fun v g => SpoilAt.of (HTB.out.tree.chg (gA.trans g)) ((HOB.out.chg (gA.trans g)).rows (by have := HB0.out; have := G48.out.size; omega))
    have HLB : Hid (Mb.length ≤ 16 ∧ ∀ m ∈ Mb, m.x.length ≤ 2000) := Lib.hid ⟨HTB.out.len, HTB.out.byt⟩
    clear hA gA hc1 htp hk HR1 HTB HOB HC1
    have HP2 := Lib.hid (pbelow_any M1 A1 c1 path wA (HT1.out wA GA.out) HL1.out hpl.out)
    rw [HM1.out, HBK1.out] at HP2
    go_wp2_with fail
    refine HP2.out.mono ?_
    intro e wB hB
    obtain ⟨Ac, cc, Mc, rfl, gB, htc, hoc, hkc, hlc⟩ := hB
    have GB := Lib.hid (GA.out.trans gB)
    have K8B := Lib.hid (K8A.out.trans gB)
    have KB := Lib.hid gB
    have HTC := Lib.hid htc
    have HKC := Lib.hid hkc
    have HLC : Hid (Mc.length ≤ 16 ∧ ∀ m ∈ Mc, m.x.length ≤ 2000) := Lib.hid ⟨hlc, below_byt hkc⟩
    have HOC : Hid (OwnB wA wB Mc) := Lib.hid hoc
    clear gB htc hoc hkc hlc HP2
    have HR2 := Lib.hid (rbelow_any L A c path wB (HTA.out wB (G4.out.trans GB.out)) HLL.out hpl.out)
    go_wp2_with fail
    refine HR2.out.mono ?_
    intro e wC hC
    obtain ⟨Aq, cq, Mq, rfl, gC, htq, hkq, hlq⟩ := hC
    have GC := Lib.hid (GB.out.trans gC)
    have K8C := Lib.hid (K8B.out.trans gC)
    have KC := Lib.hid (KB.out.trans gC)
    have hk : keys Mc = keys Mq := by rw [HKC.out, hkq]
    have HCQ : Hid (∀ v, Chg none wC v → Calls Try.prog 13 #[.slice Ac Mc.length cc, .slice Aq Mq.length cq] v fun e w' => e = .returned (.bool true) ∧ Chg none v w') := Lib.hid fun v g => by
      have h := refsame_any Mc Mq Ac Aq cc cq v (HTC.out.chg (gC.trans g)) (htq.chg g) (by have := HLC.out.1; omega)
      rw [decide_eq_true hk] at h
      exact h
    have HSC : Hid (∀ v, Chg none wC v → SpoilAt b0 v Ac Mc) := Lib.hid fun v g => SpoilAt.of (HTC.out.chg (gC.trans g)) ((HOC.out.chg (gC.trans g)).rows (by have := HB0.out; have := GA.out.size; omega))
    clear gC htq hkq hlq hk HR2 HTC HKC HOC KB
    have HP3 := Lib.hid (punder_any M1 A1 c1 path wC (HT1.out wC GC.out) HL1.out hpl.out)
    rw [HM1.out, HK1.out, HMY1.out] at HP3
    go_wp2_with fail
    refine HP3.out.mono ?_
    intro e wD hD
    obtain ⟨n2, Ad, cd, Md, rfl, gD, hc1, htb, hob⟩ := pval_of hD
    have GD := Lib.hid (GC.out.trans gD)
    have K8D := Lib.hid (K8C.out.trans gD)
    have KD := Lib.hid (KC.out.trans gD)
    have LD := Lib.hid gD
    have HTB := Lib.hid htb
    have HOB := Lib.hid hob
    have HC1 := Lib.hid hc1
    clear hD gD hc1 htb hob HP3 KC
    have HR3 := Lib.hid (runder_any L A c path wD (HTA.out wD (G4.out.trans GD.out)) HLL.out hpl.out)
    go_wp2_with fail
    refine HR3.out.mono ?_
    intro e wE hE
    obtain ⟨n2', Ar, cr, Mr, rfl, gE, hc1, htp⟩ := rval_of hE
    obtain rfl : n2 = n2' := HC1.out.one hc1
    have GE := Lib.hid (GD.out.trans gE)
    have K8E := Lib.hid (K8D.out.trans gE)
    have KE := Lib.hid (KD.out.trans gE)
    have LE := Lib.hid (LD.out.trans gE)
    have hk : keys Md = keys Mr := HTB.out.same htp
    have HDR : Hid (∀ v, Chg none wE v → Calls Try.prog 13 #[.slice Ad Md.length cd, .slice Ar Mr.length cr] v fun e w' => e = .returned (.bool true) ∧ Chg none v w') := Lib.hid fun v g => by
      have h := refsame_any Md Mr Ad Ar cd cr v (HTB.out.tree.chg (gE.trans g)) (htp.tree.chg g) (by have := HTB.out.len; omega)
      rw [decide_eq_true hk] at h
      exact h
    have HSD : Hid (∀ v, Chg none wE v → SpoilAt b0 v Ad Md) := Lib.hid fun v g => SpoilAt.of (HTB.out.tree.chg (gE.trans g)) ((HOB.out.chg (gE.trans g)).rows (by have := HB0.out; have := GC.out.size; omega))
    have HLD : Hid (Md.length ≤ 16 ∧ ∀ m ∈ Md, m.x.length ≤ 2000) := Lib.hid ⟨HTB.out.len, HTB.out.byt⟩
    clear hE gE hc1 htp hk HR3 HTB HOB HC1 KD LD
    have HP4 := Lib.hid (pjoin_any M1 M2 A1 A2 c1 c2 wE (HT1.out wE GE.out) (HT2.out wE GE.out) HL1.out HL2.out)
    rw [HM1.out, HM2.out, HK1.out, HK2.out, HMY1.out, HMY2.out, HMT.out] at HP4
    go_wp2_with fail
    refine HP4.out.mono ?_
    intro e wF hF
    obtain ⟨n3, Aj, cj, Mj, rfl, gF, hc1, htb, hob⟩ := pval_of hF
    have GF := Lib.hid (GE.out.trans gF)
    have K8F := Lib.hid (K8E.out.trans gF)
    have KF := Lib.hid (KE.out.trans gF)
    have LF := Lib.hid (LE.out.trans gF)
    have NF := Lib.hid gF
    have HTB := Lib.hid htb
    have HOB := Lib.hid hob
    have HC1 := Lib.hid hc1
    clear hF gF hc1 htb hob HP4 KE LE
    have HR4 := Lib.hid (rjoin_any L N A B c d wF (HTA.out wF (G4.out.trans GF.out)) (HTO.out wF (G4.out.trans GF.out)) HLL.out HLN.out)
    go_wp2_with fail
    refine HR4.out.mono ?_
    intro e wG hG
    obtain ⟨n3', As, cs, Ms, rfl, gG, hc1, htp⟩ := rval_of hG
    obtain rfl : n3 = n3' := HC1.out.one hc1
    have GG := Lib.hid (GF.out.trans gG)
    have K8G := Lib.hid (K8F.out.trans gG)
    have KG := Lib.hid (KF.out.trans gG)
    have LG := Lib.hid (LF.out.trans gG)
    have NG := Lib.hid (NF.out.trans gG)
    have hk : keys Mj = keys Ms := HTB.out.same htp
    have HJS : Hid (∀ v, Chg none wG v → Calls Try.prog 13 #[.slice Aj Mj.length cj, .slice As Ms.length cs] v fun e w' => e = .returned (.bool true) ∧ Chg none v w') := Lib.hid fun v g => by
      have h := refsame_any Mj Ms Aj As cj cs v (HTB.out.tree.chg (gG.trans g)) (htp.tree.chg g) (by have := HTB.out.len; omega)
      rw [decide_eq_true hk] at h
      exact h
    have HSJ : Hid (∀ v, Chg none wG v → SpoilAt b0 v Aj Mj) := Lib.hid fun v g => SpoilAt.of (HTB.out.tree.chg (gG.trans g)) ((HOB.out.chg (gG.trans g)).rows (by have := HB0.out; have := GE.out.size; omega))
    have HLJ : Hid (Mj.length ≤ 16 ∧ ∀ m ∈ Mj, m.x.length ≤ 2000) := Lib.hid ⟨HTB.out.len, HTB.out.byt⟩
    have GA8 := K8G
    clear hG gG hc1 htp hk HR4 HTB HOB HC1 KF LF NF G9 GA GB GC GD GE GF K89 K8A K8B K8C K8D K8E K8F K8G
    have hn1 : (n1 != n1) = false := by simp
    have hn2 : (n2 != n2) = false := by simp
    have hn3 : (n3 != n3) = false := by simp
    have hdb : (db != db) = false := by simp
    go_wp2_with fail
    refine (HBP.out _ (KG.out)).mono ?_
    rintro e x1 ⟨rfl, gs⟩
    have Sx1 := Lib.hid (gs)
    clear gs
    go_wp2_with fail
    refine (HCQ.out _ (LG.out.trans Sx1.out)).mono ?_
    rintro e x2 ⟨rfl, gs⟩
    have Sx2 := Lib.hid (Sx1.out.trans gs)
    clear gs
    go_wp2_with fail
    refine (HDR.out _ (NG.out.trans Sx2.out)).mono ?_
    rintro e x3 ⟨rfl, gs⟩
    have Sx3 := Lib.hid (Sx2.out.trans gs)
    clear gs
    go_wp2_with fail
    refine (HJS.out _ Sx3.out).mono ?_
    rintro e x4 ⟨rfl, gs⟩
    have Sx4 := Lib.hid (Sx3.out.trans gs)
    clear gs
    go_wp2_with fail
    refine (HS29.out _ (GG.out.trans Sx4.out)).mono ?_
    rintro e x5 ⟨rfl, gs⟩
    have Sx5 := Lib.hid (Sx4.out.trans gs)
    clear gs
    go_wp2_with fail
    refine (HS13.out _ (G4.out.trans (GG.out.trans Sx5.out))).mono ?_
    rintro e x6 ⟨rfl, gs⟩
    have Sx6 := Lib.hid (Sx5.out.trans gs)
    clear gs
    go_wp2_with fail
    refine (HSI.out _ (GG.out.trans Sx6.out)).mono ?_
    rintro e x7 ⟨rfl, gs⟩
    have Sx7 := Lib.hid (Sx6.out.trans gs)
    clear gs
    obtain ⟨wT, rfl⟩ : ∃ v, v = x7 := ⟨_, rfl⟩
    have GT : Hid (Chg none w4 wT) := Lib.hid (GG.out.trans Sx7.out)
    have KA := Lib.hid (G48.out)
    have HRA2 : Hid (∀ v, Spoilt b0 wT v → RowC b0 v Aa na) := Lib.hid fun v s => (HRA.out wT (GA8.out.trans Sx7.out)).spoilt s
    have HB2 : Hid (∀ v, Spoilt b0 wT v → SpoilAt b0 v Ab Mb) := Lib.hid fun v s => (HSB.out wT (KG.out.trans Sx7.out)).spoilt s
    have HC2 : Hid (∀ v, Spoilt b0 wT v → SpoilAt b0 v Ac Mc) := Lib.hid fun v s => (HSC.out wT (LG.out.trans Sx7.out)).spoilt s
    have HD2 : Hid (∀ v, Spoilt b0 wT v → SpoilAt b0 v Ad Md) := Lib.hid fun v s => (HSD.out wT (NG.out.trans Sx7.out)).spoilt s
    have HJ2 : Hid (∀ v, Spoilt b0 wT v → SpoilAt b0 v Aj Mj) := Lib.hid fun v s => (HSJ.out wT Sx7.out).spoilt s
    clear HRA HSB HSC HSD HSJ KG LG NG GG Sx1 Sx2 Sx3 Sx4 Sx5 Sx6 Sx7 HS29 HS13 HSI HBP HCQ HDR HJS hn1 hn2 hn3 hdb GA8
    go_wp2_with fail
    go_loopw [190] (fun s190 wr => ∃ k : Nat, s190 = .int .i64 k ∧ Hid (k ≤ na) ∧ Hid (Spoilt b0 wT wr)) (fun s190 _ => na - (intOf s190).toNat)
    case atStart => exact ⟨0, rfl, Lib.hid (Nat.zero_le _), Lib.hid (Spoilt.refl _ _)⟩
    case round =>
      obtain ⟨k, rfl, H1, H2⟩ := hrel
      by_cases hlt : k < na
      · have hdd : decide ((k : Int) < (na : Int)) = true := by rw [decide_eq_true_eq]; omega
        obtain ⟨g, rfl, hg, hrow⟩ := HRA2.out wr H2.out (by omega)
        obtain ⟨y, hy0, hy1, hcy, hfy⟩ := hrow k hlt
        have hna := HNA.out
        have HLT := Lib.hid hlt
        have HCX := Lib.hid hcy
        have HG := Lib.hid hg
        clear hrow hg
        go_wp2_with fail
        go_roundw
        case rel => exact ⟨k + 1, by first | rfl | go_num, Lib.hid HLT.out, Lib.hid (H2.out.trans (Spoilt.set HG.out HCX.out (by omega) (by omega)))⟩
        case measure => have := HLT.out; first | omega | (simp only [intOf]; omega) | (simp [intOf]; omega)
      · have hdd : decide (k < na) = false := by rw [decide_eq_false_iff_not]; exact hlt
        have hd2 : decide ((k : Int) < (na : Int)) = false := by rw [decide_eq_false_iff_not]; omega
        obtain ⟨wU, rfl⟩ : ∃ v, v = wr := ⟨_, rfl⟩
        have GU : Hid (Chg none w4 wU) := Lib.hid (H2.out.chg GT.out HB0.out.2)
        obtain ⟨wV, hwV⟩ : ∃ v, v = wU.alloc (.cells #[.slice Ab Mb.length cb, .slice Ac Mc.length cc, .slice Ad Md.length cd, .slice Aj Mj.length cj] 25) := ⟨_, rfl⟩
        have gV : Chg none wU wV := by rw [hwV]; exact (Chg.refl _ _).alloc _
        have hbV : Blk wV wU.heap.size #[.slice Ab Mb.length cb, .slice Ac Mc.length cc, .slice Ad Md.length cd, .slice Aj Mj.length cj] 25 := by rw [hwV]; exact Blk.new _ _ _
        have GV : Hid (Chg none w4 wV) := Lib.hid (GU.out.trans gV)
        have hsp : ∀ {A' : Option Addr} {M' : List Fil}, SpoilAt b0 wU A' M' → SpoilAt b0 wV A' M' := fun h => h.grow gV
        have HV : Hid (∀ k : Nat, k < 4 → ∃ (A' : Option Addr) (M' : List Fil) (c' : Nat), (∀ v, Spoilt b0 wV v → v.cell? ⟨wU.heap.size, k, none⟩ = some (.slice A' M'.length c') ∧ SpoilAt b0 v A' M') ∧ M'.length ≤ 16 ∧ ∀ m ∈ M', m.x.length ≤ 1000000) := Lib.hid fun k hk => by
          have hcell : ∀ (j : Nat) (u : Value), (#[.slice Ab Mb.length cb, .slice Ac Mc.length cc, .slice Ad Md.length cd, .slice Aj Mj.length cj] : Array Value)[j]? = some u → (∀ z, u ≠ .int .u8 z) → ∀ v, Spoilt b0 wV v → v.cell? ⟨wU.heap.size, j, none⟩ = some u := fun j u hu hne v s => by
            rcases s.cell ⟨wU.heap.size, j, none⟩ u (by rw [hbV.cell]; exact hu) with h | ⟨z, _, e, _⟩
            · exact h
            · exact absurd e (hne z)
          match k, hk with
          | 0, _ => exact ⟨Ab, Mb, cb, fun v s => ⟨hcell 0 _ rfl (fun z e => by cases e) v s, (hsp (HB2.out wU H2.out)).spoilt s⟩, HLB.out.1, fun m hm => by have := HLB.out.2 m hm; omega⟩
          | 1, _ => exact ⟨Ac, Mc, cc, fun v s => ⟨hcell 1 _ rfl (fun z e => by cases e) v s, (hsp (HC2.out wU H2.out)).spoilt s⟩, HLC.out.1, fun m hm => by have := HLC.out.2 m hm; omega⟩
          | 2, _ => exact ⟨Ad, Md, cd, fun v s => ⟨hcell 2 _ rfl (fun z e => by cases e) v s, (hsp (HD2.out wU H2.out)).spoilt s⟩, HLD.out.1, fun m hm => by have := HLD.out.2 m hm; omega⟩
          | 3, _ => exact ⟨Aj, Mj, cj, fun v s => ⟨hcell 3 _ rfl (fun z e => by cases e) v s, (hsp (HJ2.out wU H2.out)).spoilt s⟩, HLJ.out.1, fun m hm => by have := HLJ.out.2 m hm; omega⟩
        have hlV : wU.heap.size < wV.heap.size := hbV.lt
        have HLV := Lib.hid hlV
        have HWV := Lib.hid hwV
        clear hlt hwV gV hbV hsp hlV HB2 HC2 HD2 HJ2 HRA2 HLB HLC HLD HLJ
        go_wp2_with fail
        rw [← HWV.out]
        clear HWV
        generalize wU.heap.size = pv at *
        go_loopw [206] (fun s206 wr => ∃ k : Nat, s206 = .int .i64 k ∧ Hid (k ≤ 4) ∧ Hid (Spoilt b0 wV wr)) (fun s206 _ => 4 - (intOf s206).toNat)
        case atStart => exact ⟨0, rfl, Lib.hid (Nat.zero_le _), Lib.hid (Spoilt.refl _ _)⟩
        case round =>
          obtain ⟨k, rfl, H3, H4⟩ := hrel
          by_cases hlt : k < 4
          · have hd4 : decide ((k : Int) < 4) = true := by rw [decide_eq_true_eq]; omega
            have hlt4 : (k : Int) < 4 := by omega
            obtain ⟨A', M', c', hv, hl', hx'⟩ := HV.out k hlt
            have cv := (hv wr H4.out).1
            have HSP := Lib.hid (spoil_any b0 M' A' c' wr (hv wr H4.out).2 hl' hx')
            have HLT := Lib.hid hlt
            clear hv hl' hx'
            go_wp2_with fail
            refine HSP.out.mono ?_
            rintro e wW ⟨rfl, gW⟩
            have GW := Lib.hid (H4.out.trans gW)
            clear gW HSP cv
            go_wp2_with fail
            go_roundw
            case rel => exact ⟨k + 1, by first | rfl | go_num, Lib.hid HLT.out, GW⟩
            case measure => have := HLT.out; first | omega | (simp only [intOf]; omega) | (simp [intOf]; omega)
          · have hk4 : k = 4 := by have := H3.out; omega
            have hd4 : decide ((k : Int) < 4) = false := by rw [decide_eq_false_iff_not]; omega
            have hlt4 : ¬ (k : Int) < 4 := by omega
            have GX : Hid (Chg none w4 wr) := Lib.hid (H4.out.chg GV.out HB0.out.2)
            clear hk4 HV
            go_wp2_with fail
            refine (HE13.out _ GX.out).mono ?_
            rintro e wY ⟨rfl, gY⟩
            have GY := Lib.hid (GX.out.trans gY)
            clear gY
            go_wp2_with fail
            refine (HF13.out _ GY.out).mono ?_
            rintro e wZ ⟨rfl, gZ⟩
            have GZ := Lib.hid (GY.out.trans gZ)
            clear gZ
            go_wp2_with fail
            refine (HK.out _).mono ?_
            rintro e wk ⟨rfl, gk⟩
            have GK := Lib.hid (G4.out.trans (GZ.out.trans gk))
            clear gk
            go_wp2_with fail
            go_ret
            exact ⟨rfl, GK.out⟩
  · have HFD1 := Lib.hid (HFD.out w7 G7.out)
    have HOA := Lib.hid hoa
    rw [hm] at HM20
    clear g7 HGT HFD hoa
    go_wp2_with fail
    refine HFD1.out.mono ?_
    rintro e w7' ⟨z, rfl, rfl, hz⟩
    obtain ⟨i, f, rfl, hif, hfp, hfirst⟩ : ∃ (i : Nat) (f : Fil), z = i ∧ L[i]? = some f ∧ f.p = path ∧ ∀ (j : Nat) g, j < i → L[j]? = some g → g.p ≠ path := by
      rcases hz with ⟨-, h⟩ | ⟨i, f, h1, h2, h3, h4⟩
      · exfalso
        have := (getK_none (path := path) (K := keys L)).2 (fun g hg => by obtain ⟨m, hm2, rfl⟩ := List.mem_map.1 hg; exact h m hm2)
        rw [this] at hgk; cases hgk
      · exact ⟨i, f, h1, h2, h3, h4⟩
    have hfx : f.x = x1 := by
      have h := getK_first hif (fun j g hj hg => by rw [hfp]; exact hfirst j g hj hg)
      rw [hfp, hgk] at h
      injection h with h; exact h.symm
    have hil : i < L.length := (List.getElem?_eq_some_iff.1 hif).1
    have h16 : L.length ≤ 16 := (mayT_parts hm).1
    have hx2 : x1.length ≤ 2000 := by rw [← hfx]; exact ((mayT_parts hm).2.1 f (List.mem_of_getElem? hif)).2
    have hne : L ≠ [] := by intro e; subst e; simp at hif
    obtain ⟨bb, off, rfl, -, -⟩ := (HTA.out w7 G7.out).1 hne
    have HXF : Hid (∀ v, Chg none w7 v → v.cell? ⟨bb, off + i * 2 + 1, none⟩ = some (.slice f.A f.x.length f.c)) := Lib.hid fun v g => ((HTA.out v (G7.out.trans g)).1.two hif).2.2
    have HOK : Hid (∀ v, Chg none w7 v → f.ok v) := Lib.hid fun v g => (HTA.out v (G7.out.trans g)).2 f (List.mem_of_getElem? hif)
    obtain ⟨fp, fA, fx, fc⟩ := f
    dsimp only at hfx HXF HOK
    subst hfx
    have HCF : Hid (∀ v, Chg none w7 v → (convert 22 9 (.slice fA fx.length fc)).run Try.prog v = .ok (.string ⟨fx.toArray⟩) v) := Lib.hid fun v g => conv_reads v (txt_reads (HOK.out v g).t)
    have HCA : Hid (∀ v, Chg none w7 v → (convert 22 9 (.slice Aa fx.length ca)).run Try.prog v = .ok (.string ⟨fx.toArray⟩) v) := Lib.hid fun v g => conv_reads v (Reads.of_own (own_chgW HOA.out g))
    have hiL : (i : Int) < (L.length : Int) := by omega
    have hi0 : decide ((0 : Int) ≤ (i : Int)) = true := by rw [decide_eq_true_eq]; omega
    have hb1 : (true != true) = false := rfl
    have hff : (fx != fx) = false := by simp
    have hS0 : Chg none w7 w7.drew := (Chg.refl _ _).drew
    clear hz hif hfp hfirst hgk hne hm
    go_wp2_with fail
    refine wp_region_held_drew (S := fun v => Chg none w7 v) (by kernel_rfl) hS0 (fun _ => ?_)
    refine wpAnyH_take (i := 0) (oi := ⟨some 61, _, _, _, _, _⟩) (v := ?_) rfl (by kernel_rfl) (by kernel_rfl) (by kernel_rfl) (fun _ _ _ h => h) (Or.inl ⟨by rfl, ?_⟩) (by assumption) ?_
    rotate_left
    · intro v hSv; (try dsimp only at hSv); skip; go_simp; (try with_reducible rfl)
    try simp only [Act.put, List.setIfInBounds_toArray, List.set_cons_zero, List.set_cons_succ]
    refine wpAnyH_take (i := 1) (oi := ⟨some 62, _, _, _, _, _⟩) (v := ?_) rfl (by kernel_rfl) (by kernel_rfl) (by kernel_rfl) (fun _ _ _ h => h) (Or.inl ⟨by rfl, ?_⟩) (by assumption) ?_
    rotate_left
    · intro v hSv; (try dsimp only at hSv); skip; go_simp; (try with_reducible rfl)
    try simp only [Act.put, List.setIfInBounds_toArray, List.set_cons_zero, List.set_cons_succ]
    refine wpAnyH_ready (rs := [2]) (by kernel_rfl) (by simp) ?_
    refine AllReadyH.cons (o := ⟨some 63, _, _, _, _, _⟩) rfl (fun K hK => ?_) (AllReadyH.nil)
    go_simp
    go_at_call 20
    refine (HM20.out _ (G7.out.trans hS0)).mono ?_
    rintro e v1 ⟨rfl, gv⟩
    have hS1 : Chg none w7 v1 := hS0.trans gv
    clear gv
    go_wp2_with fail
    refine hK.out _ _ hS1 (fun _ => ?_)
    clear hK K
    try simp only [Act.put, List.setIfInBounds_toArray, List.set_cons_zero, List.set_cons_succ]
    refine wpAnyH_take (i := 3) (oi := ⟨some 64, _, _, _, _, _⟩) (v := ?_) rfl (by kernel_rfl) (by kernel_rfl) (by kernel_rfl) (fun _ _ _ h => h) (Or.inl ⟨by rfl, ?_⟩) (by assumption) ?_
    rotate_left
    · intro v hSv; (try dsimp only at hSv); skip; go_simp; (try with_reducible rfl)
    try simp only [Act.put, List.setIfInBounds_toArray, List.set_cons_zero, List.set_cons_succ]
    refine wpAnyH_take (i := 4) (oi := ⟨some 65, _, _, _, _, _⟩) (v := ?_) rfl (by kernel_rfl) (by kernel_rfl) (by kernel_rfl) (fun _ _ _ h => h) (Or.inl ⟨by rfl, ?_⟩) (by assumption) ?_
    rotate_left
    · intro v hSv; (try dsimp only at hSv); skip; go_simp; (try with_reducible rfl)
    try simp only [Act.put, List.setIfInBounds_toArray, List.set_cons_zero, List.set_cons_succ]
    refine wpAnyH_take (i := 5) (oi := ⟨some 66, _, _, _, _, _⟩) (v := ?_) rfl (by kernel_rfl) (by kernel_rfl) (by kernel_rfl) (fun _ _ _ h => h) (Or.inl ⟨by rfl, ?_⟩) (by assumption) ?_
    rotate_left
    · intro v hSv; (try dsimp only at hSv); skip; go_simp; (try with_reducible rfl)
    try simp only [Act.put, List.setIfInBounds_toArray, List.set_cons_zero, List.set_cons_succ]
    refine wpAnyH_take (i := 6) (oi := ⟨some 67, _, _, _, _, _⟩) (v := ?_) rfl (by kernel_rfl) (by kernel_rfl) (by kernel_rfl) (fun _ _ _ h => h) (Or.inl ⟨by rfl, ?_⟩) (by assumption) ?_
    rotate_left
    · intro v hSv; (try dsimp only at hSv); skip; go_simp; (try with_reducible rfl)
    try simp only [Act.put, List.setIfInBounds_toArray, List.set_cons_zero, List.set_cons_succ]
    refine wpAnyH_take (i := 7) (oi := ⟨some 68, _, _, _, _, _⟩) (v := ?_) rfl (by kernel_rfl) (by kernel_rfl) (by kernel_rfl) (fun _ _ _ h => h) (Or.inl ⟨by rfl, ?_⟩) (by assumption) ?_
    rotate_left
    · intro v hSv; (try dsimp only at hSv); skip; go_simp; (try with_reducible rfl)
    try simp only [Act.put, List.setIfInBounds_toArray, List.set_cons_zero, List.set_cons_succ]
    refine wpAnyH_take (i := 8) (oi := ⟨some 69, _, _, _, _, _⟩) (v := ?_) rfl (by kernel_rfl) (by kernel_rfl) (by kernel_rfl) (fun _ _ _ h => h) (Or.inl ⟨by rfl, ?_⟩) (by assumption) ?_
    rotate_left
    · intro v hSv; (try dsimp only at hSv); skip; go_simp; (try with_reducible rfl)
    try simp only [Act.put, List.setIfInBounds_toArray, List.set_cons_zero, List.set_cons_succ]
    refine wpAnyH_take (i := 9) (oi := ⟨some 70, _, _, _, _, _⟩) (v := ?_) rfl (by kernel_rfl) (by kernel_rfl) (by kernel_rfl) (fun _ _ _ h => h) (Or.inl ⟨by rfl, ?_⟩) (by assumption) ?_
    rotate_left
    · intro v hSv; (try dsimp only at hSv); skip; go_simp; (try with_reducible rfl)
    try simp only [Act.put, List.setIfInBounds_toArray, List.set_cons_zero, List.set_cons_succ]
    refine wpAnyH_take (i := 10) (oi := ⟨some 71, _, _, _, _, _⟩) (v := ?_) rfl (by kernel_rfl) (by kernel_rfl) (by kernel_rfl) (fun _ _ _ h => h) (Or.inl ⟨by rfl, ?_⟩) (by assumption) ?_
    rotate_left
    · intro v hSv; (try dsimp only at hSv); skip; go_simp; (try with_reducible rfl)
    try simp only [Act.put, List.setIfInBounds_toArray, List.set_cons_zero, List.set_cons_succ]
    refine wpAnyH_take (i := 11) (oi := ⟨some 72, _, _, _, _, _⟩) (v := ?_) rfl (by kernel_rfl) (by kernel_rfl) (by kernel_rfl) (fun _ _ _ h => h) (Or.inl ⟨by rfl, ?_⟩) (by assumption) ?_
    rotate_left
    · intro v hSv; (try dsimp only at hSv); skip; go_simp; (try with_reducible rfl)
    try simp only [Act.put, List.setIfInBounds_toArray, List.set_cons_zero, List.set_cons_succ]
    refine wpAnyH_take (i := 12) (oi := ⟨some 73, _, _, _, _, _⟩) (v := .string ⟨fx.toArray⟩) rfl (by kernel_rfl) (by kernel_rfl) (by kernel_rfl) (fun _ _ _ h => h) (Or.inl ⟨by rfl, ?_⟩) (by assumption) ?_
    · intro v hSv; have hc := HCA.out v hSv; go_simp
    try simp only [Act.put, List.setIfInBounds_toArray, List.set_cons_zero, List.set_cons_succ]
    refine wpAnyH_take (i := 13) (oi := ⟨some 74, _, _, _, _, _⟩) (v := ?_) rfl (by kernel_rfl) (by kernel_rfl) (by kernel_rfl) (fun _ _ _ h => h) (Or.inl ⟨by rfl, ?_⟩) (by assumption) ?_
    rotate_left
    · intro v hSv; (try dsimp only at hSv); skip; go_simp; (try with_reducible rfl)
    try simp only [Act.put, List.setIfInBounds_toArray, List.set_cons_zero, List.set_cons_succ]
    refine wpAnyH_take (i := 14) (oi := ⟨some 75, _, _, _, _, _⟩) (v := ?_) rfl (by kernel_rfl) (by kernel_rfl) (by kernel_rfl) (fun _ _ _ h => h) (Or.inl ⟨by rfl, ?_⟩) (by assumption) ?_
    rotate_left
    · intro v hSv; (try dsimp only at hSv); skip; go_simp; (try with_reducible rfl)
    try simp only [Act.put, List.setIfInBounds_toArray, List.set_cons_zero, List.set_cons_succ]
    refine wpAnyH_take (i := 15) (oi := ⟨some 76, _, _, _, _, _⟩) (v := ?_) rfl (by kernel_rfl) (by kernel_rfl) (by kernel_rfl) (fun _ _ _ h => h) (Or.inl ⟨by rfl, ?_⟩) (by assumption) ?_
    rotate_left
    · intro v hSv; (try dsimp only at hSv); skip; go_simp; (try with_reducible rfl)
    try simp only [Act.put, List.setIfInBounds_toArray, List.set_cons_zero, List.set_cons_succ]
    refine wpAnyH_take (i := 16) (oi := ⟨some 77, _, _, _, _, _⟩) (v := ?_) rfl (by kernel_rfl) (by kernel_rfl) (by kernel_rfl) (fun _ _ _ h => h) (Or.inl ⟨by rfl, ?_⟩) (by assumption) ?_
    rotate_left
    · intro v hSv; (try dsimp only at hSv); skip; go_simp; (try with_reducible rfl)
    try simp only [Act.put, List.setIfInBounds_toArray, List.set_cons_zero, List.set_cons_succ]
    refine wpAnyH_take (i := 17) (oi := ⟨some 78, _, _, _, _, _⟩) (v := .slice fA fx.length fc) rfl (by kernel_rfl) (by kernel_rfl) (by kernel_rfl) (fun _ _ _ h => h) (Or.inl ⟨by rfl, ?_⟩) (by assumption) ?_
    · intro v hSv; have z := HXF.out v hSv; go_simp
    try simp only [Act.put, List.setIfInBounds_toArray, List.set_cons_zero, List.set_cons_succ]
    refine wpAnyH_take (i := 18) (oi := ⟨some 79, _, _, _, _, _⟩) (v := .string ⟨fx.toArray⟩) rfl (by kernel_rfl) (by kernel_rfl) (by kernel_rfl) (fun _ _ _ h => h) (Or.inl ⟨by rfl, ?_⟩) (by assumption) ?_
    · intro v hSv; have hc := HCF.out v hSv; go_simp
    try simp only [Act.put, List.setIfInBounds_toArray, List.set_cons_zero, List.set_cons_succ]
    refine wpAnyH_take (i := 19) (oi := ⟨some 80, _, _, _, _, _⟩) (v := ?_) rfl (by kernel_rfl) (by kernel_rfl) (by kernel_rfl) (fun _ _ _ h => h) (Or.inl ⟨by rfl, ?_⟩) (by assumption) ?_
    rotate_left
    · intro v hSv; (try dsimp only at hSv); skip; go_simp; (try with_reducible rfl)
    try simp only [Act.put, List.setIfInBounds_toArray, List.set_cons_zero, List.set_cons_succ]
    refine wpAnyH_take (i := 20) (oi := ⟨some 81, _, _, _, _, _⟩) (v := ?_) rfl (by kernel_rfl) (by kernel_rfl) (by kernel_rfl) (fun _ _ _ h => h) (Or.inl ⟨by rfl, ?_⟩) (by assumption) ?_
    rotate_left
    · intro v hSv; (try dsimp only at hSv); skip; go_simp; (try with_reducible rfl)
    try simp only [Act.put, List.setIfInBounds_toArray, List.set_cons_zero, List.set_cons_succ]
    refine wpAnyH_take (i := 21) (oi := ⟨some 82, _, _, _, _, _⟩) (v := ?_) rfl (by kernel_rfl) (by kernel_rfl) (by kernel_rfl) (fun _ _ _ h => h) (Or.inl ⟨by rfl, ?_⟩) (by assumption) ?_
    rotate_left
    · intro v hSv; (try dsimp only at hSv); skip; go_simp; (try with_reducible rfl)
    try simp only [Act.put, List.setIfInBounds_toArray, List.set_cons_zero, List.set_cons_succ]
    refine wpAnyH_take (i := 22) (oi := ⟨some 83, _, _, _, _, _⟩) (v := ?_) rfl (by kernel_rfl) (by kernel_rfl) (by kernel_rfl) (fun _ _ _ h => h) (Or.inl ⟨by rfl, ?_⟩) (by assumption) ?_
    rotate_left
    · intro v hSv; (try dsimp only at hSv); skip; go_simp; (try with_reducible rfl)
    try simp only [Act.put, List.setIfInBounds_toArray, List.set_cons_zero, List.set_cons_succ]
    refine wpAnyH_take (i := 23) (oi := ⟨some 84, _, _, _, _, _⟩) (v := ?_) rfl (by kernel_rfl) (by kernel_rfl) (by kernel_rfl) (fun _ _ _ h => h) (Or.inl ⟨by rfl, ?_⟩) (by assumption) ?_
    rotate_left
    · intro v hSv; (try dsimp only at hSv); skip; go_simp; (try with_reducible rfl)
    try simp only [Act.put, List.setIfInBounds_toArray, List.set_cons_zero, List.set_cons_succ]
    refine wpAnyH_take (i := 24) (oi := ⟨some 85, _, _, _, _, _⟩) (v := ?_) rfl (by kernel_rfl) (by kernel_rfl) (by kernel_rfl) (fun _ _ _ h => h) (Or.inl ⟨by rfl, ?_⟩) (by assumption) ?_
    rotate_left
    · intro v hSv; (try dsimp only at hSv); skip; go_simp; (try with_reducible rfl)
    try simp only [Act.put, List.setIfInBounds_toArray, List.set_cons_zero, List.set_cons_succ]
    refine wpAnyH_take (i := 25) (oi := ⟨some 86, _, _, _, _, _⟩) (v := ?_) rfl (by kernel_rfl) (by kernel_rfl) (by kernel_rfl) (fun _ _ _ h => h) (Or.inl ⟨by rfl, ?_⟩) (by assumption) ?_
    rotate_left
    · intro v hSv; (try dsimp only at hSv); skip; go_simp; (try with_reducible rfl)
    try simp only [Act.put, List.setIfInBounds_toArray, List.set_cons_zero, List.set_cons_succ]
    refine wpAnyH_take (i := 26) (oi := ⟨some 87, _, _, _, _, _⟩) (v := undef) rfl (by kernel_rfl) (by kernel_rfl) (by kernel_rfl) (fun _ _ _ h => h) (Or.inr ⟨by rfl, by rfl⟩) (by assumption) ?_
    try simp only [Act.put, List.setIfInBounds_toArray, List.set_cons_zero, List.set_cons_succ]
    refine wpAnyH_take (i := 27) (oi := ⟨some 88, _, _, _, _, _⟩) (v := undef) rfl (by kernel_rfl) (by kernel_rfl) (by kernel_rfl) (fun _ _ _ h => h) (Or.inr ⟨by rfl, by rfl⟩) (by assumption) ?_
    try simp only [Act.put, List.setIfInBounds_toArray, List.set_cons_zero, List.set_cons_succ]
    refine wpAnyH_take (i := 28) (oi := ⟨some 89, _, _, _, _, _⟩) (v := undef) rfl (by kernel_rfl) (by kernel_rfl) (by kernel_rfl) (fun _ _ _ h => h) (Or.inr ⟨by rfl, by rfl⟩) (by assumption) ?_
    try simp only [Act.put, List.setIfInBounds_toArray, List.set_cons_zero, List.set_cons_succ]
    refine wpAnyH_take (i := 29) (oi := ⟨some 90, _, _, _, _, _⟩) (v := ?_) rfl (by kernel_rfl) (by kernel_rfl) (by kernel_rfl) (fun _ _ _ h => h) (Or.inl ⟨by rfl, ?_⟩) (by assumption) ?_
    rotate_left
    · intro v hSv; (try dsimp only at hSv); skip; go_simp; (try with_reducible rfl)
    try simp only [Act.put, List.setIfInBounds_toArray, List.set_cons_zero, List.set_cons_succ]
    refine wpAnyH_take (i := 30) (oi := ⟨some 91, _, _, _, _, _⟩) (v := ?_) rfl (by kernel_rfl) (by kernel_rfl) (by kernel_rfl) (fun _ _ _ h => h) (Or.inl ⟨by rfl, ?_⟩) (by assumption) ?_
    rotate_left
    · intro v hSv; (try dsimp only at hSv); skip; go_simp; (try with_reducible rfl)
    try simp only [Act.put, List.setIfInBounds_toArray, List.set_cons_zero, List.set_cons_succ]
    refine wpAnyH_done (by kernel_rfl) ?_ _
    obtain ⟨w8, rfl⟩ : ∃ v, v = v1 := ⟨_, rfl⟩
    have G48 := Lib.hid (G47.out.trans hS1)
    have HRA : Hid (∀ v, Chg none w8 v → RowC b0 v Aa fx.length) := Lib.hid fun v g => RowC.of_own (own_chgW HOA.out (hS1.trans g)) (by have := HB0.out; omega)
    obtain ⟨na, hna⟩ : ∃ na : Nat, na = fx.length := ⟨_, rfl⟩
    have HNA : Hid (na ≤ 1000000) := Lib.hid (by omega)
    rw [← hna] at HRA ⊢
    clear hna hS0 hS1 hb1 hff HCF HCA HXF HOK HOA hi0 hiL hil h16 hx2
    have HP1 := Lib.hid (pwith_any M1 A1 c1 path Ax x cx w8 (HT1.out w8 G48.out) HL1.out hpl.out (HFX.out w8 (G4.out.trans G48.out)).t (HFX.out w8 (G4.out.trans G48.out)).nil HXL.out)
    rw [HM1.out, HK1.out, HMY1.out] at HP1
    go_wp2_with fail
    refine HP1.out.mono ?_
    intro e w9 h9
    obtain ⟨n1, Ab, cb, Mb, rfl, g9, hc1, htb, hob⟩ := pval_of h9
    have G9 := Lib.hid (G48.out.trans g9)
    have K89 := Lib.hid g9
    have HTB := Lib.hid htb
    have HOB := Lib.hid hob
    have HC1 := Lib.hid hc1
    clear h9 g9 hc1 htb hob HP1
    have HR1 := Lib.hid (rwith_any L (some ⟨bb, off, none⟩) c path Ax x cx w9 (HTA.out w9 (G4.out.trans G9.out)) HLL.out hpl.out (fun v g => HFX.out v ((G4.out.trans G9.out).trans g)))
    go_wp2_with fail
    refine HR1.out.mono ?_
    intro e wA hA
    obtain ⟨n1', Ap, cp, Mp, rfl, gA, hc1, htp⟩ := rval_of hA
    obtain rfl : n1 = n1' := HC1.out.one hc1
    have GA := Lib.hid (G9.out.trans gA)
    have K8A := Lib.hid (K89.out.trans gA)
    have hk : keys Mb = keys Mp := HTB.out.same htp
    have HBP : Hid (∀ v, Chg none wA v → Calls Try.prog 13 #[.slice Ab Mb.length cb, .slice Ap Mp.length cp] v fun e w' => e = .returned (.bool true) ∧ Chg none v w') := Lib.hid fun v g => by
      have h := refsame_any Mb Mp Ab Ap cb cp v (HTB.out.tree.chg (gA.trans g)) (htp.tree.chg g) (by have := HTB.out.len; omega)
      rw [decide_eq_true hk] at h
      exact h
    have HSB : Hid (∀ v, Chg none wA v → SpoilAt b0 v Ab Mb) := Lib.hid fun v g => SpoilAt.of (HTB.out.tree.chg (gA.trans g)) ((HOB.out.chg (gA.trans g)).rows (by have := HB0.out; have := G48.out.size; omega))
    have HLB : Hid (Mb.length ≤ 16 ∧ ∀ m ∈ Mb, m.x.length ≤ 2000) := Lib.hid ⟨HTB.out.len, HTB.out.byt⟩
    clear hA gA hc1 htp hk HR1 HTB HOB HC1
    have HP2 := Lib.hid (pbelow_any M1 A1 c1 path wA (HT1.out wA GA.out) HL1.out hpl.out)
    rw [HM1.out, HBK1.out] at HP2
    go_wp2_with fail
    refine HP2.out.mono ?_
    intro e wB hB
    obtain ⟨Ac, cc, Mc, rfl, gB, htc, hoc, hkc, hlc⟩ := hB
    have GB := Lib.hid (GA.out.trans gB)
    have K8B := Lib.hid (K8A.out.trans gB)
    have KB := Lib.hid gB
    have HTC := Lib.hid htc
    have HKC := Lib.hid hkc
    have HLC : Hid (Mc.length ≤ 16 ∧ ∀ m ∈ Mc, m.x.length ≤ 2000) := Lib.hid ⟨hlc, below_byt hkc⟩
    have HOC : Hid (OwnB wA wB Mc) := Lib.hid hoc
    clear gB htc hoc hkc hlc HP2
    have HR2 := Lib.hid (rbelow_any L (some ⟨bb, off, none⟩) c path wB (HTA.out wB (G4.out.trans GB.out)) HLL.out hpl.out)
    go_wp2_with fail
    refine HR2.out.mono ?_
    intro e wC hC
    obtain ⟨Aq, cq, Mq, rfl, gC, htq, hkq, hlq⟩ := hC
    have GC := Lib.hid (GB.out.trans gC)
    have K8C := Lib.hid (K8B.out.trans gC)
    have KC := Lib.hid (KB.out.trans gC)
    have hk : keys Mc = keys Mq := by rw [HKC.out, hkq]
    have HCQ : Hid (∀ v, Chg none wC v → Calls Try.prog 13 #[.slice Ac Mc.length cc, .slice Aq Mq.length cq] v fun e w' => e = .returned (.bool true) ∧ Chg none v w') := Lib.hid fun v g => by
      have h := refsame_any Mc Mq Ac Aq cc cq v (HTC.out.chg (gC.trans g)) (htq.chg g) (by have := HLC.out.1; omega)
      rw [decide_eq_true hk] at h
      exact h
    have HSC : Hid (∀ v, Chg none wC v → SpoilAt b0 v Ac Mc) := Lib.hid fun v g => SpoilAt.of (HTC.out.chg (gC.trans g)) ((HOC.out.chg (gC.trans g)).rows (by have := HB0.out; have := GA.out.size; omega))
    clear gC htq hkq hlq hk HR2 HTC HKC HOC KB
    have HP3 := Lib.hid (punder_any M1 A1 c1 path wC (HT1.out wC GC.out) HL1.out hpl.out)
    rw [HM1.out, HK1.out, HMY1.out] at HP3
    go_wp2_with fail
    refine HP3.out.mono ?_
    intro e wD hD
    obtain ⟨n2, Ad, cd, Md, rfl, gD, hc1, htb, hob⟩ := pval_of hD
    have GD := Lib.hid (GC.out.trans gD)
    have K8D := Lib.hid (K8C.out.trans gD)
    have KD := Lib.hid (KC.out.trans gD)
    have LD := Lib.hid gD
    have HTB := Lib.hid htb
    have HOB := Lib.hid hob
    have HC1 := Lib.hid hc1
    clear hD gD hc1 htb hob HP3 KC
    have HR3 := Lib.hid (runder_any L (some ⟨bb, off, none⟩) c path wD (HTA.out wD (G4.out.trans GD.out)) HLL.out hpl.out)
    go_wp2_with fail
    refine HR3.out.mono ?_
    intro e wE hE
    obtain ⟨n2', Ar, cr, Mr, rfl, gE, hc1, htp⟩ := rval_of hE
    obtain rfl : n2 = n2' := HC1.out.one hc1
    have GE := Lib.hid (GD.out.trans gE)
    have K8E := Lib.hid (K8D.out.trans gE)
    have KE := Lib.hid (KD.out.trans gE)
    have LE := Lib.hid (LD.out.trans gE)
    have hk : keys Md = keys Mr := HTB.out.same htp
    have HDR : Hid (∀ v, Chg none wE v → Calls Try.prog 13 #[.slice Ad Md.length cd, .slice Ar Mr.length cr] v fun e w' => e = .returned (.bool true) ∧ Chg none v w') := Lib.hid fun v g => by
      have h := refsame_any Md Mr Ad Ar cd cr v (HTB.out.tree.chg (gE.trans g)) (htp.tree.chg g) (by have := HTB.out.len; omega)
      rw [decide_eq_true hk] at h
      exact h
    have HSD : Hid (∀ v, Chg none wE v → SpoilAt b0 v Ad Md) := Lib.hid fun v g => SpoilAt.of (HTB.out.tree.chg (gE.trans g)) ((HOB.out.chg (gE.trans g)).rows (by have := HB0.out; have := GC.out.size; omega))
    have HLD : Hid (Md.length ≤ 16 ∧ ∀ m ∈ Md, m.x.length ≤ 2000) := Lib.hid ⟨HTB.out.len, HTB.out.byt⟩
    clear hE gE hc1 htp hk HR3 HTB HOB HC1 KD LD
    have HP4 := Lib.hid (pjoin_any M1 M2 A1 A2 c1 c2 wE (HT1.out wE GE.out) (HT2.out wE GE.out) HL1.out HL2.out)
    rw [HM1.out, HM2.out, HK1.out, HK2.out, HMY1.out, HMY2.out, HMT.out] at HP4
    go_wp2_with fail
    refine HP4.out.mono ?_
    intro e wF hF
    obtain ⟨n3, Aj, cj, Mj, rfl, gF, hc1, htb, hob⟩ := pval_of hF
    have GF := Lib.hid (GE.out.trans gF)
    have K8F := Lib.hid (K8E.out.trans gF)
    have KF := Lib.hid (KE.out.trans gF)
    have LF := Lib.hid (LE.out.trans gF)
    have NF := Lib.hid gF
    have HTB := Lib.hid htb
    have HOB := Lib.hid hob
    have HC1 := Lib.hid hc1
    clear hF gF hc1 htb hob HP4 KE LE
    have HR4 := Lib.hid (rjoin_any L N (some ⟨bb, off, none⟩) B c d wF (HTA.out wF (G4.out.trans GF.out)) (HTO.out wF (G4.out.trans GF.out)) HLL.out HLN.out)
    go_wp2_with fail
    refine HR4.out.mono ?_
    intro e wG hG
    obtain ⟨n3', As, cs, Ms, rfl, gG, hc1, htp⟩ := rval_of hG
    obtain rfl : n3 = n3' := HC1.out.one hc1
    have GG := Lib.hid (GF.out.trans gG)
    have K8G := Lib.hid (K8F.out.trans gG)
    have KG := Lib.hid (KF.out.trans gG)
    have LG := Lib.hid (LF.out.trans gG)
    have NG := Lib.hid (NF.out.trans gG)
    have hk : keys Mj = keys Ms := HTB.out.same htp
    have HJS : Hid (∀ v, Chg none wG v → Calls Try.prog 13 #[.slice Aj Mj.length cj, .slice As Ms.length cs] v fun e w' => e = .returned (.bool true) ∧ Chg none v w') := Lib.hid fun v g => by
      have h := refsame_any Mj Ms Aj As cj cs v (HTB.out.tree.chg (gG.trans g)) (htp.tree.chg g) (by have := HTB.out.len; omega)
      rw [decide_eq_true hk] at h
      exact h
    have HSJ : Hid (∀ v, Chg none wG v → SpoilAt b0 v Aj Mj) := Lib.hid fun v g => SpoilAt.of (HTB.out.tree.chg (gG.trans g)) ((HOB.out.chg (gG.trans g)).rows (by have := HB0.out; have := GE.out.size; omega))
    have HLJ : Hid (Mj.length ≤ 16 ∧ ∀ m ∈ Mj, m.x.length ≤ 2000) := Lib.hid ⟨HTB.out.len, HTB.out.byt⟩
    have GA8 := K8G
    clear hG gG hc1 htp hk HR4 HTB HOB HC1 KF LF NF G9 GA GB GC GD GE GF K89 K8A K8B K8C K8D K8E K8F K8G
    have hn1 : (n1 != n1) = false := by simp
    have hn2 : (n2 != n2) = false := by simp
    have hn3 : (n3 != n3) = false := by simp
    have hdb : (db != db) = false := by simp
    go_wp2_with fail
    refine (HBP.out _ (KG.out)).mono ?_
    rintro e x1 ⟨rfl, gs⟩
    have Sx1 := Lib.hid (gs)
    clear gs
    go_wp2_with fail
    refine (HCQ.out _ (LG.out.trans Sx1.out)).mono ?_
    rintro e x2 ⟨rfl, gs⟩
    have Sx2 := Lib.hid (Sx1.out.trans gs)
    clear gs
    go_wp2_with fail
    refine (HDR.out _ (NG.out.trans Sx2.out)).mono ?_
    rintro e x3 ⟨rfl, gs⟩
    have Sx3 := Lib.hid (Sx2.out.trans gs)
    clear gs
    go_wp2_with fail
    refine (HJS.out _ Sx3.out).mono ?_
    rintro e x4 ⟨rfl, gs⟩
    have Sx4 := Lib.hid (Sx3.out.trans gs)
    clear gs
    go_wp2_with fail
    refine (HS29.out _ (GG.out.trans Sx4.out)).mono ?_
    rintro e x5 ⟨rfl, gs⟩
    have Sx5 := Lib.hid (Sx4.out.trans gs)
    clear gs
    go_wp2_with fail
    refine (HS13.out _ (G4.out.trans (GG.out.trans Sx5.out))).mono ?_
    rintro e x6 ⟨rfl, gs⟩
    have Sx6 := Lib.hid (Sx5.out.trans gs)
    clear gs
    go_wp2_with fail
    refine (HSI.out _ (GG.out.trans Sx6.out)).mono ?_
    rintro e x7 ⟨rfl, gs⟩
    have Sx7 := Lib.hid (Sx6.out.trans gs)
    clear gs
    obtain ⟨wT, rfl⟩ : ∃ v, v = x7 := ⟨_, rfl⟩
    have GT : Hid (Chg none w4 wT) := Lib.hid (GG.out.trans Sx7.out)
    have KA := Lib.hid (G48.out)
    have HRA2 : Hid (∀ v, Spoilt b0 wT v → RowC b0 v Aa na) := Lib.hid fun v s => (HRA.out wT (GA8.out.trans Sx7.out)).spoilt s
    have HB2 : Hid (∀ v, Spoilt b0 wT v → SpoilAt b0 v Ab Mb) := Lib.hid fun v s => (HSB.out wT (KG.out.trans Sx7.out)).spoilt s
    have HC2 : Hid (∀ v, Spoilt b0 wT v → SpoilAt b0 v Ac Mc) := Lib.hid fun v s => (HSC.out wT (LG.out.trans Sx7.out)).spoilt s
    have HD2 : Hid (∀ v, Spoilt b0 wT v → SpoilAt b0 v Ad Md) := Lib.hid fun v s => (HSD.out wT (NG.out.trans Sx7.out)).spoilt s
    have HJ2 : Hid (∀ v, Spoilt b0 wT v → SpoilAt b0 v Aj Mj) := Lib.hid fun v s => (HSJ.out wT Sx7.out).spoilt s
    clear HRA HSB HSC HSD HSJ KG LG NG GG Sx1 Sx2 Sx3 Sx4 Sx5 Sx6 Sx7 HS29 HS13 HSI HBP HCQ HDR HJS hn1 hn2 hn3 hdb GA8
    go_wp2_with fail
    go_loopw [190] (fun s190 wr => ∃ k : Nat, s190 = .int .i64 k ∧ Hid (k ≤ na) ∧ Hid (Spoilt b0 wT wr)) (fun s190 _ => na - (intOf s190).toNat)
    case atStart => exact ⟨0, rfl, Lib.hid (Nat.zero_le _), Lib.hid (Spoilt.refl _ _)⟩
    case round =>
      obtain ⟨k, rfl, H1, H2⟩ := hrel
      by_cases hlt : k < na
      · have hdd : decide ((k : Int) < (na : Int)) = true := by rw [decide_eq_true_eq]; omega
        obtain ⟨g, rfl, hg, hrow⟩ := HRA2.out wr H2.out (by omega)
        obtain ⟨y, hy0, hy1, hcy, hfy⟩ := hrow k hlt
        have hna := HNA.out
        have HLT := Lib.hid hlt
        have HCX := Lib.hid hcy
        have HG := Lib.hid hg
        clear hrow hg
        go_wp2_with fail
        go_roundw
        case rel => exact ⟨k + 1, by first | rfl | go_num, Lib.hid HLT.out, Lib.hid (H2.out.trans (Spoilt.set HG.out HCX.out (by omega) (by omega)))⟩
        case measure => have := HLT.out; first | omega | (simp only [intOf]; omega) | (simp [intOf]; omega)
      · have hdd : decide (k < na) = false := by rw [decide_eq_false_iff_not]; exact hlt
        have hd2 : decide ((k : Int) < (na : Int)) = false := by rw [decide_eq_false_iff_not]; omega
        obtain ⟨wU, rfl⟩ : ∃ v, v = wr := ⟨_, rfl⟩
        have GU : Hid (Chg none w4 wU) := Lib.hid (H2.out.chg GT.out HB0.out.2)
        obtain ⟨wV, hwV⟩ : ∃ v, v = wU.alloc (.cells #[.slice Ab Mb.length cb, .slice Ac Mc.length cc, .slice Ad Md.length cd, .slice Aj Mj.length cj] 25) := ⟨_, rfl⟩
        have gV : Chg none wU wV := by rw [hwV]; exact (Chg.refl _ _).alloc _
        have hbV : Blk wV wU.heap.size #[.slice Ab Mb.length cb, .slice Ac Mc.length cc, .slice Ad Md.length cd, .slice Aj Mj.length cj] 25 := by rw [hwV]; exact Blk.new _ _ _
        have GV : Hid (Chg none w4 wV) := Lib.hid (GU.out.trans gV)
        have hsp : ∀ {A' : Option Addr} {M' : List Fil}, SpoilAt b0 wU A' M' → SpoilAt b0 wV A' M' := fun h => h.grow gV
        have HV : Hid (∀ k : Nat, k < 4 → ∃ (A' : Option Addr) (M' : List Fil) (c' : Nat), (∀ v, Spoilt b0 wV v → v.cell? ⟨wU.heap.size, k, none⟩ = some (.slice A' M'.length c') ∧ SpoilAt b0 v A' M') ∧ M'.length ≤ 16 ∧ ∀ m ∈ M', m.x.length ≤ 1000000) := Lib.hid fun k hk => by
          have hcell : ∀ (j : Nat) (u : Value), (#[.slice Ab Mb.length cb, .slice Ac Mc.length cc, .slice Ad Md.length cd, .slice Aj Mj.length cj] : Array Value)[j]? = some u → (∀ z, u ≠ .int .u8 z) → ∀ v, Spoilt b0 wV v → v.cell? ⟨wU.heap.size, j, none⟩ = some u := fun j u hu hne v s => by
            rcases s.cell ⟨wU.heap.size, j, none⟩ u (by rw [hbV.cell]; exact hu) with h | ⟨z, _, e, _⟩
            · exact h
            · exact absurd e (hne z)
          match k, hk with
          | 0, _ => exact ⟨Ab, Mb, cb, fun v s => ⟨hcell 0 _ rfl (fun z e => by cases e) v s, (hsp (HB2.out wU H2.out)).spoilt s⟩, HLB.out.1, fun m hm => by have := HLB.out.2 m hm; omega⟩
          | 1, _ => exact ⟨Ac, Mc, cc, fun v s => ⟨hcell 1 _ rfl (fun z e => by cases e) v s, (hsp (HC2.out wU H2.out)).spoilt s⟩, HLC.out.1, fun m hm => by have := HLC.out.2 m hm; omega⟩
          | 2, _ => exact ⟨Ad, Md, cd, fun v s => ⟨hcell 2 _ rfl (fun z e => by cases e) v s, (hsp (HD2.out wU H2.out)).spoilt s⟩, HLD.out.1, fun m hm => by have := HLD.out.2 m hm; omega⟩
          | 3, _ => exact ⟨Aj, Mj, cj, fun v s => ⟨hcell 3 _ rfl (fun z e => by cases e) v s, (hsp (HJ2.out wU H2.out)).spoilt s⟩, HLJ.out.1, fun m hm => by have := HLJ.out.2 m hm; omega⟩
        have hlV : wU.heap.size < wV.heap.size := hbV.lt
        have HLV := Lib.hid hlV
        have HWV := Lib.hid hwV
        clear hlt hwV gV hbV hsp hlV HB2 HC2 HD2 HJ2 HRA2 HLB HLC HLD HLJ
        go_wp2_with fail
        rw [← HWV.out]
        clear HWV
        generalize wU.heap.size = pv at *
        go_loopw [206] (fun s206 wr => ∃ k : Nat, s206 = .int .i64 k ∧ Hid (k ≤ 4) ∧ Hid (Spoilt b0 wV wr)) (fun s206 _ => 4 - (intOf s206).toNat)
        case atStart => exact ⟨0, rfl, Lib.hid (Nat.zero_le _), Lib.hid (Spoilt.refl _ _)⟩
        case round =>
          obtain ⟨k, rfl, H3, H4⟩ := hrel
          by_cases hlt : k < 4
          · have hd4 : decide ((k : Int) < 4) = true := by rw [decide_eq_true_eq]; omega
            have hlt4 : (k : Int) < 4 := by omega
            obtain ⟨A', M', c', hv, hl', hx'⟩ := HV.out k hlt
            have cv := (hv wr H4.out).1
            have HSP := Lib.hid (spoil_any b0 M' A' c' wr (hv wr H4.out).2 hl' hx')
            have HLT := Lib.hid hlt
            clear hv hl' hx'
            go_wp2_with fail
            refine HSP.out.mono ?_
            rintro e wW ⟨rfl, gW⟩
            have GW := Lib.hid (H4.out.trans gW)
            clear gW HSP cv
            go_wp2_with fail
            go_roundw
            case rel => exact ⟨k + 1, by first | rfl | go_num, Lib.hid HLT.out, GW⟩
            case measure => have := HLT.out; first | omega | (simp only [intOf]; omega) | (simp [intOf]; omega)
          · have hk4 : k = 4 := by have := H3.out; omega
            have hd4 : decide ((k : Int) < 4) = false := by rw [decide_eq_false_iff_not]; omega
            have hlt4 : ¬ (k : Int) < 4 := by omega
            have GX : Hid (Chg none w4 wr) := Lib.hid (H4.out.chg GV.out HB0.out.2)
            clear hk4 HV
            go_wp2_with fail
            refine (HE13.out _ GX.out).mono ?_
            rintro e wY ⟨rfl, gY⟩
            have GY := Lib.hid (GX.out.trans gY)
            clear gY
            go_wp2_with fail
            refine (HF13.out _ GY.out).mono ?_
            rintro e wZ ⟨rfl, gZ⟩
            have GZ := Lib.hid (GY.out.trans gZ)
            clear gZ
            go_wp2_with fail
            refine (HK.out _).mono ?_
            rintro e wk ⟨rfl, gk⟩
            have GK := Lib.hid (G4.out.trans (GZ.out.trans gk))
            clear gk
            go_wp2_with fail
            go_ret
            exact ⟨rfl, GK.out⟩

end Go.Proofs.Ytglfakglcoffkaa
