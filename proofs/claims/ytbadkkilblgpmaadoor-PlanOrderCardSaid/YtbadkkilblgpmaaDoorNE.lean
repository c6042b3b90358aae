/-
  Package plan: Inputs.
-/
import Derived.Test.YtbadkkilblgpmaaDoorND
namespace Go.Proofs.YtbadkkilblgpmaaDoor
open Go.RowKit

def srcB : List UInt8 := [115, 114, 99]
def inD (dep : List UInt8) : List UInt8 := [105, 110, 47] ++ dep
def inZ (Z : List (List UInt8 × Tr)) : List (List UInt8 × List UInt8) := Z.flatMap fun z => underK (inD z.1) (keys z.2.L)
/-- What a target is run on. -/
def inK (L : List Fil) (Z : List (List UInt8 × Tr)) : List (List UInt8 × List UInt8) := underK srcB (keys L) ++ inZ Z
def okP (t : Tgt) (L : List Fil) (O : List Tr) : Prop := mayTgt t = true ∧ mayT L = true ∧ O.length = t.D.length ∧ badO O = false
def InP (w : World) (t : Tgt) (L : List Fil) (O : List Tr) (e : Ending) (w' : World) : Prop := ∃ n, CodeN (okP t L O) False (okK (inK L (t.D.zip O))) n ∧ RTold w n (inK L (t.D.zip O)) e w'
theorem InP.two {w w' : World} {t : Tgt} {L : List Fil} {O : List Tr} (h : ¬ okP t L O) (g : Chg none w w') : InP w t L O (.returned (.tuple #[.slice none 0 0, .int .i64 2])) w' := ⟨2, .inl ⟨h, rfl⟩, g, .inl ⟨by decide, rfl⟩⟩
theorem InP.eight {w w' : World} {t : Tgt} {L : List Fil} {O : List Tr} (h : okP t L O) (h8 : ¬ okK (inK L (t.D.zip O))) (g : Chg none w w') : InP w t L O (.returned (.tuple #[.slice none 0 0, .int .i64 8])) w' := ⟨8, .inr (.inr (.inl ⟨h, fun h => h, h8, rfl⟩)), g, .inl ⟨by decide, rfl⟩⟩
theorem InP.tree {w w' : World} {t : Tgt} {L : List Fil} {O : List Tr} {A : Option Addr} {c : Nat} {M : List Fil} (h : okP t L O) (hk : (keys M).Perm (inK L (t.D.zip O))) (hm : mayT M = true) (hT : TreeAt w' A M) (g : Chg none w w') :
    InP w t L O (.returned (.tuple #[.slice A M.length c, .int .i64 0])) w' :=
  ⟨0, .inr (.inr (.inr ⟨h, fun h => h, (okK_perm hk).1 ((mayT_iff M).1 hm).1, rfl⟩)), g, .inr ⟨rfl, A, c, M, rfl, hT, hk, hm⟩⟩
theorem name_path {s : List UInt8} (h : nameB s = true) : pathB (inD s) = true := by
  unfold nameB at h
  rw [Bool.and_eq_true, Bool.and_eq_true, decide_eq_true_eq, decide_eq_true_eq, List.all_eq_true] at h
  obtain ⟨h1, h2, h3⟩ := h
  have hok : ∀ c ∈ s, okC c.toNat = true ∧ (c.toNat == 47) = false := fun c hc => by
    have h4 := h3 c hc
    unfold nameC at h4
    simp only [Bool.or_eq_true, Bool.and_eq_true, decide_eq_true_eq, beq_iff_eq] at h4
    refine ⟨?_, by rw [beq_eq_false_iff_ne]; omega⟩
    unfold okC
    simp only [Bool.or_eq_true, Bool.and_eq_true, decide_eq_true_eq, beq_iff_eq]
    omega
  have hp : ∀ (t : List UInt8), (∀ c ∈ t, okC c.toNat = true ∧ (c.toNat == 47) = false) → t ≠ [] → ∀ b, pathFrom b t = true := by
    intro t
    induction t with
    | nil => intro _ h; exact absurd rfl h
    | cons c t ih =>
      intro hc _ b
      have hcc := hc c (List.mem_cons_self)
      have hst := pathFrom_step (s := c :: t) (k := 0) (b := b) (c := c) rfl
      rw [List.drop_zero] at hst
      rw [hst, hcc.1, hcc.2]
      simp only [Bool.false_and, Bool.not_false, Bool.true_and, Bool.and_self, Nat.zero_add, List.drop_one, List.tail_cons]
      by_cases ht : t = []
      · subst ht
        have := pathFrom_end (s := []) (k := 0) (b := false) (by simp)
        simpa using this
      · exact ih (fun x hx => hc x (List.mem_cons_of_mem _ hx)) ht false
  have hs : s ≠ [] := by intro e; subst e; simp at h1
  have hpb : pathFrom true (inD s) = true := by
    unfold inD
    have e0 := pathFrom_step (s := [105, 110, 47] ++ s) (k := 0) (b := true) (c := 105) rfl
    have e1 := pathFrom_step (s := [105, 110, 47] ++ s) (k := 1) (b := false) (c := 110) rfl
    have e2 := pathFrom_step (s := [105, 110, 47] ++ s) (k := 2) (b := false) (c := 47) rfl
    have e3 := hp s hok hs true
    rw [List.drop_zero] at e0
    rw [e0]
    have f1 : ((105 : UInt8).toNat == 47) = false := by decide
    have f2 : ((110 : UInt8).toNat == 47) = false := by decide
    rw [f1] at *
    rw [e1, f2]
    rw [f2] at *
    rw [e2]
    simp only [List.drop_succ_cons, List.cons_append, List.drop_zero, List.nil_append]
    have f3 : ((47 : UInt8).toNat == 47) = true := by decide
    rw [f3, e3]
    decide
  unfold pathB
  have hl : (inD s).length = s.length + 3 := by unfold inD; simp
  rw [hl, hpb, decide_eq_true (by omega), decide_eq_true (by omega)]
  rfl
theorem dep_name {D : List (List UInt8)} (h : depsB D = true) : D.length ≤ 5 ∧ ∀ s ∈ D, nameB s = true := by
  unfold depsB at h
  rw [Bool.and_eq_true, decide_eq_true_eq, List.all_eq_true] at h
  refine ⟨h.1, fun s hs => ?_⟩
  obtain ⟨i, hi, rfl⟩ := List.getElem_of_mem hs
  have h1 := h.2 i (by simpa using hi)
  unfold depOk at h1
  rw [Bool.and_eq_true] at h1
  have h2 := h1.1
  rw [List.getD_eq_getElem?_getD, List.getElem?_eq_getElem hi] at h2
  exact h2
/-- What has been joined so far, or the number that says why not. -/
def InAt (w : World) (Z : List (List UInt8 × Tr)) (L : List Fil) (k : Nat) (n : Int) (A1 : Option Addr) (M : List Fil) : Prop :=
  (n = 0 ∧ TreeAt w A1 M ∧ mayT M = true ∧ (keys M).Perm (inK L (Z.take k))) ∨ (n ≠ 0 ∧ ¬ okK (inK L Z))
theorem inZ_step {Z : List (List UInt8 × Tr)} {k : Nat} {z : List UInt8 × Tr} (h : Z[k]? = some z) : inZ (Z.take (k + 1)) = inZ (Z.take k) ++ underK (inD z.1) (keys z.2.L) := by
  unfold inZ
  rw [List.take_add_one, h, List.flatMap_append]
  simp

set_option maxHeartbeats 32000000 in
set_option maxRecDepth 100000 in
theorem inputs_any (t : Tgt) (L : List Fil) (A : Option Addr) (c : Nat) (O : List Tr) (OA : Option Addr) (oc : Nat) (w : World) (ht : TgtAt w t) (hT : TreeAt w A L) (hO : OutsAt w OA O) (hF : Flds w)
    (hl : L.length ≤ 9223372036854775807) (hol : O.length ≤ 4611686018427387904) :
    Calls Tryd.prog 59 #[.agg (tgtCells t).toArray, .slice A L.length c, .slice OA O.length oc] w (InP w t L O) := by
  obtain ⟨W1, hW1⟩ : ∃ W1, W1 = w.alloc (.cells (tgtCells t).toArray 77) := ⟨_, rfl⟩
  obtain ⟨W2, hW2⟩ : ∃ W2, W2 = W1.alloc (.cells (tgtCells t).toArray 77) := ⟨_, rfl⟩
  have g1 : Chg none w W1 := by rw [hW1]; exact (Chg.refl _ _).alloc _
  have g2 : Chg none W1 W2 := by rw [hW2]; exact (Chg.refl _ _).alloc _
  have hb1 : Blk W1 w.heap.size (tgtCells t).toArray 77 := by rw [hW1]; exact Blk.new _ _ _
  have hb2 : Blk W2 W1.heap.size (tgtCells t).toArray 77 := by rw [hW2]; exact Blk.new _ _ _
  have HMY := Lib.hid (pmay_one t W1.heap.size W2 (ht.chg (g1.trans g2)) (hF.chg (g1.trans g2)) hb2)
  have HX : Hid (∀ v, Chg none W1 v → v.cell? ⟨w.heap.size, 0, none⟩ = some (.string ⟨t.n.toArray⟩) ∧ v.cell? ⟨w.heap.size, 1, none⟩ = some (.slice t.A t.D.length t.c) ∧ v.cell? ⟨w.heap.size, 2, none⟩ = some (.int .i64 t.fuel) ∧ v.cell? ⟨w.heap.size, 3, none⟩ = some (.slice t.B t.P.length t.d)) := Lib.hid fun v g => by
    have h := hb1.chg g (by simp)
    exact ⟨h.cell 0, h.cell 1, h.cell 2, h.cell 3⟩
  have HG1 := Lib.hid g1
  have HG2 := Lib.hid g2
  have HW1 : Hid (w.alloc (.cells #[.string ⟨t.n.toArray⟩, .slice t.A t.D.length t.c, .int .i64 t.fuel, .slice t.B t.P.length t.d] 77) = W1) := Lib.hid hW1.symm
  have HW2 : Hid (W1.alloc (.cells #[.string ⟨t.n.toArray⟩, .slice t.A t.D.length t.c, .int .i64 t.fuel, .slice t.B t.P.length t.d] 77) = W2) := Lib.hid hW2.symm
  have HTL := Lib.hid (fun v (g : Chg none w v) => hT.chg g)
  have HTO := Lib.hid (fun v (g : Chg none w v) => hO.chg g)
  have HTD := Lib.hid (fun v (g : Chg none w v) => ht.deps.chg g)
  have HML := Lib.hid (fun v (g : Chg none w v) => mayt_any L A c v (hT.chg g) hl)
  have HBD := Lib.hid (fun v (g : Chg none w v) => contains105 O OA oc v (hO.chg g) hol)
  have HLL := Lib.hid hl
  have HNE1 : Hid (mayTgt t = false → ¬ okP t L O) := Lib.hid fun h h2 => by rw [h2.1] at h; cases h
  have HNE2 : Hid (mayT L = false → ¬ okP t L O) := Lib.hid fun h h2 => by rw [h2.2.1] at h; cases h
  have HNE3 : Hid (O.length ≠ t.D.length → ¬ okP t L O) := Lib.hid fun h h2 => h h2.2.2.1
  have HNE4 : Hid (badO O = true → ¬ okP t L O) := Lib.hid fun h h2 => by rw [h2.2.2.2] at h; cases h
  have HDL : Hid (mayTgt t = true → t.D.length ≤ 5 ∧ ∀ s ∈ t.D, nameB s = true) := Lib.hid fun h => by
    unfold mayTgt at h
    rw [Bool.and_eq_true, Bool.and_eq_true] at h
    exact dep_name h.2.1
  have htd := ht.dl
  clear ht hT hO hF hl hol hW1 hW2 g1 g2 hb1 hb2
  obtain ⟨INP, hINP⟩ : ∃ I, I = InP w t L O := ⟨_, rfl⟩
  have HINP := Lib.hid hINP
  have HTWO : Hid (∀ v, ¬ okP t L O → Chg none w v → INP (.returned (.tuple #[.slice none 0 0, .int .i64 2])) v) := Lib.hid fun v h g => by rw [HINP.out]; exact InP.two h g
  have HEI : Hid (∀ v, okP t L O → ¬ okK (inK L (t.D.zip O)) → Chg none w v → INP (.returned (.tuple #[.slice none 0 0, .int .i64 8])) v) := Lib.hid fun v h h8 g => by rw [HINP.out]; exact InP.eight h h8 g
  have HTR : Hid (∀ v A c M, okP t L O → (keys M).Perm (inK L (t.D.zip O)) → mayT M = true → TreeAt v A M → Chg none w v → INP (.returned (.tuple #[.slice A M.length c, .int .i64 0])) v) := Lib.hid fun v A c M h hk hm hT g => by rw [HINP.out]; exact InP.tree h hk hm hT g
  rw [← hINP]
  clear hINP HINP
  cases hmt : mayTgt t with
  | false =>
    rw [hmt] at HMY
    have HNO := Lib.hid (HNE1.out hmt)
    obtain ⟨tn, tA, tD, tc, tf, tB, tP, td⟩ := t
    unfold tgtCells
    dsimp only at HX HW1 HW2 ⊢
    clear hmt htd
    go_enter Tryd.func59, Tryd.ntmps59
    go_upto_region 1 with fail
    rw [HW1.out]
    obtain ⟨x0, x1, x2, x3⟩ := HX.out W1 (Chg.refl _ _)
    generalize w.heap.size = px at *
    go_step3
    go_wp2_with fail
    rw [HW2.out]
    refine HMY.out.mono ?_
    rintro e w3 ⟨rfl, g3⟩
    have G3 := Lib.hid (HG1.out.trans (HG2.out.trans g3))
    clear g3 x0 x1 x2 x3
    go_wp2_with fail
    first | exact HTWO.out _ HNO.out G3.out | (go_ret2; exact HTWO.out _ HNO.out G3.out)
  | true =>
  rw [hmt] at HMY
  obtain ⟨hd5, hdn⟩ := HDL.out hmt
  have HD5 := Lib.hid hd5
  have HDN := Lib.hid hdn
  have HMT := Lib.hid hmt
  clear hmt hd5 hdn HDL
  obtain ⟨D, hD⟩ : ∃ D, D = t.D := ⟨_, rfl⟩
  obtain ⟨tn, tA, tD, tc, tf, tB, tP, td⟩ := t
  dsimp only at hD
  subst hD
  unfold tgtCells
  dsimp only at HX HW1 HW2 HTD HD5 HDN HEI HTR HNE3 htd ⊢
  go_enter Tryd.func59, Tryd.ntmps59
  go_upto_region 1 with fail
  rw [HW1.out]
  obtain ⟨x0, x1, x2, x3⟩ := HX.out W1 (Chg.refl _ _)
  generalize w.heap.size = px at *
  go_step3
  go_wp2_with fail
  rw [HW2.out]
  refine HMY.out.mono ?_
  rintro e w3 ⟨rfl, g3⟩
  have K3 := Lib.hid (HG2.out.trans g3)
  have G3 := Lib.hid (HG1.out.trans (HG2.out.trans g3))
  clear g3 x0 x1 x2 x3 HMY HW1 HW2
  cases hml : mayT L with
  | false =>
    have HNO := Lib.hid (HNE2.out hml)
    rw [hml] at HML
    clear hml
    go_wp2_with fail
    refine (HML.out _ G3.out).mono ?_
    rintro e w4 ⟨rfl, g4⟩
    have G4 := Lib.hid (G3.out.trans g4)
    clear g4
    go_wp2_with fail
    first | exact HTWO.out _ HNO.out G4.out | (go_ret2; exact HTWO.out _ HNO.out G4.out)
  | true =>
  rw [hml] at HML
  have HMM := Lib.hid hml
  clear hml
  go_wp2_with fail
  refine (HML.out _ G3.out).mono ?_
  rintro e w4 ⟨rfl, g4⟩
  obtain ⟨y0, y1, y2, y3⟩ := HX.out w4 (K3.out.trans g4)
  have K4 := Lib.hid (K3.out.trans g4)
  have G4 := Lib.hid (G3.out.trans g4)
  clear g4 HML
  by_cases hlen : O.length = D.length
  rotate_left
  · have HNO := Lib.hid (HNE3.out hlen)
    have e1 : ((O.length : Int) != (D.length : Int)) = true := by rw [bne_iff_ne]; omega
    clear hlen
    go_wp2_with fail
    first | exact HTWO.out _ HNO.out G4.out | (go_ret2; exact HTWO.out _ HNO.out G4.out)
  have e1 : ((O.length : Int) != (D.length : Int)) = false := by rw [bne_eq_false_iff_eq]; omega
  have HLN := Lib.hid hlen
  cases hbd : badO O with
  | true =>
    have HNO := Lib.hid (HNE4.out hbd)
    rw [hbd] at HBD
    clear hbd hlen
    go_wp2_with fail
    refine (HBD.out _ G4.out).mono ?_
    rintro e w5 ⟨rfl, g5⟩
    have G5 := Lib.hid (G4.out.trans g5)
    clear g5
    go_wp2_with fail
    first | exact HTWO.out _ HNO.out G5.out | (go_ret2; exact HTWO.out _ HNO.out G5.out)
  | false =>
  rw [hbd] at HBD
  have HOKP : Hid (okP ⟨tn, tA, D, tc, tf, tB, tP, td⟩ L O) := Lib.hid ⟨HMT.out, HMM.out, hlen, hbd⟩
  have HOM : Hid (∀ o ∈ O, mayT o.L = true) := Lib.hid fun o ho => by
    have := List.any_eq_false.1 hbd o ho
    simpa using this
  clear hbd hlen
  go_wp2_with fail
  refine (HBD.out _ G4.out).mono ?_
  rintro e w5 ⟨rfl, g5⟩
  have G5 := Lib.hid (G4.out.trans g5)
  have K5 := Lib.hid (K4.out.trans g5)
  clear g5 HBD y0 y1 y2 y3 e1
  have HUN := Lib.hid (punder_any L A c srcB w5 (HTL.out w5 G5.out) HLL.out (by decide))
  unfold srcB at HUN
  go_wp2_with fail
  refine HUN.out.mono ?_
  rintro e w6 ⟨n6, hc6, hp6⟩
  have hz6 : n6 = 0 ↔ okK (underK srcB (keys L)) := by
    rw [hc6.zero]
    exact ⟨fun h => h.2.2, fun h => ⟨⟨HMM.out, by decide⟩, fun h => h, h⟩⟩
  have HV : Hid (∃ (A1 : Option Addr) (c1 : Nat) (M : List Fil), e = .returned (.tuple #[.slice A1 M.length c1, .int .i64 n6]) ∧ (n6 = 0 → TreeAt w6 A1 M ∧ mayT M = true ∧ (keys M).Perm (underK srcB (keys L)))) := Lib.hid (by
    rcases hp6.2 with ⟨h1, he⟩ | ⟨h1, A1, c1, M, he, hT1, -, hk1, hm1⟩
    · exact ⟨none, 0, [], he, fun h => absurd h h1⟩
    · rw [h1]; exact ⟨A1, c1, M, he, fun _ => ⟨hT1, hm1, hk1⟩⟩)
  have G6 := Lib.hid (G5.out.trans hp6.1)
  have K6 := Lib.hid (K5.out.trans hp6.1)
  have HZ6 := Lib.hid hz6
  clear hc6 hp6 hz6 HUN
  obtain ⟨A1, c1, M, rfl, hv⟩ := HV.out
  have HV6 := Lib.hid hv
  clear hv HV
  obtain ⟨z0, z1, z2, z3⟩ := HX.out w6 K6.out
  go_wp2_with fail
  go_step3
  go_wp2_with fail
  obtain ⟨Z, hZ⟩ : ∃ Z, Z = D.zip O := ⟨_, rfl⟩
  rw [← hZ] at HEI HTR
  have HZL : Hid (Z.length = D.length) := Lib.hid (by rw [hZ, List.length_zip, HLN.out, Nat.min_self])
  have HZK : Hid (∀ (k : Nat) (s : List UInt8) (o : Tr), D[k]? = some s → O[k]? = some o → Z[k]? = some (s, o)) := Lib.hid fun k s o h1 h2 => by rw [hZ, List.getElem?_zip_eq_some]; exact ⟨h1, h2⟩
  have HLO : Hid (∀ k, ¬ okK (inK L (Z.take k)) → ¬ okK (inK L Z)) := Lib.hid fun k h h2 => h (by
    have e : inK L Z = inK L (Z.take k) ++ inZ (Z.drop k) := by
      unfold inK inZ
      rw [List.append_assoc, ← List.flatMap_append, List.take_append_drop]
    rw [e] at h2
    exact okK_left h2)
  have hst : InAt w6 Z L 0 n6 A1 M := by
    by_cases h0 : n6 = 0
    · obtain ⟨h1, h2, h3⟩ := HV6.out h0
      refine .inl ⟨h0, h1, h2, ?_⟩
      have e : inK L (Z.take 0) = underK srcB (keys L) := by unfold inK inZ; simp
      rw [e]
      exact h3
    · exact .inr ⟨h0, HLO.out 0 (by
        have e : inK L (Z.take 0) = underK srcB (keys L) := by unfold inK inZ; simp
        rw [e]
        exact fun h => h0 (HZ6.out.2 h))⟩
  have HST := Lib.hid hst
  clear hZ hst HZ6 HV6 HNE1 HNE2 HNE3 HNE4 HTWO
  go_loopw [8, 9, 39] (fun s8 s9 s39 wr => ∃ (k : Nat) (n : Int) (A1 : Option Addr) (c1 : Nat) (M : List Fil), s39 = .int .i64 k ∧ s9 = .int .i64 n ∧ s8 = .slice A1 M.length c1 ∧ Hid (k ≤ D.length ∧ Chg none w6 wr ∧ InAt wr Z L k n A1 M)) (fun _ _ s39 _ => D.length - (intOf s39).toNat)
  case atStart => exact ⟨0, n6, A1, c1, M, rfl, rfl, rfl, Lib.hid ⟨Nat.zero_le _, Chg.refl _ _, HST.out⟩⟩
  case round =>
    obtain ⟨k, n, A1, c1, M, rfl, rfl, rfl, HR⟩ := hrel
    by_cases hlt : k < D.length
    · have hdd : decide ((k : Int) < (D.length : Int)) = true := by rw [decide_eq_true_eq]; omega
      obtain ⟨s, hks⟩ : ∃ s, D[k]? = some s := ⟨_, List.getElem?_eq_getElem hlt⟩
      have hlO : k < O.length := by rw [HLN.out]; exact hlt
      obtain ⟨o, hko⟩ : ∃ o, O[k]? = some o := ⟨_, List.getElem?_eq_getElem (by rw [HLN.out]; exact hlt)⟩
      have HGR := Lib.hid (G6.out.trans HR.out.2.1)
      obtain ⟨b, off, rfl, hb, x0⟩ := (HTD.out wr HGR.out).one hks
      obtain ⟨b', off', rfl, hb', x1⟩ := (HTO.out wr HGR.out).one hko
      have hLT5 := HD5.out
      have HLT := Lib.hid hlt
      by_cases hn : n = 0
      · obtain ⟨hT1, hm1, hk1⟩ : TreeAt wr A1 M ∧ mayT M = true ∧ (keys M).Perm (inK L (Z.take k)) := by
          rcases HR.out.2.2 with ⟨-, h⟩ | ⟨h, -⟩
          · exact h
          · exact absurd hn h
        have hdn := HDN.out s (List.mem_of_getElem? hks)
        have hom := HOM.out o (List.mem_of_getElem? hko)
        have HJ := Lib.hid (joined_any M o.L A1 o.A c1 o.c (inD s) wr hT1 ((HTO.out wr HGR.out).2 o (List.mem_of_getElem? hko)).1 hm1 hom (name_path hdn))
        have hIZ := inZ_step (HZK.out k s o hks hko)
        have HPK : Hid ((keys M ++ underK (inD s) (keys o.L)).Perm (inK L (Z.take (k + 1)))) := Lib.hid (by
          unfold inK
          rw [hIZ, ← List.append_assoc]
          exact List.Perm.append_right _ hk1)
        have hcc : (⟨#[105, 110, 47]⟩ : ByteArray) ++ (⟨s.toArray⟩ : ByteArray) = ⟨(inD s).toArray⟩ := ba_append [105, 110, 47] s
        have hsl : s.length ≤ 10 := by
          unfold nameB at hdn
          rw [Bool.and_eq_true, Bool.and_eq_true, decide_eq_true_eq, decide_eq_true_eq] at hdn
          exact hdn.2.1
        have hsl2 : 3 + s.length ≤ 9223372036854775807 := by omega
        subst hn
        clear hks hko hT1 hm1 hk1 hdn hom hIZ
        obtain ⟨oA, oL, oc'⟩ := o
        dsimp only at x1 HJ HPK
        go_wp2_with fail
        refine HJ.out.mono ?_
        rintro e w7 ⟨g7, h7⟩
        have hnx : ∃ (n : Int) (A2 : Option Addr) (c2 : Nat) (M2 : List Fil), e = .returned (.tuple #[.slice A2 M2.length c2, .int .i64 n]) ∧ InAt w7 Z L (k + 1) n A2 M2 := by
          rcases h7 with ⟨hno, n, h0, he⟩ | ⟨hok, A2, c2, M2, he, hT2, hm2, hk2⟩
          · exact ⟨n, none, 0, [], he, .inr ⟨h0, HLO.out (k + 1) (fun h => hno ((okK_perm HPK.out).2 h))⟩⟩
          · exact ⟨0, A2, c2, M2, he, .inl ⟨rfl, hT2, hm2, hk2.trans HPK.out⟩⟩
        have G7 := Lib.hid (HR.out.2.1.trans g7)
        clear g7 h7 HJ HPK hsl hsl2 hcc
        obtain ⟨n2, A2, c2, M2, rfl, hin⟩ := hnx
        have HIN := Lib.hid hin
        clear hin
        go_wp2_with fail
        go_roundw
        case rel => exact ⟨k + 1, n2, A2, c2, M2, by first | rfl | go_num, rfl, rfl, Lib.hid ⟨HLT.out, G7.out, HIN.out⟩⟩
        case measure => have := HLT.out; first | omega | (simp only [intOf]; omega) | (simp [intOf]; omega)
      · have hn1 : (n != 0) = true := by rw [bne_iff_ne]; exact hn
        have HNO : Hid (¬ okK (inK L Z)) := Lib.hid (by
          rcases HR.out.2.2 with ⟨h, -⟩ | ⟨-, h⟩
          · exact absurd h hn
          · exact h)
        clear hn hks hko
        go_wp2_with fail
        first | exact HEI.out _ HOKP.out HNO.out HGR.out | (go_ret2; exact HEI.out _ HOKP.out HNO.out HGR.out)
    · have hdd : decide (k < D.length) = false := by rw [decide_eq_false_iff_not]; exact hlt
      have hd2 : decide ((k : Int) < (D.length : Int)) = false := by rw [decide_eq_false_iff_not]; omega
      have HGR := Lib.hid (G6.out.trans HR.out.2.1)
      rcases HR.out.2.2 with ⟨hn, hT1, hm1, hk1⟩ | ⟨hn, hno⟩
      · subst hn
        have hk2 : (keys M).Perm (inK L Z) := by
          rw [List.take_of_length_le (by have := HZL.out; omega)] at hk1
          exact hk1
        have HEX := Lib.hid (HTR.out wr A1 c1 M HOKP.out hk2 hm1 hT1 HGR.out)
        clear hlt hT1 hm1 hk1 hk2
        go_wp2_with fail
        first | exact HEX.out | (go_ret2; exact HEX.out)
      · have hn1 : (n != 0) = true := by rw [bne_iff_ne]; exact hn
        have HNO := Lib.hid hno
        clear hlt hn hno
        go_wp2_with fail
        first | exact HEI.out _ HOKP.out HNO.out HGR.out | (go_ret2; exact HEI.out _ HOKP.out HNO.out HGR.out)


end Go.Proofs.YtbadkkilblgpmaaDoor
