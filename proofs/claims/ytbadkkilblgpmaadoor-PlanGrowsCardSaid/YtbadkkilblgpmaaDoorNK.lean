/-
  PlanGrows, of any target.
-/
import Derived.Test.YtbadkkilblgpmaaDoorNI
import Derived.Test.YtbadkkilblgpmaaDoorTQ
import Derived.Test.YtbadkkilblgpmaaDoorTRM
import Derived.Deep.RegionHeld3
namespace Go.Proofs.YtbadkkilblgpmaaDoor
open Go.RowKit

set_option maxHeartbeats 16000000 in
set_option maxRecDepth 100000 in
theorem t_refsame_any (L M : List Fil) (A B : Option Addr) (c d : Nat) (w : World) (hL : TreeAt w A L) (hM : TreeAt w B M) (hl : L.length ≤ 9223372036854775806) :
    Calls Tryd.prog 33 #[.slice A L.length c, .slice B M.length d] w fun e w' => e = .returned (.bool (decide (keys L = keys M))) ∧ Chg none w w' := by
  by_cases hlm : L.length = M.length
  rotate_left
  · have d1 : ((L.length : Int) != (M.length : Int)) = true := by rw [bne_iff_ne]; omega
    rw [decide_eq_false (fun h => hlm (by have := congrArg List.length h; simpa [keys] using this))]
    clear hlm hL hM
    go_enter Tryd.func33, Tryd.ntmps33
    go_wp2_with fail
    go_ret
    exact ⟨rfl, Chg.refl _ _⟩
  have d1 : ((L.length : Int) != (M.length : Int)) = false := by rw [bne_eq_false_iff_eq]; omega
  have HL : Hid (∀ v, Chg none w v → TreeAt v A L) := fun v g => hL.chg g
  have HM : Hid (∀ v, Chg none w v → TreeAt v B M) := fun v g => hM.chg g
  have HLM := Lib.hid hlm
  have HLL := Lib.hid hl
  clear hL hM hl
  rw [← hlm]
  rw [← hlm] at d1
  clear hlm
  go_enter Tryd.func33, Tryd.ntmps33
  go_wp2_with fail
  go_loopw [5] (fun s5 wr => ∃ k : Nat, s5 = .int .i64 k ∧ Hid (k ≤ L.length ∧ ∀ j, j < k → (keys L)[j]? = (keys M)[j]?) ∧ Hid (Chg none w wr)) (fun s5 _ => L.length - (intOf s5).toNat)
  case atStart => exact ⟨0, rfl, Lib.hid ⟨Nat.zero_le _, fun j h => absurd h (Nat.not_lt_zero _)⟩, Lib.hid (Chg.refl _ _)⟩
  case round =>
    obtain ⟨k, rfl, H1, H2⟩ := hrel
    by_cases hlt : k < L.length
    · have hd : decide ((k : Int) < (L.length : Int)) = true := by rw [decide_eq_true_eq]; omega
      obtain ⟨f, hkf⟩ : ∃ f, L[k]? = some f := ⟨_, List.getElem?_eq_getElem hlt⟩
      obtain ⟨h, hkh⟩ : ∃ h, M[k]? = some h := ⟨_, List.getElem?_eq_getElem (by rw [← HLM.out]; exact hlt)⟩
      have hneL : L ≠ [] := by intro e; subst e; simp at hlt
      have hneM : M ≠ [] := by intro e; subst e; simp at hkh
      have G1 : Hid (Chg none w wr.drew) := H2.out.drew
      have HRL := Lib.hid (HL.out _ G1.out)
      have HRM := Lib.hid (HM.out _ G1.out)
      obtain ⟨b, off, rfl, -, -⟩ := HRL.out.1 hneL
      obtain ⟨b2, off2, rfl, -, -⟩ := HRM.out.1 hneM
      obtain ⟨hb, x0, x1⟩ := HRL.out.1.two hkf
      obtain ⟨hb2, y0, y1⟩ := HRM.out.1.two hkh
      have tx := (HRL.out.2 f (List.mem_of_getElem? hkf)).t
      have ty := (HRM.out.2 h (List.mem_of_getElem? hkh)).t
      have c1 := conv_reads (c := f.c) wr.drew (txt_reads tx)
      have c2 := conv_reads (c := h.c) wr.drew (txt_reads ty)
      have HKF : Hid ((keys L)[k]? = some (keyF f)) := by show _ = _; unfold keys; rw [List.getElem?_map, hkf]; rfl
      have HKH : Hid ((keys M)[k]? = some (keyF h)) := by show _ = _; unfold keys; rw [List.getElem?_map, hkh]; rfl
      have HLT := Lib.hid hlt
      have hwk : wrap64 ((k : Int) + 1) = ((k + 1 : Nat) : Int) := by have h1 := HLL.out; unfold wrap64; omega
      have HWK := Lib.hid hwk
      clear hkf hkh hneL hneM HRL HRM HL HM hlt tx ty hwk
      obtain ⟨fp, fA, fx, fc⟩ := f
      obtain ⟨hp, hA, hx, hc⟩ := h
      dsimp only at x0 x1 y0 y1 c1 c2
      unfold keyF at HKF HKH
      dsimp only at HKF HKH
      by_cases ep : fp = hp
      rotate_left
      · have e1 : (fp == hp) = false := by rw [beq_eq_false_iff_ne]; exact ep
        have HRES : Hid (decide (keys L = keys M) = false) := decide_eq_false (fun e => ep (by
          have h1 := HKF.out
          rw [e, HKH.out] at h1
          have h2 := Option.some.inj h1
          rw [Prod.mk.injEq] at h2
          exact h2.1.symm))
        have e2 : ¬ fp = hp := ep
        clear c1 c2 x1 y1 ep
        as_aux_lemma =>
          go_wp2_with fail
          go_region
          all_goals
            go_wp2_with fail
            go_ret
            exact ⟨by rw [HRES.out]; rfl, G1.out⟩
      subst ep
      by_cases ex : fx = hx
      rotate_left
      · have e1 : (fx == hx) = false := by rw [beq_eq_false_iff_ne]; exact ex
        have HRES : Hid (decide (keys L = keys M) = false) := decide_eq_false (fun e => ex (by
          have h1 := HKF.out
          rw [e, HKH.out] at h1
          have h2 := Option.some.inj h1
          rw [Prod.mk.injEq] at h2
          exact h2.2.symm))
        have e2 : ¬ fx = hx := ex
        clear ex
        as_aux_lemma =>
          go_wp2_with fail
          go_region
          all_goals
            go_wp2_with fail
            go_ret
            exact ⟨by rw [HRES.out]; rfl, G1.out⟩
      subst ex
      have HEQ : Hid ((keys L)[k]? = (keys M)[k]?) := by show _ = _; rw [HKF.out, HKH.out]
      go_upto_region 6 with fail
      go_cut [42] from 17 to 41 (fun s42 wx => s42 = .bool false ∧ Hid (Chg none w wx))
      case first =>
        as_aux_lemma =>
          go_region
          all_goals
            go_wp2_with fail
            go_meet
            case rel => exact ⟨by first | rfl | (simp; done), G1⟩
      case rest =>
        obtain ⟨rfl, G9⟩ := hcut
        clear x0 x1 y0 y1 c1 c2
        go_wp2_with fail
        go_roundw
        case rel => exact ⟨k + 1, by rw [HWK.out], Lib.hid ⟨HLT.out, fun j hj => by
          rcases Nat.lt_or_ge j k with h | h
          · exact H1.out.2 j h
          · obtain rfl : j = k := by omega
            exact HEQ.out⟩, G9⟩
        case measure =>
          have h1 := HLL.out
          have h2 := HLT.out
          rw [HWK.out]; simp only [intOf]; omega
    · have hd : decide (k < L.length) = false := by rw [decide_eq_false_iff_not]; exact hlt
      have hd2 : decide ((k : Int) < (L.length : Int)) = false := by rw [decide_eq_false_iff_not]; omega
      have HRES : Hid (decide (keys L = keys M) = true) := decide_eq_true (by
        refine List.ext_getElem? fun j => ?_
        rcases Nat.lt_or_ge j k with h | h
        · exact H1.out.2 j h
        · rw [List.getElem?_eq_none (by unfold keys; rw [List.length_map]; omega), List.getElem?_eq_none (by unfold keys; rw [List.length_map, ← HLM.out]; omega)])
      clear hlt HL HM
      go_wp2_with fail
      go_ret
      exact ⟨by rw [HRES.out]; rfl, H2.out⟩


def srcP (path : List UInt8) : List UInt8 := [115, 114, 99, 47] ++ path
theorem srcP_eq (path : List UInt8) : srcP path = srcB ++ ([47] ++ path) := rfl
theorem filter_under (path : List UInt8) (K : List (List UInt8 × List UInt8)) : (underK srcB K).filter (fun f => f.1 != srcP path) = underK srcB (K.filter fun f => f.1 != path) := by
  unfold underK
  rw [List.filter_map]
  congr 1
theorem filter_inZ (path : List UInt8) : ∀ Z, (inZ Z).filter (fun f => f.1 != srcP path) = inZ Z
  | [] => rfl
  | z :: Z => by
    rw [inZ_cons, List.filter_append, filter_inZ path Z]
    congr 1
    rw [List.filter_eq_self]
    intro f hf
    unfold underK at hf
    obtain ⟨g, -, rfl⟩ := List.mem_map.1 hf
    rw [bne_iff_ne]
    intro e
    have := (List.cons.inj e).1
    revert this
    decide
theorem grow_perm (L : List Fil) (path x : List UInt8) (Z : List (List UInt8 × Tr)) : (withK (srcP path) x (inK L Z)).Perm (underK srcB (withK path x (keys L)) ++ inZ Z) := by
  unfold withK inK
  rw [List.filter_append, filter_under, filter_inZ]
  have e : underK srcB ((keys L).filter (fun f => f.1 != path) ++ [(path, x)]) = underK srcB ((keys L).filter fun f => f.1 != path) ++ [(srcP path, x)] := by
    unfold underK
    rw [List.map_append]
    rfl
  rw [e, List.append_assoc, List.append_assoc]
  exact List.Perm.append_left _ List.perm_append_comm
theorem under_perm (dir : List UInt8) {K K' : List (List UInt8 × List UInt8)} (h : K.Perm K') : (underK dir K).Perm (underK dir K') := by unfold underK; exact h.map _
theorem withK_perm (p x : List UInt8) {K K' : List (List UInt8 × List UInt8)} (h : K.Perm K') : (withK p x K).Perm (withK p x K') := by unfold withK; exact List.Perm.append_right _ (h.filter _)

/-- What With told. -/
def WithP (L : List Fil) (path x : List UInt8) (n : Int) (M : List Fil) : Prop := (n = 0 ↔ (mayT L = true ∧ pathB path = true) ∧ okK (withK path x (keys L))) ∧ (n = 0 → mayT M = true ∧ (keys M).Perm (withK path x (keys L)))
theorem with_plain (L : List Fil) (A : Option Addr) (c : Nat) (path : List UInt8) (Ax : Option Addr) (x : List UInt8) (cx : Nat) (w : World) (hT : TreeAt w A L) (hl : L.length ≤ 9223372036854775807) (hd : path.length ≤ 9223372036854775807)
    (hx : Txt w Ax x) (hn : NilOk Ax x.length cx) (hxl : x.length ≤ 1000000) :
    Calls Tryd.prog 65 #[.slice A L.length c, .string ⟨path.toArray⟩, .slice Ax x.length cx] w fun e w' => ∃ (n : Int) (A' : Option Addr) (c' : Nat) (M : List Fil), e = .returned (.tuple #[.slice A' M.length c', .int .i64 n]) ∧ Chg none w w' ∧ TreeAt w' A' M ∧ M.length ≤ 16 ∧ WithP L path x n M :=
  (pwith_any L A c path Ax x cx w hT hl hd hx hn hxl).mono fun e w' h => by
    obtain ⟨n, hc, hg, hr⟩ := h
    have hz := hc.zero
    have hz2 : n = 0 ↔ (mayT L = true ∧ pathB path = true) ∧ okK (withK path x (keys L)) := by rw [hz]; exact ⟨fun h => ⟨h.1, h.2.2⟩, fun h => ⟨h.1, fun h => h, h.2⟩⟩
    rcases hr with ⟨h1, rfl⟩ | ⟨rfl, A', c', M, rfl, hT', -, hk, hm⟩
    · exact ⟨n, none, 0, [], rfl, hg, tree_nil _, by simp, hz2, fun h => absurd h h1⟩
    · exact ⟨0, A', c', M, rfl, hg, hT', (mayT_parts hm).1, hz2, fun _ => ⟨hm, hk⟩⟩
/-- What Inputs told. -/
def InQ (t : Tgt) (L : List Fil) (O : List Tr) (n : Int) (M : List Fil) : Prop := (n = 0 → okP t L O ∧ mayT M = true ∧ (keys M).Perm (inK L (t.D.zip O))) ∧ (okP t L O → n = 0 ∨ n = 8) ∧ (n = 0 ↔ okP t L O ∧ okK (inK L (t.D.zip O)))
theorem inputs_plain (t : Tgt) (L : List Fil) (A : Option Addr) (c : Nat) (O : List Tr) (OA : Option Addr) (oc : Nat) (w : World) (ht : TgtAt w t) (hT : TreeAt w A L) (hO : OutsAt w OA O) (hF : Flds w)
    (hl : L.length ≤ 9223372036854775807) (hol : O.length ≤ 4611686018427387904) :
    Calls Tryd.prog 59 #[.agg (tgtCells t).toArray, .slice A L.length c, .slice OA O.length oc] w fun e w' => ∃ (n : Int) (A' : Option Addr) (c' : Nat) (M : List Fil), e = .returned (.tuple #[.slice A' M.length c', .int .i64 n]) ∧ Chg none w w' ∧ TreeAt w' A' M ∧ M.length ≤ 16 ∧ InQ t L O n M :=
  (inputs_any t L A c O OA oc w ht hT hO hF hl hol).mono fun e w' h => by
    obtain ⟨n, hc, hg, hr⟩ := h
    have hz := hc.zero
    have hz2 : n = 0 ↔ okP t L O ∧ okK (inK L (t.D.zip O)) := by rw [hz]; exact ⟨fun h => ⟨h.1, h.2.2⟩, fun h => ⟨h.1, fun h => h, h.2⟩⟩
    have h8 : okP t L O → n = 0 ∨ n = 8 := fun ho => by
      rcases hc with ⟨h1, -⟩ | ⟨-, h2, -⟩ | ⟨-, -, -, rfl⟩ | ⟨-, -, -, rfl⟩
      · exact absurd ho h1
      · exact absurd h2 (fun h => h)
      · exact .inr rfl
      · exact .inl rfl
    rcases hr with ⟨h1, rfl⟩ | ⟨rfl, A', c', M, rfl, hT', hk, hm⟩
    · exact ⟨n, none, 0, [], rfl, hg, tree_nil _, by simp, fun h => absurd h h1, h8, hz2⟩
    · exact ⟨0, A', c', M, rfl, hg, hT', (mayT_parts hm).1, fun _ => ⟨(hz2.1 rfl).1, hm, hk⟩, h8, hz2⟩

set_option maxHeartbeats 32000000 in
set_option maxRecDepth 100000 in
theorem plangrows_any (t : Tgt) (L : List Fil) (A : Option Addr) (c : Nat) (O : List Tr) (OA : Option Addr) (oc : Nat) (path : List UInt8) (Ax : Option Addr) (x : List UInt8) (cx : Nat) (w : World) (ht : TgtAt w t) (hT : TreeAt w A L) (hO : OutsAt w OA O) (hF : Flds w)
    (hl : L.length ≤ 9223372036854775807) (hol : O.length ≤ 4611686018427387904) (hpl : path.length ≤ 9223372036854775807) (hx : Txt w Ax x) (hn : NilOk Ax x.length cx) :
    Calls Tryd.prog 20 #[.agg (tgtCells t).toArray, .slice A L.length c, .slice OA O.length oc, .string ⟨path.toArray⟩, .slice Ax x.length cx] w fun e w' => e = .returned (.bool true) ∧ Chg none w w' := by
  obtain ⟨W1, hW1⟩ : ∃ W1, W1 = w.alloc (.cells (tgtCells t).toArray 77) := ⟨_, rfl⟩
  have g1 : Chg none w W1 := by rw [hW1]; exact (Chg.refl _ _).alloc _
  have hb1 : Blk W1 w.heap.size (tgtCells t).toArray 77 := by rw [hW1]; exact Blk.new _ _ _
  have HG := Lib.hid (great16_any t L A c O OA oc W1 (ht.chg g1) (hT.chg g1) (hO.chg g1) hl hol)
  obtain ⟨D, hD⟩ : ∃ D, D = t.D := ⟨_, rfl⟩
  obtain ⟨IQ, hIQ⟩ : ∃ IQ, IQ = fun (M : List Fil) => InQ t M O := ⟨_, rfl⟩
  have HIQ : Hid (∀ M n T, IQ M n T → InQ t M O n T) := Lib.hid fun M n T h => by rw [hIQ] at h; exact h
  have HI : Hid (∀ v (B : Option Addr) (d : Nat) (M : List Fil), Chg none w v → TreeAt v B M → M.length ≤ 9223372036854775807 → Calls Tryd.prog 59 #[.agg (tgtCells t).toArray, .slice B M.length d, .slice OA O.length oc] v fun e w' => ∃ (n : Int) (A' : Option Addr) (c' : Nat) (T : List Fil), e = .returned (.tuple #[.slice A' T.length c', .int .i64 n]) ∧ Chg none v w' ∧ TreeAt w' A' T ∧ T.length ≤ 16 ∧ IQ M n T) :=
    Lib.hid fun v B d M g hB hM => by rw [hIQ]; exact inputs_plain t M B d O OA oc v (ht.chg g) hB (hO.chg g) (hF.chg g) hM hol
  have HOP : Hid (∀ M, okP t L O → mayT M = true → okP t M O) := Lib.hid fun M h hm => ⟨h.1, hm, h.2.2.1, h.2.2.2⟩
  have HKN : Hid (∀ v, Chg none w v → Calls Tryd.prog 58 #[] v fun e w' => e = .returned (.bool true) ∧ Chg none v w') := Lib.hid fun v g => known16_any v (hF.chg g)
  have HWI : Hid (x.length ≤ 1000 → ∀ v, Chg none w v → Calls Tryd.prog 65 #[.slice A L.length c, .string ⟨path.toArray⟩, .slice Ax x.length cx] v fun e w' => ∃ (n : Int) (A' : Option Addr) (c' : Nat) (M : List Fil), e = .returned (.tuple #[.slice A' M.length c', .int .i64 n]) ∧ Chg none v w' ∧ TreeAt w' A' M ∧ M.length ≤ 16 ∧ WithP L path x n M) :=
    Lib.hid fun h v g => with_plain L A c path Ax x cx v (hT.chg g) hl hpl (hx.chg g) hn (by omega)
  have HWJ : Hid (x.length ≤ 1000 → path.length ≤ 100 → ∀ v (B : Option Addr) (d : Nat) (M : List Fil), Chg none w v → TreeAt v B M → M.length ≤ 16 → Calls Tryd.prog 65 #[.slice B M.length d, .string ⟨(srcP path).toArray⟩, .slice Ax x.length cx] v fun e w' => ∃ (n : Int) (A' : Option Addr) (c' : Nat) (T : List Fil), e = .returned (.tuple #[.slice A' T.length c', .int .i64 n]) ∧ Chg none v w' ∧ TreeAt w' A' T ∧ T.length ≤ 16 ∧ WithP M (srcP path) x n T) :=
    Lib.hid fun h hp v B d M g hB hM => with_plain M B d (srcP path) Ax x cx v hB (by omega) (by unfold srcP; rw [List.length_append]; have : ([115, 114, 99, 47] : List UInt8).length = 4 := rfl; omega) (hx.chg g) hn (by omega)
  have HX : Hid (∀ v, Chg none W1 v → v.cell? ⟨w.heap.size, 0, none⟩ = some (.string ⟨t.n.toArray⟩) ∧ v.cell? ⟨w.heap.size, 1, none⟩ = some (.slice t.A t.D.length t.c) ∧ v.cell? ⟨w.heap.size, 2, none⟩ = some (.int .i64 t.fuel) ∧ v.cell? ⟨w.heap.size, 3, none⟩ = some (.slice t.B t.P.length t.d)) := Lib.hid fun v g => by
    have h := hb1.chg g (by simp)
    exact ⟨h.cell 0, h.cell 1, h.cell 2, h.cell 3⟩
  have HG1 := Lib.hid g1
  have HW1 : Hid (w.alloc (.cells #[.string ⟨t.n.toArray⟩, .slice t.A t.D.length t.c, .int .i64 t.fuel, .slice t.B t.P.length t.d] 77) = W1) := Lib.hid hW1.symm
  have HTL := Lib.hid (fun v (g : Chg none w v) => hT.chg g)
  have HLL := Lib.hid hl
  clear ht hT hO hF hl hol hW1 g1 hb1 hx hn hIQ hD
  have hcc : (⟨#[115, 114, 99, 47]⟩ : ByteArray) ++ (⟨path.toArray⟩ : ByteArray) = ⟨(srcP path).toArray⟩ := ba_append [115, 114, 99, 47] path
  obtain ⟨Zp, hZp⟩ : ∃ Z, Z = t.D.zip O := ⟨_, rfl⟩
  have HQZ : Hid (∀ M n T, IQ M n T → (n = 0 → mayT T = true ∧ (keys T).Perm (inK M Zp)) ∧ (okP t M O → n = 0 ∨ n = 8) ∧ (n = 0 → okP t M O)) := Lib.hid fun M n T h => by
    obtain ⟨h1, h2, -⟩ := HIQ.out M n T h
    rw [hZp]
    exact ⟨fun h => (h1 h).2, h2, fun h => (h1 h).1⟩
  clear hZp HIQ
  obtain ⟨OK, hOK⟩ : ∃ OK : List Fil → Prop, OK = fun M => okP t M O := ⟨_, rfl⟩
  have HQ2 : Hid (∀ M n T, IQ M n T → (n = 0 → mayT T = true ∧ (keys T).Perm (inK M Zp)) ∧ (OK M → n = 0 ∨ n = 8) ∧ (n = 0 → OK M)) := Lib.hid fun M n T h => by rw [hOK]; exact HQZ.out M n T h
  have HO2 : Hid (∀ M, OK L → mayT M = true → OK M) := Lib.hid fun M => by rw [hOK]; exact HOP.out M
  clear HQZ HOP hOK
  obtain ⟨tn, tA, tD, tc, tf, tB, tP, td⟩ := t
  unfold tgtCells at *
  dsimp only at HX HW1 HG HI ⊢
  go_enter Tryd.func20, Tryd.ntmps20
  go_upto_region 1 with fail
  rw [HW1.out]
  obtain ⟨x0, x1, x2, x3⟩ := HX.out W1 (Chg.refl _ _)
  generalize w.heap.size = px at *
  go_wp2_with fail
  refine HG.out.mono ?_
  rintro e w2 ⟨g, rfl, g2⟩
  have K2 := Lib.hid g2
  have G2 := Lib.hid (HG1.out.trans g2)
  clear g2 x0 x1 x2 x3 HG HW1
  cases g with
  | true =>
    go_wp2_with fail
    refine (HKN.out _ G2.out).mono ?_
    rintro e wk ⟨rfl, gk⟩
    have Gk := Lib.hid (G2.out.trans gk)
    clear gk
    go_wp2_with fail
    go_ret
    exact ⟨rfl, Gk.out⟩
  | false =>
  by_cases hp : 100 < path.length
  · have d1 : decide (100 < path.length) = true := by rw [decide_eq_true_eq]; exact hp
    have d2 : decide ((100 : Int) < (path.length : Int)) = true := by rw [decide_eq_true_eq]; omega
    clear hp
    go_wp2_with fail
    refine (HKN.out _ G2.out).mono ?_
    rintro e wk ⟨rfl, gk⟩
    have Gk := Lib.hid (G2.out.trans gk)
    clear gk
    go_wp2_with fail
    go_ret
    exact ⟨rfl, Gk.out⟩
  have d1 : decide (100 < path.length) = false := by rw [decide_eq_false_iff_not]; exact hp
  have d2 : decide ((100 : Int) < (path.length : Int)) = false := by rw [decide_eq_false_iff_not]; omega
  by_cases hxl : 1000 < x.length
  · have d3 : decide (1000 < x.length) = true := by rw [decide_eq_true_eq]; exact hxl
    have d4 : decide ((1000 : Int) < (x.length : Int)) = true := by rw [decide_eq_true_eq]; omega
    clear hp hxl
    go_wp2_with fail
    refine (HKN.out _ G2.out).mono ?_
    rintro e wk ⟨rfl, gk⟩
    have Gk := Lib.hid (G2.out.trans gk)
    clear gk
    go_wp2_with fail
    go_ret
    exact ⟨rfl, Gk.out⟩
  have d3 : decide (1000 < x.length) = false := by rw [decide_eq_false_iff_not]; exact hxl
  have d4 : decide ((1000 : Int) < (x.length : Int)) = false := by rw [decide_eq_false_iff_not]; omega
  have HWI2 := Lib.hid (HWI.out (by omega))
  have HWJ2 := Lib.hid (HWJ.out (by omega) (by omega))
  have hp2 : ¬ 9223372036854775807 < 4 + path.length := by omega
  clear hp hxl HWI HWJ
  go_wp2_with fail
  refine (HWI2.out _ G2.out).mono ?_
  rintro e w3 ⟨n1, A3, c3, M, rfl, g3, hTM, hM16, hw1⟩
  have K3 := Lib.hid (K2.out.trans g3)
  have G3 := Lib.hid (G2.out.trans g3)
  have HTM : Hid (∀ v, Chg none w3 v → TreeAt v A3 M) := Lib.hid fun v g => hTM.chg g
  have HM16 := Lib.hid hM16
  have HWP := Lib.hid hw1
  clear g3 hTM hM16 hw1 HWI2 d1 d2 d3 d4
  obtain ⟨x0, x1, x2, x3⟩ := HX.out w3 K3.out
  go_wp2_with fail
  refine (HI.out _ A c L G3.out (HTL.out _ G3.out) HLL.out).mono ?_
  rintro e w4 ⟨n2, A4, c4, T, rfl, g4, hTT, hT16, hi2⟩
  have K4 := Lib.hid (K3.out.trans g4)
  have G4 := Lib.hid (G3.out.trans g4)
  have C4 := Lib.hid g4
  have HTT : Hid (∀ v, Chg none w4 v → TreeAt v A4 T) := Lib.hid fun v g => hTT.chg g
  have HT16 := Lib.hid hT16
  have HI2 := Lib.hid (HQ2.out _ _ _ hi2)
  clear g4 hTT hT16 hi2 x0 x1 x2 x3
  obtain ⟨x0, x1, x2, x3⟩ := HX.out w4 K4.out
  go_wp2_with fail
  refine (HI.out _ A3 c3 M G4.out (HTM.out _ C4.out) (by have := HM16.out; omega)).mono ?_
  rintro e w5 ⟨n3, A5, c5, U, rfl, g5, hTU, hU16, hi3⟩
  have G5 := Lib.hid (G4.out.trans g5)
  have C5 := Lib.hid g5
  have HTU : Hid (∀ v, Chg none w5 v → TreeAt v A5 U) := Lib.hid fun v g => hTU.chg g
  have HU16 := Lib.hid hU16
  have HI3 := Lib.hid (HQ2.out _ _ _ hi3)
  clear g5 hTU hU16 hi3 x0 x1 x2 x3 HI HQ2
  by_cases h2 : n2 = 0
  · have b2 : (n2 != 0) = false := by rw [bne_eq_false_iff_eq]; exact h2
    by_cases h1 : n1 = 0
    · have b1 : (n1 != 0) = false := by rw [bne_eq_false_iff_eq]; exact h1
      by_cases h3 : n3 = 0
      · have b3 : (n3 != 0) = false := by rw [bne_eq_false_iff_eq]; exact h3
        have hT := HI2.out.1 h2
        have hU := HI3.out.1 h3
        have hM := HWP.out.2 h1
        have hperm : (withK (srcP path) x (keys T)).Perm (keys U) := by
          refine ((withK_perm _ _ hT.2).trans (grow_perm L path x Zp)).trans ?_
          refine List.Perm.trans ?_ hU.2.symm
          unfold inK
          exact List.Perm.append_right _ (under_perm _ hM.2.symm)
        have hokU := ((mayT_iff U).1 hU.1).1
        have hok := (okK_perm hperm).2 hokU
        have hpath : pathB (srcP path) = true := by
          have h := List.all_eq_true.1 hok.2.1 (srcP path, x) (by unfold withK; simp)
          unfold okF at h
          rw [Bool.and_eq_true] at h
          exact h.1
        have HEND : Hid (∀ n V, WithP T (srcP path) x n V → n = 0 ∧ keys U = keys V) := Lib.hid fun n V h => by
          have h0 := h.1.2 ⟨⟨hT.1, hpath⟩, hok⟩
          obtain ⟨hv, hk⟩ := h.2 h0
          exact ⟨h0, (up_unique ((mayT_iff V).1 hv).2 ((mayT_iff U).1 hU.1).2 (hk.trans hperm)).symm⟩
        clear h1 h2 h3 hT hU hM hperm hokU hok hpath HI2 HI3 HWP
        go_wp2_with fail
        refine (HWJ2.out _ A4 c4 T G5.out (HTT.out _ C5.out) HT16.out).mono ?_
        rintro e w6 ⟨n4, A6, c6, V, rfl, g6, hTV, hV16, hw4⟩
        obtain ⟨rfl, hk⟩ := HEND.out _ _ hw4
        have G6 := Lib.hid (G5.out.trans g6)
        have HSM := Lib.hid (t_refsame_any U V A5 A6 c5 c6 w6 (HTU.out _ g6) hTV (by have := HU16.out; omega))
        rw [decide_eq_true hk] at HSM
        clear g6 hTV hV16 hw4 hk HEND
        go_wp2_with fail
        refine HSM.out.mono ?_
        rintro e w7 ⟨rfl, g7⟩
        have G7 := Lib.hid (G6.out.trans g7)
        clear g7
        go_wp2_with fail
        refine (HKN.out _ G7.out).mono ?_
        rintro e wk ⟨rfl, gk⟩
        have Gk := Lib.hid (G7.out.trans gk)
        clear gk
        go_wp2_with fail
        go_ret
        exact ⟨rfl, Gk.out⟩
      · have b3 : (n3 != 0) = true := by rw [bne_iff_ne]; exact h3
        have h8 : n3 = 8 := by
          rcases HI3.out.2.1 (HO2.out M (HI2.out.2.2 h2) (HWP.out.2 h1).1) with h | h
          · exact absurd h h3
          · exact h
        have b8 : (n3 == 8) = true := by rw [beq_iff_eq]; exact h8
        clear h1 h2 h3 h8
        go_wp2_with fail
        refine (HKN.out _ G5.out).mono ?_
        rintro e wk ⟨rfl, gk⟩
        have Gk := Lib.hid (G5.out.trans gk)
        clear gk
        go_wp2_with fail
        go_ret
        exact ⟨rfl, Gk.out⟩
    · have b1 : (n1 != 0) = true := by rw [bne_iff_ne]; exact h1
      clear h1 h2
      go_wp2_with fail
      refine (HKN.out _ G5.out).mono ?_
      rintro e wk ⟨rfl, gk⟩
      have Gk := Lib.hid (G5.out.trans gk)
      clear gk
      go_wp2_with fail
      go_ret
      exact ⟨rfl, Gk.out⟩
  · have b2 : (n2 != 0) = true := by rw [bne_iff_ne]; exact h2
    by_cases h1 : n1 = 0
    · have b1 : (n1 != 0) = false := by rw [bne_eq_false_iff_eq]; exact h1
      clear h1 h2
      go_wp2_with fail
      refine (HKN.out _ G5.out).mono ?_
      rintro e wk ⟨rfl, gk⟩
      have Gk := Lib.hid (G5.out.trans gk)
      clear gk
      go_wp2_with fail
      go_ret
      exact ⟨rfl, Gk.out⟩
    · have b1 : (n1 != 0) = true := by rw [bne_iff_ne]; exact h1
      clear h1 h2
      go_wp2_with fail
      refine (HKN.out _ G5.out).mono ?_
      rintro e wk ⟨rfl, gk⟩
      have Gk := Lib.hid (G5.out.trans gk)
      clear gk
      go_wp2_with fail
      go_ret
      exact ⟨rfl, Gk.out⟩

end Go.Proofs.YtbadkkilblgpmaaDoor
