/-
  PlanOrder, of any target (with PlanGrows walked, whose lemmas it takes).
-/
import Derived.Test.YtbadkkilblgpmaaDoorNI
import Derived.Test.YtbadkkilblgpmaaDoorTQ
import Derived.Test.YtbadkkilblgpmaaDoorTRM
import Derived.Deep.RegionHeld3
import Derived.Test.YtbadkkilblgpmaaDoorR
namespace Go.Proofs.YtbadkkilblgpmaaDoor
open Go.RowKit

set_option maxHeartbeats 16000000 in
set_option maxRecDepth 100000 in
theorem t_refsame_any (L M : List Fil) (A B : Option Addr) (c d : Nat) (w : World) (hL : TreeAt w A L) (hM : TreeAt w B M) (hl : L.length ≤ 9223372036854775806) :
    Calls Tryd.prog 33 #[.slice A L.length c, .slice B M.length d] w fun e w' => e = .returned (.bool (decide (keys L = keys M))) ∧ Chg none w w' := by
  by_cases hlm : L.length = M.length
  rotate_left
  · have d1 : ((L.length : Int) != (M.length : Int)) = true := by rw [bne_iff_ne]; omega
    rw [decide_eq_false (fun h => hlm (by have := congrArg List.length h; simpa [keys] using this))]
    clear hlm hL hM
    go_enter Tryd.func33, Tryd.ntmps33
    go_wp2_with fail
    go_ret
    exact ⟨rfl, Chg.refl _ _⟩
  have d1 : ((L.length : Int) != (M.length : Int)) = false := by rw [bne_eq_false_iff_eq]; omega
  have HL : Hid (∀ v, Chg none w v → TreeAt v A L) := fun v g => hL.chg g
  have HM : Hid (∀ v, Chg none w v → TreeAt v B M) := fun v g => hM.chg g
  have HLM := Lib.hid hlm
  have HLL := Lib.hid hl
  clear hL hM hl
  rw [← hlm]
  rw [← hlm] at d1
  clear hlm
  go_enter Tryd.func33, Tryd.ntmps33
  go_wp2_with fail
  go_loopw [5] (fun s5 wr => ∃ k : Nat, s5 = .int .i64 k ∧ Hid (k ≤ L.length ∧ ∀ j, j < k → (keys L)[j]? = (keys M)[j]?) ∧ Hid (Chg none w wr)) (fun s5 _ => L.length - (intOf s5).toNat)
  case atStart => exact ⟨0, rfl, Lib.hid ⟨Nat.zero_le _, fun j h => absurd h (Nat.not_lt_zero _)⟩, Lib.hid (Chg.refl _ _)⟩
  case round =>
    obtain ⟨k, rfl, H1, H2⟩ := hrel
    by_cases hlt : k < L.length
    · have hd : decide ((k : Int) < (L.length : Int)) = true := by rw [decide_eq_true_eq]; omega
      obtain ⟨f, hkf⟩ : ∃ f, L[k]? = some f := ⟨_, List.getElem?_eq_getElem hlt⟩
      obtain ⟨h, hkh⟩ : ∃ h, M[k]? = some h := ⟨_, List.getElem?_eq_getElem (by rw [← HLM.out]; exact hlt)⟩
      have hneL : L ≠ [] := by intro e; subst e; simp at hlt
      have hneM : M ≠ [] := by intro e; subst e; simp at hkh
      have G1 : Hid (Chg none w wr.drew) := H2.out.drew
      have HRL := Lib.hid (HL.out _ G1.out)
      have HRM := Lib.hid (HM.out _ G1.out)
      obtain ⟨b, off, rfl, -, -⟩ := HRL.out.1 hneL
      obtain ⟨b2, off2, rfl, -, -⟩ := HRM.out.1 hneM
      obtain ⟨hb, x0, x1⟩ := HRL.out.1.two hkf
      obtain ⟨hb2, y0, y1⟩ := HRM.out.1.two hkh
      have tx := (HRL.out.2 f (List.mem_of_getElem? hkf)).t
      have ty := (HRM.out.2 h (List.mem_of_getElem? hkh)).t
      have c1 := conv_reads (c := f.c) wr.drew (txt_reads tx)
      have c2 := conv_reads (c := h.c) wr.drew (txt_reads ty)
      have HKF : Hid ((keys L)[k]? = some (keyF f)) := by show _ = _; unfold keys; rw [List.getElem?_map, hkf]; rfl
      have HKH : Hid ((keys M)[k]? = some (keyF h)) := by show _ = _; unfold keys; rw [List.getElem?_map, hkh]; rfl
      have HLT := Lib.hid hlt
      have hwk : wrap64 ((k : Int) + 1) = ((k + 1 : Nat) : Int) := by have h1 := HLL.out; unfold wrap64; omega
      have HWK := Lib.hid hwk
      clear hkf hkh hneL hneM HRL HRM HL HM hlt tx ty hwk
      obtain ⟨fp, fA, fx, fc⟩ := f
      obtain ⟨hp, hA, hx, hc⟩ := h
      dsimp only at x0 x1 y0 y1 c1 c2
      unfold keyF at HKF HKH
      dsimp only at HKF HKH
      by_cases ep : fp = hp
      rotate_left
      · have e1 : (fp == hp) = false := by rw [beq_eq_false_iff_ne]; exact ep
        have HRES : Hid (decide (keys L = keys M) = false) := decide_eq_false (fun e => ep (by
          have h1 := HKF.out
          rw [e, HKH.out] at h1
          have h2 := Option.some.inj h1
          rw [Prod.mk.injEq] at h2
          exact h2.1.symm))
        have e2 : ¬ fp = hp := ep
        clear c1 c2 x1 y1 ep
        as_aux_lemma =>
          go_wp2_with fail
          go_region
          all_goals
            go_wp2_with fail
            go_ret
            exact ⟨by rw [HRES.out]; rfl, G1.out⟩
      subst ep
      by_cases ex : fx = hx
      rotate_left
      · have e1 : (fx == hx) = false := by rw [beq_eq_false_iff_ne]; exact ex
        have HRES : Hid (decide (keys L = keys M) = false) := decide_eq_false (fun e => ex (by
          have h1 := HKF.out
          rw [e, HKH.out] at h1
          have h2 := Option.some.inj h1
          rw [Prod.mk.injEq] at h2
          exact h2.2.symm))
        have e2 : ¬ fx = hx := ex
        clear ex
        as_aux_lemma =>
          go_wp2_with fail
          go_region
          all_goals
            go_wp2_with fail
            go_ret
            exact ⟨by rw [HRES.out]; rfl, G1.out⟩
      subst ex
      have HEQ : Hid ((keys L)[k]? = (keys M)[k]?) := by show _ = _; rw [HKF.out, HKH.out]
      go_upto_region 6 with fail
      go_cut [42] from 17 to 41 (fun s42 wx => s42 = .bool false ∧ Hid (Chg none w wx))
      case first =>
        as_aux_lemma =>
          go_region
          all_goals
            go_wp2_with fail
            go_meet
            case rel => exact ⟨by first | rfl | (simp; done), G1⟩
      case rest =>
        obtain ⟨rfl, G9⟩ := hcut
        clear x0 x1 y0 y1 c1 c2
        go_wp2_with fail
        go_roundw
        case rel => exact ⟨k + 1, by rw [HWK.out], Lib.hid ⟨HLT.out, fun j hj => by
          rcases Nat.lt_or_ge j k with h | h
          · exact H1.out.2 j h
          · obtain rfl : j = k := by omega
            exact HEQ.out⟩, G9⟩
        case measure =>
          have h1 := HLL.out
          have h2 := HLT.out
          rw [HWK.out]; simp only [intOf]; omega
    · have hd : decide (k < L.length) = false := by rw [decide_eq_false_iff_not]; exact hlt
      have hd2 : decide ((k : Int) < (L.length : Int)) = false := by rw [decide_eq_false_iff_not]; omega
      have HRES : Hid (decide (keys L = keys M) = true) := decide_eq_true (by
        refine List.ext_getElem? fun j => ?_
        rcases Nat.lt_or_ge j k with h | h
        · exact H1.out.2 j h
        · rw [List.getElem?_eq_none (by unfold keys; rw [List.length_map]; omega), List.getElem?_eq_none (by unfold keys; rw [List.length_map, ← HLM.out]; omega)])
      clear hlt HL HM
      go_wp2_with fail
      go_ret
      exact ⟨by rw [HRES.out]; rfl, H2.out⟩


def srcP (path : List UInt8) : List UInt8 := [115, 114, 99, 47] ++ path
theorem srcP_eq (path : List UInt8) : srcP path = srcB ++ ([47] ++ path) := rfl
theorem filter_under (path : List UInt8) (K : List (List UInt8 × List UInt8)) : (underK srcB K).filter (fun f => f.1 != srcP path) = underK srcB (K.filter fun f => f.1 != path) := by
  unfold underK
  rw [List.filter_map]
  congr 1
theorem filter_inZ (path : List UInt8) : ∀ Z, (inZ Z).filter (fun f => f.1 != srcP path) = inZ Z
  | [] => rfl
  | z :: Z => by
    rw [inZ_cons, List.filter_append, filter_inZ path Z]
    congr 1
    rw [List.filter_eq_self]
    intro f hf
    unfold underK at hf
    obtain ⟨g, -, rfl⟩ := List.mem_map.1 hf
    rw [bne_iff_ne]
    intro e
    have := (List.cons.inj e).1
    revert this
    decide
theorem grow_perm (L : List Fil) (path x : List UInt8) (Z : List (List UInt8 × Tr)) : (withK (srcP path) x (inK L Z)).Perm (underK srcB (withK path x (keys L)) ++ inZ Z) := by
  unfold withK inK
  rw [List.filter_append, filter_under, filter_inZ]
  have e : underK srcB ((keys L).filter (fun f => f.1 != path) ++ [(path, x)]) = underK srcB ((keys L).filter fun f => f.1 != path) ++ [(srcP path, x)] := by
    unfold underK
    rw [List.map_append]
    rfl
  rw [e, List.append_assoc, List.append_assoc]
  exact List.Perm.append_left _ List.perm_append_comm
theorem under_perm (dir : List UInt8) {K K' : List (List UInt8 × List UInt8)} (h : K.Perm K') : (underK dir K).Perm (underK dir K') := by unfold underK; exact h.map _
theorem withK_perm (p x : List UInt8) {K K' : List (List UInt8 × List UInt8)} (h : K.Perm K') : (withK p x K).Perm (withK p x K') := by unfold withK; exact List.Perm.append_right _ (h.filter _)

/-- What With told. -/
def WithP (L : List Fil) (path x : List UInt8) (n : Int) (M : List Fil) : Prop := (n = 0 ↔ (mayT L = true ∧ pathB path = true) ∧ okK (withK path x (keys L))) ∧ (n = 0 → mayT M = true ∧ (keys M).Perm (withK path x (keys L)))
theorem with_plain (L : List Fil) (A : Option Addr) (c : Nat) (path : List UInt8) (Ax : Option Addr) (x : List UInt8) (cx : Nat) (w : World) (hT : TreeAt w A L) (hl : L.length ≤ 9223372036854775807) (hd : path.length ≤ 9223372036854775807)
    (hx : Txt w Ax x) (hn : NilOk Ax x.length cx) (hxl : x.length ≤ 1000000) :
    Calls Tryd.prog 65 #[.slice A L.length c, .string ⟨path.toArray⟩, .slice Ax x.length cx] w fun e w' => ∃ (n : Int) (A' : Option Addr) (c' : Nat) (M : List Fil), e = .returned (.tuple #[.slice A' M.length c', .int .i64 n]) ∧ Chg none w w' ∧ TreeAt w' A' M ∧ M.length ≤ 16 ∧ WithP L path x n M :=
  (pwith_any L A c path Ax x cx w hT hl hd hx hn hxl).mono fun e w' h => by
    obtain ⟨n, hc, hg, hr⟩ := h
    have hz := hc.zero
    have hz2 : n = 0 ↔ (mayT L = true ∧ pathB path = true) ∧ okK (withK path x (keys L)) := by rw [hz]; exact ⟨fun h => ⟨h.1, h.2.2⟩, fun h => ⟨h.1, fun h => h, h.2⟩⟩
    rcases hr with ⟨h1, rfl⟩ | ⟨rfl, A', c', M, rfl, hT', -, hk, hm⟩
    · exact ⟨n, none, 0, [], rfl, hg, tree_nil _, by simp, hz2, fun h => absurd h h1⟩
    · exact ⟨0, A', c', M, rfl, hg, hT', (mayT_parts hm).1, hz2, fun _ => ⟨hm, hk⟩⟩
/-- What Inputs told. -/
def InQ (t : Tgt) (L : List Fil) (O : List Tr) (n : Int) (M : List Fil) : Prop := (n = 0 → okP t L O ∧ mayT M = true ∧ (keys M).Perm (inK L (t.D.zip O))) ∧ (okP t L O → n = 0 ∨ n = 8) ∧ (n = 0 ↔ okP t L O ∧ okK (inK L (t.D.zip O)))
theorem inputs_plain (t : Tgt) (L : List Fil) (A : Option Addr) (c : Nat) (O : List Tr) (OA : Option Addr) (oc : Nat) (w : World) (ht : TgtAt w t) (hT : TreeAt w A L) (hO : OutsAt w OA O) (hF : Flds w)
    (hl : L.length ≤ 9223372036854775807) (hol : O.length ≤ 4611686018427387904) :
    Calls Tryd.prog 59 #[.agg (tgtCells t).toArray, .slice A L.length c, .slice OA O.length oc] w fun e w' => ∃ (n : Int) (A' : Option Addr) (c' : Nat) (M : List Fil), e = .returned (.tuple #[.slice A' M.length c', .int .i64 n]) ∧ Chg none w w' ∧ TreeAt w' A' M ∧ M.length ≤ 16 ∧ InQ t L O n M :=
  (inputs_any t L A c O OA oc w ht hT hO hF hl hol).mono fun e w' h => by
    obtain ⟨n, hc, hg, hr⟩ := h
    have hz := hc.zero
    have hz2 : n = 0 ↔ okP t L O ∧ okK (inK L (t.D.zip O)) := by rw [hz]; exact ⟨fun h => ⟨h.1, h.2.2⟩, fun h => ⟨h.1, fun h => h, h.2⟩⟩
    have h8 : okP t L O → n = 0 ∨ n = 8 := fun ho => by
      rcases hc with ⟨h1, -⟩ | ⟨-, h2, -⟩ | ⟨-, -, -, rfl⟩ | ⟨-, -, -, rfl⟩
      · exact absurd ho h1
      · exact absurd h2 (fun h => h)
      · exact .inr rfl
      · exact .inl rfl
    rcases hr with ⟨h1, rfl⟩ | ⟨rfl, A', c', M, rfl, hT', hk, hm⟩
    · exact ⟨n, none, 0, [], rfl, hg, tree_nil _, by simp, fun h => absurd h h1, h8, hz2⟩
    · exact ⟨0, A', c', M, rfl, hg, hT', (mayT_parts hm).1, fun _ => ⟨(hz2.1 rfl).1, hm, hk⟩, h8, hz2⟩

set_option maxHeartbeats 32000000 in
set_option maxRecDepth 100000 in
theorem plangrows_any (t : Tgt) (L : List Fil) (A : Option Addr) (c : Nat) (O : List Tr) (OA : Option Addr) (oc : Nat) (path : List UInt8) (Ax : Option Addr) (x : List UInt8) (cx : Nat) (w : World) (ht : TgtAt w t) (hT : TreeAt w A L) (hO : OutsAt w OA O) (hF : Flds w)
    (hl : L.length ≤ 9223372036854775807) (hol : O.length ≤ 4611686018427387904) (hpl : path.length ≤ 9223372036854775807) (hx : Txt w Ax x) (hn : NilOk Ax x.length cx) :
    Calls Tryd.prog 20 #[.agg (tgtCells t).toArray, .slice A L.length c, .slice OA O.length oc, .string ⟨path.toArray⟩, .slice Ax x.length cx] w fun e w' => e = .returned (.bool true) ∧ Chg none w w' := by
  obtain ⟨W1, hW1⟩ : ∃ W1, W1 = w.alloc (.cells (tgtCells t).toArray 77) := ⟨_, rfl⟩
  have g1 : Chg none w W1 := by rw [hW1]; exact (Chg.refl _ _).alloc _
  have hb1 : Blk W1 w.heap.size (tgtCells t).toArray 77 := by rw [hW1]; exact Blk.new _ _ _
  have HG := Lib.hid (great16_any t L A c O OA oc W1 (ht.chg g1) (hT.chg g1) (hO.chg g1) hl hol)
  obtain ⟨D, hD⟩ : ∃ D, D = t.D := ⟨_, rfl⟩
  obtain ⟨IQ, hIQ⟩ : ∃ IQ, IQ = fun (M : List Fil) => InQ t M O := ⟨_, rfl⟩
  have HIQ : Hid (∀ M n T, IQ M n T → InQ t M O n T) := Lib.hid fun M n T h => by rw [hIQ] at h; exact h
  have HI : Hid (∀ v (B : Option Addr) (d : Nat) (M : List Fil), Chg none w v → TreeAt v B M → M.length ≤ 9223372036854775807 → Calls Tryd.prog 59 #[.agg (tgtCells t).toArray, .slice B M.length d, .slice OA O.length oc] v fun e w' => ∃ (n : Int) (A' : Option Addr) (c' : Nat) (T : List Fil), e = .returned (.tuple #[.slice A' T.length c', .int .i64 n]) ∧ Chg none v w' ∧ TreeAt w' A' T ∧ T.length ≤ 16 ∧ IQ M n T) :=
    Lib.hid fun v B d M g hB hM => by rw [hIQ]; exact inputs_plain t M B d O OA oc v (ht.chg g) hB (hO.chg g) (hF.chg g) hM hol
  have HOP : Hid (∀ M, okP t L O → mayT M = true → okP t M O) := Lib.hid fun M h hm => ⟨h.1, hm, h.2.2.1, h.2.2.2⟩
  have HKN : Hid (∀ v, Chg none w v → Calls Tryd.prog 58 #[] v fun e w' => e = .returned (.bool true) ∧ Chg none v w') := Lib.hid fun v g => known16_any v (hF.chg g)
  have HWI : Hid (x.length ≤ 1000 → ∀ v, Chg none w v → Calls Tryd.prog 65 #[.slice A L.length c, .string ⟨path.toArray⟩, .slice Ax x.length cx] v fun e w' => ∃ (n : Int) (A' : Option Addr) (c' : Nat) (M : List Fil), e = .returned (.tuple #[.slice A' M.length c', .int .i64 n]) ∧ Chg none v w' ∧ TreeAt w' A' M ∧ M.length ≤ 16 ∧ WithP L path x n M) :=
    Lib.hid fun h v g => with_plain L A c path Ax x cx v (hT.chg g) hl hpl (hx.chg g) hn (by omega)
  have HWJ : Hid (x.length ≤ 1000 → path.length ≤ 100 → ∀ v (B : Option Addr) (d : Nat) (M : List Fil), Chg none w v → TreeAt v B M → M.length ≤ 16 → Calls Tryd.prog 65 #[.slice B M.length d, .string ⟨(srcP path).toArray⟩, .slice Ax x.length cx] v fun e w' => ∃ (n : Int) (A' : Option Addr) (c' : Nat) (T : List Fil), e = .returned (.tuple #[.slice A' T.length c', .int .i64 n]) ∧ Chg none v w' ∧ TreeAt w' A' T ∧ T.length ≤ 16 ∧ WithP M (srcP path) x n T) :=
    Lib.hid fun h hp v B d M g hB hM => with_plain M B d (srcP path) Ax x cx v hB (by omega) (by unfold srcP; rw [List.length_append]; have : ([115, 114, 99, 47] : List UInt8).length = 4 := rfl; omega) (hx.chg g) hn (by omega)
  have HX : Hid (∀ v, Chg none W1 v → v.cell? ⟨w.heap.size, 0, none⟩ = some (.string ⟨t.n.toArray⟩) ∧ v.cell? ⟨w.heap.size, 1, none⟩ = some (.slice t.A t.D.length t.c) ∧ v.cell? ⟨w.heap.size, 2, none⟩ = some (.int .i64 t.fuel) ∧ v.cell? ⟨w.heap.size, 3, none⟩ = some (.slice t.B t.P.length t.d)) := Lib.hid fun v g => by
    have h := hb1.chg g (by simp)
    exact ⟨h.cell 0, h.cell 1, h.cell 2, h.cell 3⟩
  have HG1 := Lib.hid g1
  have HW1 : Hid (w.alloc (.cells #[.string ⟨t.n.toArray⟩, .slice t.A t.D.length t.c, .int .i64 t.fuel, .slice t.B t.P.length t.d] 77) = W1) := Lib.hid hW1.symm
  have HTL := Lib.hid (fun v (g : Chg none w v) => hT.chg g)
  have HLL := Lib.hid hl
  clear ht hT hO hF hl hol hW1 g1 hb1 hx hn hIQ hD
  have hcc : (⟨#[115, 114, 99, 47]⟩ : ByteArray) ++ (⟨path.toArray⟩ : ByteArray) = ⟨(srcP path).toArray⟩ := ba_append [115, 114, 99, 47] path
  obtain ⟨Zp, hZp⟩ : ∃ Z, Z = t.D.zip O := ⟨_, rfl⟩
  have HQZ : Hid (∀ M n T, IQ M n T → (n = 0 → mayT T = true ∧ (keys T).Perm (inK M Zp)) ∧ (okP t M O → n = 0 ∨ n = 8) ∧ (n = 0 → okP t M O)) := Lib.hid fun M n T h => by
    obtain ⟨h1, h2, -⟩ := HIQ.out M n T h
    rw [hZp]
    exact ⟨fun h => (h1 h).2, h2, fun h => (h1 h).1⟩
  clear hZp HIQ
  obtain ⟨OK, hOK⟩ : ∃ OK : List Fil → Prop, OK = fun M => okP t M O := ⟨_, rfl⟩
  have HQ2 : Hid (∀ M n T, IQ M n T → (n = 0 → mayT T = true ∧ (keys T).Perm (inK M Zp)) ∧ (OK M → n = 0 ∨ n = 8) ∧ (n = 0 → OK M)) := Lib.hid fun M n T h => by rw [hOK]; exact HQZ.out M n T h
  have HO2 : Hid (∀ M, OK L → mayT M = true → OK M) := Lib.hid fun M => by rw [hOK]; exact HOP.out M
  clear HQZ HOP hOK
  obtain ⟨tn, tA, tD, tc, tf, tB, tP, td⟩ := t
  unfold tgtCells at *
  dsimp only at HX HW1 HG HI ⊢
  go_enter Tryd.func20, Tryd.ntmps20
  go_upto_region 1 with fail
  rw [HW1.out]
  obtain ⟨x0, x1, x2, x3⟩ := HX.out W1 (Chg.refl _ _)
  generalize w.heap.size = px at *
  go_wp2_with fail
  refine HG.out.mono ?_
  rintro e w2 ⟨g, rfl, g2⟩
  have K2 := Lib.hid g2
  have G2 := Lib.hid (HG1.out.trans g2)
  clear g2 x0 x1 x2 x3 HG HW1
  cases g with
  | true =>
    go_wp2_with fail
    refine (HKN.out _ G2.out).mono ?_
    rintro e wk ⟨rfl, gk⟩
    have Gk := Lib.hid (G2.out.trans gk)
    clear gk
    go_wp2_with fail
    go_ret
    exact ⟨rfl, Gk.out⟩
  | false =>
  by_cases hp : 100 < path.length
  · have d1 : decide (100 < path.length) = true := by rw [decide_eq_true_eq]; exact hp
    have d2 : decide ((100 : Int) < (path.length : Int)) = true := by rw [decide_eq_true_eq]; omega
    clear hp
    go_wp2_with fail
    refine (HKN.out _ G2.out).mono ?_
    rintro e wk ⟨rfl, gk⟩
    have Gk := Lib.hid (G2.out.trans gk)
    clear gk
    go_wp2_with fail
    go_ret
    exact ⟨rfl, Gk.out⟩
  have d1 : decide (100 < path.length) = false := by rw [decide_eq_false_iff_not]; exact hp
  have d2 : decide ((100 : Int) < (path.length : Int)) = false := by rw [decide_eq_false_iff_not]; omega
  by_cases hxl : 1000 < x.length
  · have d3 : decide (1000 < x.length) = true := by rw [decide_eq_true_eq]; exact hxl
    have d4 : decide ((1000 : Int) < (x.length : Int)) = true := by rw [decide_eq_true_eq]; omega
    clear hp hxl
    go_wp2_with fail
    refine (HKN.out _ G2.out).mono ?_
    rintro e wk ⟨rfl, gk⟩
    have Gk := Lib.hid (G2.out.trans gk)
    clear gk
    go_wp2_with fail
    go_ret
    exact ⟨rfl, Gk.out⟩
  have d3 : decide (1000 < x.length) = false := by rw [decide_eq_false_iff_not]; exact hxl
  have d4 : decide ((1000 : Int) < (x.length : Int)) = false := by rw [decide_eq_false_iff_not]; omega
  have HWI2 := Lib.hid (HWI.out (by omega))
  have HWJ2 := Lib.hid (HWJ.out (by omega) (by omega))
  have hp2 : ¬ 9223372036854775807 < 4 + path.length := by omega
  clear hp hxl HWI HWJ
  go_wp2_with fail
  refine (HWI2.out _ G2.out).mono ?_
  rintro e w3 ⟨n1, A3, c3, M, rfl, g3, hTM, hM16, hw1⟩
  have K3 := Lib.hid (K2.out.trans g3)
  have G3 := Lib.hid (G2.out.trans g3)
  have HTM : Hid (∀ v, Chg none w3 v → TreeAt v A3 M) := Lib.hid fun v g => hTM.chg g
  have HM16 := Lib.hid hM16
  have HWP := Lib.hid hw1
  clear g3 hTM hM16 hw1 HWI2 d1 d2 d3 d4
  obtain ⟨x0, x1, x2, x3⟩ := HX.out w3 K3.out
  go_wp2_with fail
  refine (HI.out _ A c L G3.out (HTL.out _ G3.out) HLL.out).mono ?_
  rintro e w4 ⟨n2, A4, c4, T, rfl, g4, hTT, hT16, hi2⟩
  have K4 := Lib.hid (K3.out.trans g4)
  have G4 := Lib.hid (G3.out.trans g4)
  have C4 := Lib.hid g4
  have HTT : Hid (∀ v, Chg none w4 v → TreeAt v A4 T) := Lib.hid fun v g => hTT.chg g
  have HT16 := Lib.hid hT16
  have HI2 := Lib.hid (HQ2.out _ _ _ hi2)
  clear g4 hTT hT16 hi2 x0 x1 x2 x3
  obtain ⟨x0, x1, x2, x3⟩ := HX.out w4 K4.out
  go_wp2_with fail
  refine (HI.out _ A3 c3 M G4.out (HTM.out _ C4.out) (by have := HM16.out; omega)).mono ?_
  rintro e w5 ⟨n3, A5, c5, U, rfl, g5, hTU, hU16, hi3⟩
  have G5 := Lib.hid (G4.out.trans g5)
  have C5 := Lib.hid g5
  have HTU : Hid (∀ v, Chg none w5 v → TreeAt v A5 U) := Lib.hid fun v g => hTU.chg g
  have HU16 := Lib.hid hU16
  have HI3 := Lib.hid (HQ2.out _ _ _ hi3)
  clear g5 hTU hU16 hi3 x0 x1 x2 x3 HI HQ2
  by_cases h2 : n2 = 0
  · have b2 : (n2 != 0) = false := by rw [bne_eq_false_iff_eq]; exact h2
    by_cases h1 : n1 = 0
    · have b1 : (n1 != 0) = false := by rw [bne_eq_false_iff_eq]; exact h1
      by_cases h3 : n3 = 0
      · have b3 : (n3 != 0) = false := by rw [bne_eq_false_iff_eq]; exact h3
        have hT := HI2.out.1 h2
        have hU := HI3.out.1 h3
        have hM := HWP.out.2 h1
        have hperm : (withK (srcP path) x (keys T)).Perm (keys U) := by
          refine ((withK_perm _ _ hT.2).trans (grow_perm L path x Zp)).trans ?_
          refine List.Perm.trans ?_ hU.2.symm
          unfold inK
          exact List.Perm.append_right _ (under_perm _ hM.2.symm)
        have hokU := ((mayT_iff U).1 hU.1).1
        have hok := (okK_perm hperm).2 hokU
        have hpath : pathB (srcP path) = true := by
          have h := List.all_eq_true.1 hok.2.1 (srcP path, x) (by unfold withK; simp)
          unfold okF at h
          rw [Bool.and_eq_true] at h
          exact h.1
        have HEND : Hid (∀ n V, WithP T (srcP path) x n V → n = 0 ∧ keys U = keys V) := Lib.hid fun n V h => by
          have h0 := h.1.2 ⟨⟨hT.1, hpath⟩, hok⟩
          obtain ⟨hv, hk⟩ := h.2 h0
          exact ⟨h0, (up_unique ((mayT_iff V).1 hv).2 ((mayT_iff U).1 hU.1).2 (hk.trans hperm)).symm⟩
        clear h1 h2 h3 hT hU hM hperm hokU hok hpath HI2 HI3 HWP
        go_wp2_with fail
        refine (HWJ2.out _ A4 c4 T G5.out (HTT.out _ C5.out) HT16.out).mono ?_
        rintro e w6 ⟨n4, A6, c6, V, rfl, g6, hTV, hV16, hw4⟩
        obtain ⟨rfl, hk⟩ := HEND.out _ _ hw4
        have G6 := Lib.hid (G5.out.trans g6)
        have HSM := Lib.hid (t_refsame_any U V A5 A6 c5 c6 w6 (HTU.out _ g6) hTV (by have := HU16.out; omega))
        rw [decide_eq_true hk] at HSM
        clear g6 hTV hV16 hw4 hk HEND
        go_wp2_with fail
        refine HSM.out.mono ?_
        rintro e w7 ⟨rfl, g7⟩
        have G7 := Lib.hid (G6.out.trans g7)
        clear g7
        go_wp2_with fail
        refine (HKN.out _ G7.out).mono ?_
        rintro e wk ⟨rfl, gk⟩
        have Gk := Lib.hid (G7.out.trans gk)
        clear gk
        go_wp2_with fail
        go_ret
        exact ⟨rfl, Gk.out⟩
      · have b3 : (n3 != 0) = true := by rw [bne_iff_ne]; exact h3
        have h8 : n3 = 8 := by
          rcases HI3.out.2.1 (HO2.out M (HI2.out.2.2 h2) (HWP.out.2 h1).1) with h | h
          · exact absurd h h3
          · exact h
        have b8 : (n3 == 8) = true := by rw [beq_iff_eq]; exact h8
        clear h1 h2 h3 h8
        go_wp2_with fail
        refine (HKN.out _ G5.out).mono ?_
        rintro e wk ⟨rfl, gk⟩
        have Gk := Lib.hid (G5.out.trans gk)
        clear gk
        go_wp2_with fail
        go_ret
        exact ⟨rfl, Gk.out⟩
    · have b1 : (n1 != 0) = true := by rw [bne_iff_ne]; exact h1
      clear h1 h2
      go_wp2_with fail
      refine (HKN.out _ G5.out).mono ?_
      rintro e wk ⟨rfl, gk⟩
      have Gk := Lib.hid (G5.out.trans gk)
      clear gk
      go_wp2_with fail
      go_ret
      exact ⟨rfl, Gk.out⟩
  · have b2 : (n2 != 0) = true := by rw [bne_iff_ne]; exact h2
    by_cases h1 : n1 = 0
    · have b1 : (n1 != 0) = false := by rw [bne_eq_false_iff_eq]; exact h1
      clear h1 h2
      go_wp2_with fail
      refine (HKN.out _ G5.out).mono ?_
      rintro e wk ⟨rfl, gk⟩
      have Gk := Lib.hid (G5.out.trans gk)
      clear gk
      go_wp2_with fail
      go_ret
      exact ⟨rfl, Gk.out⟩
    · have b1 : (n1 != 0) = true := by rw [bne_iff_ne]; exact h1
      clear h1 h2
      go_wp2_with fail
      refine (HKN.out _ G5.out).mono ?_
      rintro e wk ⟨rfl, gk⟩
      have Gk := Lib.hid (G5.out.trans gk)
      clear gk
      go_wp2_with fail
      go_ret
      exact ⟨rfl, Gk.out⟩


open Go.RowKit

def rot {α : Type} (s : Nat) (l : List α) : List α := l.drop s ++ l.take s
section
variable {α : Type}
theorem rot_perm (s : Nat) (l : List α) : (rot s l).Perm l := by
  have h : (rot s l).Perm (l.take s ++ l.drop s) := List.perm_append_comm
  rwa [List.take_append_drop] at h
theorem rot_len (s : Nat) (l : List α) : (rot s l).length = l.length := (rot_perm s l).length_eq
theorem rot_get {s i : Nat} {l : List α} (hs : s < l.length) (hi : i < l.length) : (rot s l)[i]? = l[(i + s) % l.length]? := by
  unfold rot
  by_cases h : i < l.length - s
  · rw [List.getElem?_append_left (by rw [List.length_drop]; exact h), List.getElem?_drop, Nat.mod_eq_of_lt (by omega), Nat.add_comm]
  · rw [List.getElem?_append_right (by rw [List.length_drop]; omega), List.length_drop, List.getElem?_take]
    have e : (i + s) % l.length = i + s - l.length := by
      rw [Nat.mod_eq_sub_mod (by omega), Nat.mod_eq_of_lt (by omega)]
    rw [if_pos (by omega), e]
    congr 1
    omega
end
theorem rot_zip {α β : Type} (s : Nat) (D : List α) (O : List β) (h : O.length = D.length) : (rot s D).zip (rot s O) = rot s (D.zip O) := by
  unfold rot
  rw [List.zip_append (by simp [h])]
  unfold List.zip
  rw [List.drop_zipWith, List.take_zipWith]

theorem depsB_of {D : List (List UInt8)} (h5 : D.length ≤ 5) (hn : ∀ s ∈ D, nameB s = true) (hp : D.Pairwise fun a b => a ≠ b) : depsB D = true := by
  unfold depsB
  rw [Bool.and_eq_true, decide_eq_true_eq, List.all_eq_true]
  refine ⟨h5, fun k hk => ?_⟩
  have hk : k < D.length := by simpa using hk
  unfold depOk
  rw [List.getD_eq_getElem?_getD, List.getElem?_eq_getElem hk, Option.getD_some, Bool.and_eq_true, hn _ (List.getElem_mem hk), Bool.not_eq_true']
  refine ⟨rfl, ?_⟩
  unfold hasS
  rw [List.any_eq_false]
  intro x hx e
  rw [beq_iff_eq] at e
  rw [List.mem_take_iff_getElem] at hx
  obtain ⟨i, hi, rfl⟩ := hx
  exact (List.pairwise_iff_getElem.1 hp) i k (by omega) hk (by omega) e
theorem deps_perm {D D' : List (List UInt8)} (h : D'.Perm D) (hd : depsB D = true) : depsB D' = true := by
  obtain ⟨h1, h2⟩ := dep_name hd
  exact depsB_of (by rw [h.length_eq]; exact h1) (fun s hs => h2 s (h.mem_iff.1 hs)) ((h.pairwise_iff (fun h => Ne.symm h)).2 (deps_apart hd))
theorem okP_turned {t : Tgt} {L : List Fil} {O : List Tr} {A : Option Addr} {c : Nat} (s : Nat) (h : okP t L O) : okP { t with A := A, D := rot s t.D, c := c } L (rot s O) := by
  obtain ⟨h1, h2, h3, h4⟩ := h
  refine ⟨?_, h2, by show (rot s O).length = (rot s t.D).length; rw [rot_len, rot_len]; exact h3, ?_⟩
  · unfold mayTgt runB at h1 ⊢
    rw [Bool.and_eq_true, Bool.and_eq_true] at h1 ⊢
    exact ⟨h1.1, deps_perm (rot_perm s _) h1.2.1, h1.2.2⟩
  · unfold badO at h4 ⊢
    rw [(rot_perm s O).any_eq]
    exact h4
theorem inK_turned (L : List Fil) (s : Nat) {D : List (List UInt8)} {O : List Tr} (h : O.length = D.length) : (inK L ((rot s D).zip (rot s O))).Perm (inK L (D.zip O)) := by
  rw [rot_zip s D O h]
  unfold inK inZ
  exact List.Perm.append_left _ ((rot_perm s _).flatMap_right _)

/-! ### What is built -/
theorem Tryd.info9 : (Tryd.prog.info? 9).map (fun i => (i.zero, i.size, i.bytes)) = some (some (.string ⟨#[]⟩), 1, 16) := by kernel_rfl
theorem Tryd.info40 : (Tryd.prog.info? 40).map (fun i => (i.zero, i.size, i.bytes)) = some (some (.slice none 0 0), 1, 24) := by kernel_rfl
theorem own_apartE {w : World} {B e s : Nat} {v : Value} {n : Nat} {xs : List Value} {B' e' s' : Nat} {v' : Value} {n' : Nat} {xs' : List Value} (h : w.ownsRow B e s v n xs) (k : w.ownsRow B' e' s' v' n' xs') (hne : e ≠ e') : v'.ownBlock = none ∨ v'.ownBlock ≠ v.ownBlock := by
  rcases k.2 with ⟨rfl, -⟩ | ⟨g', cap', cur', rfl, -, hg', -⟩
  · exact .inl rfl
  · refine .inr fun he => ?_
    rcases h.2 with ⟨rfl, -⟩ | ⟨g, cap, cur, rfl, -, hg, -⟩
    · cases he
    · have e2 : g' = g := by simpa [Value.ownBlock] using he
      subst e2
      rw [hg] at hg'
      simp at hg'
      exact hne hg'.2
theorem Chg.ownRow {c row : Option Nat} {u v w : World} (h : Chg c u v) (k : v.grownBy w row) (hb : ∀ g, row = some g → u.heap.size ≤ g) : Chg c u w :=
  ⟨k.os.trans h.os, k.tape.trans h.tape, k.output.trans h.output, Nat.le_trans h.size k.size,
    fun i hi hn => (k.block i (Nat.lt_of_lt_of_le hi h.size) (fun e => by have := hb i e.symm; omega)).trans (h.block i hi hn)⟩
theorem own_rowsAt {α : Type} {w : World} {b : Nat} {e : TypeId} {A : Option Addr} {L : List α} {c : Nat} {f : α → List Value} (hf : ∀ a, (f a).length = 1) (h : w.ownsRow b e 1 (.slice A L.length c) L.length (L.flatMap f)) : RowsAt w 1 A f L ∧ L.length ≤ c ∧ c ≤ maxLen := by
  rcases h.2 with ⟨h1, h2⟩ | ⟨g, cap, cur, h1, hb, hg, hn, hm, hs, ht⟩
  · have e0 : L = [] := List.eq_nil_of_length_eq_zero h2
    subst e0
    injection h1 with _ _ h3
    exact ⟨fun h => absurd rfl h, by rw [h3]; exact Nat.le_refl _, by rw [h3]; exact Nat.zero_le _⟩
  · injection h1 with hA _ hc
    subst hA hc
    refine ⟨fun _ => ⟨g, 0, rfl, (Array.getElem?_eq_some_iff.1 hg).1, fun i a hi j hj => ?_⟩, hn, hm⟩
    have hl : i < L.length := (List.getElem?_eq_some_iff.1 hi).1
    obtain rfl : j = 0 := by omega
    have h2 := flat_get f 1 hf L i 0 a hi (by omega)
    rw [← ht, List.getElem?_take, if_pos (by omega)] at h2
    rw [← h2]
    simp [World.cell?, hg]

structure OrdAt (w wr : World) (b : Nat) (t : Tgt) (D : List (List UInt8)) (O : List Tr) (vD vO : Value) : Prop where
  blk : Blk wr b #[.string ⟨t.n.toArray⟩, vD, .int .i64 t.fuel, .slice t.B t.P.length t.d] 77
  lo : w.heap.size ≤ b
  oD : wr.ownsRow (b + 1) 9 1 vD D.length (D.flatMap strC)
  oO : wr.ownsRow (b + 1) 40 1 vO O.length (O.flatMap trC)
  chg : Chg none w wr
section
variable {w u w' : World} {b : Nat} {t : Tgt} {D : List (List UInt8)} {O : List Tr} {vD vO v' : Value}
theorem own_none (v : Value) : v.ownBlock = none ∨ v.ownBlock ≠ none := by cases v.ownBlock <;> simp
theorem OrdAt.on (h : OrdAt w u b t D O vD vO) (g : Chg none u w') : OrdAt w w' b t D O vD vO := ⟨Blk.chg h.blk g (by simp), h.lo, h.oD.kept g (own_none _), h.oO.kept g (own_none _), h.chg.trans g⟩
theorem OrdAt.cells (h : OrdAt w u b t D O vD vO) : u.cell? ⟨b, 0, none⟩ = some (.string ⟨t.n.toArray⟩) ∧ u.cell? ⟨b, 1, none⟩ = some vD ∧ u.cell? ⟨b, 2, none⟩ = some (.int .i64 t.fuel) ∧ u.cell? ⟨b, 3, none⟩ = some (.slice t.B t.P.length t.d) ∧ (∀ o, u.frozen? ⟨b, o, none⟩ = false) ∧ b < u.heap.size := by
  refine ⟨?_, ?_, ?_, ?_, fun o => Blk.frozen h.blk o, Blk.lt h.blk⟩ <;> (rw [Blk.cell h.blk]; rfl)
theorem OrdAt.dep (h : OrdAt w u b t D O vD vO) (s : List UInt8) (hown : w'.ownsRow (b + 1) 9 1 v' (D.length + 1) (D.flatMap strC ++ [.string ⟨s.toArray⟩])) (hg : u.grownBy w' vD.ownBlock) : OrdAt w (w'.setCell ⟨b, 1, none⟩ v') b t (D ++ [s]) O v' vO := by
  have hb : some b ≠ vD.ownBlock := fun e => by have := (h.oD.lt _ e.symm).1; omega
  refine ⟨Blk.set (Blk.chg h.blk hg hb) 1 v', h.lo, ?_, ownsRow_setCell_below (h.oO.kept hg (own_apartE h.oD h.oO (by decide))) (Nat.lt_succ_self _) _, (Chg.ownRow h.chg hg (fun x hx => by have := (h.oD.lt x hx).1; have := h.lo; omega)).setNew _ h.lo _⟩
  refine ownsRow_setCell_below ?_ (Nat.lt_succ_self _) _
  rw [List.length_append, List.flatMap_append]
  exact hown
theorem OrdAt.out (h : OrdAt w u b t D O vD vO) (o : Tr) (hown : w'.ownsRow (b + 1) 40 1 v' (O.length + 1) (O.flatMap trC ++ [.slice o.A o.L.length o.c])) (hg : u.grownBy w' vO.ownBlock) : OrdAt w w' b t D (O ++ [o]) vD v' := by
  have hb : some b ≠ vO.ownBlock := fun e => by have := (h.oO.lt _ e.symm).1; omega
  refine ⟨Blk.chg h.blk hg hb, h.lo, h.oD.kept hg (own_apartE h.oO h.oD (by decide)), ?_, Chg.ownRow h.chg hg (fun x hx => by have := (h.oO.lt x hx).1; have := h.lo; omega)⟩
  rw [List.length_append, List.flatMap_append]
  exact hown
end


open Go.RowKit

/-- What stands at the head of each round. -/
def OrdR (w : World) (b : Nat) (t : Tgt) (O : List Tr) (s k : Nat) (vD vO : Value) (wr : World) : Prop := OrdAt w wr b t ((rot s t.D).take k) ((rot s O).take k) vD vO

set_option maxHeartbeats 32000000 in
set_option maxRecDepth 100000 in
theorem planorder_any (t : Tgt) (L : List Fil) (A : Option Addr) (c : Nat) (O : List Tr) (OA : Option Addr) (oc : Nat) (turn : Int) (w : World) (ht : TgtAt w t) (hT : TreeAt w A L) (hO : OutsAt w OA O) (hF : Flds w)
    (hl : L.length ≤ 9223372036854775807) (hol : O.length ≤ 4611686018427387904) :
    Calls Tryd.prog 19 #[.agg (tgtCells t).toArray, .slice A L.length c, .slice OA O.length oc, .int .i64 turn] w fun e w' => e = .returned (.bool true) ∧ Chg none w w' := by
  obtain ⟨W1, hW1⟩ : ∃ W1, W1 = w.alloc (.cells (tgtCells t).toArray 77) := ⟨_, rfl⟩
  have g1 : Chg none w W1 := by rw [hW1]; exact (Chg.refl _ _).alloc _
  have hb1 : Blk W1 w.heap.size (tgtCells t).toArray 77 := by rw [hW1]; exact Blk.new _ _ _
  have hs1 : w.heap.size < W1.heap.size := Blk.lt hb1
  have HG := Lib.hid (great16_any t L A c O OA oc W1 (ht.chg g1) (hT.chg g1) (hO.chg g1) hl hol)
  have HI : Hid (∀ v, Chg none w v → Calls Tryd.prog 59 #[.agg (tgtCells t).toArray, .slice A L.length c, .slice OA O.length oc] v fun e w' => ∃ (n : Int) (A' : Option Addr) (c' : Nat) (T : List Fil), e = .returned (.tuple #[.slice A' T.length c', .int .i64 n]) ∧ Chg none v w' ∧ TreeAt w' A' T ∧ T.length ≤ 16 ∧ InQ t L O n T) :=
    Lib.hid fun v g => inputs_plain t L A c O OA oc v (ht.chg g) (hT.chg g) (hO.chg g) (hF.chg g) hl hol
  have HKN : Hid (∀ v, Chg none w v → Calls Tryd.prog 58 #[] v fun e w' => e = .returned (.bool true) ∧ Chg none v w') := Lib.hid fun v g => known16_any v (hF.chg g)
  have HX : Hid (∀ v, Chg none W1 v → v.cell? ⟨w.heap.size, 0, none⟩ = some (.string ⟨t.n.toArray⟩) ∧ v.cell? ⟨w.heap.size, 1, none⟩ = some (.slice t.A t.D.length t.c) ∧ v.cell? ⟨w.heap.size, 2, none⟩ = some (.int .i64 t.fuel) ∧ v.cell? ⟨w.heap.size, 3, none⟩ = some (.slice t.B t.P.length t.d)) := Lib.hid fun v g => by
    have h := hb1.chg g (by simp)
    exact ⟨h.cell 0, h.cell 1, h.cell 2, h.cell 3⟩
  have HG1 := Lib.hid g1
  have HW1 : Hid (w.alloc (.cells #[.string ⟨t.n.toArray⟩, .slice t.A t.D.length t.c, .int .i64 t.fuel, .slice t.B t.P.length t.d] 77) = W1) := Lib.hid hW1.symm
  have HTO := Lib.hid (fun v (g : Chg none w v) => hO.chg g)
  have HTD := Lib.hid (fun v (g : Chg none w v) => ht.deps.chg g)
  -- what is called at the end
  have HJ : Hid (∀ v (A' : Option Addr) (c' : Nat) (s : Nat) (B' : Option Addr) (d' : Nat), Chg none w v → RowsAt v 1 A' strC (rot s t.D) → (rot s t.D).length ≤ c' → c' ≤ 9223372036854775807 → RowsAt v 1 B' trC (rot s O) →
      Calls Tryd.prog 59 #[.agg #[.string ⟨t.n.toArray⟩, .slice A' (rot s t.D).length c', .int .i64 t.fuel, .slice t.B t.P.length t.d], .slice A L.length c, .slice B' (rot s O).length d'] v fun e w' => ∃ (n : Int) (A' : Option Addr) (c' : Nat) (T : List Fil), e = .returned (.tuple #[.slice A' T.length c', .int .i64 n]) ∧ Chg none v w' ∧ TreeAt w' A' T ∧ T.length ≤ 16 ∧
        (okP t L O → okK (inK L (t.D.zip O)) → n = 0 ∧ mayT T = true ∧ (keys T).Perm (inK L (t.D.zip O)))) := Lib.hid fun v A' c' s B' d' g h1 h2 h3 h4 => by
    have htv := ht.chg g
    have hOv := hO.chg g
    refine (inputs_plain { t with A := A', D := rot s t.D, c := c' } L A c (rot s O) B' d' v ⟨htv.nl, ⟨h1, fun x hx => htv.deps.2 x ((rot_perm s _).mem_iff.1 hx)⟩, by show (rot s t.D).length ≤ _; rw [rot_len]; exact htv.dl, h2, h3, htv.prog, htv.fits, htv.pl, htv.fl⟩ (hT.chg g) ⟨h4, fun o ho => hOv.2 o ((rot_perm s _).mem_iff.1 ho)⟩ (hF.chg g) hl (by rw [rot_len]; exact hol)).mono fun e w' h => ?_
    obtain ⟨n, A'', c'', T, he, hg, hT', h16, hq1, -, hq3⟩ := h
    refine ⟨n, A'', c'', T, he, hg, hT', h16, fun ho hk => ?_⟩
    have hp := inK_turned L s (D := t.D) (O := O) ho.2.2.1
    have hn := hq3.2 ⟨okP_turned s ho, (okK_perm hp).2 hk⟩
    exact ⟨hn, (hq1 hn).2.1, (hq1 hn).2.2.trans hp⟩
  have HBL : Hid (∀ u v, Chg none u v → ∀ (by_ : Nat), u.heap.size ≤ by_ → Blk v by_ #[.string ⟨t.n.toArray⟩, .slice none 0 0, .int .i64 t.fuel, .slice t.B t.P.length t.d] 77 → ∀ s, OrdR u by_ t O s 0 (.slice none 0 0) (.slice none 0 0) v) := Lib.hid fun u v g by_ hlo hb s => by
    unfold OrdR
    rw [List.take_zero, List.take_zero]
    exact ⟨hb, hlo, World.ownsRow_nil _ _ _ _, World.ownsRow_nil _ _ _ _, g⟩
  clear ht hT hO hF hl hol hW1 g1 hb1
  obtain ⟨i0, hi0, hz0, hz1, hz2⟩ := info_parts Tryd.info9
  obtain ⟨i1, hj0, hy0, hy1, hy2⟩ := info_parts Tryd.info40
  obtain ⟨D, hD⟩ : ∃ D, D = t.D := ⟨_, rfl⟩
  have HQ0 : Hid (∀ n T, InQ t L O n T → n = 0 → okP t L O ∧ O.length = D.length ∧ D.length ≤ 5 ∧ okK (inK L (D.zip O)) ∧ mayT T = true ∧ (keys T).Perm (inK L (D.zip O))) := Lib.hid fun n T h h0 => by
    obtain ⟨h1, -, h3⟩ := h
    obtain ⟨ho, hk⟩ := h3.1 h0
    rw [hD]
    refine ⟨ho, ho.2.2.1, ?_, hk, (h1 h0).2⟩
    have hm := ho.1
    unfold mayTgt at hm
    rw [Bool.and_eq_true, Bool.and_eq_true] at hm
    exact (dep_name hm.2.1).1
  obtain ⟨tn, tA, tD, tc, tf, tB, tP, td⟩ := t
  dsimp only at hD
  subst hD
  unfold tgtCells at *
  dsimp only at HX HW1 HG HI HTD HBL HJ ⊢
  go_enter Tryd.func19, Tryd.ntmps19
  go_upto_region 1 with fail
  rw [HW1.out]
  obtain ⟨x0, x1, x2, x3⟩ := HX.out W1 (Chg.refl _ _)
  generalize w.heap.size = px at *
  have HS1 := Lib.hid hs1
  clear hs1
  go_wp2_with fail
  refine HG.out.mono ?_
  rintro e w2 ⟨g, rfl, g2⟩
  have K2 := Lib.hid g2
  have G2 := Lib.hid (HG1.out.trans g2)
  clear g2 x0 x1 x2 x3 HG HW1
  cases g with
  | true =>
    go_wp2_with fail
    refine (HKN.out _ G2.out).mono ?_
    rintro e wk ⟨rfl, gk⟩
    have Gk := Lib.hid (G2.out.trans gk)
    clear gk
    go_wp2_with fail
    go_ret
    exact ⟨rfl, Gk.out⟩
  | false =>
  obtain ⟨x0, x1, x2, x3⟩ := HX.out w2 K2.out
  go_wp2_with fail
  refine (HI.out _ G2.out).mono ?_
  rintro e w3 ⟨n2, A3, c3, T, rfl, g3, hTT, hT16, hi2⟩
  have K3 := Lib.hid (K2.out.trans g3)
  have G3 := Lib.hid (G2.out.trans g3)
  have HTR : Hid (∀ v, Chg none w3 v → TreeAt v A3 T) := Lib.hid fun v g => hTT.chg g
  have HT16 := Lib.hid hT16
  have HI2 := Lib.hid (HQ0.out _ _ hi2)
  clear g3 hTT hT16 hi2 x0 x1 x2 x3 HI HQ0
  by_cases h2 : n2 = 0
  rotate_left
  · have b2 : (n2 != 0) = true := by rw [bne_iff_ne]; exact h2
    clear h2
    go_wp2_with fail
    refine (HKN.out _ G3.out).mono ?_
    rintro e wk ⟨rfl, gk⟩
    have Gk := Lib.hid (G3.out.trans gk)
    clear gk
    go_wp2_with fail
    go_ret
    exact ⟨rfl, Gk.out⟩
  have b2 : (n2 != 0) = false := by rw [bne_eq_false_iff_eq]; exact h2
  obtain ⟨hok, hlen, hd5, hkk, hmT, hkT⟩ := HI2.out h2
  by_cases h0 : O.length = 0
  · have b3 : ((O.length : Int) == 0) = true := by rw [beq_iff_eq]; omega
    clear h2 hok hlen hd5 hkk hmT hkT h0
    go_wp2_with fail
    refine (HKN.out _ G3.out).mono ?_
    rintro e wk ⟨rfl, gk⟩
    have Gk := Lib.hid (G3.out.trans gk)
    clear gk
    go_wp2_with fail
    go_ret
    exact ⟨rfl, Gk.out⟩
  have b3 : ((O.length : Int) == 0) = false := by rw [beq_eq_false_iff_ne]; omega
  have hb0 : (O.length == 0) = false := by rw [beq_eq_false_iff_ne]; exact h0
  have HOK := Lib.hid hok
  have HKK := Lib.hid hkk
  have HMT := Lib.hid hmT
  have HKT := Lib.hid hkT
  have HLE := Lib.hid hlen
  obtain ⟨N, hN⟩ : ∃ N, N = O.length := ⟨_, rfl⟩
  have hDN : D.length = N := by omega
  have hu0 : 0 ≤ IntKind.u64.wrap turn := by simp [IntKind.wrap, IntKind.bits, IntKind.signed]; omega
  obtain ⟨s, hs⟩ : ∃ s : Nat, (IntKind.u64.wrap turn).tmod (N : Int) = (s : Int) := by
    rw [Int.tmod_eq_emod_of_nonneg hu0]
    exact ⟨_, (Int.toNat_of_nonneg (Int.emod_nonneg _ (by omega))).symm⟩
  have hsN : s < N := by
    have h1 := Int.emod_lt_of_pos (IntKind.u64.wrap turn) (b := (N : Int)) (by omega)
    rw [Int.tmod_eq_emod_of_nonneg hu0] at hs
    omega
  have hN0 : ((N : Int) == 0) = false := by rw [beq_eq_false_iff_ne]; omega
  obtain ⟨x0, x1, x2, x3⟩ := HX.out w3 K3.out
  rw [hDN] at x1
  have HDN := Lib.hid hDN
  have hN5 : N ≤ 5 := by omega
  rw [← hN] at b3 hb0 ⊢
  have HNL := Lib.hid hN
  clear h2 hok hlen hd5 hkk hmT hkT h0 HI2 hu0 hN hDN
  go_upto_region 10 with fail
  obtain ⟨W5, hW5⟩ : ∃ W, W = w3.alloc (Obj.cells #[Value.string ⟨tn.toArray⟩, Value.slice none 0 0, Value.int IntKind.i64 tf, Value.slice tB tP.length td] 77) := ⟨_, rfl⟩
  have hA : Blk W5 w3.heap.size #[Value.string ⟨tn.toArray⟩, Value.slice none 0 0, Value.int IntKind.i64 tf, Value.slice tB tP.length td] 77 := by rw [hW5]; exact Blk.new _ _ _
  have HOR := Lib.hid (HBL.out w3 W5 (by rw [hW5]; exact (Chg.refl _ _).alloc _) _ (Nat.le_refl _) hA s)
  have K5 : Hid (Chg none W1 W5) := Lib.hid (by rw [hW5]; exact K3.out.alloc _)
  have C5 : Hid (Chg none w3 W5) := Lib.hid (by rw [hW5]; exact (Chg.refl _ _).alloc _)
  have G5 := Lib.hid (HG1.out.trans K5.out)
  rw [← hW5]
  obtain ⟨b, hb⟩ : ∃ b, b = w3.heap.size := ⟨_, rfl⟩
  rw [← hb] at HOR ⊢
  obtain ⟨t0, ht0⟩ : ∃ t0 : Tgt, t0 = ⟨tn, tA, D, tc, tf, tB, tP, td⟩ := ⟨_, rfl⟩
  rw [← ht0] at HOR
  have HTE : Hid (t0.n = tn ∧ t0.D = D ∧ t0.fuel = tf ∧ t0.B = tB ∧ t0.P = tP ∧ t0.d = td) := Lib.hid (by rw [ht0]; exact ⟨rfl, rfl, rfl, rfl, rfl, rfl⟩)
  rw [← ht0] at HOK HJ
  clear hA hW5 hb ht0 HBL x0 x1 x2 x3
  go_loopw [12, 41] (fun s12 s41 wr => ∃ (k : Nat) (vD vO : Value), k ≤ N ∧ s41 = .int .i64 k ∧ s12 = vO ∧ Hid (OrdR w3 b t0 O s k vD vO wr)) (fun _ i _ => N - (intOf i).toNat)
  case atStart => exact ⟨0, _, _, Nat.zero_le _, rfl, rfl, HOR⟩
  case round =>
    obtain ⟨k, vD, vO, hk, rfl, rfl, HR⟩ := hrel
    have hR := HR.out
    unfold OrdR at hR
    obtain ⟨A6, c6, rfl⟩ := own_slice hR.oD
    obtain ⟨A7, c7, rfl⟩ := own_slice hR.oO
    rw [HTE.out.2.1] at hR
    have hlD : ((rot s D).take k).length = k := by rw [List.length_take, rot_len, HDN.out]; omega
    have hlO : ((rot s O).take k).length = k := by rw [List.length_take, rot_len, ← HNL.out]; omega
    obtain ⟨x0, x1, x2, x3, xf, xb⟩ := hR.cells
    rw [HTE.out.1] at x0
    rw [hlD] at x1
    rw [HTE.out.2.2.1] at x2
    rw [HTE.out.2.2.2.1, HTE.out.2.2.2.2.1, HTE.out.2.2.2.2.2] at x3
    have CR := Lib.hid hR.chg
    have KR := Lib.hid (K3.out.trans hR.chg)
    have GR := Lib.hid (G3.out.trans hR.chg)
    by_cases hlt : k < N
    · have hdd : decide ((k : Int) < (N : Int)) = true := by rw [decide_eq_true_eq]; omega
      obtain ⟨j, hj⟩ : ∃ j, j = (k + s) % N := ⟨_, rfl⟩
      have hjN : j < N := by rw [hj]; exact Nat.mod_lt _ (by omega)
      obtain ⟨d, hd⟩ : ∃ d, D[j]? = some d := ⟨_, List.getElem?_eq_getElem (by rw [HDN.out]; exact hjN)⟩
      obtain ⟨o, ho⟩ : ∃ o, O[j]? = some o := ⟨_, List.getElem?_eq_getElem (by rw [← HNL.out]; exact hjN)⟩
      have hrd : (rot s D)[k]? = some d := by rw [rot_get (by rw [HDN.out]; exact hsN) (by rw [HDN.out]; exact hlt), HDN.out, ← hj]; exact hd
      have hro : (rot s O)[k]? = some o := by rw [rot_get (by rw [← HNL.out]; exact hsN) (by rw [← HNL.out]; exact hlt), ← HNL.out, ← hj]; exact ho
      have hjs : ((k : Int) + (s : Int)).tmod (N : Int) = (j : Int) := by
        rw [Int.tmod_eq_emod_of_nonneg (by omega), hj]
        norm_cast
      have HJ' := Lib.hid hj
      have HRD := Lib.hid hrd
      have HRO := Lib.hid hro
      obtain ⟨bD, oD, rfl, hbD, xd⟩ := (HTD.out wr GR.out).one hd
      obtain ⟨bO, oO, rfl, hbO, xo⟩ := (HTO.out wr GR.out).one ho
      have HOX := Lib.hid ho
      clear hd ho hrd hro hj
      obtain ⟨y0, y1, y2, y3⟩ := HX.out wr KR.out
      rw [HDN.out] at y1
      obtain ⟨oA, oL, ocap⟩ := o
      dsimp only at xo
      have hs1 : k + 1 ≤ maxLen := by unfold maxLen; omega
      have hs2 : (k + 1) * 16 ≤ 140737488355328 := by omega
      have hs3 : (k + 1) * 24 ≤ 140737488355328 := by omega
      have HRR : Hid (∀ W : World, Reads (W.alloc (.cells #[.string ⟨d.toArray⟩] 9)) (W.heap.size + 1) 1 (some ⟨W.heap.size, 0, none⟩) 1 [.string ⟨d.toArray⟩]) := Lib.hid fun W => ⟨rfl, fun _ => ⟨_, rfl, Nat.lt_succ_self _, fun j u hu => by
        rw [Go.WideShapes.add_plain, Blk.cell (Blk.new W _ _)]
        simpa using hu⟩⟩
      have HRO2 : Hid (∀ W : World, Reads (W.alloc (.cells #[.slice oA oL.length ocap] 40)) (W.heap.size + 1) 1 (some ⟨W.heap.size, 0, none⟩) 1 [.slice oA oL.length ocap]) := Lib.hid fun W => ⟨rfl, fun _ => ⟨_, rfl, Nat.lt_succ_self _, fun j u hu => by
        rw [Go.WideShapes.add_plain, Blk.cell (Blk.new W _ _)]
        simpa using hu⟩⟩
      have HO9 := Lib.hid (show ∀ u ∈ [Value.string ⟨d.toArray⟩], u.oneCell' = true by intro u hu; simp at hu; subst hu; rfl)
      have HO40 := Lib.hid (show ∀ u ∈ [Value.slice oA oL.length ocap], u.oneCell' = true by intro u hu; simp at hu; subst hu; rfl)
      have HRX := Lib.hid hR
      have HLD := Lib.hid hlD
      have HLO := Lib.hid hlO
      have xl : b < wr.heap.size + 1 := by omega
      have HOD : Hid (wr.ownsRow (b + 1) 9 1 (.slice A6 k c6) k (((rot s D).take k).flatMap strC)) := Lib.hid (by have h := hR.oD; rwa [hlD] at h)
      rw [hlD, hlO] at HRX
      rw [hlO]
      have hbl : w3.heap.size ≤ b := hR.lo
      clear hR hlD hlO HR
      go_upto_region 13 with fail
      go_cut [] (fun wx => Hid (∃ A9 c9, OrdAt w3 wx b t0 ((rot s D).take k ++ [d]) ((rot s O).take k) (.slice A9 (k + 1) c9) (.slice A7 k c7)))
      case first =>
        go_region_law (first
            | (refine step_append_any _ rfl (.tmp 57) (.tmp 63) 64 rfl (b + 1) 9 i0 (.string ⟨#[]⟩) 1 16 Tryd.underlying64 hi0 hz0 hz1 hz2 rfl (by decide) (.slice A6 k c6) k _ rfl (HOD.out.alloc _) _ (some ⟨wr.heap.size, 0, none⟩) 1 1 [.string ⟨d.toArray⟩] rfl (HRR.out wr) HO9.out hs1 hs2 (by simp; omega) ?_
               intro v9 w9 hown9 hgr9 _
               have hB9 := Blk.chg ((HRX.out.blk.alloc _).drew) hgr9 (fun e => by have := (HOD.out.lt _ e.symm).1; omega)
               have HM9 := Lib.hid ((HRX.out.on (((Chg.refl _ _).alloc _).drew)).dep d (by rw [HLD.out]; exact hown9) hgr9)
               obtain ⟨A9, c9, rfl⟩ := own_slice hown9
               have hf9 := Blk.frozen hB9 1
               have hc9 : w9.cell? ⟨b, 1, none⟩ = some (.slice A6 k c6) := by rw [Blk.cell hB9]; rfl
               clear hown9 hgr9 hB9))
        all_goals go_wp2_with fail
        all_goals go_meet
        all_goals exact Lib.hid ⟨_, _, HM9.out⟩
      case rest =>
        obtain ⟨A9, c9, hat⟩ := hcut.out
        have HAT := Lib.hid hat
        obtain ⟨v0, v1, v2, v3, vf, vb⟩ := hat.cells
        have HOO : Hid (wc.ownsRow (b + 1) 40 1 (.slice A7 k c7) k (((rot s O).take k).flatMap trC)) := Lib.hid (by have h := hat.oO; rwa [HLO.out] at h)
        have KC := Lib.hid hat.chg
        obtain ⟨bO', oO', hbo, hbO', xo'⟩ := (HTO.out wc (G3.out.trans KC.out)).one HOX.out
        clear hat hcut x0 x1 x2 x3 xf xb xl y0 y1 y2 y3 xd xo HRX HOD HTD
        cases hbo
        dsimp only at xo'
        have xl : b < wc.heap.size + 1 := by omega
        go_upto_region 15 with (first
          | (refine wpList_append_any _ rfl (.tmp 66) (.tmp 71) 82 rfl (b + 1) 40 i1 (.slice none 0 0) 1 24 Tryd.underlying82 hj0 hy0 hy1 hy2 rfl (by decide) (.slice A7 k c7) k _ rfl (HOO.out.alloc _) _ (some ⟨wc.heap.size, 0, none⟩) 1 1 [.slice oA oL.length ocap] rfl (HRO2.out wc) HO40.out hs1 hs3 (by simp; omega) ?_
             intro v9 w9 hown9 hgr9 _
             have HM9 := Lib.hid ((HAT.out.on ((Chg.refl _ _).alloc _)).out ⟨oA, oL, ocap⟩ (by rw [HLO.out]; exact hown9) hgr9)
             obtain ⟨A8, c8, rfl⟩ := own_slice hown9
             clear hown9 hgr9))
        have HNX : Hid (OrdR w3 b t0 O s (k + 1) (.slice A9 (k + 1) c9) (.slice A8 (k + 1) c8) w9) := Lib.hid (by
          unfold OrdR
          rw [HTE.out.2.1, List.take_add_one, HRD.out, List.take_add_one, HRO.out]
          exact HM9.out)
        go_wp2_with fail
        go_roundw
        case rel => exact ⟨k + 1, _, _, by omega, by go_num, rfl, HNX⟩
        case measure => simp [intOf]; omega
    · have hkN : k = N := by omega
      subst hkN
      have hdd : decide (k < k) = false := by simp
      have hDD : (rot s D).take k = rot s D := List.take_of_length_le (by rw [rot_len, HDN.out]; exact Nat.le_refl _)
      have hOO : (rot s O).take k = rot s O := List.take_of_length_le (by rw [rot_len, ← HNL.out]; exact Nat.le_refl _)
      rw [hDD, hOO] at hR
      rw [hDD] at hlD
      rw [hOO] at hlO
      rw [hOO, hlO]
      obtain ⟨hrD, hcD, hmD⟩ := own_rowsAt (fun _ => rfl) hR.oD
      obtain ⟨hrO, -, -⟩ := own_rowsAt (fun _ => rfl) hR.oO
      have HCL := Lib.hid (HJ.out wr A6 c6 s A7 c7 GR.out hrD hcD (Nat.le_trans hmD (by unfold maxLen; decide)) hrO)
      rw [hlD, hlO] at HCL
      clear hrD hcD hmD hrO hR hDD hOO hlt
      go_wp2_with fail
      refine HCL.out.mono ?_
      rintro e w6 ⟨n3, A8, c8, U, rfl, g6, hTU, hU16, hq⟩
      obtain ⟨rfl, hmU, hkU⟩ := hq HOK.out HKK.out
      have hkeys : keys T = keys U := up_unique ((mayT_iff T).1 HMT.out).2 ((mayT_iff U).1 hmU).2 (HKT.out.trans hkU.symm)
      have G6 := Lib.hid (GR.out.trans g6)
      have HSM := Lib.hid (t_refsame_any T U A3 A8 c3 c8 w6 (HTR.out w6 (CR.out.trans g6)) hTU (by have := HT16.out; omega))
      rw [decide_eq_true hkeys] at HSM
      clear g6 hTU hU16 hmU hkU hkeys hq HCL
      go_wp2_with fail
      refine HSM.out.mono ?_
      rintro e w7 ⟨rfl, g7⟩
      have G7 := Lib.hid (G6.out.trans g7)
      clear g7
      go_wp2_with fail
      refine (HKN.out _ G7.out).mono ?_
      rintro e wk ⟨rfl, gk⟩
      have Gk := Lib.hid (G7.out.trans gk)
      clear gk
      go_wp2_with fail
      go_ret
      exact ⟨rfl, Gk.out⟩


end Go.Proofs.YtbadkkilblgpmaaDoor
