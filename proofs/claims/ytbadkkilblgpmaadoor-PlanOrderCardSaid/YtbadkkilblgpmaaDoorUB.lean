/-
  The document's tree: put, walked.
-/
import Derived.Test.YtbadkkilblgpmaaDoorUA
namespace Go.Proofs.YtbadkkilblgpmaaDoor
open Go.RowKit

/-- Files in a row of the call's own; their bytes may be anybody's. -/
structure RowL (w0 w : World) (A : Option Addr) (c : Nat) (M : List Fil) : Prop where
  row : w.ownsRow w0.heap.size 91 2 (.slice A M.length c) M.length (M.flatMap filCells)
  chg : Chg none w0 w
theorem RowL.on {w0 w w' : World} {A : Option Addr} {c : Nat} {M : List Fil} (h : RowL w0 w A c M) (g : Chg none w w') : RowL w0 w' A c M :=
  ⟨World.ownsRow.kept h.row g (by cases (Value.slice A M.length c).ownBlock <;> simp), h.chg.trans g⟩
theorem RowL.low {u w0 w : World} {A : Option Addr} {c : Nat} {M : List Fil} (h : RowL w0 w A c M) (g : Chg none u w0) : RowL u w A c M :=
  ⟨World.ownsRow.mono h.row g.size, g.trans h.chg⟩
theorem RowL.nil (w : World) : RowL w w none 0 [] := ⟨World.ownsRow_nil _ _ _ _, Chg.refl _ _⟩
theorem RowL.tree {w0 w : World} {A : Option Addr} {c : Nat} {M : List Fil} (h : RowL w0 w A c M) (hm : ∀ m ∈ M, m.ok w) : TreeAt w A M := ⟨(rows_of_own38 h.row).1, hm⟩
theorem RowL.app {w0 w w' : World} {A A' : Option Addr} {c c' : Nat} {M : List Fil} {m : Fil} (h : RowL w0 w A c M)
    (hr : w'.ownsRow w0.heap.size 91 2 (.slice A' (M.length + 1) c') (M.length + 1) (M.flatMap filCells ++ filCells m)) (g : w.grownBy w' (Value.slice A M.length c).ownBlock) : RowL w0 w' A' c' (M ++ [m]) := by
  refine ⟨?_, own_chg h.chg h.row (Nat.le_refl _) g⟩
  rw [List.length_append, List.length_singleton, List.flatMap_append]
  simpa using hr
/-- A test that has been made. -/
def BoolMid (w : World) (b : Bool) (s : Value) (wx : World) : Prop := s = .bool b ∧ Chg none w wx
theorem one38 (f : Fil) : Hid (∀ v : World, Reads (v.alloc (.cells #[.string ⟨f.p.toArray⟩, .slice f.A f.x.length f.c] 91)) (v.alloc (.cells #[.string ⟨f.p.toArray⟩, .slice f.A f.x.length f.c] 91)).heap.size 2 (some ⟨v.heap.size, 0, none⟩) 1 (filCells f)) := Lib.hid fun v => by
  have h := reads_lit38 v [f]
  simp only [List.flatMap_cons, List.flatMap_nil, List.append_nil, List.length_cons, List.length_nil, Nat.zero_add] at h
  exact h
theorem one38c (f : Fil) : Hid (∀ u ∈ filCells f, u.oneCell' = true) := Lib.hid fun u hu => filCells_one (L := [f]) u (by simpa using hu)

set_option maxHeartbeats 16000000 in
set_option maxRecDepth 100000 in
theorem put_any (L : List Fil) (A : Option Addr) (c : Nat) (f : Fil) (w : World) (hT : TreeAt w A L) (hl : L.length ≤ 1000) :
    Calls Tryd.prog 155 #[.slice A L.length c, .agg #[.string ⟨f.p.toArray⟩, .slice f.A f.x.length f.c]] w fun e w' => ∃ A' c', e = .returned (.slice A' (putL L f).length c') ∧ RowL w w' A' c' (putL L f) := by
  obtain ⟨i0, hi, hz0, hz1, hz2⟩ := info_parts Tryd.info91
  have HRF := one38 f
  have HOF := one38c f
  obtain ⟨W1, hW1⟩ : ∃ W1, W1 = w.alloc (.cells #[.string ⟨f.p.toArray⟩, .slice f.A f.x.length f.c] 91) := ⟨_, rfl⟩
  have g1 : Chg none w W1 := by rw [hW1]; exact (Chg.refl _ _).alloc _
  have hb1 : Blk W1 w.heap.size #[.string ⟨f.p.toArray⟩, .slice f.A f.x.length f.c] 91 := by rw [hW1]; exact Blk.new _ _ _
  have HT : Hid (∀ v, Chg none W1 v → TreeAt v A L) := Lib.hid fun v g => hT.chg (g1.trans g)
  have HF : Hid (∀ v, Chg none W1 v → v.cell? ⟨w.heap.size, 0, none⟩ = some (.string ⟨f.p.toArray⟩) ∧ v.cell? ⟨w.heap.size, 1, none⟩ = some (.slice f.A f.x.length f.c)) := Lib.hid fun v g => ⟨(hb1.chg g (by simp)).cell 0, (hb1.chg g (by simp)).cell 1⟩
  have HG1 := Lib.hid g1
  have HW1 : Hid (w.alloc (.cells #[.string ⟨f.p.toArray⟩, .slice f.A f.x.length f.c] 91) = W1) := Lib.hid hW1.symm
  have HL := Lib.hid hl
  have HS0 : Hid (putS f (L.take 0) = ([], false)) := Lib.hid rfl
  clear hT hW1 g1 hb1 hl
  obtain ⟨P, fA, fx, fc⟩ := f
  dsimp only at HRF HOF HF HW1 ⊢
  go_enter Tryd.func155, Tryd.ntmps155
  go_upto_region 1 with fail
  rw [HW1.out]
  clear HW1
  generalize w.heap.size = pf at *
  go_wp2_with fail
  go_loopw [5, 6, 7] (fun s5 s6 s7 wr => ∃ (k : Nat) (A1 : Option Addr) (c1 : Nat) (M : List Fil) (d : Bool), s7 = .int .i64 k ∧ s5 = .slice A1 M.length c1 ∧ s6 = .bool d ∧ Hid (k ≤ L.length ∧ M.length ≤ 2 * k) ∧ Hid (RowL W1 wr A1 c1 M) ∧ Hid (putS ⟨P, fA, fx, fc⟩ (L.take k) = (M, d))) (fun _ _ s7 _ => L.length - (intOf s7).toNat)
  case atStart => exact ⟨0, none, 0, [], false, rfl, rfl, rfl, Lib.hid ⟨Nat.zero_le _, Nat.zero_le _⟩, Lib.hid (RowL.nil _), HS0⟩
  case round =>
    obtain ⟨k, A1, c1, M, d, rfl, rfl, rfl, H1, H2, H3⟩ := hrel
    by_cases hlt : k < L.length
    · have hdd : decide ((k : Int) < (L.length : Int)) = true := by rw [decide_eq_true_eq]; omega
      obtain ⟨x, hkx⟩ : ∃ x, L[k]? = some x := ⟨_, List.getElem?_eq_getElem hlt⟩
      have hne : L ≠ [] := by intro e; subst e; simp at hlt
      obtain ⟨b, off, rfl, -, -⟩ := (HT.out wr H2.out.chg).1 hne
      have HX : Hid (∀ v, Chg none W1 v → v.cell? ⟨b, off + k * 2, none⟩ = some (.string ⟨x.p.toArray⟩) ∧ v.cell? ⟨b, off + k * 2 + 1, none⟩ = some (.slice x.A x.x.length x.c)) := Lib.hid fun v g => ((HT.out v g).1.two hkx).2
      have HLT := Lib.hid hlt
      have HLL := HL.out
      have HST : Hid (putS ⟨P, fA, fx, fc⟩ (L.take (k + 1)) = pst ⟨P, fA, fx, fc⟩ (M, d) x) := Lib.hid (by rw [putS_step hkx, H3.out])
      have HRX := one38 x
      have HOX := one38c x
      clear hkx hne HT HS0 H3
      obtain ⟨fp, xA, xx, xc⟩ := x
      dsimp only at HX HRX HOX
      obtain ⟨bl, hbl⟩ : ∃ bl, leB P fp = bl := ⟨_, rfl⟩
      have HBL := Lib.hid hbl
      go_upto_region 6 with fail
      go_cut [25] from 14 to 24 (fun s25 wx => BoolMid wr (!d && bl) s25 wx)
      case first =>
        have x0 := (HX.out wr.drew H2.out.chg.drew).1
        have f0 := (HF.out wr.drew H2.out.chg.drew).1
        have hle : (Op.bytesLess P fp || P == fp) = bl := hbl
        rw [← less_not] at hle
        clear hbl HBL HX HF
        cases d
        all_goals
          go_region
          all_goals
            go_wp2_with fail
            go_meet
            case rel => exact ⟨by first | rfl | (simp only [hle]; done) | (rw [← hle]; simp; done), (Chg.refl _ _).drew⟩
      case rest =>
        obtain ⟨rfl, g3⟩ := hcut
        have H4 := Lib.hid (H2.out.on g3)
        clear g3 hbl H2
        obtain ⟨wa, rfl⟩ : ∃ v, v = wc := ⟨_, rfl⟩
        have HP1 : Hid ((pst1 ⟨P, fA, fx, fc⟩ (M, d) ⟨fp, xA, xx, xc⟩) = ((if (!d && bl) = true then M ++ [⟨P, fA, fx, fc⟩] else M), d || bl)) := Lib.hid (by unfold pst1; dsimp only; rw [HBL.out])
        cases hb : (!d && bl) with
        | false =>
          have hd2 : (d || bl) = d := by cases d <;> cases bl <;> first | rfl | (exfalso; revert hb; decide)
          have HPS : Hid (putS ⟨P, fA, fx, fc⟩ (L.take (k + 1)) = (pst2 ⟨P, fA, fx, fc⟩ M ⟨fp, xA, xx, xc⟩, d)) := Lib.hid (by
            rw [HST.out]; unfold pst; rw [HP1.out, hb, hd2]; rfl)
          obtain ⟨M1, hM1⟩ : ∃ M1, M1 = M := ⟨_, rfl⟩
          obtain ⟨d1, hd1⟩ : ∃ d1, d1 = d := ⟨_, rfl⟩
          rw [← hM1, ← hd1] at HPS
          rw [← hM1] at H4 H1 ⊢
          rw [← hd1]
          have HM1 : Hid (M1.length ≤ 2 * k + 1) := Lib.hid (by have := H1.out.2; omega)
          obtain ⟨A2, hA2⟩ : ∃ A2, A2 = A1 := ⟨_, rfl⟩
          obtain ⟨c2, hc2⟩ : ∃ c2, c2 = c1 := ⟨_, rfl⟩
          rw [← hA2, ← hc2] at H4 ⊢
          have H5 := H4
          obtain ⟨wb, rfl⟩ : ∃ v, v = wa := ⟨_, rfl⟩
          clear hb hd2 hM1 hd1 hA2 hc2 HST HP1 H4 HBL
          have H6 := Lib.hid (H5.out.on (Chg.refl none wb).drew)
          obtain ⟨x0, x1⟩ := HX.out wb.drew H6.out.chg
          have f0 := (HF.out wb.drew H6.out.chg).1
          have l0 : b < wb.drew.heap.size := World.block_lt_of_cell? _ _ x0
          clear HX HF H5
          by_cases e : fp = P
          · have e1 : (fp == P) = true := by rw [beq_iff_eq]; exact e
            have e2 : (fp != P) = false := by rw [bne_eq_false_iff_eq]; exact e
            have HE : Hid (putS ⟨P, fA, fx, fc⟩ (L.take (k + 1)) = (M1, d1)) := Lib.hid (by rw [HPS.out]; unfold pst2; rw [if_pos e])
            clear e
            go_wp2_with fail
            go_region
            all_goals
              go_wp2_with fail
              go_roundw
              case rel => exact ⟨k + 1, A2, c2, M1, d1, by first | rfl | go_num, rfl, rfl, Lib.hid ⟨HLT.out, by have := HM1.out; omega⟩, H6, HE⟩
              case measure => have := HLT.out; first | omega | (simp only [intOf]; omega) | (simp [intOf]; omega)
          · have e1 : (fp == P) = false := by rw [beq_eq_false_iff_ne]; exact e
            have e2 : (fp != P) = true := by rw [bne_iff_ne]; exact e
            have HE : Hid (putS ⟨P, fA, fx, fc⟩ (L.take (k + 1)) = (M1 ++ [⟨fp, xA, xx, xc⟩], d1)) := Lib.hid (by rw [HPS.out]; unfold pst2; rw [if_neg e])
            have HML : Hid (M1.length ≤ 2001) := Lib.hid (by have := HM1.out; have := HLT.out; omega)
            have HSE : Hid (∀ ob : Obj, W1.heap.size ≤ (wb.drew.alloc ob).heap.size) := Lib.hid fun ob => (H6.out.chg.alloc ob).size
            clear e
            go_wp2_with fail
            go_region
            all_goals
              go_wp2_with (at_builtin; refine wpList_append_any _ rfl (.tmp 38) (.tmp 43) 40 rfl W1.heap.size 91 i0 (.agg #[.string ⟨#[]⟩, .slice none 0 0]) 2 40 Tryd.underlying40 hi hz0 hz1 hz2 rfl (by decide) _ M1.length (M1.flatMap filCells) rfl (H6.out.row.alloc _) _ (some ⟨wb.heap.size, 0, none⟩) 1 1 _ rfl (HRX.out wb.drew) HOX.out (by have := HML.out; unfold maxLen; omega) (by have := HML.out; omega) (HSE.out _) ?_)
              intro v3 w3 hown3 hgr3 _
              obtain ⟨A3, c3, rfl⟩ := own_slice hown3
              have HO3 := Lib.hid ((H6.out.on ((Chg.refl none wb.drew).alloc _)).app (m := ⟨fp, xA, xx, xc⟩) hown3 hgr3)
              have HLN : Hid ((M1 ++ [(⟨fp, xA, xx, xc⟩ : Fil)]).length = M1.length + 1) := Lib.hid (by simp)
              clear hown3 hgr3 x0 x1
              rw [← HLN.out]
              go_wp2_with fail
              go_roundw
              case rel => exact ⟨k + 1, A3, c3, M1 ++ [⟨fp, xA, xx, xc⟩], d1, by first | rfl | go_num, rfl, rfl, Lib.hid ⟨HLT.out, by rw [HLN.out]; have := HM1.out; omega⟩, HO3, HE⟩
              case measure => have := HLT.out; first | omega | (simp only [intOf]; omega) | (simp [intOf]; omega)
        | true =>
          have hd2 : (d || bl) = true := by cases d <;> cases bl <;> first | rfl | (exfalso; revert hb; decide)
          have HPS : Hid (putS ⟨P, fA, fx, fc⟩ (L.take (k + 1)) = (pst2 ⟨P, fA, fx, fc⟩ (M ++ [⟨P, fA, fx, fc⟩]) ⟨fp, xA, xx, xc⟩, true)) := Lib.hid (by
            rw [HST.out]; unfold pst; rw [HP1.out, hb, hd2]; rfl)
          obtain ⟨f0, f1⟩ := HF.out wa H4.out.chg
          have HML : Hid (M.length ≤ 2000) := Lib.hid (by have := H1.out.2; have := H1.out.1; omega)
          have HSE : Hid (∀ ob : Obj, W1.heap.size ≤ (wa.alloc ob).heap.size) := Lib.hid fun ob => (H4.out.chg.alloc ob).size
          clear hb hd2
          go_wp2_with (at_builtin; refine wpList_append_any _ rfl (.tmp 26) (.tmp 28) 40 rfl W1.heap.size 91 i0 (.agg #[.string ⟨#[]⟩, .slice none 0 0]) 2 40 Tryd.underlying40 hi hz0 hz1 hz2 rfl (by decide) _ M.length (M.flatMap filCells) rfl (H4.out.row.alloc _) _ (some ⟨wa.heap.size, 0, none⟩) 1 1 _ rfl (HRF.out wa) HOF.out (by have := HML.out; unfold maxLen; omega) (by have := HML.out; omega) (HSE.out _) ?_)
          intro v3 wb hown3 hgr3 _
          obtain ⟨A2, c2, rfl⟩ := own_slice hown3
          have H5 := Lib.hid ((H4.out.on ((Chg.refl none wa).alloc _)).app (m := ⟨P, fA, fx, fc⟩) hown3 hgr3)
          have HLN1 : Hid ((M ++ [(⟨P, fA, fx, fc⟩ : Fil)]).length = M.length + 1) := Lib.hid (by simp)
          rw [← HLN1.out]
          have HM1 : Hid ((M ++ [(⟨P, fA, fx, fc⟩ : Fil)]).length ≤ 2 * k + 1) := Lib.hid (by rw [HLN1.out]; have := H1.out.2; omega)
          obtain ⟨M1, hM1⟩ : ∃ M1, M1 = M ++ [(⟨P, fA, fx, fc⟩ : Fil)] := ⟨_, rfl⟩
          obtain ⟨d1, hd1⟩ : ∃ d1, d1 = true := ⟨_, rfl⟩
          rw [← hM1] at HPS H5 HM1 ⊢
          rw [← hd1] at HPS
          have HD1 := Lib.hid hd1
          clear hown3 hgr3 f0 f1 HST HP1 H4 HBL hM1 hd1 HML HSE HLN1
          have H6 := Lib.hid (H5.out.on (Chg.refl none wb).drew)
          obtain ⟨x0, x1⟩ := HX.out wb.drew H6.out.chg
          have f0 := (HF.out wb.drew H6.out.chg).1
          have l0 : b < wb.drew.heap.size := World.block_lt_of_cell? _ _ x0
          clear HX HF H5
          by_cases e : fp = P
          · have e1 : (fp == P) = true := by rw [beq_iff_eq]; exact e
            have e2 : (fp != P) = false := by rw [bne_eq_false_iff_eq]; exact e
            have HE : Hid (putS ⟨P, fA, fx, fc⟩ (L.take (k + 1)) = (M1, d1)) := Lib.hid (by rw [HPS.out]; unfold pst2; rw [if_pos e])
            clear e
            go_wp2_with fail
            go_region
            all_goals
              go_wp2_with fail
              go_roundw
              case rel => exact ⟨k + 1, A2, c2, M1, d1, by first | rfl | go_num, rfl, by rw [HD1.out], Lib.hid ⟨HLT.out, by have := HM1.out; omega⟩, H6, HE⟩
              case measure => have := HLT.out; first | omega | (simp only [intOf]; omega) | (simp [intOf]; omega)
          · have e1 : (fp == P) = false := by rw [beq_eq_false_iff_ne]; exact e
            have e2 : (fp != P) = true := by rw [bne_iff_ne]; exact e
            have HE : Hid (putS ⟨P, fA, fx, fc⟩ (L.take (k + 1)) = (M1 ++ [⟨fp, xA, xx, xc⟩], d1)) := Lib.hid (by rw [HPS.out]; unfold pst2; rw [if_neg e])
            have HML : Hid (M1.length ≤ 2001) := Lib.hid (by have := HM1.out; have := HLT.out; omega)
            have HSE : Hid (∀ ob : Obj, W1.heap.size ≤ (wb.drew.alloc ob).heap.size) := Lib.hid fun ob => (H6.out.chg.alloc ob).size
            clear e
            go_wp2_with fail
            go_region
            all_goals
              go_wp2_with (at_builtin; refine wpList_append_any _ rfl (.tmp 38) (.tmp 43) 40 rfl W1.heap.size 91 i0 (.agg #[.string ⟨#[]⟩, .slice none 0 0]) 2 40 Tryd.underlying40 hi hz0 hz1 hz2 rfl (by decide) _ M1.length (M1.flatMap filCells) rfl (H6.out.row.alloc _) _ (some ⟨wb.heap.size, 0, none⟩) 1 1 _ rfl (HRX.out wb.drew) HOX.out (by have := HML.out; unfold maxLen; omega) (by have := HML.out; omega) (HSE.out _) ?_)
              intro v3 w3 hown3 hgr3 _
              obtain ⟨A3, c3, rfl⟩ := own_slice hown3
              have HO3 := Lib.hid ((H6.out.on ((Chg.refl none wb.drew).alloc _)).app (m := ⟨fp, xA, xx, xc⟩) hown3 hgr3)
              have HLN : Hid ((M1 ++ [(⟨fp, xA, xx, xc⟩ : Fil)]).length = M1.length + 1) := Lib.hid (by simp)
              clear hown3 hgr3 x0 x1
              rw [← HLN.out]
              go_wp2_with fail
              go_roundw
              case rel => exact ⟨k + 1, A3, c3, M1 ++ [⟨fp, xA, xx, xc⟩], d1, by first | rfl | go_num, rfl, by rw [HD1.out], Lib.hid ⟨HLT.out, by rw [HLN.out]; have := HM1.out; omega⟩, HO3, HE⟩
              case measure => have := HLT.out; first | omega | (simp only [intOf]; omega) | (simp [intOf]; omega)
    · have hdd : decide (k < L.length) = false := by rw [decide_eq_false_iff_not]; exact hlt
      have hd2 : decide ((k : Int) < (L.length : Int)) = false := by rw [decide_eq_false_iff_not]; omega
      have hall : putS ⟨P, fA, fx, fc⟩ L = (M, d) := by rw [← H3.out, List.take_of_length_le (by omega)]
      have hpl : putL L ⟨P, fA, fx, fc⟩ = if d = true then M else M ++ [⟨P, fA, fx, fc⟩] := by unfold putL; rw [hall]
      have HPL := Lib.hid hpl
      obtain ⟨f0, f1⟩ := HF.out wr H2.out.chg
      clear hlt hall hpl HT
      cases d with
      | true =>
        have HQ : Hid (putL L ⟨P, fA, fx, fc⟩ = M) := Lib.hid (by rw [HPL.out, if_pos rfl])
        go_wp2_with fail
        go_ret
        exact ⟨A1, c1, by rw [HQ.out]; rfl, by rw [HQ.out]; exact H2.out.low HG1.out⟩
      | false =>
        have HQ : Hid (putL L ⟨P, fA, fx, fc⟩ = M ++ [⟨P, fA, fx, fc⟩]) := Lib.hid (by rw [HPL.out, if_neg (by decide)])
        have HML : Hid (M.length ≤ 2000) := Lib.hid (by have := H1.out.2; have := H1.out.1; have := HL.out; omega)
        have HSE : Hid (∀ ob : Obj, W1.heap.size ≤ (wr.alloc ob).heap.size) := Lib.hid fun ob => (H2.out.chg.alloc ob).size
        go_wp2_with (at_builtin; refine wpList_append_any _ rfl (.tmp 47) (.tmp 49) 40 rfl W1.heap.size 91 i0 (.agg #[.string ⟨#[]⟩, .slice none 0 0]) 2 40 Tryd.underlying40 hi hz0 hz1 hz2 rfl (by decide) _ M.length (M.flatMap filCells) rfl (H2.out.row.alloc _) _ (some ⟨wr.heap.size, 0, none⟩) 1 1 _ rfl (HRF.out wr) HOF.out (by have := HML.out; unfold maxLen; omega) (by have := HML.out; omega) (HSE.out _) ?_)
        intro v3 w3 hown3 hgr3 _
        obtain ⟨A3, c3, rfl⟩ := own_slice hown3
        have HO3 := Lib.hid ((H2.out.on ((Chg.refl none wr).alloc _)).app (m := ⟨P, fA, fx, fc⟩) hown3 hgr3)
        clear hown3 hgr3
        go_wp2_with fail
        go_ret
        exact ⟨A3, c3, by rw [HQ.out, List.length_append]; rfl, by rw [HQ.out]; exact HO3.out.low HG1.out⟩

end Go.Proofs.YtbadkkilblgpmaaDoor
