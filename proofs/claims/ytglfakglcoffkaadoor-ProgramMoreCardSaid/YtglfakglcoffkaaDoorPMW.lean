/-
  ProgramMore: the walk.
-/
import Derived.Test.YtglfakglcoffkaaDoorPMA
import Derived.Test.YtglfakglcoffkaaDoorPGR
namespace Go.Proofs.YtglfakglcoffkaaDoor
open Go.RowKit

theorem rem_le (cut : Int) (n : Nat) : ∃ k : Nat, k ≤ n ∧ (IntKind.u64.wrap cut).tmod ((n : Int) + 1) = k := by
  obtain ⟨u, hu⟩ : ∃ u : Nat, IntKind.u64.wrap cut = u := ⟨(IntKind.u64.wrap cut).toNat, by rw [IntKind.wrap_u64]; omega⟩
  rw [hu]
  refine ⟨u % (n + 1), by have := Nat.mod_lt u (show 0 < n + 1 by omega); omega, ?_⟩
  rw [Int.tmod_eq_emod_of_nonneg (by omega)]
  simp

theorem failI_fits : failI.fits := ⟨by show (11 : Nat) < 256; decide, by show 0 ≤ _; decide, by show 0 ≤ _; decide, by show 0 ≤ _; decide, ⟨by show _ ≤ (0 : Int); decide, by show (0 : Int) ≤ _; decide⟩, ⟨by show _ ≤ (0 : Int); decide, by show (0 : Int) ≤ _; decide⟩⟩
theorem jumpI_fits (n : Nat) (h : n ≤ 9223372036854775807) : (jumpI n).fits := ⟨by show (8 : Nat) < 256; decide, by show 0 ≤ _; decide, by show 0 ≤ _; decide, by show 0 ≤ _; decide, ⟨by show _ ≤ (n : Int); omega, by show (n : Int) ≤ _; omega⟩, ⟨by show _ ≤ (0 : Int); decide, by show (0 : Int) ≤ _; decide⟩⟩

def SomeN (n : Nat) (w : World) (s : Value) (w' : World) : Prop := ∃ k : Nat, k ≤ n ∧ s = .int .i64 k ∧ w' = w

set_option maxRecDepth 100000 in
set_option maxHeartbeats 16000000 in
theorem more_law (L : List Ins) (A : Option Addr) (c : Nat) (cut : Int) (w : World) (hr : RowsAt w 6 A insCells L) (hx : ∀ x ∈ L, x.fits) (hc : L.length ≤ c) (hcm : c ≤ 9223372036854775807) (hF : Flds w) :
    Calls Tryd.prog 11 #[.slice A L.length c, .int .i64 cut] w fun e w' => e = .returned (.bool true) ∧ Chg none w w' := by
  obtain ⟨i0, hi, hz0, hz1, hz2⟩ := info_parts Tryd.info61
  have hl : L.length ≤ 9223372036854775807 := by omega
  have HKN : Hid (∀ v, Chg none w v → Calls Tryd.prog 33 #[] v fun e w' => e = .returned (.bool true) ∧ Chg none v w') := fun v g => known_any v (hF.chg g)
  have HGR := Lib.hid (great_any L A c w hr hl)
  have HMY : Hid (∀ v, Chg none w v → Calls Tryd.prog 35 #[.slice A L.length c] v fun e w' => e = .returned (.bool (mayB L)) ∧ Chg none v w') := fun v g => may_any L A c v (hr.chg g) hx hl (hF.chg g)
  have HMM : Hid (∀ M B d v, Chg none w v → RowsAt v 6 B insCells M → (∀ x ∈ M, x.fits) → M.length ≤ 9223372036854775807 → Calls Tryd.prog 35 #[.slice B M.length d] v fun e w' => e = .returned (.bool (mayB M)) ∧ Chg none v w') := fun M B d v g h1 h2 h3 => may_any M B d v h1 h2 h3 (hF.chg g)
  have HR : Hid (∀ v, Chg none w v → RowsAt v 6 A insCells L) := fun v g => hr.chg g
  have HX := Lib.hid hx
  have HC := Lib.hid hc
  clear hF hr hx
  by_cases hm : mayB L = true
  rotate_left
  · have hm' : mayB L = false := by simpa using hm
    rw [hm'] at HMY
    clear hm hm'
    as_aux_lemma =>
      go_enter Tryd.func11, Tryd.ntmps11
      go_wp2_with fail
      refine HGR.out.mono ?_
      rintro e w1 ⟨⟨G, rfl, -⟩, g1⟩
      cases G
      · go_wp2_with fail
        refine (HMY.out _ g1).mono ?_
        rintro e w2 ⟨rfl, g2⟩
        have HK := Lib.hid (HKN.out _ (g1.trans g2))
        have G2 := Lib.hid (g1.trans g2)
        clear g1 g2
        go_wp2_with fail
        refine HK.out.mono ?_
        rintro e w3 ⟨rfl, g3⟩
        go_wp2_with fail
        go_ret
        exact ⟨rfl, G2.out.trans g3⟩
      · have HK := Lib.hid (HKN.out _ g1)
        have G1 := Lib.hid g1
        clear g1
        go_wp2_with fail
        refine HK.out.mono ?_
        rintro e w3 ⟨rfl, g3⟩
        go_wp2_with fail
        go_ret
        exact ⟨rfl, G1.out.trans g3⟩
  have hml := (mayB_parts hm).1
  have HM := Lib.hid hm
  rw [hm] at HMY
  clear hm
  go_enter Tryd.func11, Tryd.ntmps11
  go_wp2_with fail
  refine HGR.out.mono ?_
  rintro e w1 ⟨⟨G, rfl, -⟩, g1⟩
  cases G
  rotate_left
  · have HK := Lib.hid (HKN.out _ g1)
    have G1 := Lib.hid g1
    clear g1
    as_aux_lemma =>
      go_wp2_with fail
      refine HK.out.mono ?_
      rintro e w3 ⟨rfl, g3⟩
      go_wp2_with fail
      go_ret
      exact ⟨rfl, G1.out.trans g3⟩
  go_wp2_with fail
  refine (HMY.out _ g1).mono ?_
  rintro e w2 ⟨rfl, g2⟩
  have G2 := Lib.hid (g1.trans g2)
  have hE := own_empty61 w2 w.heap.size G2.out.size
  have gE : Chg none w (w2.alloc (.cells #[] 61 (0, 0))) := G2.out.alloc _
  have HE := Lib.hid hE
  have HGE := Lib.hid gE
  have HRX := Lib.hid ((HR.out _ gE).reads insCells_len (by decide))
  have HOX := Lib.hid (insCells_one (L := L))
  have HSE : Hid (w.heap.size ≤ (w2.alloc (.cells #[] 61 (0, 0))).heap.size) := gE.size
  clear g1 g2 hE gE HGR
  go_wp2_with (at_builtin; refine wpList_append_any _ rfl (.tmp 18) (.tmp 19) 52 rfl w.heap.size 61 i0 (.agg #[.int .u8 0, .string ⟨#[]⟩, .string ⟨#[]⟩, .string ⟨#[]⟩, .int .i64 0, .int .i64 0]) 6 72 Tryd.underlying52 hi hz0 hz1 hz2 rfl (by decide) _ 0 (([] : List Ins).flatMap insCells) rfl HE.out _ A L.length c (L.flatMap insCells) rfl HRX.out HOX.out (by unfold maxLen; omega) (by omega) HSE.out ?_)
  intro v3 w3 hown3 hgr3 _
  obtain ⟨A3, c3, rfl⟩ := own_slice hown3
  have g3 : Chg none w w3 := own_chg HGE.out HE.out (Nat.le_refl _) hgr3
  try simp only [Nat.zero_add]
  have hlit := reads_lit61 w3 [failI, jumpI L.length]
  have hone := insCells_one (L := [failI, jumpI L.length])
  simp only [List.flatMap_cons, List.flatMap_nil, insCells, failI, jumpI, List.cons_append, List.nil_append, List.append_nil, List.length_cons, List.length_nil, Nat.zero_add, Nat.reduceAdd, List.toArray] at hlit
  have HLT := Lib.hid hlit
  have HOWN3 := Lib.hid hown3
  have G3 := Lib.hid g3
  have HS3 : Hid (∀ o : Obj, w.heap.size ≤ (w3.alloc o).heap.size) := fun o => (g3.alloc o).size
  have HON := Lib.hid hone
  clear hlit hown3 g3 hgr3 HRX HOX HSE HE HGE hone
  go_wp2_with (at_builtin; refine wpList_append_any _ rfl (.tmp 20) (.tmp 25) 52 rfl w.heap.size 61 i0 (.agg #[.int .u8 0, .string ⟨#[]⟩, .string ⟨#[]⟩, .string ⟨#[]⟩, .int .i64 0, .int .i64 0]) 6 72 Tryd.underlying52 hi hz0 hz1 hz2 rfl (by decide) _ L.length (L.flatMap insCells) rfl (HOWN3.out.alloc _) _ (some ⟨w3.heap.size, 0, none⟩) 2 2 _ rfl HLT.out HON.out (by unfold maxLen; omega) (by omega) (HS3.out _) ?_)
  intro v4 w4 hown4 hgr4 _
  obtain ⟨A4, c4, rfl⟩ := own_slice hown4
  have g4 : Chg none w w4 := own_chg (G3.out.alloc _) (HOWN3.out.alloc _) (Nat.le_refl _) hgr4
  have hown4' : w4.ownsRow w.heap.size 61 6 (.slice A4 (L.length + 2) c4) (L.length + 2) ((L ++ [failI, jumpI L.length]).flatMap insCells) := by
    rw [List.flatMap_append]; exact hown4
  obtain ⟨hr4, hn4, hc4⟩ := rows_of_own hown4'
  have G4 := Lib.hid g4
  have hmm := fun v g => HMM.out (L ++ [failI, jumpI L.length]) A4 c4 v g
  have hfit : ∀ x ∈ L ++ [failI, jumpI L.length], x.fits := fun x hx => by
    rcases List.mem_append.1 hx with h | h
    · exact HX.out x h
    · rcases (show x = failI ∨ x = jumpI L.length by simpa using h) with rfl | rfl
      · exact failI_fits
      · exact jumpI_fits _ (by omega)
  have HMO : Hid (∀ v, Chg none w4 v → Calls Tryd.prog 35 #[.slice A4 (L.length + 2) c4] v fun e w' => e = .returned (.bool (decide (L.length + 2 ≤ 30))) ∧ Chg none v w') := fun v g => by
    have := hmm v (g4.trans g) (hr4.chg g) hfit (by rw [← hn4]; omega)
    rw [← hn4, mayB_more HM.out] at this
    exact this
  clear g4 hown4 hown4' hr4 hn4 hc4 hmm hfit hgr4 HLT HOWN3 HS3 HON G3
  obtain ⟨n2, hn2⟩ : ∃ n2, n2 = L.length + 2 := ⟨_, rfl⟩
  rw [← hn2] at HMO ⊢
  clear hn2
  obtain ⟨b30, hb30⟩ : ∃ b30, b30 = decide (n2 ≤ 30) := ⟨_, rfl⟩
  have e30 : decide ((n2 : Int) ≤ 30) = b30 := by
    rw [hb30]
    by_cases h : n2 ≤ 30
    · rw [decide_eq_true h, decide_eq_true (by omega : (n2 : Int) ≤ 30)]
    · rw [decide_eq_false h, decide_eq_false (by omega : ¬ (n2 : Int) ≤ 30)]
  rw [← hb30] at HMO
  have hbb : (b30 != b30) = false := by cases b30 <;> rfl
  clear hb30
  go_wp2_with fail
  refine (HMO.out _ (Chg.refl _ _)).mono ?_
  rintro e w5 ⟨rfl, g5⟩
  have G5 := Lib.hid (G4.out.trans g5)
  clear g5 HMO
  go_upto_region 6 with fail
  go_cut [6] from 41 (fun s6 wx => SomeN L.length w5 s6 wx)
  case first =>
    obtain ⟨k, hk, hke⟩ := rem_le cut L.length
    have e1 : IntKind.u64.wrap ((L.length : Int) + 1) = (L.length : Int) + 1 := by rw [IntKind.wrap_u64]; omega
    go_wp2_with fail
    go_meet
    case rel => exact ⟨k, hk, rfl, rfl⟩
  case rest =>
    obtain ⟨k, hk, rfl, rfl⟩ := hcut
    have hcu := fun v => cut_hi52 A L.length c k (by omega) v
    have HCU := Lib.hid hcu
    have HFT := Lib.hid (mayB_take HM.out hk)
    have HLK : Hid ((L.take k).length = k) := by show _ = _; rw [List.length_take]; omega
    have HKL := Lib.hid hk
    clear e30 hbb
    go_wp2_with fail
    clear hcu hk
    go_loopw [7, 45] (fun s7 s45 wr => ∃ (j : Nat) (q : Bool), s45 = .int .i64 j ∧ s7 = .bool q ∧ Hid (j ≤ k ∧ q = (L.take j).any (jmpB k)) ∧ Hid (Chg none w wr)) (fun _ s45 _ => k - (intOf s45).toNat)
    case atStart => exact ⟨0, false, rfl, rfl, Lib.hid ⟨Nat.zero_le _, rfl⟩, G5⟩
    case round =>
      obtain ⟨j, q, rfl, rfl, H1, H2⟩ := hrel
      by_cases hlt : j < k
      · have hd : decide ((j : Int) < (k : Int)) = true := by rw [decide_eq_true_eq]; omega
        have hkl := HKL.out
        have hjL : j < L.length := by omega
        have hji : (j : Int) < (L.length : Int) := by omega
        obtain ⟨x, hkx⟩ : ∃ x, L[j]? = some x := ⟨_, List.getElem?_eq_getElem hjL⟩
        have hne : L ≠ [] := by intro e; subst e; simp at hjL
        have HRW := Lib.hid (HR.out wr H2.out)
        obtain ⟨b, off, rfl, -, -⟩ := HRW.out hne
        obtain ⟨hb, x0, x1, x2, x3, x4, x5⟩ := HRW.out.six hkx
        have HST := Lib.hid (any_step (f := jmpB k) hkx)
        have HLT := Lib.hid hlt
        clear hkx hne HRW HR hlt hkl x1 x2 x3 x5 HX HCU HM HFT
        obtain ⟨op, xa, xb, xc, n, m⟩ := x
        dsimp only at x0 x4
        by_cases hop : op = 8 ∨ op = 9 ∨ op = 10
        · by_cases hn : (k : Int) < n
          · have dn : decide ((k : Int) < n) = true := decide_eq_true hn
            have hj : jmpB k ⟨op, xa, xb, xc, n, m⟩ = true := by unfold jmpB; dsimp only; rw [dn]; rcases hop with rfl | rfl | rfl <;> rfl
            rw [hj] at HST
            clear hj hn
            rcases hop with rfl | rfl | rfl
            all_goals
              cases q
              all_goals
                go_wp2_with fail
                go_roundw
                case rel => exact ⟨j + 1, true, by first | rfl | (simp; done), rfl, Lib.hid ⟨HLT.out, by rw [HST.out, Bool.or_true]⟩, H2⟩
                case measure =>
                  have := HLT.out
                  first | omega | (simp only [intOf]; omega) | (simp [intOf]; omega)
          · have dn : decide ((k : Int) < n) = false := decide_eq_false hn
            have hj : jmpB k ⟨op, xa, xb, xc, n, m⟩ = false := by unfold jmpB; dsimp only; rw [dn, Bool.and_false]
            rw [hj] at HST
            clear hj hn
            rcases hop with rfl | rfl | rfl
            all_goals
              cases q
              all_goals
                go_wp2_with fail
                go_roundw
                case rel => exact ⟨j + 1, _, by first | rfl | (simp; done), rfl, Lib.hid ⟨HLT.out, by rw [HST.out, ← H1.out.2]; rfl⟩, H2⟩
                case measure =>
                  have := HLT.out
                  first | omega | (simp only [intOf]; omega) | (simp [intOf]; omega)
        · have o8 : ((op : Int) == 8) = false := by rw [beq_eq_false_iff_ne]; omega
          have o9 : ((op : Int) == 9) = false := by rw [beq_eq_false_iff_ne]; omega
          have o10 : ((op : Int) == 10) = false := by rw [beq_eq_false_iff_ne]; omega
          have hj : jmpB k ⟨op, xa, xb, xc, n, m⟩ = false := by
            unfold jmpB; dsimp only
            rw [show (op == 8) = false by rw [beq_eq_false_iff_ne]; omega, show (op == 9) = false by rw [beq_eq_false_iff_ne]; omega, show (op == 10) = false by rw [beq_eq_false_iff_ne]; omega]
            rfl
          rw [hj] at HST
          clear hj hop
          cases q
          all_goals
            go_wp2_with fail
            go_roundw
            case rel => exact ⟨j + 1, _, by first | rfl | (simp; done), rfl, Lib.hid ⟨HLT.out, by rw [HST.out, ← H1.out.2]; rfl⟩, H2⟩
            case measure =>
              have := HLT.out
              first | omega | (simp only [intOf]; omega) | (simp [intOf]; omega)
      · have hd : decide (j < k) = false := by rw [decide_eq_false_iff_not]; exact hlt
        have hjk : j = k := by have := H1.out.1; omega
        have hq : mayB (L.take k) = !q := by rw [HFT.out, H1.out.2, hjk]
        have HQ := Lib.hid hq
        have HMT : Hid (∀ v, Chg none w v → Calls Tryd.prog 35 #[.slice A k c] v fun e w' => e = .returned (.bool (!q)) ∧ Chg none v w') := fun v g => by
          have hkl := HKL.out
          have h := HMM.out (L.take k) A c v g ((HR.out v g).first k) (fun x hx => HX.out x (List.mem_of_mem_take hx)) (by rw [HLK.out]; omega)
          rw [HLK.out, HQ.out] at h
          exact h
        have hcu := HCU.out
        clear hq hjk hlt
        as_aux_lemma =>
          cases q
          all_goals
            go_wp2_with fail
            refine (HMT.out _ H2.out).mono ?_
            rintro e w6 ⟨rfl, g6⟩
            have G6 := Lib.hid (H2.out.trans g6)
            have HK := Lib.hid (HKN.out _ G6.out)
            clear g6
            go_wp2_with fail
            refine HK.out.mono ?_
            rintro e w7 ⟨rfl, g7⟩
            go_wp2_with fail
            go_ret
            exact ⟨rfl, G6.out.trans g7⟩

end Go.Proofs.YtglfakglcoffkaaDoor
