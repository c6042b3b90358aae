/-
  Package plan: the trees that deps gave; joined.
-/
import Derived.Test.YtbadkkilblgpmaaDoorNC
import Derived.Test.YtbadkkilblgpmaaDoorUG
namespace Go.Proofs.YtbadkkilblgpmaaDoor
open Go.RowKit

/-- A tree, as a slice. -/
structure Tr where
  A : Option Addr
  L : List Fil
  c : Nat
instance : Inhabited Tr := ⟨⟨none, [], 0⟩⟩
def trC (o : Tr) : List Value := [.slice o.A o.L.length o.c]
def OutsAt (w : World) (A : Option Addr) (O : List Tr) : Prop := RowsAt w 1 A trC O ∧ ∀ o ∈ O, TreeAt w o.A o.L ∧ o.L.length ≤ 9223372036854775806
theorem OutsAt.chg {w w' : World} {A : Option Addr} {O : List Tr} (h : OutsAt w A O) (g : Chg none w w') : OutsAt w' A O := ⟨RowsAt.chg h.1 g, fun o ho => ⟨(h.2 o ho).1.chg g, (h.2 o ho).2⟩⟩
theorem OutsAt.one {w : World} {A : Option Addr} {O : List Tr} (h : OutsAt w A O) {k : Nat} {o : Tr} (hk : O[k]? = some o) : ∃ b off, A = some ⟨b, off, none⟩ ∧ b < w.heap.size ∧ w.cell? ⟨b, off + k, none⟩ = some (.slice o.A o.L.length o.c) := by
  have hne : O ≠ [] := by intro e; subst e; simp at hk
  obtain ⟨b, off, rfl, hlt, hc⟩ := h.1 hne
  have h1 := hc k o hk 0 (by omega)
  rw [Nat.mul_one, Nat.add_zero] at h1
  exact ⟨b, off, rfl, hlt, h1⟩

set_option maxHeartbeats 4000000 in
theorem clo106 (L : List Fil) (A : Option Addr) (c : Nat) (w : World) (hT : TreeAt w A L) (hl : L.length ≤ 9223372036854775807) :
    Calls Tryd.prog 106 #[.slice A L.length c] w fun e w' => e = .returned (.bool (!mayT L)) ∧ Chg none w w' := by
  have HM := Lib.hid (mayt_any L A c w hT hl)
  generalize mayT L = b at *
  clear hT hl
  go_enter Tryd.func106, Tryd.ntmps106
  go_wp2_with fail
  refine HM.out.mono ?_
  rintro e w1 ⟨rfl, g1⟩
  go_wp2_with fail
  go_ret
  exact ⟨rfl, g1⟩

def badO (O : List Tr) : Bool := O.any fun o => !mayT o.L
def IdxM (O : List Tr) (z : Int) : Prop := (z = -1 ∧ badO O = false) ∨ ∃ i : Nat, z = i ∧ badO O = true
set_option maxHeartbeats 8000000 in
theorem index151 (O : List Tr) (A : Option Addr) (c : Nat) (w : World) (hT : OutsAt w A O) (hl : O.length ≤ 4611686018427387904) :
    Calls Tryd.prog 151 #[.slice A O.length c, .func (.func 106) #[] #[]] w fun e w' => ∃ z : Int, e = .returned (.int .i64 z) ∧ Chg none w w' ∧ IdxM O z := by
  have HT : Hid (∀ v, Chg none w v → OutsAt v A O) := Lib.hid fun v g => hT.chg g
  have HL := Lib.hid hl
  clear hT hl
  go_enter Tryd.func151, Tryd.ntmps151
  go_wp2_with fail
  go_loopw [8] (fun s8 wr => ∃ k : Nat, s8 = .int .i64 k ∧ Hid (k ≤ O.length ∧ ∀ (j : Nat) o, j < k → O[j]? = some o → mayT o.L = true) ∧ Hid (Chg none w wr)) (fun s8 _ => O.length - (intOf s8).toNat)
  case atStart => exact ⟨0, rfl, Lib.hid ⟨Nat.zero_le _, fun j g h => absurd h (Nat.not_lt_zero _)⟩, Lib.hid (Chg.refl _ _)⟩
  case round =>
    obtain ⟨k, rfl, H1, H2⟩ := hrel
    by_cases hlt : k < O.length
    · have hd : decide ((k : Int) < (O.length : Int)) = true := by rw [decide_eq_true_eq]; omega
      obtain ⟨o, hks⟩ : ∃ o, O[k]? = some o := ⟨_, List.getElem?_eq_getElem hlt⟩
      obtain ⟨b, off, rfl, hb, x0⟩ := (HT.out wr H2.out).one hks
      have hoo := (HT.out wr H2.out).2 o (List.mem_of_getElem? hks)
      have HC := Lib.hid (clo106 o.L o.A o.c wr hoo.1 (by omega))
      have HLT := Lib.hid hlt
      have HKX := Lib.hid hks
      have HLL := HL.out
      clear hks hoo
      obtain ⟨tA, tL, tc⟩ := o
      dsimp only at x0 HC
      cases hm : mayT tL with
      | false =>
        rw [hm] at HC
        have HE : Hid (badO O = true) := Lib.hid (List.any_eq_true.2 ⟨_, List.mem_of_getElem? HKX.out, by rw [hm]; rfl⟩)
        clear hm
        go_wp2_with fail
        refine HC.out.mono ?_
        rintro e w2 ⟨rfl, g2⟩
        have G2 := Lib.hid (H2.out.trans g2)
        clear g2
        go_wp2_with fail
        go_ret
        exact ⟨_, rfl, G2.out, .inr ⟨k, rfl, HE.out⟩⟩
      | true =>
        rw [hm] at HC
        have HE := Lib.hid hm
        clear hm
        go_wp2_with fail
        refine HC.out.mono ?_
        rintro e w2 ⟨rfl, g2⟩
        have G2 := Lib.hid (H2.out.trans g2)
        clear g2
        go_wp2_with fail
        go_roundw
        case rel => exact ⟨k + 1, by first | rfl | go_num, Lib.hid ⟨HLT.out, fun j g hj hg => by
          rcases Nat.lt_or_ge j k with h | h
          · exact H1.out.2 j g h hg
          · obtain rfl : j = k := by omega
            obtain rfl := Option.some.inj (HKX.out.symm.trans hg)
            exact HE.out⟩, G2⟩
        case measure => have := HLT.out; first | omega | (simp only [intOf]; omega) | (simp [intOf]; omega)
    · have hd : decide (k < O.length) = false := by rw [decide_eq_false_iff_not]; exact hlt
      have hd2 : decide ((k : Int) < (O.length : Int)) = false := by rw [decide_eq_false_iff_not]; omega
      have HE : Hid (badO O = false) := Lib.hid (List.any_eq_false.2 fun f hf => by
        obtain ⟨i, hi, hif⟩ := List.getElem_of_mem hf
        rw [H1.out.2 i f (by have := H1.out.1; omega) (by rw [List.getElem?_eq_getElem hi, hif])]
        decide)
      clear hlt
      go_wp2_with fail
      go_ret
      exact ⟨_, rfl, H2.out, .inl ⟨rfl, HE.out⟩⟩
set_option maxHeartbeats 4000000 in
theorem contains105 (O : List Tr) (A : Option Addr) (c : Nat) (w : World) (hT : OutsAt w A O) (hl : O.length ≤ 4611686018427387904) :
    Calls Tryd.prog 105 #[.slice A O.length c, .func (.func 106) #[] #[]] w fun e w' => e = .returned (.bool (badO O)) ∧ Chg none w w' := by
  have HI := Lib.hid (index151 O A c w hT hl)
  clear hT hl
  go_enter Tryd.func105, Tryd.ntmps105
  go_wp2_with fail
  refine HI.out.mono ?_
  rintro e w' ⟨z, rfl, g, hz⟩
  have G := Lib.hid g
  clear g
  rcases hz with ⟨rfl, hh⟩ | ⟨i, rfl, hh⟩
  · have HH := Lib.hid hh
    clear hh
    go_wp2_with fail
    go_ret
    exact ⟨by rw [HH.out]; rfl, G.out⟩
  · have HH := Lib.hid hh
    clear hh
    have hzi : decide ((0 : Int) ≤ (i : Int)) = true := by rw [decide_eq_true_eq]; omega
    go_wp2_with fail
    go_ret
    exact ⟨by rw [HH.out]; rfl, G.out⟩

/-! ### joined -/
theorem okK_left {K K' : List (List UInt8 × List UInt8)} (h : okK (K ++ K')) : okK K := by
  obtain ⟨h1, h2, h3, h4⟩ := h
  rw [List.length_append] at h1
  rw [List.all_append, Bool.and_eq_true] at h2
  refine ⟨by omega, h2.1, (List.pairwise_append.1 h3).1, ?_⟩
  unfold sumK at *
  rw [List.map_append, List.sum_append] at h4
  omega
theorem okK_rght {K K' : List (List UInt8 × List UInt8)} (h : okK (K ++ K')) : okK K' := by
  obtain ⟨h1, h2, h3, h4⟩ := h
  rw [List.length_append] at h1
  rw [List.all_append, Bool.and_eq_true] at h2
  refine ⟨by omega, h2.2, (List.pairwise_append.1 h3).2.1, ?_⟩
  unfold sumK at *
  rw [List.map_append, List.sum_append] at h4
  omega
theorem not_meetsK {L N : List Fil} (h : (keys L ++ keys N).Pairwise fun a b => a.1 ≠ b.1) : ¬ meetsT L N := by
  rintro ⟨f, hf, hh⟩
  unfold hasT at hh
  rw [List.any_eq_true] at hh
  obtain ⟨g, hg, e⟩ := hh
  rw [beq_iff_eq] at e
  exact (List.pairwise_append.1 h).2.2 (keyF g) (List.mem_map.2 ⟨g, hg, rfl⟩) (keyF f) (List.mem_map.2 ⟨f, hf, rfl⟩) e
/-- A tree that was told, or a number. -/
def TreeOr (w : World) (ok : Prop) (K : List (List UInt8 × List UInt8)) (e : Ending) (w' : World) : Prop :=
  Chg none w w' ∧ ((¬ ok ∧ ∃ n : Int, n ≠ 0 ∧ e = .returned (.tuple #[.slice none 0 0, .int .i64 n])) ∨
    (ok ∧ ∃ (A : Option Addr) (c : Nat) (M : List Fil), e = .returned (.tuple #[.slice A M.length c, .int .i64 0]) ∧ TreeAt w' A M ∧ mayT M = true ∧ (keys M).Perm K))
theorem CodeN.zero {c2 c7 ok : Prop} {n : Int} (h : CodeN c2 c7 ok n) : n = 0 ↔ (c2 ∧ ¬ c7 ∧ ok) := by
  rcases h with ⟨h1, rfl⟩ | ⟨h1, h2, rfl⟩ | ⟨h1, h2, h3, rfl⟩ | ⟨h1, h2, h3, rfl⟩
  · exact ⟨fun h => by omega, fun h => absurd h.1 h1⟩
  · exact ⟨fun h => by omega, fun h => absurd h2 h.2.1⟩
  · exact ⟨fun h => by omega, fun h => absurd h.2.2 h3⟩
  · exact ⟨fun _ => ⟨h1, h2, h3⟩, fun _ => rfl⟩

set_option maxHeartbeats 8000000 in
set_option maxRecDepth 100000 in
theorem joined_any (L N : List Fil) (A B : Option Addr) (c d : Nat) (dir : List UInt8) (w : World) (hL : TreeAt w A L) (hN : TreeAt w B N) (hm : mayT L = true) (hn : mayT N = true) (hd : pathB dir = true) :
    Calls Tryd.prog 107 #[.slice A L.length c, .slice B N.length d, .string ⟨dir.toArray⟩] w (TreeOr w (okK (keys L ++ underK dir (keys N))) (keys L ++ underK dir (keys N))) := by
  have hn16 := (mayT_parts hn).1
  have hl16 := (mayT_parts hm).1
  have hd40 := (path_len hd).2
  have HU := Lib.hid (punder_any N B d dir w hN (by omega) (by omega))
  have HJ : Hid (∀ (v : World) (A' : Option Addr) (M : List Fil) (c' : Nat), Chg none w v → TreeAt v A' M → M.length ≤ 16 → Calls Tryd.prog 152 #[.slice A L.length c, .slice A' M.length c'] v fun e w' => ∃ n, CodeN (mayT L = true ∧ mayT M = true) (meetsT L M) (okK (keys L ++ keys M)) n ∧ PTold v n (keys L ++ keys M) e w') := Lib.hid fun v A' M c' g hM hM16 => pjoin_any L M A A' c c' v (hL.chg g) hM (by omega) (by omega)
  have HM := Lib.hid hm
  have HN : Hid (mayT N = true ∧ pathB dir = true) := Lib.hid ⟨hn, hd⟩
  clear hL hN hm hn hd hn16 hl16 hd40
  go_enter Tryd.func107, Tryd.ntmps107
  go_wp2_with fail
  refine HU.out.mono ?_
  rintro e w1 ⟨n, hc, hp⟩
  obtain ⟨g1, hp⟩ := hp
  rcases hp with ⟨h1, rfl⟩ | ⟨rfl, A1, c1, M, rfl, hT1, -, hk1, hm1⟩
  · have HNO : Hid (¬ okK (keys L ++ underK dir (keys N))) := Lib.hid fun h => h1 (hc.zero.2 ⟨HN.out, fun h => h, okK_rght h⟩)
    have G1 := Lib.hid g1
    have H1 := Lib.hid h1
    have e1 : (n != 0) = true := by rw [bne_iff_ne]; exact h1
    clear hc g1 h1
    go_wp2_with fail
    go_ret2
    exact ⟨G1.out, .inl ⟨HNO.out, n, H1.out, rfl⟩⟩
  · have G1 := Lib.hid g1
    have HK1 := Lib.hid hk1
    have HM1 := Lib.hid hm1
    have HJ1 := Lib.hid (HJ.out w1 A1 M c1 g1 hT1 (mayT_parts hm1).1)
    clear hc g1 hk1 hm1 hT1 HJ
    go_wp2_with fail
    refine HJ1.out.mono ?_
    rintro e w2 ⟨n, hc, hp⟩
    have hK : (keys L ++ keys M).Perm (keys L ++ underK dir (keys N)) := HK1.out.append_left _
    obtain ⟨g2, hp⟩ := hp
    have hz : n = 0 ↔ okK (keys L ++ underK dir (keys N)) := by
      rw [hc.zero, okK_perm hK]
      exact ⟨fun h => h.2.2, fun h => ⟨⟨HM.out, HM1.out⟩, not_meetsK ((okK_perm hK).2 h).2.2.1, h⟩⟩
    have HR : Hid (TreeOr w (okK (keys L ++ underK dir (keys N))) (keys L ++ underK dir (keys N)) e w2) := Lib.hid (by
      refine ⟨G1.out.trans g2, ?_⟩
      rcases hp with ⟨h1, rfl⟩ | ⟨rfl, A2, c2, M2, rfl, hT2, -, hk2, hm2⟩
      · exact .inl ⟨fun h => h1 (hz.2 h), n, h1, rfl⟩
      · exact .inr ⟨hz.1 rfl, A2, c2, M2, rfl, hT2, hm2, hk2.trans hK⟩)
    obtain ⟨v1, v2, rfl⟩ : ∃ v1 v2, e = .returned (.tuple #[v1, v2]) := by
      rcases hp with ⟨-, rfl⟩ | ⟨rfl, A2, c2, M2, rfl, -⟩ <;> exact ⟨_, _, rfl⟩
    clear hp hz hc g2 hK HJ1
    go_wp2_with fail
    go_ret2
    exact HR.out

end Go.Proofs.YtbadkkilblgpmaaDoor
