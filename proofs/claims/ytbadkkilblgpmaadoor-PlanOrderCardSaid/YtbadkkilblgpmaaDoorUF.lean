/-
  The document's tree: Join.
-/
import Derived.Test.YtbadkkilblgpmaaDoorUE
namespace Go.Proofs.YtbadkkilblgpmaaDoor
open Go.RowKit

theorem own_empty38 (w : World) (base : Nat) (hb : base ≤ w.heap.size) : (w.alloc (.cells #[] 91 (0, 0))).ownsRow base 91 2 (.slice (some ⟨w.heap.size, 0, none⟩) 0 0) 0 [] :=
  ⟨rfl, .inr ⟨w.heap.size, 0, #[], rfl, hb, heap_alloc_new w _, by omega, by unfold maxLen; omega, rfl, rfl⟩⟩
theorem RToldX.seven {w w' : World} {c2 c7 : Prop} {K : List (List UInt8 × List UInt8)} (h : c2) (h7 : c7) (g : Chg none w w') : RToldX w c2 c7 K (.returned (.tuple #[.slice none 0 0, .int .i64 7])) w' := ⟨7, .inr (.inl ⟨h, h7, rfl⟩), g, .inl ⟨by decide, rfl⟩⟩
theorem has_idx {L : List Fil} {p : List UInt8} {z : Int} (h : IdxOf L p z) : (z = -1 ∧ hasT L p = false) ∨ ∃ i : Nat, z = i ∧ hasT L p = true := by
  unfold hasT
  rcases h with ⟨h1, h2⟩ | ⟨i, f, h1, h2, h3, -⟩
  · refine .inl ⟨h1, List.any_eq_false.2 fun f hf => ?_⟩
    rw [beq_iff_eq]; exact h2 f hf
  · exact .inr ⟨i, h1, List.any_eq_true.2 ⟨f, List.mem_of_getElem? h2, by rw [beq_iff_eq]; exact h3⟩⟩
theorem put_new {L N M : List Fil} {k : Nat} {f : Fil} (hu : Up (keys M)) (hn : Up (keys N)) (hk : N[k]? = some f) (hh : hasT L f.p = false) (hp : (keys M).Perm (keys L ++ keys (N.take k))) :
    (keys (putL M f)).Perm (keys L ++ keys (N.take (k + 1))) := by
  have h1 := putL_perm (f := f) hu
  have h2 : (keys M).filter (fun g => g.1 != f.p) = keys M := by
    rw [List.filter_eq_self]
    intro g hg
    rw [bne_iff_ne]
    intro e
    rcases List.mem_append.1 (hp.mem_iff.1 hg) with h | h
    · obtain ⟨m, hm, rfl⟩ := List.mem_map.1 h
      have h3 := List.any_eq_false.1 hh m hm
      rw [beq_iff_eq] at h3
      exact h3 e
    · obtain ⟨m, hm, rfl⟩ := List.mem_map.1 h
      obtain ⟨i, hi, rfl⟩ := List.getElem_of_mem hm
      rw [List.length_take] at hi
      have hkl := (List.getElem?_eq_some_iff.1 hk).1
      rw [List.getElem_take] at e
      have h4 := List.pairwise_iff_getElem.1 hn i k (by unfold keys; rw [List.length_map]; omega) (by unfold keys; rw [List.length_map]; omega) (by omega)
      unfold keys at h4
      rw [List.getElem_map, List.getElem_map, (List.getElem?_eq_some_iff.1 hk).2] at h4
      have h5 : cmpB N[i].p f.p < 0 := h4
      have h6 : N[i].p = f.p := e
      rw [h6, cmp_self] at h5
      omega
  rw [h2] at h1
  refine h1.trans ((hp.append_right _).trans ?_)
  rw [List.take_add_one, hk]
  unfold keys
  rw [List.map_append, List.append_assoc]
  exact List.Perm.refl _

set_option maxHeartbeats 16000000 in
set_option maxRecDepth 100000 in
theorem rjoin_any (L N : List Fil) (A B : Option Addr) (c d : Nat) (w : World) (hL : TreeAt w A L) (hN : TreeAt w B N) (hl : L.length ≤ 9223372036854775807) (hn : N.length ≤ 9223372036854775807) :
    Calls Tryd.prog 109 #[.slice A L.length c, .slice B N.length d] w (RToldX w (mayT L = true ∧ mayT N = true) (meetsT L N) (keys L ++ keys N)) := by
  have HM := Lib.hid (t_refmay_any L A c w hL hl)
  have HP := Lib.hid (fun v (g : Chg none w v) => t_refmay_any N B d v (hN.chg g) hn)
  cases hm : mayT L with
  | false =>
    rw [hm] at HM
    clear hm hL hN hl hn
    go_enter Tryd.func109, Tryd.ntmps109
    go_wp2_with fail
    refine HM.out.mono ?_
    rintro e w1 ⟨rfl, g1⟩
    have G1 := Lib.hid g1
    clear g1
    go_wp2_with fail
    go_ret2
    exact RToldX.two (fun h => by cases h.1) G1.out
  | true =>
    rw [hm] at HM
    cases hp : mayT N with
    | false =>
      rw [hp] at HP
      clear hm hL hN hl hn hp
      go_enter Tryd.func109, Tryd.ntmps109
      go_wp2_with fail
      refine HM.out.mono ?_
      rintro e w1 ⟨rfl, g1⟩
      have G1 := Lib.hid g1
      clear g1
      go_wp2_with fail
      refine (HP.out _ G1.out).mono ?_
      rintro e w2 ⟨rfl, g2⟩
      have G2 := Lib.hid (G1.out.trans g2)
      clear g2
      go_wp2_with fail
      go_ret2
      exact RToldX.two (fun h => by cases h.2) G2.out
    | true =>
      rw [hp] at HP
      obtain ⟨i0, hi, hz0, hz1, hz2⟩ := info_parts Tryd.info91
      have HUL : Hid (Up (keys L)) := Lib.hid ((mayT_iff L).1 hm).2
      have HUN : Hid (Up (keys N)) := Lib.hid ((mayT_iff N).1 hp).2
      have HL16 : Hid (L.length ≤ 16) := Lib.hid (mayT_parts hm).1
      have HN16 : Hid (N.length ≤ 16) := Lib.hid (mayT_parts hp).1
      have HTL : Hid (∀ v, Chg none w v → TreeAt v A L) := Lib.hid fun v g => hL.chg g
      have HTN : Hid (∀ v, Chg none w v → TreeAt v B N) := Lib.hid fun v g => hN.chg g
      have HMD := Lib.hid made_any
      clear hm hL hN hl hn hp
      go_enter Tryd.func109, Tryd.ntmps109
      go_wp2_with fail
      refine HM.out.mono ?_
      rintro e w1 ⟨rfl, g1⟩
      have G1 := Lib.hid g1
      clear g1
      go_wp2_with fail
      refine (HP.out _ G1.out).mono ?_
      rintro e w2 ⟨rfl, g2⟩
      have G2 := Lib.hid (G1.out.trans g2)
      clear g2 HM HP
      have gE : Chg none w2 (w2.alloc (.cells #[] 91 (0, 0))) := (Chg.refl _ _).alloc _
      have HGE := Lib.hid gE
      have HE := Lib.hid (own_empty38 w2 w2.heap.size (Nat.le_refl _))
      have HRX : Hid (Reads (w2.alloc (.cells #[] 91 (0, 0))) (w2.alloc (.cells #[] 91 (0, 0))).heap.size 2 A L.length (L.flatMap filCells)) := Lib.hid ((HTL.out _ (G2.out.trans gE)).1.reads filCells_len (by decide))
      have HOX : Hid (∀ u ∈ L.flatMap filCells, u.oneCell' = true) := Lib.hid filCells_one
      have HSE : Hid (w2.heap.size ≤ (w2.alloc (.cells #[] 91 (0, 0))).heap.size) := Lib.hid gE.size
      clear gE
      go_wp2_with (at_builtin; refine wpList_append_any _ rfl (.tmp 17) (.tmp 18) 40 rfl w2.heap.size 91 i0 (.agg #[.string ⟨#[]⟩, .slice none 0 0]) 2 40 Tryd.underlying40 hi hz0 hz1 hz2 rfl (by decide) _ 0 [] rfl HE.out _ A L.length c _ rfl HRX.out HOX.out (by have := HL16.out; unfold maxLen; omega) (by have := HL16.out; omega) HSE.out ?_)
      intro v3 w3 hown3 hgr3 _
      obtain ⟨A3, c3, rfl⟩ := own_slice hown3
      have HO3 : Hid (RowL w2 w3 A3 c3 L) := Lib.hid ⟨by first | exact hown3 | (rw [List.nil_append, Nat.zero_add] at hown3; exact hown3), own_chg HGE.out HE.out (Nat.le_refl _) hgr3⟩
      try simp only [Nat.zero_add]
      have G3 := Lib.hid (G2.out.trans HO3.out.chg)
      clear hown3 hgr3 HRX HOX HE HSE HGE
      go_wp2_with fail
      go_loop [7] (fun s7 => ∃ k : Nat, s7 = .int .i64 k ∧ Hid (k ≤ N.length ∧ ∀ (j : Nat) g, j < k → N[j]? = some g → hasT L g.p = false)) (fun s7 => N.length - (intOf s7).toNat)
      case atStart => exact ⟨0, rfl, Lib.hid ⟨Nat.zero_le _, fun j g h => absurd h (Nat.not_lt_zero _)⟩⟩
      case round =>
        obtain ⟨k, rfl, H1⟩ := hrel
        by_cases hlt : k < N.length
        · have hdd : decide ((k : Int) < (N.length : Int)) = true := by rw [decide_eq_true_eq]; omega
          obtain ⟨x, hkx⟩ : ∃ x, N[k]? = some x := ⟨_, List.getElem?_eq_getElem hlt⟩
          have hne : N ≠ [] := by intro e; subst e; simp at hlt
          obtain ⟨b, off, rfl, -, -⟩ := (HTN.out w3 G3.out).1 hne
          obtain ⟨hb, x0, x1⟩ := (HTN.out w3 G3.out).1.two hkx
          have HLT := Lib.hid hlt
          have HKX := Lib.hid hkx
          have h16 := HN16.out
          have HFD := Lib.hid (find_any L A c x.p w3 (HTL.out w3 G3.out) (by have := HL16.out; omega))
          clear hkx hne x1
          obtain ⟨fp, xA, xx, xc⟩ := x
          dsimp only at x0 HFD
          go_wp2_with fail
          refine HFD.out.mono ?_
          rintro e w4 ⟨z, rfl, rfl, hz⟩
          rcases has_idx hz with ⟨rfl, hh⟩ | ⟨i, rfl, hh⟩
          · have HH := Lib.hid hh
            clear hh hz HFD
            go_wp2_with fail
            go_round
            case rel => exact ⟨k + 1, by first | rfl | go_num, Lib.hid ⟨HLT.out, fun j g hj hg => by
              rcases Nat.lt_or_ge j k with h | h
              · exact H1.out.2 j g h hg
              · obtain rfl : j = k := by omega
                obtain rfl := Option.some.inj (HKX.out.symm.trans hg)
                exact HH.out⟩⟩
            case measure => have := HLT.out; first | omega | (simp only [intOf]; omega) | (simp [intOf]; omega)
          · have HMT : Hid (meetsT L N) := Lib.hid ⟨_, List.mem_of_getElem? HKX.out, hh⟩
            have hzi : decide ((0 : Int) ≤ (i : Int)) = true := by rw [decide_eq_true_eq]; omega
            clear hh hz HFD
            go_wp2_with fail
            go_ret2
            exact RToldX.seven ⟨trivial, trivial⟩ HMT.out G3.out
        · have hdd : decide (k < N.length) = false := by rw [decide_eq_false_iff_not]; exact hlt
          have hd2 : decide ((k : Int) < (N.length : Int)) = false := by rw [decide_eq_false_iff_not]; omega
          have HNO : Hid (∀ g ∈ N, hasT L g.p = false) := Lib.hid fun g hg => by
            obtain ⟨i, hi, hif⟩ := List.getElem_of_mem hg
            exact H1.out.2 i g (by have := H1.out.1; omega) (by rw [List.getElem?_eq_getElem hi, hif])
          have HNM : Hid (¬ meetsT L N) := Lib.hid fun ⟨f, hf, h⟩ => by rw [HNO.out f hf] at h; cases h
          have HT3 : Hid (TreeAt w3 A3 L) := Lib.hid (HO3.out.tree fun m hm => (HTL.out w3 G3.out).2 m hm)
          clear hlt H1 HO3
          go_wp2_with fail
          go_loopw [6, 8] (fun s6 s8 wr => ∃ (k : Nat) (A1 : Option Addr) (c1 : Nat) (M : List Fil), s8 = .int .i64 k ∧ s6 = .slice A1 M.length c1 ∧ Hid (k ≤ N.length ∧ M.length = L.length + k) ∧ Hid (TreeAt wr A1 M ∧ Chg none w wr) ∧ Hid (Up (keys M) ∧ (keys M).Perm (keys L ++ keys (N.take k)) ∧ ∀ m ∈ M, m ∈ L ∨ m ∈ N)) (fun _ s8 _ => N.length - (intOf s8).toNat)
          case atStart => exact ⟨0, A3, c3, L, rfl, rfl, Lib.hid ⟨Nat.zero_le _, rfl⟩, Lib.hid ⟨HT3.out, G3.out⟩, Lib.hid ⟨HUL.out, by rw [List.take_zero]; unfold keys; simp, fun m h => .inl h⟩⟩
          case round =>
            obtain ⟨k, A1, c1, M, rfl, rfl, H1, H2, H3⟩ := hrel
            by_cases hlt : k < N.length
            · have hdd : decide ((k : Int) < (N.length : Int)) = true := by rw [decide_eq_true_eq]; omega
              obtain ⟨x, hkx⟩ : ∃ x, N[k]? = some x := ⟨_, List.getElem?_eq_getElem hlt⟩
              have hne : N ≠ [] := by intro e; subst e; simp at hlt
              obtain ⟨b, off, rfl, -, -⟩ := (HTN.out wr H2.out.2).1 hne
              obtain ⟨hb, x0, x1⟩ := (HTN.out wr H2.out.2).1.two hkx
              have HLT := Lib.hid hlt
              have HKX := Lib.hid hkx
              have h16 := HN16.out
              have HPU := Lib.hid (put_any M A1 c1 x wr H2.out.1 (by have := H1.out; have := HL16.out; have := HN16.out; omega))
              have HNP : Hid ((keys (putL M x)).Perm (keys L ++ keys (N.take (k + 1)))) := Lib.hid (put_new H3.out.1 HUN.out hkx (HNO.out x (List.mem_of_getElem? hkx)) H3.out.2.1)
              have HNU : Hid (Up (keys (putL M x))) := Lib.hid (putL_isUp H3.out.1)
              have HNL : Hid ((putL M x).length = L.length + (k + 1)) := Lib.hid (by
                have h := HNP.out.length_eq
                unfold keys at h
                rw [List.length_map, List.length_append, List.length_map, List.length_map, List.length_take] at h
                omega)
              have HNM2 : Hid (∀ m ∈ putL M x, m ∈ L ∨ m ∈ N) := Lib.hid fun m hm => by
                rcases putL_mem H3.out.1 m hm with rfl | h
                · exact .inr (List.mem_of_getElem? hkx)
                · exact H3.out.2.2 m h
              clear hkx hne
              obtain ⟨fp, xA, xx, xc⟩ := x
              dsimp only at x0 x1 HPU
              go_wp2_with fail
              refine HPU.out.mono ?_
              rintro e w5 ⟨A5, c5, rfl, hr5⟩
              have G5 := Lib.hid (H2.out.2.trans hr5.chg)
              have HT5 : Hid (TreeAt w5 A5 (putL M ⟨fp, xA, xx, xc⟩)) := Lib.hid (hr5.tree fun m hm => by
                rcases HNM2.out m hm with h | h
                · exact (HTL.out w5 G5.out).2 m h
                · exact (HTN.out w5 G5.out).2 m h)
              clear hr5 HPU x0 x1
              go_wp2_with fail
              go_roundw
              case rel => exact ⟨k + 1, A5, c5, putL M ⟨fp, xA, xx, xc⟩, by first | rfl | go_num, rfl, Lib.hid ⟨HLT.out, HNL.out⟩, Lib.hid ⟨HT5.out, G5.out⟩, Lib.hid ⟨HNU.out, HNP.out, HNM2.out⟩⟩
              case measure => have := HLT.out; first | omega | (simp only [intOf]; omega) | (simp [intOf]; omega)
            · have hdd : decide (k < N.length) = false := by rw [decide_eq_false_iff_not]; exact hlt
              have hd2 : decide ((k : Int) < (N.length : Int)) = false := by rw [decide_eq_false_iff_not]; omega
              have hpm := H3.out.2.1
              rw [List.take_of_length_le (by omega)] at hpm
              have HPM := Lib.hid hpm
              have HM3 := Lib.hid (HMD.out M A1 c1 wr H2.out.1 (by have := H1.out; have := HL16.out; have := HN16.out; omega))
              clear hlt hpm HMD HT3
              go_wp2_with fail
              refine HM3.out.mono ?_
              intro e w6 h6
              have HR : ∀ e, MadeP M A1 c1 wr e w6 → RToldX w (True ∧ True) (meetsT L N) (keys L ++ keys N) e w6 := fun e h => made_told H2.out.1 H3.out.1 HPM.out H2.out.2 ⟨trivial, trivial⟩ HNM.out h
              have HRR := Lib.hid (HR _ h6)
              obtain ⟨v1, v2, rfl⟩ : ∃ v1 v2, e = .returned (.tuple #[v1, v2]) := by
                rcases h6.2 with ⟨-, h⟩ | ⟨-, h⟩ <;> exact ⟨_, _, h⟩
              clear h6 HR HM3
              go_wp2_with fail
              go_ret2
              exact HRR.out

end Go.Proofs.YtbadkkilblgpmaaDoor
