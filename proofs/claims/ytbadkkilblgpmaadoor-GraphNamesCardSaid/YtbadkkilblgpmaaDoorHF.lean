/-
  GraphRight, of any targets.
-/
import Derived.Test.YtbadkkilblgpmaaDoorHD
import Derived.Maps.RangeWalk
import Derived.Sort.MapsRangeIn
namespace Go.Proofs.YtbadkkilblgpmaaDoor
open Go.RowKit Go.Maps

theorem OrdP.out {w : World} {L : List Tgt} {want : List UInt8} {e : Ending} {w' : World} (h : OrdP w L want e w') :
    ∃ (A : Option Addr) (c : Nat) (o : List Nat) (n : Int), e = .returned (.tuple #[.slice A o.length c, .int .i64 n]) ∧ Chg none w w' ∧ RowsAt w' 1 A natC o ∧ OrdO L want n o := by
  obtain ⟨A, c, o, n, he, hg, hr, h⟩ := h
  refine ⟨A, c, o, n, he, hg, hr, ?_⟩
  rcases h with ⟨h1, rfl, rfl⟩ | ⟨h1, h2, rfl, rfl⟩ | ⟨nd, nd', h1, h2, h3, h4, h5, ⟨rfl, rfl, o', f, h6, h7, h8⟩ | ⟨rfl, f, h6, h7⟩⟩
  · exact .bad h1
  · exact .none h1 h2
  · exact .cycle nd nd' o' f h1 h2 h3 h4 h5 h6 h7 h8
  · exact .ok nd nd' o f h1 h2 h3 h4 h5 h6 h7
theorem OrdO.codes {L : List Tgt} {want : List UInt8} {n : Int} {o : List Nat} (h : OrdO L want n o) : n = 0 ∨ (o = [] ∧ (n = 2 ∨ n = 6 ∨ n = 150)) := by
  cases h with
  | bad => exact .inr ⟨rfl, .inl rfl⟩
  | none => exact .inr ⟨rfl, .inr (.inl rfl)⟩
  | cycle => exact .inr ⟨rfl, .inr (.inr rfl)⟩
  | ok => exact .inl rfl
theorem wf_2 : (Lit.int .i64 2).wf = true := by decide
/-- What a map under way tells of a key. -/
theorem MapS.at_key {w : World} {b n : Nat} {f : List UInt8 → Int} {K : List (List UInt8)} (h : MapS w b n f K) : ∃ D : DataW Unit, w.ownsMap Tryd.prog 9 (plainElem Tryd.prog 3) b n D ∧ ∀ s, D.atKey (.string s) (.lit (.int .i64 0)) = .lit (.int .i64 (f s)) := by
  obtain ⟨D, h1, h2, -⟩ := h
  exact ⟨D, h1, h2⟩

set_option maxHeartbeats 64000000 in
set_option maxRecDepth 100000 in
theorem gright_any (L : List Tgt) (A : Option Addr) (c : Nat) (want : List UInt8) (w : World) (hT : TgtsAt w A L) (hF : Flds w) (hl : L.length ≤ 9223372036854775807) (hcap : L.length ≤ c) (hm : want.length ≤ 9223372036854775807) :
    Calls Tryd.prog 13 #[.slice A L.length c, .string ⟨want.toArray⟩] w fun e w' => e = .returned (.bool true) ∧ Chg none w w' := by
  have HT : Hid (∀ v, Chg none w v → TgtsAt v A L) := Lib.hid fun v g => hT.chg g
  have HKN : Hid (∀ v, Chg none w v → Calls Tryd.prog 49 #[] v fun e w' => e = .returned (.bool true) ∧ Chg none v w') := Lib.hid fun v g => known15 v (hF.chg g)
  have HGR : Hid (Calls Tryd.prog 48 #[.slice A L.length c, .slice (some ⟨w.heap.size, 0, none⟩) 1 1] (w.alloc (.cells #[.string ⟨want.toArray⟩] 9)) fun e w' => ∃ g : Bool, e = .returned (.bool g) ∧ Chg none w w') :=
    Lib.hid ((great48 L A c _ 1 [want] _ (hT.chg ((Chg.refl _ _).alloc _)) hl (strs_lit1 hm) (by show 1 ≤ _; decide)).mono fun e w' ⟨g, h1, h2⟩ => ⟨g, h1, ((Chg.refl _ _).alloc _).trans h2⟩)
  have HOR : Hid (∀ v, Chg none w v → Calls Tryd.prog 51 #[.slice A L.length c, .string ⟨want.toArray⟩] v (OrdP v L want)) := Lib.hid fun v g => order_any L A c want v (hT.chg g) (hF.chg g) hl hcap hm
  clear hT hF hl hcap hm
  go_enter Tryd.func13, Tryd.ntmps13
  go_wp2_with fail
  refine HGR.out.mono ?_
  rintro e w1 ⟨g, rfl, g1⟩
  have G1 := Lib.hid g1
  clear g1 HGR
  cases g with
  | true =>
    go_wp2_with fail
    refine (HKN.out _ G1.out).mono ?_
    rintro e wk ⟨rfl, gk⟩
    have Gk := Lib.hid (G1.out.trans gk)
    clear gk
    go_wp2_with fail
    go_ret
    exact ⟨rfl, Gk.out⟩
  | false =>
    go_wp2_with fail
    refine (HOR.out _ G1.out).mono ?_
    intro e w2 hord
    obtain ⟨A5, c5, o, n, rfl, g2, r2, ho⟩ := hord.out
    have G2 := Lib.hid (G1.out.trans g2)
    clear g2 G1 HOR hord
    rcases ho.codes with rfl | ⟨rfl, hn⟩
    · obtain ⟨hmay, hw, hol⟩ := ho.whole
      obtain ⟨h20, hall, hdis⟩ := mayL_of hmay
      have hpos : 0 < o.length := List.length_pos_iff.2 hw.ne
      have HW := Lib.hid hw
      have HALL := Lib.hid hall
      have HR2 := Lib.hid r2
      have hl1 : ¬ (o.length : Int) < 1 := by omega
      have hl2 : ¬ (L.length : Int) < (o.length : Int) := by omega
      have d1 : decide ((o.length : Int) < 1) = false := decide_eq_false hl1
      have d2 : decide ((L.length : Int) < (o.length : Int)) = false := decide_eq_false hl2
      have d3 : decide (o.length < 1) = false := decide_eq_false (by omega)
      have d4 : decide (L.length < o.length) = false := decide_eq_false (by omega)
      clear hmay hw hall hdis ho r2
      have hmk := run_makeMap (P := Tryd.prog) 75 w2
      go_upto_region 9 with fail
      obtain ⟨mb, hmb⟩ : ∃ mb, mb = w2.heap.size := ⟨_, rfl⟩
      rw [← hmb]
      obtain ⟨W2, hW2⟩ : ∃ W, W = w2.alloc (.map #[] 0) := ⟨_, rfl⟩
      have HM2 : Hid (MapS W2 mb 0 (fun _ => 0) [] ∧ Chg none w2 W2) := Lib.hid (by rw [hW2, hmb]; exact ⟨MapS.new w2, (Chg.refl _ _).alloc _⟩)
      rw [← hW2]
      have HMB := Lib.hid hmb
      clear hmb hW2 hmk
      go_upto_region 10 with fail
      go_loopw [8, 9, 11, 46, 75] (fun s8 s9 s11 i s75 wr => ∃ k : Nat, k ≤ o.length ∧ i = .int .i64 k ∧ Hid ((∃ n K, n ≤ 6 * k ∧ MapS wr mb n (toldT L (o.take k)) K) ∧ Chg none w2 wr)) (fun _ _ _ i _ _ => o.length - (intOf i).toNat)
      case atStart => exact ⟨0, Nat.zero_le _, rfl, Lib.hid ⟨⟨0, [], Nat.zero_le _, HM2.out.1⟩, HM2.out.2⟩⟩
      case round =>
        obtain ⟨k, hk, rfl, HR⟩ := hrel
        by_cases hlt : k < o.length
        · have hdd : decide ((k : Int) < (o.length : Int)) = true := by rw [decide_eq_true_eq]; omega
          have hdd2 : decide (k < o.length) = true := by rw [decide_eq_true_eq]; omega
          have hlti : (k : Int) < (o.length : Int) := by omega
          obtain ⟨at_, hat⟩ : ∃ x, o[k]? = some x := ⟨_, List.getElem?_eq_getElem hlt⟩
          have hatl : at_ < L.length := HW.out.lt at_ (List.mem_of_getElem? hat)
          obtain ⟨t, hkt⟩ : ∃ t, L[at_]? = some t := ⟨_, List.getElem?_eq_getElem hatl⟩
          have hmem := List.mem_of_getElem? hkt
          obtain ⟨ba, oa, rfl, hba, y0⟩ := one_nat (RowsAt.chg HR2.out HR.out.2) hat
          have hT9 := HT.out wr (G2.out.trans HR.out.2)
          obtain ⟨bL, off, rfl, hbL, x0, x1, -, -⟩ := hT9.one hkt
          have HD9 := Lib.hid (hT9.2 t hmem).deps
          have hnl := (hT9.2 t hmem).nl
          have hd5 : t.D.length ≤ 5 := (HALL.out t hmem |> fun h => by
            unfold mayTgt at h
            rw [Bool.and_eq_true, Bool.and_eq_true] at h
            exact (dep_name h.2.1).1)
          obtain ⟨mn, mK, hmn, hmap⟩ := HR.out.1
          have hnew := toldT_new HW.out hat
          rw [nmAt_get hkt] at hnew
          have hlook := hmap.look t.n hnl
          rw [hnew] at hlook
          have HMP := Lib.hid hmap
          have HDP : Hid (∀ d ∈ t.D, ∀ D, upd2 (toldT L (o.take k)) D d ≠ 0) := Lib.hid fun d hd D => toldT_dep HW.out hat (by rw [dpAt_get hkt]; exact hd) D
          have HST : Hid (toldT L (o.take (k + 1)) = updS (upd2 (toldT L (o.take k)) t.D) t.n 1) := Lib.hid (by rw [toldT_step hat]; unfold stepT; rw [dpAt_get hkt, nmAt_get hkt])
          have HLAST : Hid (k + 1 = o.length ↔ t.n = want) := Lib.hid (by have := HW.out.last k at_ hat; rw [nmAt_get hkt] at this; exact this)
          have HLT := Lib.hid hlt
          have HG := Lib.hid HR.out.2
          have hmb' := hmap.lt
          have hati : (at_ : Int) < (L.length : Int) := by omega
          have hat0 : ¬ (at_ : Int) < 0 := by omega
          have hat1 : ¬ (L.length : Int) ≤ (at_ : Int) := by omega
          have e1 : decide ((at_ : Int) < 0) = false := decide_eq_false hat0
          have e2 : decide ((L.length : Int) ≤ (at_ : Int)) = false := decide_eq_false hat1
          have hatb : (at_ : Int) ≤ 20 := by omega
          have HKT := Lib.hid hkt
          clear hat hkt hmem hT9 hlt hnew hmap HR
          obtain ⟨tn, tA, tD, tcap, tf, tB, tP, tdd⟩ := t
          dsimp only at *
          obtain ⟨wo, rfl⟩ : ∃ wo : World, wo = wr := ⟨_, rfl⟩
          go_upto_region 15 with fail
          go_loopw [11, 75] (fun s11 i wr => ∃ j : Nat, j ≤ tD.length ∧ i = .int .i64 j ∧ Hid ((∃ n K, n ≤ 6 * k + j ∧ MapS wr mb n (upd2 (toldT L (o.take k)) (tD.take j)) K) ∧ Chg none w2 wr)) (fun _ i _ => tD.length - (intOf i).toNat)
          case atStart => exact ⟨0, Nat.zero_le _, rfl, Lib.hid ⟨⟨mn, mK, hmn, HMP.out⟩, HG.out⟩⟩
          case round =>
            obtain ⟨j, hj, rfl, HR3⟩ := hrel
            by_cases hjt : j < tD.length
            · have hdj : decide ((j : Int) < (tD.length : Int)) = true := by rw [decide_eq_true_eq]; omega
              have hdj2 : decide (j < tD.length) = true := by rw [decide_eq_true_eq]; omega
              have hjti : (j : Int) < (tD.length : Int) := by omega
              obtain ⟨s, hjs⟩ : ∃ s, tD[j]? = some s := ⟨_, List.getElem?_eq_getElem hjt⟩
              have hT3 := HT.out wr (G2.out.trans HR3.out.2)
              have hsl := HD9.out.2 s (List.mem_of_getElem? hjs)
              obtain ⟨bd, od, rfl, hbd, y1⟩ := HD9.out.one hjs
              obtain ⟨mn2, mK2, hmn2, hmap2⟩ := HR3.out.1
              have hlk := hmap2.look s hsl
              have hnz := HDP.out s (List.mem_of_getElem? hjs) (tD.take j)
              obtain ⟨W4, hput, hm4, g4⟩ := hmap2.put (by unfold maxLen; omega) s hsl 2 wf_2
              have HEND : Hid ((∃ n K, n ≤ 6 * k + (j + 1) ∧ MapS W4 mb n (upd2 (toldT L (o.take k)) (tD.take (j + 1))) K) ∧ Chg none w2 W4) := Lib.hid ⟨⟨mn2 + 1, _, by omega, by rw [upd2_step hjs]; exact hm4⟩, Chg.own HR3.out.2 g4 (Nat.le_of_eq HMB.out.symm)⟩
              have y2 : wr.cell? ⟨bd, od + j, none⟩ = some (.string ⟨s.toArray⟩) := by
                have hD3 := (hT3.2 _ (List.mem_of_getElem? HKT.out)).deps
                obtain ⟨b', o', e, -, h⟩ := StrsAt.one hD3 hjs
                cases e
                exact h
              generalize upd2 (toldT L (o.take k)) (tD.take j) s = z at *
              have hz : (z == 0) = false := by rw [beq_eq_false_iff_ne]; exact hnz
              have HJT := Lib.hid hjt
              have hbw := hmap2.lt
              clear hjs hsl hjt hT3 hmap2 hm4 g4 hnz HR3
              go_wp2_with fail
              go_roundw
              case rel => exact ⟨j + 1, by have := HJT.out; omega, by first | rfl | go_num, HEND⟩
              case measure => have := HJT.out; first | omega | (simp only [intOf]; omega) | (simp [intOf]; omega)
            · have hjl : j = tD.length := by omega
              subst hjl
              have hdj : decide ((tD.length : Int) < (tD.length : Int)) = false := by rw [decide_eq_false_iff_not]; omega
              have hdj2 : decide (tD.length < tD.length) = false := by rw [decide_eq_false_iff_not]; omega
              obtain ⟨mn2, mK2, hmn2, hmap2⟩ := HR3.out.1
              rw [List.take_of_length_le (Nat.le_refl _)] at hmap2
              obtain ⟨W4, hput, hm4, g4⟩ := hmap2.put (by unfold maxLen; omega) tn hnl 1 (by decide)
              have g24 : Chg none w2 W4 := Chg.own HR3.out.2 g4 (Nat.le_of_eq HMB.out.symm)
              have HEND : Hid ((∃ n K, n ≤ 6 * (k + 1) ∧ MapS W4 mb n (toldT L (o.take (k + 1))) K) ∧ Chg none w2 W4) := Lib.hid ⟨⟨mn2 + 1, _, by omega, by rw [HST.out]; exact hm4⟩, g24⟩
              obtain ⟨b', off', e', -, xw, -⟩ := (HT.out wr (G2.out.trans HR3.out.2)).one HKT.out
              obtain ⟨b4, off4, e4, -, xw4, -⟩ := (HT.out W4 (G2.out.trans g24)).one HKT.out
              cases e'
              cases e4
              have hbw := hmap2.lt
              have hlast := HLAST.out
              have hk1 : IntKind.i64.wrap ((o.length : Int) - 1) = (o.length : Int) - 1 := by rw [IntKind.wrap_i64]; omega
              clear hjt hmap2 hm4 g4 HR3 g24
              by_cases hfin : k + 1 = o.length
              · have hwn := hlast.1 hfin
                have f1 : ((k : Int) == (o.length : Int) - 1) = true := by rw [beq_iff_eq]; omega
                have f2 : (tn == want) = true := by rw [beq_iff_eq]; exact hwn
                clear hlast hfin hwn
                go_wp2_with fail
                go_roundw
                case rel => exact ⟨k + 1, by have := HLT.out; omega, by first | rfl | go_num, HEND⟩
                case measure => have := HLT.out; first | omega | (simp only [intOf]; omega) | (simp [intOf]; omega)
              · have hwn : tn ≠ want := fun e => hfin (hlast.2 e)
                have f1 : ((k : Int) == (o.length : Int) - 1) = false := by rw [beq_eq_false_iff_ne]; omega
                have f2 : (tn == want) = false := by rw [beq_eq_false_iff_ne]; exact hwn
                clear hlast hfin hwn
                go_wp2_with fail
                go_roundw
                case rel => exact ⟨k + 1, by have := HLT.out; omega, by first | rfl | go_num, HEND⟩
                case measure => have := HLT.out; first | omega | (simp only [intOf]; omega) | (simp [intOf]; omega)
        · have hkl : k = o.length := by omega
          subst hkl
          have hdd : decide ((o.length : Int) < (o.length : Int)) = false := by rw [decide_eq_false_iff_not]; omega
          have hdd2 : decide (o.length < o.length) = false := by rw [decide_eq_false_iff_not]; omega
          obtain ⟨mn, mK, -, hmap⟩ := HR.out.1
          rw [List.take_of_length_le (Nat.le_refl _)] at hmap
          obtain ⟨D, hown, hatk⟩ := hmap.at_key
          obtain ⟨w5, hw5⟩ : ∃ w5 : World, w5 = wr := ⟨_, rfl⟩
          subst hw5
          have G5 := Lib.hid (G2.out.trans HR.out.2)
          have HATK := Lib.hid hatk
          have hmlt := hmap.lt
          clear hlt hk HR hmap hatk
          go_wp2_with (at_range; refine wpList_range_own _ rfl _ 75 rfl 9 3 lawS Tryd.underlying75 (plainElem Tryd.prog 3) mb mn D rfl hown ?_; intro w6 hrg0 hg0 hs0)
          go_frame
          obtain ⟨rb, hrb⟩ : ∃ rb, rb = w5.heap.size := ⟨_, rfl⟩
          rw [← hrb]
          have HR0 : Hid ((∃ left cnt, w6.ranges Tryd.prog 9 (plainElem Tryd.prog 3) mb rb mn D left cnt) ∧ Chg none w w6) := Lib.hid ⟨⟨_, _, by rw [hrb]; exact hrg0⟩, G5.out.trans hg0⟩
          have HRB : Hid (w.heap.size ≤ rb) := Lib.hid (by rw [hrb]; exact G5.out.size)
          clear hrg0 hg0 hs0 hown hrb
          go_loopw [12, 13] (fun s12 s13 wr => Hid ((∃ left cnt, wr.ranges Tryd.prog 9 (plainElem Tryd.prog 3) mb rb mn D left cnt) ∧ Chg none w wr)) (fun _ _ wr => wr.rangeLeft mb rb)
          case atStart => exact HR0
          case round =>
            obtain ⟨⟨left, cnt, hrg⟩, hch⟩ := hrel.out
            have HCH := Lib.hid hch
            have HRG := Lib.hid hrg
            clear hch hrel HR0
            go_wp2_with (at_next; refine wpList_next_ranges _ rfl _ rfl 9 lawS (plainElem Tryd.prog 3) (fun v : Value => v) (fun x : Int => .int .i64 x) (fun key kl _ => ⟨key, rfl⟩) (fun v y hv => by obtain ⟨c, rfl, _⟩ := plainElem_int_inv Tryd.underlying3 hv; exact ⟨c, rfl⟩) mb rb mn D left cnt rfl hrg ?_ ?_)
            · intro hc0 hl0
              clear hl0 hc0 hrg HRG
              go_wp2_with fail
              refine (HKN.out _ HCH.out).mono ?_
              rintro e wk ⟨rfl, gk⟩
              have Gk := Lib.hid (HCH.out.trans gk)
              clear gk
              go_wp2_with fail
              go_ret
              exact ⟨rfl, Gk.out⟩
            · intro x c kl y y2 w7 cnt1 hkey hlx hR hatx hrg1 hlt1 hg1 hs1 hen
              obtain ⟨c', ec, ey, hwc⟩ := plainElem_int_inv Tryd.underlying3 hR
              cases ey
              cases ec
              obtain ⟨bs, rfl, rfl, -⟩ := Go.WideMaps.string_of_keyOf Tryd.underlying9 hkey
              obtain ⟨s, hs⟩ : ∃ s : List UInt8, s = bs.data.toList := ⟨_, rfl⟩
              obtain rfl : bs = ⟨s.toArray⟩ := by rw [hs]
              have hcv : c = toldT L o s := by
                have h1 := HATK.out s
                rw [hs, hatx (.lit (.int .i64 0)), ← hs] at h1
                injection h1 with h1
                injection h1
              have HEND : Hid ((∃ left cnt, w7.ranges Tryd.prog 9 (plainElem Tryd.prog 3) mb rb mn D left cnt) ∧ Chg none w w7) := Lib.hid ⟨⟨_, _, hrg1⟩, Chg.own HCH.out hg1 HRB.out⟩
              have hm0 : wr.rangeLeft mb rb = cnt := HRG.out.left_eq
              have hm1 : w7.rangeLeft mb rb = cnt1 := hrg1.left_eq
              have HMS : Hid (w7.rangeLeft mb rb < wr.rangeLeft mb rb) := Lib.hid (by rw [hm0, hm1]; exact hlt1)
              clear hs hkey hlx hR hatx hrg1 hlt1 hg1 hs1 hm0 hm1 hrg
              by_cases hc1 : c = 1
              · have hsw := toldT_end HW.out (hcv.symm.trans hc1)
                have f1 : (c == 1) = true := by rw [beq_iff_eq]; exact hc1
                have f2 : (s != want) = false := by rw [hsw]; simp
                have f3 : (s == want) = true := by rw [hsw]; simp
                clear hcv hc1 hsw
                go_wp2_with fail
                go_roundw
                case rel => exact HEND
                case measure => exact HMS.out
              · have f1 : (c == 1) = false := by rw [beq_eq_false_iff_ne]; exact hc1
                clear hcv hc1
                go_wp2_with fail
                go_roundw
                case rel => exact HEND
                case measure => exact HMS.out
    · have hne : (n != 0) = true := by rcases hn with rfl | rfl | rfl <;> decide
      clear ho r2 hn
      go_wp2_with fail
      refine (HKN.out _ G2.out).mono ?_
      rintro e wk ⟨rfl, gk⟩
      have Gk := Lib.hid (G2.out.trans gk)
      clear gk
      go_wp2_with fail
      go_ret
      exact ⟨rfl, Gk.out⟩
end Go.Proofs.YtbadkkilblgpmaaDoor
