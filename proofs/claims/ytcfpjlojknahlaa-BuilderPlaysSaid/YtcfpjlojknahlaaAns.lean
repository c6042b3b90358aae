/-
  The document's answers for a turn: their walk.
-/
import Derived.Test.YtcfpjlojknahlaaQ
import Derived.Deep.DeepCutAuto
import Derived.Deep.CutBlock
import Derived.BigQuiet
import Derived.Deep.QuietTactic
namespace Go.Proofs.Ytcfpjlojknahlaa
open Go.RowKit

theorem Try.info35 : (Try.prog.info? 35).map (fun i => (i.zero, i.size, i.bytes)) = some (some (.int .u8 0), 1, 1) := by kernel_rfl

def Got (now : Int) (f : F) (wr : World) (s12 s13 : Value) (wx : World) : Prop := s12 = .int .i64 now ∧ ∃ b, s13 = .pointer (some ⟨b, 0, none⟩) ∧ Blk wx b f.parts 28 ∧ Chg none wr wx

def AnsPost (w : World) (c u : Int) (L : List (Int × F)) (e : Ending) (w' : World) : Prop :=
  ∃ v, e = .returned v ∧ w'.ownsRow w.heap.size 35 1 v L.length ((runAll (T.fresh c u) L).2.map ansCells) ∧ Chg none w w'

theorem own_chg {w w' : World} {base n size : Nat} {e : TypeId} {v : Value} {xs : List Value} (h : w.ownsRow base e size v n xs) (g : Chg none w w') : w'.ownsRow base e size v n xs :=
  h.kept g (by cases v.ownBlock <;> simp)

theorem own_cells {w : World} {base : Nat} {e : TypeId} {size n cp : Nat} {Ap : Option Addr} {xs : List Value} (h : w.ownsRow base e size (.slice Ap n cp) n xs) (hn : 0 < n) :
    ∃ g, Ap = some ⟨g, 0, none⟩ ∧ base ≤ g ∧ g < w.heap.size ∧ n ≤ cp ∧ ∀ i u, xs[i]? = some u → w.cell? ⟨g, i, none⟩ = some u := by
  rcases h.2 with ⟨_, h0⟩ | ⟨g, cap, cur, hv, hb, hg, hc, _⟩
  · omega
  · injection hv with e1 e2 e3
    refine ⟨g, e1, hb, (Array.getElem?_eq_some_iff.1 hg).1, by omega, fun i u hu => ?_⟩
    have := h.cells (g := g) (by rw [e1]; rfl) i u hu
    rwa [Go.WideShapes.add_plain, Nat.zero_add] at this

theorem own_slice {w : World} {b : Nat} {e : TypeId} {size : Nat} {v : Value} {n : Nat} {xs : List Value} (h : w.ownsRow b e size v n xs) : ∃ A c, v = .slice A n c := by
  rcases h.2 with ⟨h1, h2⟩ | ⟨g, cap, cur, h1, _⟩
  · exact ⟨none, 0, by rw [h1, h2]⟩
  · exact ⟨_, cap, h1⟩

set_option maxRecDepth 100000 in
set_option maxHeartbeats 60000000 in
theorem answers_any (c u : Int) (L : List (Int × F)) (g cp : Nat) (w : World) (hc : 0 ≤ c ∧ c ≤ 1000000) (hu : 0 ≤ u ∧ u ≤ 1000000) (hg : g < w.heap.size)
    (hcells : ∀ i v, (L.flatMap toldCells)[i]? = some v → w.cell? ⟨g, i, none⟩ = some v) (hL : ∀ x ∈ L, 0 ≤ x.1 ∧ x.1 ≤ 300000) (hlen : L.length ≤ 200) (hne : 0 < L.length) :
    Calls Try.prog 9 #[.int .i64 c, .int .i64 u, .slice (some ⟨g, 0, none⟩) L.length cp] w (AnsPost w c u L) := by
  obtain ⟨i0, hi, hz0, hz1, hz2⟩ := info_parts Try.info35
  have hx0 : L[0]? = some L[0] := List.getElem?_eq_getElem hne
  have hb0 := hL L[0] (List.getElem_mem hne)
  have hz : w.cell? ⟨g, 0, none⟩ = some (.int .i64 L[0].1) := by
    have := flat_get toldCells 9 toldCells_len L 0 0 L[0] hx0 (by omega)
    exact hcells 0 _ this
  obtain ⟨fst, hfst⟩ : ∃ fst : Int, L[0].1 = fst := ⟨_, rfl⟩
  rw [hfst] at hz hb0
  have HX0 := Lib.hid hx0
  have HFST := Lib.hid hfst
  have HCE := Lib.hid hcells
  have HLL := Lib.hid hL
  clear hx0 hfst hcells hL
  go_enter Try.func9, Try.ntmps9
  go_wp2_with fail
  go_loopw [7, 8, 9, 10, 11] (fun s7 s8 s9 s10 s11 wr => ARel w c u L s7 s8 s9 s10 s11 wr) (fun _ _ _ _ s11 _ => L.length - (intOf s11).toNat)
  case atStart => exact ⟨0, 0, 0, false, _, _, by omega, rfl, rfl, rfl, rfl, ASt.start c u L, World.ownsRow_nil _ _ _ _, Chg.refl _ _⟩
  case round =>
    obtain ⟨k, rst, fb, fe, t, outs, hk, rfl, rfl, rfl, rfl, ha, hown, hga⟩ := hrel
    by_cases hlt : k < L.length
    · obtain ⟨⟨now, f⟩, hx⟩ : ∃ x, L[k]? = some x := ⟨_, List.getElem?_eq_getElem hlt⟩
      have hnb := HLL.out _ (List.mem_of_getElem? hx)
      dsimp only at hnb
      have hh : ∀ j v, j < 9 → (toldCells (now, f))[j]? = some v → wr.cell? ⟨g, k * 9 + j, none⟩ = some v := fun j v hj hv =>
        World.grownBy.cell hga (HCE.out _ _ (by rw [flat_get toldCells 9 toldCells_len L k j _ hx hj]; exact hv)) (by simp)
      have hfirst : (t.begin now).first = fst := ((ha.first _ hx).2 _ HX0.out).trans HFST.out
      obtain ⟨f0, f1, f2, f3, f4, f5, f6, f7⟩ := f
      have c0 := hh 0 _ (by omega) rfl
      have c1 := hh 1 _ (by omega) rfl
      have c2 := hh 2 _ (by omega) rfl
      have c3 := hh 3 _ (by omega) rfl
      have c4 := hh 4 _ (by omega) rfl
      have c5 := hh 5 _ (by omega) rfl
      have c6 := hh 6 _ (by omega) rfl
      have c7 := hh 7 _ (by omega) rfl
      have c8 := hh 8 _ (by omega) rfl
      rw [Nat.add_zero] at c0
      dsimp only at c0 c1 c2 c3 c4 c5 c6 c7 c8
      have hzr : wr.cell? ⟨g, 0, none⟩ = some (.int .i64 fst) := World.grownBy.cell hga hz (by simp)
      have hgr : g < wr.heap.size := Nat.lt_of_lt_of_le hg hga.size
      obtain ⟨A7, c7', rfl⟩ := own_slice hown
      have HA := Lib.hid ha
      have HX := Lib.hid hx
      have HOA := Lib.hid hown
      have hrB := ha.rstB
      have hfB := ha.fbB
      have HF := Lib.hid hfirst
      clear hx hh hown hfirst
      go_wp2_with fail
      go_cut [12, 13] (fun s12 s13 wx => Got now ⟨f0, f1, f2, f3, f4, f5, f6, f7⟩ wr s12 s13 wx)
      case first =>
        go_region
        all_goals go_wp2_with fail
        all_goals go_meet
        all_goals refine ⟨rfl, _, rfl, ?_, ?_⟩
        all_goals (try dsimp only [F.parts])
        all_goals (repeat (first | (with_reducible assumption) | (with_reducible exact Blk.new _ _ _) | (with_reducible exact Chg.refl _ _) | (with_reducible refine Blk.drew ?_) | (with_reducible refine Blk.alloc ?_ _) | (with_reducible refine Chg.drew ?_) | (with_reducible refine Chg.alloc ?_ _)))
      case rest =>
        obtain ⟨rfl, b, rfl, hbk, gx⟩ := hcut
        have y0 : wc.cell? ⟨b, 0, none⟩ = some (.bool f0) := by rw [Blk.cell hbk]; rfl
        have y1 : wc.cell? ⟨b, 1, none⟩ = some (.bool f1) := by rw [Blk.cell hbk]; rfl
        have y2 : wc.cell? ⟨b, 2, none⟩ = some (.bool f2) := by rw [Blk.cell hbk]; rfl
        have y3 : wc.cell? ⟨b, 3, none⟩ = some (.bool f3) := by rw [Blk.cell hbk]; rfl
        have y5 : wc.cell? ⟨b, 5, none⟩ = some (.bool f5) := by rw [Blk.cell hbk]; rfl
        have y6 : wc.cell? ⟨b, 6, none⟩ = some (.bool f6) := by rw [Blk.cell hbk]; rfl
        have y7 : wc.cell? ⟨b, 7, none⟩ = some (.bool f7) := by rw [Blk.cell hbk]; rfl
        have hblt := Blk.lt hbk
        have hzc : wc.cell? ⟨g, 0, none⟩ = some (.int .i64 fst) := World.grownBy.cell gx hzr (by simp)
        have hgc := hga.trans gx
        have hgg : g < wc.heap.size := Nat.lt_of_lt_of_le hg hgc.size
        have HOC := Lib.hid (own_chg HOA.out gx)
        clear c0 c1 c2 c3 c4 c5 c6 c7 c8 hzr hgr hbk hz
        have hga := hgc
        replace HOA := HOC
        obtain rfl | rfl | rfl | rfl : rst = 3 ∨ rst = 2 ∨ rst = 1 ∨ rst = 0 := by omega
        · obtain ⟨hk0, hlast⟩ := ha.done rfl
          obtain ⟨go, rfl, _, hgo, hncp, hoc⟩ := own_cells HOC.out hk0
          have hlc := hoc (k - 1) _ (by rw [List.getElem?_map, hlast]; rfl)
          have x1 : (0 : Int) ≤ (k : Int) - 1 := by omega
          have x2 : (k : Int) - 1 < (k : Int) := by omega
          have x4 : ((k : Int) - 1).toNat = k - 1 := by omega
          unfold ansCells at hlc
          clear hoc hlast
          have hn : Next t now ⟨f0, f1, f2, f3, f4, f5, f6, f7⟩ t.ans 3 fe fb := by
            have h := Next.over (t := t) (now := now) (f := ⟨f0, f1, f2, f3, f4, f5, f6, f7⟩) (by rw [ha.hst]; rfl)
            rw [ha.hfe, ha.hfb] at h
            exact h
          have HN := Lib.hid hn
          clear hn
          go_wp2_with (at_builtin; refine wpList_append_own _ rfl (.tmp 32) (.tmp 38) 33 rfl w.heap.size 35 i0 (.int .u8 0) 1 1 Try.underlying33 hi hz0 hz1 hz2 rfl (by decide) _ _ _ rfl (HOC.out.alloc _) ⟨wc.heap.size, 0, none⟩ 1 1 [.int .u8 t.ans] rfl rfl ?c1 ?c2 ?c3 ?c4 ?c5 ?_)
          case c1 => exact cell_one_new _ _ _
          case c2 => intro u hu; simp at hu; subst hu; rfl
          case c3 => unfold maxLen; omega
          case c4 => omega
          case c5 => exact Nat.le_trans hgc.size (by simp)
          intro v' w2 hown' hgrow _
          have hrel2 := fun s11 h11 => ARel.next HA.out HX.out HN.out (by omega) (by omega) (HOA.out.alloc _) (hga.alloc _) hown' hgrow s11 h11
          have HREL := Lib.hid hrel2
          clear hrel2 hown' hgrow
          go_wp2_with fail
          go_roundw
          case rel => exact HREL.out _ (by go_num)
          case measure => simp [intOf]; omega
        · cases f0 with
          | true =>
            have hn : Next t now ⟨true, f1, f2, f3, f4, f5, f6, f7⟩ 4 3 fe fb := by
              have h := Next.stored (t := t) (now := now) (f := ⟨true, f1, f2, f3, f4, f5, f6, f7⟩) (by rw [ha.hst]; omega) rfl
              rw [ha.hfe, ha.hfb] at h
              exact h
            have HN := Lib.hid hn
            clear hn
            go_wp2_with (at_builtin; refine wpList_append_own _ rfl (.tmp 42) (.tmp 43) 33 rfl w.heap.size 35 i0 (.int .u8 0) 1 1 Try.underlying33 hi hz0 hz1 hz2 rfl (by decide) _ _ _ rfl (HOC.out.alloc _) ⟨wc.heap.size, 0, none⟩ 1 1 [.int .u8 4] rfl rfl ?c1 ?c2 ?c3 ?c4 ?c5 ?_)
            case c1 => exact cell_one_new _ _ _
            case c2 => intro u hu; simp at hu; subst hu; rfl
            case c3 => unfold maxLen; omega
            case c4 => omega
            case c5 => exact Nat.le_trans hgc.size (by simp)
            intro v' w2 hown' hgrow _
            have hrel2 := fun s11 h11 => ARel.next HA.out HX.out HN.out (by omega) (by omega) (HOA.out.alloc _) (hga.alloc _) hown' hgrow s11 h11
            have HREL := Lib.hid hrel2
            clear hrel2 hown' hgrow
            go_wp2_with fail
            go_roundw
            case rel => exact HREL.out _ (by go_num)
            case measure => simp [intOf]; omega
          | false =>
            cases f6 with
            | true =>
              have hn : Next t now ⟨false, f1, f2, f3, f4, f5, true, f7⟩ 4 3 fe fb := by
                have h := Next.ran (t := t) (now := now) (f := ⟨false, f1, f2, f3, f4, f5, true, f7⟩) (by rw [ha.hst]; rfl) rfl rfl
                rw [ha.hfe, ha.hfb] at h
                exact h
              have HN := Lib.hid hn
              clear hn
              go_wp2_with (at_builtin; refine wpList_append_own _ rfl (.tmp 53) (.tmp 54) 33 rfl w.heap.size 35 i0 (.int .u8 0) 1 1 Try.underlying33 hi hz0 hz1 hz2 rfl (by decide) _ _ _ rfl (HOC.out.alloc _) ⟨wc.heap.size, 0, none⟩ 1 1 [.int .u8 4] rfl rfl ?c1 ?c2 ?c3 ?c4 ?c5 ?_)
              case c1 => exact cell_one_new _ _ _
              case c2 => intro u hu; simp at hu; subst hu; rfl
              case c3 => unfold maxLen; omega
              case c4 => omega
              case c5 => exact Nat.le_trans hgc.size (by simp)
              intro v' w2 hown' hgrow _
              have hrel2 := fun s11 h11 => ARel.next HA.out HX.out HN.out (by omega) (by omega) (HOA.out.alloc _) (hga.alloc _) hown' hgrow s11 h11
              have HREL := Lib.hid hrel2
              clear hrel2 hown' hgrow
              go_wp2_with fail
              go_roundw
              case rel => exact HREL.out _ (by go_num)
              case measure => simp [intOf]; omega
            | false =>
              cases f7 with
              | true =>
                have hn : Next t now ⟨false, f1, f2, f3, f4, f5, false, true⟩ 5 3 fe fb := by
                  have h := Next.wrong (t := t) (now := now) (f := ⟨false, f1, f2, f3, f4, f5, false, true⟩) (by rw [ha.hst]; rfl) rfl rfl rfl
                  rw [ha.hfe, ha.hfb] at h
                  exact h
                have HN := Lib.hid hn
                clear hn
                go_wp2_with (at_builtin; refine wpList_append_own _ rfl (.tmp 59) (.tmp 60) 33 rfl w.heap.size 35 i0 (.int .u8 0) 1 1 Try.underlying33 hi hz0 hz1 hz2 rfl (by decide) _ _ _ rfl (HOC.out.alloc _) ⟨wc.heap.size, 0, none⟩ 1 1 [.int .u8 5] rfl rfl ?c1 ?c2 ?c3 ?c4 ?c5 ?_)
                case c1 => exact cell_one_new _ _ _
                case c2 => intro u hu; simp at hu; subst hu; rfl
                case c3 => unfold maxLen; omega
                case c4 => omega
                case c5 => exact Nat.le_trans hgc.size (by simp)
                intro v' w2 hown' hgrow _
                have hrel2 := fun s11 h11 => ARel.next HA.out HX.out HN.out (by omega) (by omega) (HOA.out.alloc _) (hga.alloc _) hown' hgrow s11 h11
                have HREL := Lib.hid hrel2
                clear hrel2 hown' hgrow
                go_wp2_with fail
                go_roundw
                case rel => exact HREL.out _ (by go_num)
                case measure => simp [intOf]; omega
              | false =>
                have hn : Next t now ⟨false, f1, f2, f3, f4, f5, false, false⟩ 3 2 fe fb := by
                  have h := Next.runs (t := t) (now := now) (f := ⟨false, f1, f2, f3, f4, f5, false, false⟩) (by rw [ha.hst]; rfl) rfl rfl rfl
                  rw [ha.hfe, ha.hfb] at h
                  exact h
                have HN := Lib.hid hn
                clear hn
                go_wp2_with (at_builtin; refine wpList_append_own _ rfl (.tmp 47) (.tmp 48) 33 rfl w.heap.size 35 i0 (.int .u8 0) 1 1 Try.underlying33 hi hz0 hz1 hz2 rfl (by decide) _ _ _ rfl (HOC.out.alloc _) ⟨wc.heap.size, 0, none⟩ 1 1 [.int .u8 3] rfl rfl ?c1 ?c2 ?c3 ?c4 ?c5 ?_)
                case c1 => exact cell_one_new _ _ _
                case c2 => intro u hu; simp at hu; subst hu; rfl
                case c3 => unfold maxLen; omega
                case c4 => omega
                case c5 => exact Nat.le_trans hgc.size (by simp)
                intro v' w2 hown' hgrow _
                have hrel2 := fun s11 h11 => ARel.next HA.out HX.out HN.out (by omega) (by omega) (HOA.out.alloc _) (hga.alloc _) hown' hgrow s11 h11
                have HREL := Lib.hid hrel2
                clear hrel2 hown' hgrow
                go_wp2_with fail
                go_roundw
                case rel => exact HREL.out _ (by go_num)
                case measure => simp [intOf]; omega
        · cases f0 with
          | true =>
            have hn : Next t now ⟨true, f1, f2, f3, f4, f5, f6, f7⟩ 4 3 fe fb := by
              have h := Next.stored (t := t) (now := now) (f := ⟨true, f1, f2, f3, f4, f5, f6, f7⟩) (by rw [ha.hst]; omega) rfl
              rw [ha.hfe, ha.hfb] at h
              exact h
            have HN := Lib.hid hn
            clear hn
            go_wp2_with (at_builtin; refine wpList_append_own _ rfl (.tmp 42) (.tmp 43) 33 rfl w.heap.size 35 i0 (.int .u8 0) 1 1 Try.underlying33 hi hz0 hz1 hz2 rfl (by decide) _ _ _ rfl (HOC.out.alloc _) ⟨wc.heap.size, 0, none⟩ 1 1 [.int .u8 4] rfl rfl ?c1 ?c2 ?c3 ?c4 ?c5 ?_)
            case c1 => exact cell_one_new _ _ _
            case c2 => intro u hu; simp at hu; subst hu; rfl
            case c3 => unfold maxLen; omega
            case c4 => omega
            case c5 => exact Nat.le_trans hgc.size (by simp)
            intro v' w2 hown' hgrow _
            have hrel2 := fun s11 h11 => ARel.next HA.out HX.out HN.out (by omega) (by omega) (HOA.out.alloc _) (hga.alloc _) hown' hgrow s11 h11
            have HREL := Lib.hid hrel2
            clear hrel2 hown' hgrow
            go_wp2_with fail
            go_roundw
            case rel => exact HREL.out _ (by go_num)
            case measure => simp [intOf]; omega
          | false =>
            obtain ⟨wd, rfl⟩ : ∃ wd : World, wd = wc := ⟨_, rfl⟩
            go_upto_region 23 with fail
            go_cut [73] (fun s wx => s = .bool (!f5 && decide (now < fb + u)) ∧ wx = wd)
            case first =>
              cases f5 with
              | true => go_wp2_with fail; go_meet; exact ⟨rfl, rfl⟩
              | false =>
                by_cases hgo : now < fb + u
                · have q8 : decide (now < fb + u) = true := by simpa using hgo
                  go_wp2_with fail
                  go_meet
                  exact ⟨by simp [hgo], rfl⟩
                · have q8 : decide (now < fb + u) = false := by simpa using hgo
                  go_wp2_with fail
                  go_meet
                  exact ⟨by simp [hgo], rfl⟩
            case rest =>
              obtain ⟨rfl, hw⟩ := hcut
              subst hw
              cases hgg0 : (!f5 && decide (now < fb + u)) with
              | true =>
                have hgw : f5 = false ∧ now < fb + u := by simpa using hgg0
                clear hgg0
                have hn : Next t now ⟨false, f1, f2, f3, f4, f5, f6, f7⟩ 2 1 fe fb := by
                  have h := Next.goes (t := t) (now := now) (f := ⟨false, f1, f2, f3, f4, f5, f6, f7⟩) (by rw [ha.hst]; rfl) rfl hgw.1 (by rw [ha.hfb, ha.bud, pastB_is hu.1]; exact decide_eq_false (by omega))
                  rw [ha.hfe, ha.hfb] at h
                  exact h
                have HN := Lib.hid hn
                clear hgw
                clear hn
                go_wp2_with (at_builtin; refine wpList_append_own _ rfl (.tmp 74) (.tmp 75) 33 rfl w.heap.size 35 i0 (.int .u8 0) 1 1 Try.underlying33 hi hz0 hz1 hz2 rfl (by decide) _ _ _ rfl (HOC.out.alloc _) ⟨wc.heap.size, 0, none⟩ 1 1 [.int .u8 2] rfl rfl ?c1 ?c2 ?c3 ?c4 ?c5 ?_)
                case c1 => exact cell_one_new _ _ _
                case c2 => intro u hu; simp at hu; subst hu; rfl
                case c3 => unfold maxLen; omega
                case c4 => omega
                case c5 => exact Nat.le_trans hgc.size (by simp)
                intro v' w2 hown' hgrow _
                have hrel2 := fun s11 h11 => ARel.next HA.out HX.out HN.out (by omega) (by omega) (HOA.out.alloc _) (hga.alloc _) hown' hgrow s11 h11
                have HREL := Lib.hid hrel2
                clear hrel2 hown' hgrow
                go_wp2_with fail
                go_roundw
                case rel => exact HREL.out _ (by go_num)
                case measure => simp [intOf]; omega
              | false =>
                have hgw : f5 = true ∨ pastB now t.fb t.bud = true := by
                  rw [ha.hfb, ha.bud, pastB_is hu.1]
                  cases f5 <;> simp_all
                have HGW := Lib.hid hgw
                clear hgg0 hgw
                obtain ⟨wd, rfl⟩ : ∃ wd : World, wd = wc := ⟨_, rfl⟩
                go_upto_region 28 with fail
                go_cut [80] (fun s wx => s = .bool (false) ∧ wx = wd)
                case first =>
                  cases f1 with
                  | true => go_wp2_with fail; go_meet; exact ⟨rfl, rfl⟩
                  | false => go_wp2_with fail; go_meet; exact ⟨rfl, rfl⟩
                case rest =>
                  obtain ⟨rfl, hw⟩ := hcut
                  subst hw
                  obtain ⟨wd, rfl⟩ : ∃ wd : World, wd = wc := ⟨_, rfl⟩
                  go_upto_region 32 with fail
                  go_cut [91] (fun s wx => s = .bool (f3 || decide (fst + c ≤ now)) ∧ wx = wd)
                  case first =>
                    cases f3 with
                    | true => go_wp2_with fail; go_meet; exact ⟨rfl, rfl⟩
                    | false =>
                      by_cases hlate : fst + c ≤ now
                      · have q9 : decide (fst + c ≤ now) = true := by simpa using hlate
                        go_wp2_with fail
                        go_meet
                        exact ⟨by simp [hlate], rfl⟩
                      · have q9 : decide (fst + c ≤ now) = false := by simpa using hlate
                        go_wp2_with fail
                        go_meet
                        exact ⟨by simp [hlate], rfl⟩
                  case rest =>
                    obtain ⟨rfl, hw⟩ := hcut
                    subst hw
                    cases hru0 : (f3 || decide (fst + c ≤ now)) with
                    | true =>
                      have hru : f3 = true ∨ fst + c ≤ now := by simpa using hru0
                      clear hru0
                      have hn : Next t now ⟨false, f1, f2, f3, f4, f5, f6, f7⟩ 3 2 true fb := by
                        have h := Next.failRun (t := t) (now := now) (f := ⟨false, f1, f2, f3, f4, f5, f6, f7⟩) (by rw [ha.hst]; rfl) rfl HGW.out (by rw [HF.out, ha.cap, pastB_is hc.1]; simpa using hru)
                        rw [ha.hfb] at h
                        exact h
                      have HN := Lib.hid hn
                      clear hru
                      clear hn
                      go_wp2_with (at_builtin; refine wpList_append_own _ rfl (.tmp 104) (.tmp 105) 33 rfl w.heap.size 35 i0 (.int .u8 0) 1 1 Try.underlying33 hi hz0 hz1 hz2 rfl (by decide) _ _ _ rfl (HOC.out.alloc _) ⟨wc.heap.size, 0, none⟩ 1 1 [.int .u8 3] rfl rfl ?c1 ?c2 ?c3 ?c4 ?c5 ?_)
                      case c1 => exact cell_one_new _ _ _
                      case c2 => intro u hu; simp at hu; subst hu; rfl
                      case c3 => unfold maxLen; omega
                      case c4 => omega
                      case c5 => exact Nat.le_trans hgc.size (by simp)
                      intro v' w2 hown' hgrow _
                      have hrel2 := fun s11 h11 => ARel.next HA.out HX.out HN.out (by omega) (by omega) (HOA.out.alloc _) (hga.alloc _) hown' hgrow s11 h11
                      have HREL := Lib.hid hrel2
                      clear hrel2 hown' hgrow
                      go_wp2_with fail
                      go_roundw
                      case rel => exact HREL.out _ (by go_num)
                      case measure => simp [intOf]; omega
                    | false =>
                      have hru : f3 = false ∧ decide (fst + c ≤ now) = false := by simpa using hru0
                      clear hru0
                      cases f2 with
                      | true =>
                        have hn : Next t now ⟨false, f1, true, f3, f4, f5, f6, f7⟩ 0 0 true fb := by
                          have h := Next.failRest (t := t) (now := now) (f := ⟨false, f1, true, f3, f4, f5, f6, f7⟩) (by rw [ha.hst]; rfl) rfl HGW.out (by simpa using hru.1) (by rw [HF.out, ha.cap, pastB_is hc.1]; exact hru.2)
                          rw [ha.hfb] at h
                          exact h
                        have HN := Lib.hid hn
                        clear hru
                        clear hn
                        go_wp2_with (at_builtin; refine wpList_append_own _ rfl (.tmp 110) (.tmp 111) 33 rfl w.heap.size 35 i0 (.int .u8 0) 1 1 Try.underlying33 hi hz0 hz1 hz2 rfl (by decide) _ _ _ rfl (HOC.out.alloc _) ⟨wc.heap.size, 0, none⟩ 1 1 [.int .u8 0] rfl rfl ?c1 ?c2 ?c3 ?c4 ?c5 ?_)
                        case c1 => exact cell_one_new _ _ _
                        case c2 => intro u hu; simp at hu; subst hu; rfl
                        case c3 => unfold maxLen; omega
                        case c4 => omega
                        case c5 => exact Nat.le_trans hgc.size (by simp)
                        intro v' w2 hown' hgrow _
                        have hrel2 := fun s11 h11 => ARel.next HA.out HX.out HN.out (by omega) (by omega) (HOA.out.alloc _) (hga.alloc _) hown' hgrow s11 h11
                        have HREL := Lib.hid hrel2
                        clear hrel2 hown' hgrow
                        go_wp2_with fail
                        go_roundw
                        case rel => exact HREL.out _ (by go_num)
                        case measure => simp [intOf]; omega
                      | false =>
                        have hn : Next t now ⟨false, f1, false, f3, f4, f5, f6, f7⟩ 1 0 true fb := by
                          have h := Next.failRest (t := t) (now := now) (f := ⟨false, f1, false, f3, f4, f5, f6, f7⟩) (by rw [ha.hst]; rfl) rfl HGW.out (by simpa using hru.1) (by rw [HF.out, ha.cap, pastB_is hc.1]; exact hru.2)
                          rw [ha.hfb] at h
                          exact h
                        have HN := Lib.hid hn
                        clear hru
                        clear hn
                        go_wp2_with (at_builtin; refine wpList_append_own _ rfl (.tmp 77) (.tmp 78) 33 rfl w.heap.size 35 i0 (.int .u8 0) 1 1 Try.underlying33 hi hz0 hz1 hz2 rfl (by decide) _ _ _ rfl (HOC.out.alloc _) ⟨wc.heap.size, 0, none⟩ 1 1 [.int .u8 1] rfl rfl ?c1 ?c2 ?c3 ?c4 ?c5 ?_)
                        case c1 => exact cell_one_new _ _ _
                        case c2 => intro u hu; simp at hu; subst hu; rfl
                        case c3 => unfold maxLen; omega
                        case c4 => omega
                        case c5 => exact Nat.le_trans hgc.size (by simp)
                        intro v' w2 hown' hgrow _
                        have hrel2 := fun s11 h11 => ARel.next HA.out HX.out HN.out (by omega) (by omega) (HOA.out.alloc _) (hga.alloc _) hown' hgrow s11 h11
                        have HREL := Lib.hid hrel2
                        clear hrel2 hown' hgrow
                        go_wp2_with fail
                        go_roundw
                        case rel => exact HREL.out _ (by go_num)
                        case measure => simp [intOf]; omega
        · cases f0 with
          | true =>
            have hn : Next t now ⟨true, f1, f2, f3, f4, f5, f6, f7⟩ 4 3 fe fb := by
              have h := Next.stored (t := t) (now := now) (f := ⟨true, f1, f2, f3, f4, f5, f6, f7⟩) (by rw [ha.hst]; omega) rfl
              rw [ha.hfe, ha.hfb] at h
              exact h
            have HN := Lib.hid hn
            clear hn
            go_wp2_with (at_builtin; refine wpList_append_own _ rfl (.tmp 42) (.tmp 43) 33 rfl w.heap.size 35 i0 (.int .u8 0) 1 1 Try.underlying33 hi hz0 hz1 hz2 rfl (by decide) _ _ _ rfl (HOC.out.alloc _) ⟨wc.heap.size, 0, none⟩ 1 1 [.int .u8 4] rfl rfl ?c1 ?c2 ?c3 ?c4 ?c5 ?_)
            case c1 => exact cell_one_new _ _ _
            case c2 => intro u hu; simp at hu; subst hu; rfl
            case c3 => unfold maxLen; omega
            case c4 => omega
            case c5 => exact Nat.le_trans hgc.size (by simp)
            intro v' w2 hown' hgrow _
            have hrel2 := fun s11 h11 => ARel.next HA.out HX.out HN.out (by omega) (by omega) (HOA.out.alloc _) (hga.alloc _) hown' hgrow s11 h11
            have HREL := Lib.hid hrel2
            clear hrel2 hown' hgrow
            go_wp2_with fail
            go_roundw
            case rel => exact HREL.out _ (by go_num)
            case measure => simp [intOf]; omega
          | false =>
            obtain ⟨wd, rfl⟩ : ∃ wd : World, wd = wc := ⟨_, rfl⟩
            go_upto_region 28 with fail
            go_cut [80] (fun s wx => s = .bool (f1 && !fe) ∧ wx = wd)
            case first =>
              cases f1 with
              | true => cases fe with
                | true => go_wp2_with fail; go_meet; exact ⟨rfl, rfl⟩
                | false => go_wp2_with fail; go_meet; exact ⟨rfl, rfl⟩
              | false => go_wp2_with fail; go_meet; exact ⟨rfl, rfl⟩
            case rest =>
              obtain ⟨rfl, hw⟩ := hcut
              subst hw
              cases hfh : (f1 && !fe) with
              | true =>
                have hf1 : f1 = true := by cases f1 <;> simp_all
                have hfe2 : fe = false := by cases fe <;> simp_all
                subst hf1 hfe2
                clear hfh
                have hn : Next t now ⟨false, true, f2, f3, f4, f5, f6, f7⟩ 2 1 false now := by
                  have h := Next.fetch (t := t) (now := now) (f := ⟨false, true, f2, f3, f4, f5, f6, f7⟩) (by rw [ha.hst]; rfl) rfl rfl ha.hfe
                  skip
                  exact h
                have HN := Lib.hid hn
                clear hn
                go_wp2_with (at_builtin; refine wpList_append_own _ rfl (.tmp 88) (.tmp 89) 33 rfl w.heap.size 35 i0 (.int .u8 0) 1 1 Try.underlying33 hi hz0 hz1 hz2 rfl (by decide) _ _ _ rfl (HOC.out.alloc _) ⟨wc.heap.size, 0, none⟩ 1 1 [.int .u8 2] rfl rfl ?c1 ?c2 ?c3 ?c4 ?c5 ?_)
                case c1 => exact cell_one_new _ _ _
                case c2 => intro u hu; simp at hu; subst hu; rfl
                case c3 => unfold maxLen; omega
                case c4 => omega
                case c5 => exact Nat.le_trans hgc.size (by simp)
                intro v' w2 hown' hgrow _
                have hrel2 := fun s11 h11 => ARel.next HA.out HX.out HN.out (by omega) (by omega) (HOA.out.alloc _) (hga.alloc _) hown' hgrow s11 h11
                have HREL := Lib.hid hrel2
                clear hrel2 hown' hgrow
                go_wp2_with fail
                go_roundw
                case rel => exact HREL.out _ (by go_num)
                case measure => simp [intOf]; omega
              | false =>
                have HFH := Lib.hid hfh
                clear hfh
                obtain ⟨wd, rfl⟩ : ∃ wd : World, wd = wc := ⟨_, rfl⟩
                go_upto_region 32 with fail
                go_cut [91] (fun s wx => s = .bool (f3 || decide (fst + c ≤ now)) ∧ wx = wd)
                case first =>
                  cases f3 with
                  | true => go_wp2_with fail; go_meet; exact ⟨rfl, rfl⟩
                  | false =>
                    by_cases hlate : fst + c ≤ now
                    · have q9 : decide (fst + c ≤ now) = true := by simpa using hlate
                      go_wp2_with fail
                      go_meet
                      exact ⟨by simp [hlate], rfl⟩
                    · have q9 : decide (fst + c ≤ now) = false := by simpa using hlate
                      go_wp2_with fail
                      go_meet
                      exact ⟨by simp [hlate], rfl⟩
                case rest =>
                  obtain ⟨rfl, hw⟩ := hcut
                  subst hw
                  cases hru0 : (f3 || decide (fst + c ≤ now)) with
                  | true =>
                    have hru : f3 = true ∨ fst + c ≤ now := by simpa using hru0
                    clear hru0
                    have hn : Next t now ⟨false, f1, f2, f3, f4, f5, f6, f7⟩ 3 2 fe fb := by
                      have h := Next.run (t := t) (now := now) (f := ⟨false, f1, f2, f3, f4, f5, f6, f7⟩) (by rw [ha.hst]; rfl) rfl (by rw [ha.hfe]; exact HFH.out) (by rw [HF.out, ha.cap, pastB_is hc.1]; simpa using hru)
                      rw [ha.hfe, ha.hfb] at h
                      exact h
                    have HN := Lib.hid hn
                    clear hru
                    clear hn
                    go_wp2_with (at_builtin; refine wpList_append_own _ rfl (.tmp 104) (.tmp 105) 33 rfl w.heap.size 35 i0 (.int .u8 0) 1 1 Try.underlying33 hi hz0 hz1 hz2 rfl (by decide) _ _ _ rfl (HOC.out.alloc _) ⟨wc.heap.size, 0, none⟩ 1 1 [.int .u8 3] rfl rfl ?c1 ?c2 ?c3 ?c4 ?c5 ?_)
                    case c1 => exact cell_one_new _ _ _
                    case c2 => intro u hu; simp at hu; subst hu; rfl
                    case c3 => unfold maxLen; omega
                    case c4 => omega
                    case c5 => exact Nat.le_trans hgc.size (by simp)
                    intro v' w2 hown' hgrow _
                    have hrel2 := fun s11 h11 => ARel.next HA.out HX.out HN.out (by omega) (by omega) (HOA.out.alloc _) (hga.alloc _) hown' hgrow s11 h11
                    have HREL := Lib.hid hrel2
                    clear hrel2 hown' hgrow
                    go_wp2_with fail
                    go_roundw
                    case rel => exact HREL.out _ (by go_num)
                    case measure => simp [intOf]; omega
                  | false =>
                    have hru : f3 = false ∧ decide (fst + c ≤ now) = false := by simpa using hru0
                    clear hru0
                    cases f2 with
                    | true =>
                      have hn : Next t now ⟨false, f1, true, f3, f4, f5, f6, f7⟩ 0 0 fe fb := by
                        have h := Next.rest (t := t) (now := now) (f := ⟨false, f1, true, f3, f4, f5, f6, f7⟩) (by rw [ha.hst]; rfl) rfl (by rw [ha.hfe]; exact HFH.out) (by simpa using hru.1) (by rw [HF.out, ha.cap, pastB_is hc.1]; exact hru.2)
                        rw [ha.hfe, ha.hfb] at h
                        exact h
                      have HN := Lib.hid hn
                      clear hru
                      clear hn
                      go_wp2_with (at_builtin; refine wpList_append_own _ rfl (.tmp 110) (.tmp 111) 33 rfl w.heap.size 35 i0 (.int .u8 0) 1 1 Try.underlying33 hi hz0 hz1 hz2 rfl (by decide) _ _ _ rfl (HOC.out.alloc _) ⟨wc.heap.size, 0, none⟩ 1 1 [.int .u8 0] rfl rfl ?c1 ?c2 ?c3 ?c4 ?c5 ?_)
                      case c1 => exact cell_one_new _ _ _
                      case c2 => intro u hu; simp at hu; subst hu; rfl
                      case c3 => unfold maxLen; omega
                      case c4 => omega
                      case c5 => exact Nat.le_trans hgc.size (by simp)
                      intro v' w2 hown' hgrow _
                      have hrel2 := fun s11 h11 => ARel.next HA.out HX.out HN.out (by omega) (by omega) (HOA.out.alloc _) (hga.alloc _) hown' hgrow s11 h11
                      have HREL := Lib.hid hrel2
                      clear hrel2 hown' hgrow
                      go_wp2_with fail
                      go_roundw
                      case rel => exact HREL.out _ (by go_num)
                      case measure => simp [intOf]; omega
                    | false =>
                      have hn : Next t now ⟨false, f1, false, f3, f4, f5, f6, f7⟩ 1 0 fe fb := by
                        have h := Next.rest (t := t) (now := now) (f := ⟨false, f1, false, f3, f4, f5, f6, f7⟩) (by rw [ha.hst]; rfl) rfl (by rw [ha.hfe]; exact HFH.out) (by simpa using hru.1) (by rw [HF.out, ha.cap, pastB_is hc.1]; exact hru.2)
                        rw [ha.hfe, ha.hfb] at h
                        exact h
                      have HN := Lib.hid hn
                      clear hru
                      clear hn
                      go_wp2_with (at_builtin; refine wpList_append_own _ rfl (.tmp 77) (.tmp 78) 33 rfl w.heap.size 35 i0 (.int .u8 0) 1 1 Try.underlying33 hi hz0 hz1 hz2 rfl (by decide) _ _ _ rfl (HOC.out.alloc _) ⟨wc.heap.size, 0, none⟩ 1 1 [.int .u8 1] rfl rfl ?c1 ?c2 ?c3 ?c4 ?c5 ?_)
                      case c1 => exact cell_one_new _ _ _
                      case c2 => intro u hu; simp at hu; subst hu; rfl
                      case c3 => unfold maxLen; omega
                      case c4 => omega
                      case c5 => exact Nat.le_trans hgc.size (by simp)
                      intro v' w2 hown' hgrow _
                      have hrel2 := fun s11 h11 => ARel.next HA.out HX.out HN.out (by omega) (by omega) (HOA.out.alloc _) (hga.alloc _) hown' hgrow s11 h11
                      have HREL := Lib.hid hrel2
                      clear hrel2 hown' hgrow
                      go_wp2_with fail
                      go_roundw
                      case rel => exact HREL.out _ (by go_num)
                      case measure => simp [intOf]; omega
    · obtain rfl : k = L.length := by omega
      go_wp2_with fail
      go_ret
      have hr := ha.run
      rw [List.take_length] at hr
      refine ⟨_, rfl, ?_, hga⟩
      rw [hr]
      exact hown

end Go.Proofs.Ytcfpjlojknahlaa
