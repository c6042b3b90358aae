/-
  The law BuilderEnds: its walk.
-/
import Derived.Test.YtcfpjlojknahlaaU
import Derived.Test.YtcfpjlojknahlaaW
import Derived.Deep.DeepCutAuto
namespace Go.Proofs.Ytcfpjlojknahlaa
open Go.RowKit

def F.cells (f : F) : List Value := f.parts.toList

theorem RowsAt.eight {w : World} {A : Option Addr} {L : List F} (h : RowsAt w 8 A F.cells L) (hne : L ≠ []) :
    ∃ b off, A = some ⟨b, off, none⟩ ∧ b < w.heap.size ∧ ∀ i f, L[i]? = some f →
      w.cell? ⟨b, off + i * 8, none⟩ = some (.bool f.stored) ∧ w.cell? ⟨b, off + i * 8 + 1, none⟩ = some (.bool f.heard) ∧
      w.cell? ⟨b, off + i * 8 + 2, none⟩ = some (.bool f.lease) ∧ w.cell? ⟨b, off + i * 8 + 3, none⟩ = some (.bool f.ready) ∧
      w.cell? ⟨b, off + i * 8 + 4, none⟩ = some (.bool f.got) ∧ w.cell? ⟨b, off + i * 8 + 5, none⟩ = some (.bool f.failed) ∧
      w.cell? ⟨b, off + i * 8 + 6, none⟩ = some (.bool f.ran) ∧ w.cell? ⟨b, off + i * 8 + 7, none⟩ = some (.bool f.wrong) := by
  obtain ⟨b, off, hA, hb, hc⟩ := h hne
  refine ⟨b, off, hA, hb, fun i o hi => ?_⟩
  have hh := hc i o hi
  refine ⟨?_, ?_, ?_, ?_, ?_, ?_, ?_, ?_⟩
  · exact hh 0 (by omega)
  · exact hh 1 (by omega)
  · exact hh 2 (by omega)
  · exact hh 3 (by omega)
  · exact hh 4 (by omega)
  · exact hh 5 (by omega)
  · exact hh 6 (by omega)
  · exact hh 7 (by omega)

theorem Blk.all {w : World} {b : Nat} {f0 f1 f2 f3 f4 f5 f6 f7 : Bool} {T : TypeId} (h : Blk w b (F.parts ⟨f0, f1, f2, f3, f4, f5, f6, f7⟩) T) :
    w.cell? ⟨b, 0, none⟩ = some (.bool f0) ∧ w.cell? ⟨b, 1, none⟩ = some (.bool f1) ∧ w.cell? ⟨b, 2, none⟩ = some (.bool f2) ∧ w.cell? ⟨b, 3, none⟩ = some (.bool f3) ∧
    w.cell? ⟨b, 4, none⟩ = some (.bool f4) ∧ w.cell? ⟨b, 5, none⟩ = some (.bool f5) ∧ w.cell? ⟨b, 6, none⟩ = some (.bool f6) ∧ w.cell? ⟨b, 7, none⟩ = some (.bool f7) := by
  refine ⟨?_, ?_, ?_, ?_, ?_, ?_, ?_, ?_⟩ <;> (rw [Blk.cell h]; rfl)
theorem Blk.boxed {w : World} {b : Nat} {f0 f1 f2 f3 f4 f5 f6 f7 : Bool} {T : TypeId} (h : Blk w b (F.parts ⟨f0, f1, f2, f3, f4, f5, f6, f7⟩) T) :
    w.cell? ⟨b, 0, none⟩ = some (.bool f0) ∧ w.cell? ⟨b, 6, none⟩ = some (.bool f6) ∧ w.cell? ⟨b, 7, none⟩ = some (.bool f7) :=
  ⟨h.all.1, h.all.2.2.2.2.2.2.1, h.all.2.2.2.2.2.2.2⟩

theorem Tick.low {c u ran : Int} {k : Nat} {t : T} (h : Tick c u (k + 1) t ran) (hc : 0 ≤ c) (hu : 0 ≤ u) (hs : t.st = 1 ∨ t.st = 2) : (k : Int) ≤ c + u := by
  have := h.cases
  omega

theorem T.fresh_tick (c u : Int) (hc : 0 ≤ c ∧ c ≤ 1000000) (hu : 0 ≤ u ∧ u ≤ 1000000) : Tick c u 0 (T.fresh c u) (-1) :=
  ⟨rfl, rfl, ok_small _ _ _ _ (by omega) _ _ _ _, rfl, fun h => (by cases h), Or.inl ⟨rfl, rfl, by omega⟩⟩

set_option maxRecDepth 100000 in
set_option maxHeartbeats 4000000 in
theorem ends_main (c u : Int) (A : Option Addr) (L : List F) (ca : Nat) (w : World)
    (hc : 0 ≤ c ∧ c ≤ 300) (hu : 0 ≤ u ∧ u ≤ 300) (hn : L.length ≤ 300) (hA : RowsAt w 8 A F.cells L) :
    Calls Try.prog 4 #[.int .i64 c, .int .i64 u, .slice A L.length ca] w fun e w' => e = .returned (.bool true) ∧ Chg none w w' := by
  obtain ⟨hc0, hc1⟩ := hc
  obtain ⟨hu0, hu1⟩ := hu
  have e1 : decide (300 < c) = false := by simp; omega
  have e2 : decide (300 < u) = false := by simp; omega
  have e3 : decide ((300 : Int) < (L.length : Int)) = false := by simp; omega
  go_enter Try.func4, Try.ntmps4
  go_wp2_with fail
  refine (new_yes c u _ (by omega) (by omega)).mono ?_
  rintro e w1 ⟨rfl, h1, g1⟩
  go_wp2_with fail
  have hz := Nat.le_refl w.heap.size
  have hzl := h1.lt
  go_loopw [8, 9] (fun s8 s9 wr => ∃ (k : Nat) (ran : Int) (t : T), (k : Int) ≤ c + u + 5 ∧ -1 ≤ ran ∧ ran ≤ 1000 ∧ s9 = .int .i64 k ∧ s8 = .int .i64 ran ∧
      TurnAt wr w.heap.size t ∧ Tick c u k t ran ∧ Chg none w wr) (fun _ s9 _ => (c + u + 5 - intOf s9).toNat)
  case atStart => exact ⟨0, -1, T.fresh c u, by omega, by omega, by omega, rfl, rfl, h1, T.fresh_tick c u (by omega) (by omega), g1⟩
  case round =>
    obtain ⟨k, ran, t, hk, hr0, hr1, rfl, rfl, ht, htk, hg⟩ := hrel
    have htl := ht.lt
    by_cases hlt : (k : Int) ≤ c + u + 4
    · go_upto_if 42 with fail
      go_cut [10] (fun s10 wx => s10 = .pointer (some ⟨wr.heap.size, 0, none⟩) ∧ ∃ f : F, Blk wx wr.heap.size f.parts 28 ∧ Chg none wr wx)
      case first =>
        by_cases hne : L = []
        · subst hne
          go_wp2_with fail
          go_meet
          exact ⟨rfl, ⟨false, false, false, false, false, false, false, false⟩, Blk.new wr _ _, (Chg.refl _ _).alloc _⟩
        · have hL : 0 < L.length := List.length_pos_iff.2 hne
          have hm : k % L.length < L.length := Nat.mod_lt _ hL
          have hx : L[k % L.length]? = some L[k % L.length] := List.getElem?_eq_getElem hm
          obtain ⟨ba, oa, hAe, hba, hca⟩ := hA.eight hne
          have hkeep := fun o => (hg.belowNone (Nat.le_refl _)).cell (p := ⟨ba, o, none⟩) hba
          obtain ⟨d0, d1, d2, d3, d4, d5, d6, d7⟩ := hca _ _ hx
          rw [← hkeep] at d0 d1 d2 d3 d4 d5 d6 d7
          generalize L[k % L.length] = f at *
          clear hx hca hA hkeep hne
          have hmI : ((k % L.length : Nat) : Int) = (k : Int) % (L.length : Int) := by omega
          subst hAe
          obtain ⟨f0, f1, f2, f3, f4, f5, f6, f7⟩ := f
          dsimp only at d0 d1 d2 d3 d4 d5 d6 d7
          have hba2 : ba < wr.heap.size := Nat.lt_of_lt_of_le hba hg.size
          have HM := Lib.hid hmI
          clear hmI
          go_wp2_with fail
          go_meet
          exact ⟨rfl, ⟨f0, f1, f2, f3, f4, f5, f6, f7⟩, Blk.new wr _ _, (Chg.refl _ _).alloc _⟩
      case rest =>
        obtain ⟨rfl, f, hf, hgx⟩ := hcut
        have hI64 : I64 (k : Int) := .mk (by omega) (by omega)
        have hO := step_out t k f htk.made
        have hcp := stepB_cap (t.begin k) k f
        have hok' := stepM_ok t k f htk.ok hI64
        obtain ⟨f0, f1, f2, f3, f4, f5, f6, f7⟩ := f
        obtain ⟨d0, d1, d2, d3, d4, d5, d6, d7⟩ := hf.all
        have HS : Hid (∀ W (_ : TurnAt W w.heap.size t), Calls Try.prog 10 #[.pointer (some ⟨w.heap.size, 0, none⟩), .int .i64 k, .agg #[.bool f0, .bool f1, .bool f2, .bool f3, .bool f4, .bool f5, .bool f6, .bool f7]] W
          (StepPost w.heap.size W (stepM t k ⟨f0, f1, f2, f3, f4, f5, f6, f7⟩))) := fun W h => step_any _ t k ⟨f0, f1, f2, f3, f4, f5, f6, f7⟩ W h htk.made htk.ok hI64
        change _ ∧ _ ∧ _ ∧ _ at hcp
        rw [show stepB (t.begin k) k ⟨f0, f1, f2, f3, f4, f5, f6, f7⟩ = stepM t k ⟨f0, f1, f2, f3, f4, f5, f6, f7⟩ from rfl, begin_cap, begin_bud, T.begin_begun] at hcp
        obtain ⟨hcp1, hcp2, hcp3, hcp4⟩ := hcp
        generalize stepM t k ⟨f0, f1, f2, f3, f4, f5, f6, f7⟩ = r at *
        obtain ⟨t', a⟩ := r
        dsimp only at hO hcp1 hcp2 hcp3 hcp4 hok'
        have HI : Hid (∀ ran', (ran' = if a = 3 ∧ ran < 0 then (k : Int) else ran) → Tick c u (k + 1) t' ran') :=
          fun ran' h => htk.next hc0 hu0 hO hcp1 hcp2 hok' hcp3 hcp4 h
        have hlow := fun h => (HI.out _ rfl).low hc0 hu0 h
        have hcs := htk.cases
        have hbne : some wr.heap.size ≠ some w.heap.size := by simp; omega
        have hbne2 : wr.heap.size ≠ w.heap.size := by omega
        clear hcp1 hcp2 hcp3 hcp4 hok' htk hI64
        by_cases hra : 0 ≤ ran
        · have hcs : (t.st = 3 ∨ t.st = 4) ∧ (t.st = 4 → t.ans = 4 ∨ t.ans = 5) := by omega
          cases hO with
          | over h1 h2 h3' =>
            have h4' := h2
            have ha : t.ans = 4 ∨ t.ans = 5 := hcs.2 h1
            clear hcs h1 h2 hlow
            generalize t.ans = z at *
            clear h3'
            rcases ha with rfl | rfl
            all_goals
              by_cases hl : (k : Int) ≥ c + u + 2
              all_goals
                as_aux_lemma =>
                  go_wp2_with fail
                  refine (HS.out _ (ht.chg hgx (by simp))).mono ?_
                  rintro e w3 ⟨rfl, h3, g3⟩
                  have kf := (hf.chg g3 hbne).boxed
                  obtain ⟨k0, k6, k7⟩ := kf
                  go_wp2_with fail
                  refine (over_true _ t' _ h3 h4').mono ?_
                  rintro e w4 ⟨rfl, rfl⟩
                  go_wp2_with fail
                  refine (over_true _ t' _ h3 h4').mono ?_
                  rintro e w4 ⟨rfl, rfl⟩
                  go_wp2_with fail
                  go_roundw
                  case rel => exact ⟨k + 1, _, t', by omega, by omega, by omega, by go_num, rfl, h3, HI.out _ (by first | (simp; done) | (simp; omega)), (hg.trans hgx).own g3 hz⟩
                  case measure => simp [intOf]; omega
          | done h1 h2 h3' =>
            have h4' := h2
            clear hcs h1 h2 h3' hlow
            by_cases hl : (k : Int) ≥ c + u + 2
            all_goals
              as_aux_lemma =>
                go_wp2_with fail
                refine (HS.out _ (ht.chg hgx (by simp))).mono ?_
                rintro e w3 ⟨rfl, h3, g3⟩
                have kf := (hf.chg g3 hbne).boxed
                obtain ⟨k0, k6, k7⟩ := kf
                go_wp2_with fail
                refine (over_true _ t' _ h3 h4').mono ?_
                rintro e w4 ⟨rfl, rfl⟩
                go_wp2_with fail
                refine (over_true _ t' _ h3 h4').mono ?_
                rintro e w4 ⟨rfl, rfl⟩
                go_wp2_with fail
                go_roundw
                case rel => exact ⟨k + 1, _, t', by omega, by omega, by omega, by go_num, rfl, h3, HI.out _ (by first | (simp; done) | (simp; omega)), (hg.trans hgx).own g3 hz⟩
                case measure => simp [intOf]; omega
          | wrong h1 h2 h3' =>
            have h4' := h2
            clear hcs h1 h2 h3' hlow
            by_cases hl : (k : Int) ≥ c + u + 2
            all_goals
              as_aux_lemma =>
                go_wp2_with fail
                refine (HS.out _ (ht.chg hgx (by simp))).mono ?_
                rintro e w3 ⟨rfl, h3, g3⟩
                have kf := (hf.chg g3 hbne).boxed
                obtain ⟨k0, k6, k7⟩ := kf
                go_wp2_with fail
                refine (over_true _ t' _ h3 h4').mono ?_
                rintro e w4 ⟨rfl, rfl⟩
                go_wp2_with fail
                refine (over_true _ t' _ h3 h4').mono ?_
                rintro e w4 ⟨rfl, rfl⟩
                go_wp2_with fail
                go_roundw
                case rel => exact ⟨k + 1, _, t', by omega, by omega, by omega, by go_num, rfl, h3, HI.out _ (by first | (simp; done) | (simp; omega)), (hg.trans hgx).own g3 hz⟩
                case measure => simp [intOf]; omega
          | runs h1 h2 h3' h5 h6 =>
            have hm' : t'.made := by unfold T.made; omega
            have h4' : t'.st ≠ 4 := by omega
            obtain rfl : f0 = false := h3'
            obtain rfl : f6 = false := h5
            obtain rfl : f7 = false := h6
            clear hcs h1 h2 hlow
            by_cases hl : (k : Int) ≥ c + u + 2
            all_goals
              as_aux_lemma =>
                go_wp2_with fail
                refine (HS.out _ (ht.chg hgx (by simp))).mono ?_
                rintro e w3 ⟨rfl, h3, g3⟩
                have kf := (hf.chg g3 hbne).boxed
                obtain ⟨k0, k6, k7⟩ := kf
                go_wp2_with fail
                refine (over_false _ t' _ h3 hm' h4').mono ?_
                rintro e w4 ⟨rfl, rfl⟩
                go_wp2_with fail
                refine (over_false _ t' _ h3 hm' h4').mono ?_
                rintro e w4 ⟨rfl, rfl⟩
                go_wp2_with fail
                go_roundw
                case rel => exact ⟨k + 1, _, t', by omega, by omega, by omega, by go_num, rfl, h3, HI.out _ (by first | (simp; done) | (simp; omega)), (hg.trans hgx).own g3 hz⟩
                case measure => simp [intOf]; omega
          | run h1 h2 => omega
          | goes h1 h2 _ _ => omega
          | fetch h1 h2 _ => omega
          | none _ h1 h2 _ _ => omega
        · obtain rfl : ran = -1 := by omega
          cases hO with
          | over h1 h2 h3' =>
            have h4' := h2
            have ha : t.ans = 4 ∨ t.ans = 5 := by omega
            clear hcs h1 h2 hlow
            generalize t.ans = z at *
            clear h3'
            rcases ha with rfl | rfl
            all_goals
              by_cases hl : (k : Int) ≥ c + u + 2
              all_goals
                as_aux_lemma =>
                  go_wp2_with fail
                  refine (HS.out _ (ht.chg hgx (by simp))).mono ?_
                  rintro e w3 ⟨rfl, h3, g3⟩
                  have kf := (hf.chg g3 hbne).boxed
                  obtain ⟨k0, k6, k7⟩ := kf
                  go_wp2_with fail
                  refine (over_true _ t' _ h3 h4').mono ?_
                  rintro e w4 ⟨rfl, rfl⟩
                  go_wp2_with fail
                  go_roundw
                  case rel => exact ⟨k + 1, _, t', by omega, by omega, by omega, by go_num, rfl, h3, HI.out _ (by first | (simp; done) | (simp; omega)), (hg.trans hgx).own g3 hz⟩
                  case measure => simp [intOf]; omega
          | done h1 h2 h3' =>
            have h4' := h2
            clear hcs h1 h2 h3' hlow
            by_cases hl : (k : Int) ≥ c + u + 2
            all_goals
              as_aux_lemma =>
                go_wp2_with fail
                refine (HS.out _ (ht.chg hgx (by simp))).mono ?_
                rintro e w3 ⟨rfl, h3, g3⟩
                have kf := (hf.chg g3 hbne).boxed
                obtain ⟨k0, k6, k7⟩ := kf
                go_wp2_with fail
                refine (over_true _ t' _ h3 h4').mono ?_
                rintro e w4 ⟨rfl, rfl⟩
                go_wp2_with fail
                go_roundw
                case rel => exact ⟨k + 1, _, t', by omega, by omega, by omega, by go_num, rfl, h3, HI.out _ (by first | (simp; done) | (simp; omega)), (hg.trans hgx).own g3 hz⟩
                case measure => simp [intOf]; omega
          | wrong h1 h2 h3' => omega
          | runs h1 h2 h3' h5 h6 => omega
          | run h1 h2 =>
            have hm' : t'.made := by unfold T.made; omega
            have h4' : t'.st ≠ 4 := by omega
            clear hcs h1 h2 hlow
            by_cases hl : (k : Int) ≥ c + u + 2
            all_goals
              as_aux_lemma =>
                go_wp2_with fail
                refine (HS.out _ (ht.chg hgx (by simp))).mono ?_
                rintro e w3 ⟨rfl, h3, g3⟩
                have kf := (hf.chg g3 hbne).boxed
                obtain ⟨k0, k6, k7⟩ := kf
                go_wp2_with fail
                refine (over_false _ t' _ h3 hm' h4').mono ?_
                rintro e w4 ⟨rfl, rfl⟩
                go_wp2_with fail
                go_roundw
                case rel => exact ⟨k + 1, _, t', by omega, by omega, by omega, by go_num, rfl, h3, HI.out _ (by first | (simp; done) | (simp; omega)), (hg.trans hgx).own g3 hz⟩
                case measure => simp [intOf]; omega
          | goes h1 h2 _ _ =>
            have hm' : t'.made := by unfold T.made; omega
            have h4' : t'.st ≠ 4 := by omega
            have hl := hlow (by omega)
            clear hcs h1 h2 hlow
            as_aux_lemma =>
              go_wp2_with fail
              refine (HS.out _ (ht.chg hgx (by simp))).mono ?_
              rintro e w3 ⟨rfl, h3, g3⟩
              have kf := (hf.chg g3 hbne).boxed
              obtain ⟨k0, k6, k7⟩ := kf
              go_wp2_with fail
              refine (over_false _ t' _ h3 hm' h4').mono ?_
              rintro e w4 ⟨rfl, rfl⟩
              go_wp2_with fail
              go_roundw
              case rel => exact ⟨k + 1, _, t', by omega, by omega, by omega, by go_num, rfl, h3, HI.out _ (by first | (simp; done) | (simp; omega)), (hg.trans hgx).own g3 hz⟩
              case measure => simp [intOf]; omega
          | fetch h1 h2 _ =>
            have hm' : t'.made := by unfold T.made; omega
            have h4' : t'.st ≠ 4 := by omega
            have hl := hlow (by omega)
            clear hcs h1 h2 hlow
            as_aux_lemma =>
              go_wp2_with fail
              refine (HS.out _ (ht.chg hgx (by simp))).mono ?_
              rintro e w3 ⟨rfl, h3, g3⟩
              have kf := (hf.chg g3 hbne).boxed
              obtain ⟨k0, k6, k7⟩ := kf
              go_wp2_with fail
              refine (over_false _ t' _ h3 hm' h4').mono ?_
              rintro e w4 ⟨rfl, rfl⟩
              go_wp2_with fail
              go_roundw
              case rel => exact ⟨k + 1, _, t', by omega, by omega, by omega, by go_num, rfl, h3, HI.out _ (by first | (simp; done) | (simp; omega)), (hg.trans hgx).own g3 hz⟩
              case measure => simp [intOf]; omega
          | none _ h1 h2 _ _ =>
            have hm' : t'.made := by unfold T.made; omega
            have h4' : t'.st ≠ 4 := by omega
            have hl := hlow (by omega)
            clear hcs h2 hlow
            rcases h1 with h1 | h1
            all_goals
              subst h1
              as_aux_lemma =>
                go_wp2_with fail
                refine (HS.out _ (ht.chg hgx (by simp))).mono ?_
                rintro e w3 ⟨rfl, h3, g3⟩
                have kf := (hf.chg g3 hbne).boxed
                obtain ⟨k0, k6, k7⟩ := kf
                go_wp2_with fail
                refine (over_false _ t' _ h3 hm' h4').mono ?_
                rintro e w4 ⟨rfl, rfl⟩
                go_wp2_with fail
                go_roundw
                case rel => exact ⟨k + 1, _, t', by omega, by omega, by omega, by go_num, rfl, h3, HI.out _ (by first | (simp; done) | (simp; omega)), (hg.trans hgx).own g3 hz⟩
                case measure => simp [intOf]; omega
    · have hke : (k : Int) = c + u + 5 := by omega
      have hcs : t.st = 3 ∨ t.st = 4 := by have := htk.cases; omega
      have hm := htk.made
      have hok := htk.ok
      have hI : I64 (c + u + 5) := .mk (by omega) (by omega)
      clear htk hke hA
      rcases hcs with hs | hs
      · have hne : t.st ≠ 4 := by omega
        have hstep := stepM_run t (c + u + 5) ⟨false, false, false, false, false, false, true, false⟩ hs rfl
        clear hs
        go_wp2_with fail
        refine (over_false _ t _ ht hm hne).mono ?_
        rintro e w2 ⟨rfl, rfl⟩
        go_wp2_with fail
        refine (step_lit _ t _ _ _ _ _ _ _ _ _ _ ht hm hok hI _ hstep).mono ?_
        rintro e w3 ⟨rfl, h3, g3⟩
        go_wp2_with fail
        refine (known_any _).mono ?_
        rintro e w4 ⟨rfl, g4⟩
        go_wp2_with fail
        go_ret
        exact ⟨rfl, (hg.own g3 hz).trans g4⟩
      · go_wp2_with fail
        refine (over_true _ t _ ht hs).mono ?_
        rintro e w2 ⟨rfl, rfl⟩
        clear hs
        go_wp2_with fail
        refine (known_any _).mono ?_
        rintro e w4 ⟨rfl, g4⟩
        go_wp2_with fail
        go_ret
        exact ⟨rfl, hg.trans g4⟩

end Go.Proofs.Ytcfpjlojknahlaa
