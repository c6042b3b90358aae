/-
  The law BuilderOnce: its walk.
-/
import Derived.Test.YtcfpjlojknahlaaS
import Derived.Test.YtcfpjlojknahlaaZ
import Derived.Test.YtcfpjlojknahlaaW
import Derived.Deep.DeepCutAuto
namespace Go.Proofs.Ytcfpjlojknahlaa
open Go.RowKit

structure Opn where
  by_ : Int
  f : F
instance : Inhabited F := ⟨⟨false, false, false, false, false, false, false, false⟩⟩
instance : Inhabited Opn := ⟨⟨0, default⟩⟩
def Opn.cells (o : Opn) : List Value := .int .i64 o.by_ :: o.f.parts.toList

theorem RowsAt.nine {w : World} {A : Option Addr} {L : List Opn} (h : RowsAt w 9 A Opn.cells L) (hne : L ≠ []) :
    ∃ b off, A = some ⟨b, off, none⟩ ∧ b < w.heap.size ∧ ∀ i o, L[i]? = some o →
      w.cell? ⟨b, off + i * 9, none⟩ = some (.int .i64 o.by_) ∧ w.cell? ⟨b, off + i * 9 + 1, none⟩ = some (.bool o.f.stored) ∧
      w.cell? ⟨b, off + i * 9 + 2, none⟩ = some (.bool o.f.heard) ∧ w.cell? ⟨b, off + i * 9 + 3, none⟩ = some (.bool o.f.lease) ∧
      w.cell? ⟨b, off + i * 9 + 4, none⟩ = some (.bool o.f.ready) ∧ w.cell? ⟨b, off + i * 9 + 5, none⟩ = some (.bool o.f.got) ∧
      w.cell? ⟨b, off + i * 9 + 6, none⟩ = some (.bool o.f.failed) ∧ w.cell? ⟨b, off + i * 9 + 7, none⟩ = some (.bool o.f.ran) ∧
      w.cell? ⟨b, off + i * 9 + 8, none⟩ = some (.bool o.f.wrong) := by
  obtain ⟨b, off, hA, hb, hc⟩ := h hne
  refine ⟨b, off, hA, hb, fun i o hi => ?_⟩
  have hh := hc i o hi
  refine ⟨?_, ?_, ?_, ?_, ?_, ?_, ?_, ?_, ?_⟩
  · exact hh 0 (by omega)
  · exact hh 1 (by omega)
  · exact hh 2 (by omega)
  · exact hh 3 (by omega)
  · exact hh 4 (by omega)
  · exact hh 5 (by omega)
  · exact hh 6 (by omega)
  · exact hh 7 (by omega)
  · exact hh 8 (by omega)

theorem T.fresh_inv (c u : Int) (hc : 0 ≤ c ∧ c ≤ 1000000) (hu : 0 ≤ u ∧ u ≤ 1000000) : Inv c u (T.fresh c u) 0 0 0 :=
  ⟨rfl, rfl, ok_small _ _ _ _ (by omega) _ _ _ _, fun h => (by cases h), Or.inl ⟨rfl, Or.inl rfl, by omega, by omega, fun _ => rfl⟩⟩

set_option maxRecDepth 100000 in
set_option maxHeartbeats 4000000 in
theorem once_main (c u : Int) (A : Option Addr) (L : List Opn) (ca : Nat) (w : World)
    (hc : 0 ≤ c ∧ c ≤ 1000000) (hu : 0 ≤ u ∧ u ≤ 1000000) (hn : L.length ≤ 200) (hA : RowsAt w 9 A Opn.cells L) :
    Calls Try.prog 5 #[.int .i64 c, .int .i64 u, .slice A L.length ca] w fun e w' => e = .returned (.bool true) ∧ Chg none w w' := by
  obtain ⟨hc0, hc1⟩ := hc
  have e2 : decide ((200 : Int) < (L.length : Int)) = false := by simp; omega
  go_enter Try.func5, Try.ntmps5
  go_wp2_with fail
  refine (new_yes c u _ (by omega) hu).mono ?_
  rintro e w1 ⟨rfl, h1, g1⟩
  go_wp2_with fail
  have hz := Nat.le_refl w.heap.size
  have hzl := h1.lt
  go_loopw [8, 9, 10, 11, 30] (fun s8 s9 s10 s11 s30 wr => ∃ (k : Nat) (now first fs last : Int) (t : T), k ≤ L.length ∧ 0 ≤ now ∧ now ≤ 1000 * k ∧ 0 ≤ first ∧ first ≤ 1000 * k ∧
      s30 = .int .i64 k ∧ s8 = .int .i64 now ∧ s9 = .int .i64 first ∧ s10 = .int .i64 fs ∧ s11 = .int .u8 last ∧
      TurnAt wr w.heap.size t ∧ Inv c u t first last fs ∧ t.begun = decide (0 < k) ∧ Chg none w wr) (fun _ _ _ _ s30 _ => L.length - (intOf s30).toNat)
  case atStart => exact ⟨0, 0, 0, 0, 0, T.fresh c u, by omega, by omega, by omega, by omega, by omega, rfl, rfl, rfl, rfl, rfl, h1, T.fresh_inv c u (by omega) hu, rfl, g1⟩
  case round =>
    obtain ⟨k, now, first, fs, last, t, hk, hn0, hn1, hf0, hf1, rfl, rfl, rfl, rfl, rfl, ht, hinv, hbg, hg⟩ := hrel
    by_cases hlt : k < L.length
    · have hx : L[k]? = some L[k] := List.getElem?_eq_getElem hlt
      obtain ⟨ba, oa, hAe, hba, hca⟩ := hA.nine (by intro h; rw [h, List.length_nil] at hlt; omega)
      have hkeep := fun o => (hg.belowNone (Nat.le_refl _)).cell (p := ⟨ba, o, none⟩) hba
      obtain ⟨d0, d1, d2, d3, d4, d5, d6, d7, d8⟩ := hca k _ hx
      rw [← hkeep] at d0 d1 d2 d3 d4 d5 d6 d7 d8
      generalize L[k] = o at *
      clear hx hca hA hkeep
      subst hAe
      obtain ⟨x, f0, f1, f2, f3, f4, f5, f6, f7⟩ := o
      dsimp only at d0 d1 d2 d3 d4 d5 d6 d7 d8
      obtain ⟨y, hy1, hy2⟩ : ∃ y : Int, Hid ((if x < 0 then 0 else x) = y) ∧ 0 ≤ y := ⟨_, rfl, by split <;> omega⟩
      obtain ⟨z, hz1, hz2, hz3⟩ : ∃ z : Int, Hid ((if 1000 < y then 1000 else y) = z) ∧ 0 ≤ z ∧ z ≤ 1000 := ⟨_, rfl, by split <;> omega, by split <;> omega⟩
      go_upto_if 43 with fail
      rw [hy1.out, hz1.out]
      go_cut [9] (fun s9 wx => ∃ first' : Int, s9 = .int .i64 first' ∧ ((k = 0 ∧ first' = now + z) ∨ (0 < k ∧ first' = first)) ∧ wx = wr)
      case first =>
        by_cases hk0 : k = 0
        · have hkb : ((k : Int) == 0) = true := by rw [hk0]; rfl
          have HK := Lib.hid hk0
          clear hk0
          go_wp2_with fail
          go_meet
          exact ⟨_, rfl, Or.inl ⟨HK.out, rfl⟩, rfl⟩
        · have hkb : ((k : Int) == 0) = false := by rw [beq_eq_false_iff_ne]; omega
          go_wp2_with fail
          go_meet
          exact ⟨_, rfl, Or.inr ⟨by omega, rfl⟩, rfl⟩
      case rest =>
        obtain ⟨first', rfl, hfir, rfl⟩ := hcut
        have hI64 : I64 (now + z) := .mk (by omega) (by omega)
        have hfst : (t.begin (now + z)).first = first' := by
          rw [begin_first, hbg]
          rcases hfir with ⟨h, h'⟩ | ⟨h, h'⟩
          · rw [if_neg (by simp; omega)]; exact h'.symm
          · rw [if_pos (by simpa using h), hinv.fst (by rw [hbg]; simpa using h)]; exact h'.symm
        have hW := step_why t (now + z) ⟨f0, f1, f2, f3, f4, f5, f6, f7⟩ last (first' + c ≤ now + z) hinv.made
          (fun h => by have := hinv.cases; omega) (fun h => by rw [hfst, hinv.cap] at h; exact pastB_late h hc0)
        have hcp := stepB_cap (t.begin (now + z)) (now + z) ⟨f0, f1, f2, f3, f4, f5, f6, f7⟩
        have hok' := stepM_ok t (now + z) ⟨f0, f1, f2, f3, f4, f5, f6, f7⟩ hinv.ok hI64
        have HS : Hid (∀ W (_ : TurnAt W w.heap.size t), Calls Try.prog 10 #[.pointer (some ⟨w.heap.size, 0, none⟩), .int .i64 (now + z), .agg #[.bool f0, .bool f1, .bool f2, .bool f3, .bool f4, .bool f5, .bool f6, .bool f7]] W
          (StepPost w.heap.size W (stepM t (now + z) ⟨f0, f1, f2, f3, f4, f5, f6, f7⟩))) := fun W h => step_any _ t (now + z) ⟨f0, f1, f2, f3, f4, f5, f6, f7⟩ W h hinv.made hinv.ok hI64
        change _ ∧ _ ∧ _ ∧ _ at hcp
        rw [show stepB (t.begin (now + z)) (now + z) ⟨f0, f1, f2, f3, f4, f5, f6, f7⟩ = stepM t (now + z) ⟨f0, f1, f2, f3, f4, f5, f6, f7⟩ from rfl, begin_cap, begin_bud, hfst, T.begin_begun] at hcp
        obtain ⟨hcp1, hcp2, hcp3, hcp4⟩ := hcp
        generalize stepM t (now + z) ⟨f0, f1, f2, f3, f4, f5, f6, f7⟩ = r at *
        obtain ⟨t', a⟩ := r
        dsimp only at hW hcp1 hcp2 hcp3 hcp4 hok'
        have HI : Hid (∀ fs', (fs' = if a = 2 ∧ last ≠ 2 then fs + 1 else fs) → Inv c u t' first' a fs') := fun fs' h => hinv.next hW hcp1 hcp2 hok' hcp3 h
        have HB := Lib.hid hcp4
        have hmade := hinv.made
        have hcs := hinv.cases
        have hfb : 0 ≤ first' ∧ first' ≤ 1000 * k + 1000 := by omega
        clear hfst hfir hcp1 hcp2 hcp3 hcp4 hok' hinv hbg
        have hbne : some ba ≠ some w.heap.size := by simp; omega
        by_cases h4 : t.st = 4
        · rcases hcs with ⟨hs, _⟩ | ⟨hs, _⟩ | ⟨hs, _⟩ | ⟨hs, _, hl | hl, hfs0, hfs1⟩
          · omega
          · omega
          · omega
          all_goals
            subst hl
            clear hs
            cases hW with
            | over _ _ _ _ =>
              as_aux_lemma =>
                go_wp2_with fail
                refine (over_true _ t _ ht h4).mono ?_
                rintro e w2 ⟨rfl, rfl⟩
                go_wp2_with fail
                refine (HS.out _ ht).mono ?_
                rintro e w3 ⟨rfl, h3, g3⟩
                have k1 := World.grownBy.cell g3 d1 hbne
                have k4 := World.grownBy.cell g3 d4 hbne
                have k7 := World.grownBy.cell g3 d7 hbne
                have k8 := World.grownBy.cell g3 d8 hbne
                go_wp2_with fail
                go_roundw
                case rel => exact ⟨k + 1, _, _, _, _, t', by omega, by omega, by omega, by omega, by omega, by go_num, rfl, rfl, rfl, rfl, h3, HI.out _ (by first | (simp; done) | (simp; omega)), by rw [HB.out]; simp, hg.own g3 hz⟩
                case measure => simp [intOf]; omega
            | done h => exact absurd h4 h
            | wrong h => omega
            | runs h => omega
            | run h => exact absurd h4 h
            | goes h => omega
            | fetch h => omega
            | none _ _ _ _ _ h => exact absurd h4 h
        · rcases hcs with ⟨hs, hl | hl, hfs0, hfs1, hf0'⟩ | ⟨hs, hl, hfs⟩ | ⟨hs, hl, hfs0, hfs1⟩ | ⟨hs, _⟩
          rotate_left 4
          · omega
          all_goals
            subst hl
            cases hW with
            | over h => exact absurd h h4
            | done _ h5 =>
              clear hs
              cases f0
              · have h6 : f6 = true := by simpa using h5
                subst h6
                clear h5
                as_aux_lemma =>
                  go_wp2_with fail
                  refine (over_false _ t _ ht hmade h4).mono ?_
                  rintro e w2 ⟨rfl, rfl⟩
                  go_wp2_with fail
                  refine (HS.out _ ht).mono ?_
                  rintro e w3 ⟨rfl, h3, g3⟩
                  have k1 := World.grownBy.cell g3 d1 hbne
                  have k4 := World.grownBy.cell g3 d4 hbne
                  have k7 := World.grownBy.cell g3 d7 hbne
                  have k8 := World.grownBy.cell g3 d8 hbne
                  go_wp2_with fail
                  go_roundw
                  case rel => exact ⟨k + 1, _, _, _, _, t', by omega, by omega, by omega, by omega, by omega, by go_num, rfl, rfl, rfl, rfl, h3, HI.out _ (by first | (simp; done) | (simp; omega)), by rw [HB.out]; simp, hg.own g3 hz⟩
                  case measure => simp [intOf]; omega
              · clear h5
                as_aux_lemma =>
                  go_wp2_with fail
                  refine (over_false _ t _ ht hmade h4).mono ?_
                  rintro e w2 ⟨rfl, rfl⟩
                  go_wp2_with fail
                  refine (HS.out _ ht).mono ?_
                  rintro e w3 ⟨rfl, h3, g3⟩
                  have k1 := World.grownBy.cell g3 d1 hbne
                  have k4 := World.grownBy.cell g3 d4 hbne
                  have k7 := World.grownBy.cell g3 d7 hbne
                  have k8 := World.grownBy.cell g3 d8 hbne
                  go_wp2_with fail
                  go_roundw
                  case rel => exact ⟨k + 1, _, _, _, _, t', by omega, by omega, by omega, by omega, by omega, by go_num, rfl, rfl, rfl, rfl, h3, HI.out _ (by first | (simp; done) | (simp; omega)), by rw [HB.out]; simp, hg.own g3 hz⟩
                  case measure => simp [intOf]; omega
            | wrong h h5 =>
              have h6 : f7 = true := h5
              subst h6
              clear h5 h hs
              as_aux_lemma =>
                go_wp2_with fail
                refine (over_false _ t _ ht hmade h4).mono ?_
                rintro e w2 ⟨rfl, rfl⟩
                go_wp2_with fail
                refine (HS.out _ ht).mono ?_
                rintro e w3 ⟨rfl, h3, g3⟩
                have k1 := World.grownBy.cell g3 d1 hbne
                have k4 := World.grownBy.cell g3 d4 hbne
                have k7 := World.grownBy.cell g3 d7 hbne
                have k8 := World.grownBy.cell g3 d8 hbne
                go_wp2_with fail
                go_roundw
                case rel => exact ⟨k + 1, _, _, _, _, t', by omega, by omega, by omega, by omega, by omega, by go_num, rfl, rfl, rfl, rfl, h3, HI.out _ (by first | (simp; done) | (simp; omega)), by rw [HB.out]; simp, hg.own g3 hz⟩
                case measure => simp [intOf]; omega
            | runs h =>
              first
                | (exfalso; omega)
                | (clear h hs
                   as_aux_lemma =>
                     go_wp2_with fail
                     refine (over_false _ t _ ht hmade h4).mono ?_
                     rintro e w2 ⟨rfl, rfl⟩
                     go_wp2_with fail
                     refine (HS.out _ ht).mono ?_
                     rintro e w3 ⟨rfl, h3, g3⟩
                     have k1 := World.grownBy.cell g3 d1 hbne
                     have k4 := World.grownBy.cell g3 d4 hbne
                     have k7 := World.grownBy.cell g3 d7 hbne
                     have k8 := World.grownBy.cell g3 d8 hbne
                     go_wp2_with fail
                     go_roundw
                     case rel => exact ⟨k + 1, _, _, _, _, t', by omega, by omega, by omega, by omega, by omega, by go_num, rfl, rfl, rfl, rfl, h3, HI.out _ (by first | (simp; done) | (simp; omega)), by rw [HB.out]; simp, hg.own g3 hz⟩
                     case measure => simp [intOf]; omega)
            | run _ h5 =>
              clear hs
              cases f3
              · have h6 : first' + c ≤ now + z := by simpa using h5
                clear h5
                as_aux_lemma =>
                  go_wp2_with fail
                  refine (over_false _ t _ ht hmade h4).mono ?_
                  rintro e w2 ⟨rfl, rfl⟩
                  go_wp2_with fail
                  refine (HS.out _ ht).mono ?_
                  rintro e w3 ⟨rfl, h3, g3⟩
                  have k1 := World.grownBy.cell g3 d1 hbne
                  have k4 := World.grownBy.cell g3 d4 hbne
                  have k7 := World.grownBy.cell g3 d7 hbne
                  have k8 := World.grownBy.cell g3 d8 hbne
                  go_wp2_with fail
                  go_roundw
                  case rel => exact ⟨k + 1, _, _, _, _, t', by omega, by omega, by omega, by omega, by omega, by go_num, rfl, rfl, rfl, rfl, h3, HI.out _ (by first | (simp; done) | (simp; omega)), by rw [HB.out]; simp, hg.own g3 hz⟩
                  case measure => simp [intOf]; omega
              · clear h5
                as_aux_lemma =>
                  go_wp2_with fail
                  refine (over_false _ t _ ht hmade h4).mono ?_
                  rintro e w2 ⟨rfl, rfl⟩
                  go_wp2_with fail
                  refine (HS.out _ ht).mono ?_
                  rintro e w3 ⟨rfl, h3, g3⟩
                  have k1 := World.grownBy.cell g3 d1 hbne
                  have k4 := World.grownBy.cell g3 d4 hbne
                  have k7 := World.grownBy.cell g3 d7 hbne
                  have k8 := World.grownBy.cell g3 d8 hbne
                  go_wp2_with fail
                  go_roundw
                  case rel => exact ⟨k + 1, _, _, _, _, t', by omega, by omega, by omega, by omega, by omega, by go_num, rfl, rfl, rfl, rfl, h3, HI.out _ (by first | (simp; done) | (simp; omega)), by rw [HB.out]; simp, hg.own g3 hz⟩
                  case measure => simp [intOf]; omega
            | goes h =>
              first
                | (exfalso; omega)
                | (clear h hs
                   as_aux_lemma =>
                     go_wp2_with fail
                     refine (over_false _ t _ ht hmade h4).mono ?_
                     rintro e w2 ⟨rfl, rfl⟩
                     go_wp2_with fail
                     refine (HS.out _ ht).mono ?_
                     rintro e w3 ⟨rfl, h3, g3⟩
                     have k1 := World.grownBy.cell g3 d1 hbne
                     have k4 := World.grownBy.cell g3 d4 hbne
                     have k7 := World.grownBy.cell g3 d7 hbne
                     have k8 := World.grownBy.cell g3 d8 hbne
                     go_wp2_with fail
                     go_roundw
                     case rel => exact ⟨k + 1, _, _, _, _, t', by omega, by omega, by omega, by omega, by omega, by go_num, rfl, rfl, rfl, rfl, h3, HI.out _ (by first | (simp; done) | (simp; omega)), by rw [HB.out]; simp, hg.own g3 hz⟩
                     case measure => simp [intOf]; omega)
            | fetch h h5 =>
              first
                | (exfalso; omega)
                | (obtain rfl : fs = 0 := hf0' h5
                   clear h h5 hs hf0'
                   as_aux_lemma =>
                     go_wp2_with fail
                     refine (over_false _ t _ ht hmade h4).mono ?_
                     rintro e w2 ⟨rfl, rfl⟩
                     go_wp2_with fail
                     refine (HS.out _ ht).mono ?_
                     rintro e w3 ⟨rfl, h3, g3⟩
                     have k1 := World.grownBy.cell g3 d1 hbne
                     have k4 := World.grownBy.cell g3 d4 hbne
                     have k7 := World.grownBy.cell g3 d7 hbne
                     have k8 := World.grownBy.cell g3 d8 hbne
                     go_wp2_with fail
                     go_roundw
                     case rel => exact ⟨k + 1, _, _, _, _, t', by omega, by omega, by omega, by omega, by omega, by go_num, rfl, rfl, rfl, rfl, h3, HI.out _ (by first | (simp; done) | (simp; omega)), by rw [HB.out]; simp, hg.own g3 hz⟩
                     case measure => simp [intOf]; omega)
            | none _ h5 =>
              clear hs
              rcases h5 with h5 | h5
              all_goals
                subst h5
                as_aux_lemma =>
                  go_wp2_with fail
                  refine (over_false _ t _ ht hmade h4).mono ?_
                  rintro e w2 ⟨rfl, rfl⟩
                  go_wp2_with fail
                  refine (HS.out _ ht).mono ?_
                  rintro e w3 ⟨rfl, h3, g3⟩
                  have k1 := World.grownBy.cell g3 d1 hbne
                  have k4 := World.grownBy.cell g3 d4 hbne
                  have k7 := World.grownBy.cell g3 d7 hbne
                  have k8 := World.grownBy.cell g3 d8 hbne
                  go_wp2_with fail
                  go_roundw
                  case rel => exact ⟨k + 1, _, _, _, _, t', by omega, by omega, by omega, by omega, by omega, by go_num, rfl, rfl, rfl, rfl, h3, HI.out _ (by first | (simp; done) | (simp; omega)), by rw [HB.out]; simp, hg.own g3 hz⟩
                  case measure => simp [intOf]; omega
    · clear hA
      go_wp2_with fail
      refine (step_zero_lit _ 1 _ _ _ _ _ _ _ _ _ (Blk.new wr _ _)).mono ?_
      rintro e w2 ⟨rfl, rfl⟩
      go_wp2_with fail
      refine (step_nil_lit 1 _ _ _ _ _ _ _ _ _).mono ?_
      rintro e w2 ⟨rfl, rfl⟩
      go_wp2_with fail
      refine (over_zero _ ⟨0, 0, 0, false, 0, false, 0, 0⟩ _ (((Blk.new wr _ _).alloc _).alloc _) rfl).mono ?_
      rintro e w2 ⟨rfl, rfl⟩
      go_wp2_with fail
      refine (over_nil _).mono ?_
      rintro e w2 ⟨rfl, rfl⟩
      go_wp2_with fail
      refine (known_any _).mono ?_
      rintro e w3 ⟨rfl, g3⟩
      go_wp2_with fail
      go_ret
      exact ⟨rfl, Chg.trans (((hg.alloc _).alloc _).alloc _) g3⟩

end Go.Proofs.Ytcfpjlojknahlaa
