/-
  The law DiskPlays: its walk.
-/
import Derived.Test.YtbgofhbanhanfaaPair
import Derived.Test.YtbgofhbanhanfaaLasts
import Derived.Deep.Cut
import Derived.Deep.CutBlock
import Derived.Deep.DeepCutAuto
namespace Go.Proofs.Ytbgofhbanhanfaa
open Go.RowKit

theorem OpS.five {B : Nat} {o : Opn} {w' : World} (h : OpS B o w') : w'.cell? ⟨B, 0, none⟩ = some (.int .i64 o.kind) ∧ w'.cell? ⟨B, 1, none⟩ = some (.int .i64 o.f) ∧ w'.cell? ⟨B, 2, none⟩ = some (.slice o.A o.bs.length o.c) ∧ w'.cell? ⟨B, 3, none⟩ = some (.int .i64 o.k0) ∧ w'.cell? ⟨B, 4, none⟩ = some (.int .i64 o.k1) := by
  refine ⟨?_, ?_, ?_, ?_, ?_⟩ <;> (rw [Blk.cell h]; rfl)

theorem has_is (k : Int) (b : Bool) (hb : b = decide (0 ≤ k ∧ k < 2)) (w : World) : Calls Try.prog 10 #[.int .i64 k] w fun e w' => e = .returned (.bool b) ∧ w = w' := by
  subst hb
  by_cases hk : 0 ≤ k ∧ k < 2
  · obtain ⟨n, rfl⟩ : ∃ n : Nat, k = n := ⟨k.toNat, by omega⟩
    rw [decide_eq_true hk]
    exact has_yes n (by omega) w
  · rw [decide_eq_false hk]
    exact has_no k hk w

theorem zero_ref (w : World) (b : Nat) (h : Blk w b #[.slice none 0 0, .slice none 0 0, .int .i64 0, .int .i64 0] 30) : RefAt w b [zeroFile, zeroFile] :=
  ⟨h, rfl, fun f hf => by simp at hf; rw [hf]; exact zeroFile_ok _ _⟩

theorem Pair.first {w w1 w2 : World} {B R : Nat} (r : DRel w B [zeroFile, zeroFile] w1) (g : Chg none w1 w2) (hR : w1.heap.size = R) (h : Blk w2 R #[.slice none 0 0, .slice none 0 0, .int .i64 0, .int .i64 0] 30) :
    Pair w B R [zeroFile, zeroFile] [zeroFile, zeroFile] w2 :=
  ⟨r.more g, zero_ref _ _ h, fun g' hg => by rw [zero_foot hg, ← hR]; exact r.chg.size, fun g' hg hc => by have := r.disk.footLt g' hg; rw [zero_foot hc] at this; omega⟩

def fOf (f : Int) : Int := if 0 ≤ f ∧ f < 2 then 0 else 2

set_option maxRecDepth 100000 in
set_option maxHeartbeats 8000000 in
theorem plays_main (A : Option Addr) (L : List Opn) (ca : Nat) (w : World) (hl : L.length ≤ 100) (hA : RowsAt w 5 A Opn.cells L) (hL : ∀ o ∈ L, o.okIn w ∧ o.bs.length ≤ 1048576) :
    Calls Try.prog 3 #[.slice A L.length ca] w fun e w' => e = .returned (.bool true) ∧ Chg none w w' := by
  have e1 : decide ((100 : Int) < (L.length : Int)) = false := by simp; omega
  go_enter Try.func3, Try.ntmps3
  go_wp2_with fail
  refine (new_rel _).mono ?_
  rintro e w1 ⟨rfl, r1⟩
  have hp0 := Pair.first r1 ((Chg.refl _ _).alloc _) rfl (Blk.new w1 #[.slice none 0 0, .slice none 0 0, .int .i64 0, .int .i64 0] 30)
  clear r1
  go_wp2_with fail
  generalize (w1.alloc (.cells #[.slice none 0 0, .slice none 0 0, .int .i64 0, .int .i64 0] 30)) = w2 at *
  generalize w1.heap.size = R at *
  have ha0 : Alk w R (.pointer (some ⟨w.heap.size, 0, none⟩)) w2 := ⟨_, _, _, rfl, hp0, rfl⟩
  clear hp0
  generalize w.heap.size = B0 at *
  go_loopw [3, 5, 34] (fun s3 s5 s34 wr => ∃ k g : Nat, k ≤ L.length ∧ g ≤ 2 ∧ s34 = .int .i64 k ∧ s5 = .int .i64 g ∧ Alk w R s3 wr) (fun _ _ s34 _ => L.length - (intOf s34).toNat)
  case atStart => exact ⟨0, 0, by omega, by omega, rfl, rfl, ha0⟩
  case round =>
    obtain ⟨k, gr, hk, hg2, rfl, rfl, B, fs, fr, rfl, hp, hsame⟩ := hrel
    clear ha0
    by_cases hlt : k < L.length
    · have hxk : L[k]? = some L[k] := List.getElem?_eq_getElem hlt
      have hok := (hL L[k] (List.getElem_mem hlt)).1
      have hbl := (hL L[k] (List.getElem_mem hlt)).2
      obtain ⟨ba, oa, hAe, hba, hca⟩ := hA.five (by intro h; rw [h, List.length_nil] at hlt; omega)
      obtain ⟨d0, d1, d2, d3, d4⟩ := hca k _ hxk
      have hrc := hp.d.chg
      have c0 := World.grownBy.cell hrc d0 (by simp)
      have c1 := World.grownBy.cell hrc d1 (by simp)
      have c2 := World.grownBy.cell hrc d2 (by simp)
      have c3 := World.grownBy.cell hrc d3 (by simp)
      have c4 := World.grownBy.cell hrc d4 (by simp)
      have hba2 := Nat.lt_of_lt_of_le hba hrc.size
      have HRI := Lib.hid hok.reads
      have HCW := Lib.hid hrc
      have hrd := (hok.reads.below (hrc.belowNone (Nat.le_refl _))).more hrc.size
      have hsq := hrc.size
      generalize L[k] = o at *
      obtain ⟨kind, f, Ao, bs, c, k0, k1⟩ := o
      dsimp only at c0 c1 c2 c3 c4 hrd hbl HRI
      have hp2 := hp.chg ((Chg.refl none wr).alloc (.cells #[.int .i64 kind, .int .i64 f, .slice Ao bs.length c, .int .i64 k0, .int .i64 k1] 33))
      have hrd2 := hrd.alloc (Nat.le_refl _) (.cells #[.int .i64 kind, .int .i64 f, .slice Ao bs.length c, .int .i64 k0, .int .i64 k1] 33)
      have hop : OpS wr.heap.size ⟨kind, f, Ao, bs, c, k0, k1⟩ (wr.alloc (.cells #[.int .i64 kind, .int .i64 f, .slice Ao bs.length c, .int .i64 k0, .int .i64 k1] 33)) := Blk.new _ _ _
      have hnB : ¬ foot B fs wr.heap.size := fun hc => absurd (hp.d.disk.footLt _ hc) (by omega)
      have hnR : wr.heap.size ≠ R := fun e => by have := hp.r.footLt R (.inl rfl); omega
      have hsz2 : wr.heap.size < (wr.alloc (.cells #[.int .i64 kind, .int .i64 f, .slice Ao bs.length c, .int .i64 k0, .int .i64 k1] 33)).heap.size := by simp
      have hRB : R ≠ B := fun e => hp.apart B (.inl rfl) (.inl e.symm)
      subst hAe
      clear hxk d0 d1 d2 d3 d4 hca hok hrd hp hrc
      have HR := Lib.hid hrd2
      have HOP := Lib.hid hop
      have HP := Lib.hid hp2
      clear hrd2 hop hp2
      obtain ⟨b0, hb0⟩ : ∃ b0 : Bool, b0 = decide (0 ≤ f ∧ f < 2) := ⟨_, rfl⟩
      have HB0 := Lib.hid hb0
      clear hb0
      go_wp2_with fail
      refine (has_is f b0 HB0.out _).mono ?_
      rintro e w5 ⟨rfl, hw5⟩
      subst hw5
      have hp := HP.out
      have hop := HOP.out
      clear c0 c1 c2 c3 c4 HP HOP hba hba2 hsq hA hL
      generalize (wr.alloc (.cells #[.int .i64 kind, .int .i64 f, .slice Ao bs.length c, .int .i64 k0, .int .i64 k1] 33)) = w5 at *
      generalize wr.heap.size = b5 at *
      have hx := hop.five
      dsimp only at hx
      obtain ⟨x0, x1, x2, x3, x4⟩ := hx
      go_upto_if 41 with fail
      go_cut [9] (fun s9 wx => s9 = .int .i64 (fOf f) ∧ wx = w5)
      case first =>
        cases b0 with
        | true =>
          have hf : 0 ≤ f ∧ f < 2 := of_decide_eq_true HB0.out.symm
          go_wp2_with fail
          go_meet
          exact ⟨by unfold fOf; rw [if_pos hf], rfl⟩
        | false =>
          have hf : ¬ (0 ≤ f ∧ f < 2) := of_decide_eq_false HB0.out.symm
          go_wp2_with fail
          go_meet
          exact ⟨by unfold fOf; rw [if_neg hf], rfl⟩
      case rest =>
        obtain ⟨rfl, rfl⟩ := hcut
        by_cases hbig : kind = 1 ∧ 1000 < bs.length
        · obtain ⟨rfl, hbb⟩ := hbig
          have b1 : decide ((1000 : Int) < (bs.length : Int)) = true := by simp; omega
          have hz : Alk w R (.pointer (some ⟨B, 0, none⟩)) wc := ⟨_, _, _, rfl, hp, hsame⟩
          go_wp2_with fail
          go_roundw
          case rel => exact ⟨k + 1, gr, by omega, hg2, by go_num, rfl, hz⟩
          case measure => simp [intOf]; omega
        · go_upto_block 2 with fail
          go_cut [3, 5, 8, 9, 10, 11, 12, 13] (fun s3 s5 s8 s9 s10 s11 s12 s13 wx => (∃ g : Nat, g ≤ 2 ∧ s5 = .int .i64 g) ∧ (∃ e : Int, s8 = .int .i64 e ∧ s9 = .int .i64 e) ∧ Alk w R s3 wx)
          case first =>
            have hz0 : Alk w R (.pointer (some ⟨B, 0, none⟩)) wc := ⟨_, _, _, rfl, hp, hsame⟩
            by_cases q1 : kind = 1 ∨ kind = 6
            · as_aux_lemma =>
                obtain ⟨w5, rfl⟩ : ∃ w5 : World, w5 = wc := ⟨_, rfl⟩
                go_upto_if 44 with fail
                go_cut [44] (fun s44 wx => s44 = .bool true ∧ wx = w5)
                case first =>
                  by_cases r : kind = 1
                  · as_aux_lemma =>
                      have r1 : (kind == 1) = true := by simp [r]
                      go_wp2_with fail
                      go_meet
                      exact ⟨by rw [r1], rfl⟩
                  · as_aux_lemma =>
                      have r1 : (kind == 1) = false := by simp [r]
                      have r6 : (kind == 6) = true := by simp; omega
                      go_wp2_with fail
                      go_meet
                      exact ⟨rfl, rfl⟩
                case rest =>
                obtain ⟨rfl, rfl⟩ := hcut
                obtain ⟨w5, rfl⟩ : ∃ w5 : World, w5 = wc := ⟨_, rfl⟩
                go_upto_region 16 with fail
                have hrw : ∀ W', Kept (foot B fs) w5 W' → Reads W' W'.heap.size 1 Ao bs.length (byteVals bs) := fun W' hk => by
                  have g : Chg none w W' := hp.d.chg.kept hk hp.d.own
                  exact (HRI.out.below (g.belowNone (Nat.le_refl _))).more g.size
                have HRW := Lib.hid hrw
                have hfl5 := hp.d.disk.footLt
                have HFL := Lib.hid hfl5
                clear hrw hfl5
                go_cut [67] (fun s67 wx => (∃ q : Bool, s67 = .bool q ∧ (q = true → ¬ kind = 1 ∧ 0 ≤ k0 ∧ k0 ≤ 1048577 ∧ gr < 2)) ∧ wx = w5)
                case first =>
                  by_cases r : kind = 1
                  · as_aux_lemma =>
                      have r6 : (kind == 6) = false := by simp; omega
                      go_wp2_with fail
                      go_meet
                      exact ⟨⟨false, rfl, fun h => by cases h⟩, rfl⟩
                  · have r6 : (kind == 6) = true := by simp; omega
                    by_cases a1 : 0 ≤ k0
                    · have p1 : decide ((0 : Int) ≤ k0) = true := by simpa using a1
                      by_cases a2 : k0 ≤ 1048577
                      · have p2 : decide (k0 ≤ (1048577 : Int)) = true := by simpa using a2
                        by_cases a3 : gr < 2
                        · as_aux_lemma =>
                            have p3 : decide ((gr : Int) < 2) = true := by simp; omega
                            go_wp2_with fail
                            go_meet
                            exact ⟨⟨true, rfl, fun _ => ⟨r, a1, a2, a3⟩⟩, rfl⟩
                        · as_aux_lemma =>
                            have p3 : decide ((gr : Int) < 2) = false := by simp; omega
                            go_wp2_with fail
                            go_meet
                            exact ⟨⟨false, rfl, fun h => by cases h⟩, rfl⟩
                      · as_aux_lemma =>
                          have p2 : decide (k0 ≤ (1048577 : Int)) = false := by simp; omega
                          go_wp2_with fail
                          go_meet
                          exact ⟨⟨false, rfl, fun h => by cases h⟩, rfl⟩
                    · as_aux_lemma =>
                        have p1 : decide ((0 : Int) ≤ k0) = false := by simp; omega
                        go_wp2_with fail
                        go_meet
                        exact ⟨⟨false, rfl, fun h => by cases h⟩, rfl⟩
                case rest =>
                obtain ⟨⟨q, rfl, hq⟩, hwe⟩ := hcut
                subst hwe
                obtain ⟨w5, rfl⟩ : ∃ w5 : World, w5 = wc := ⟨_, rfl⟩
                have HQ := Lib.hid hq
                clear hq
                go_upto_if 67 with fail
                go_cut [5, 10] (fun s5 s10 wx => (∃ g : Nat, g ≤ 2 ∧ s5 = .int .i64 g) ∧ ∃ (A1 : Option Addr) (b1 : List UInt8) (c1 : Nat), s10 = .slice A1 b1.length c1 ∧ b1.length ≤ 1048577 ∧ (kind = 1 → b1.length ≤ 1000) ∧ Chg none w5 wx ∧ (∀ W', Kept (foot B fs) wx W' → Reads W' W'.heap.size 1 A1 b1.length (byteVals b1)))
                case first =>
                  cases q with
                  | false =>
                    go_wp2_with fail
                    go_meet
                    exact ⟨⟨gr, hg2, rfl⟩, Ao, bs, c, rfl, by omega, fun _ => by omega, Chg.refl _ _, HRW.out⟩
                  | true =>
                    obtain ⟨r, a1, a2, a3⟩ := HQ.out rfl
                    obtain ⟨m, rfl⟩ : ∃ m : Nat, k0 = m := ⟨k0.toNat, by omega⟩
                    obtain ⟨i0, hi, hz0, hz1, hz2⟩ := info_parts Try.info5
                    have hmk := fun W => run_make_rowN (P := Try.prog) 26 5 i0 _ Try.underlying26 hi hz0 .i64 .i64 m m (Nat.le_refl _) (by rw [hz2]; omega) (by omega) W
                    rw [hz1] at hmk
                    have hmn := made_noughts m
                    generalize madeCells (Value.int .u8 0).cells (m * 1) = mc at *
                    have hfin : ∀ W', Kept (foot B fs) (w5.alloc (.cells mc 5)) W' → Reads W' W'.heap.size 1 (some ⟨w5.heap.size, 0, none⟩) (List.replicate m (0 : UInt8)).length (byteVals (List.replicate m 0)) := fun W' hk => by
                      refine reads_blk ?_
                      have hb := Blk.new w5 mc 5
                      have hb2 := (hk.block w5.heap.size (Blk.lt hb) (fun hc => by have := HFL.out _ hc; omega)).trans hb
                      show Blk W' w5.heap.size (byteVals (List.replicate m 0)).toArray 5
                      rw [← hmn]; exact hb2
                    have HF := Lib.hid hfin
                    have hln : (List.replicate m (0 : UInt8)).length = m := List.length_replicate
                    have HLN := Lib.hid hln
                    clear hfin hmn hln hz0 hz1 hz2 hi
                    go_wp2_with fail
                    go_meet
                    exact ⟨⟨gr + 1, by omega, by go_num⟩, _, List.replicate m 0, m, by rw [HLN.out], by rw [HLN.out]; omega, fun h => absurd h r, (Chg.refl _ _).alloc _, HF.out⟩
                case rest =>
                obtain ⟨⟨g2, hg22, rfl⟩, A1, b1, c1, rfl, hb1, hb1k, hg6, hr6⟩ := hcut
                have HB1K := Lib.hid hb1k
                clear hb1k
                obtain ⟨w6, rfl⟩ : ∃ w6 : World, w6 = wc := ⟨_, rfl⟩
                have hp6 := hp.chg hg6
                have hop6 := hop.chg hg6
                obtain ⟨z0, z1, z2, z3, z4⟩ := hop6.five
                dsimp only at z0 z1 z2 z3 z4
                have hsz6 : w5.heap.size ≤ w6.heap.size := hg6.size
                have hRR := Lib.hid hr6
                have hft : ∀ g, w6.heap.size ≤ g → ¬ foot B fs g ∧ ¬ foot R fr g := fun g hg => ⟨fun hc => by have := hp.d.disk.footLt g hc; omega, fun hc => by have := hp.r.footLt g hc; omega⟩
                have HFT := Lib.hid hft
                have hw6 : w.heap.size ≤ w6.heap.size := hp6.d.chg.size
                have HW6 := Lib.hid hw6
                have HP6 := Lib.hid hp6
                have HOP6 := Lib.hid hop6
                clear hft hp hop HR HRI HCW HFL HRW x0 x1 x2 x3 x4 z2 z3 z4 hg6 hr6 hw6 hp6 hop6 hz0
                go_upto_region 19 with fail
                go_cut [81] (fun s81 wx => s81 = .bool false ∧ wx = w6)
                case first =>
                  by_cases hl : 1000 < b1.length
                  · as_aux_lemma =>
                      have l1 : decide ((1000 : Int) < (b1.length : Int)) = true := by simp; omega
                      have r1 : (kind == 1) = false := by simp; intro h; have := HB1K.out h; omega
                      go_wp2_with fail
                      go_meet
                      exact ⟨rfl, rfl⟩
                  · as_aux_lemma =>
                      have l1 : decide ((1000 : Int) < (b1.length : Int)) = false := by simp; omega
                      go_wp2_with fail
                      go_meet
                      exact ⟨rfl, rfl⟩
                case rest =>
                as_aux_lemma =>
                  obtain ⟨rfl, hwe⟩ := hcut
                  subst hwe
                  obtain ⟨w7, rfl⟩ : ∃ w7 : World, w7 = wc := ⟨_, rfl⟩
                  obtain ⟨i0, hi, hz0, hz1, hz2⟩ := info_parts Try.info5
                  have HO := Lib.hid (byteVals_one b1)
                  have hown : (w7.alloc (.cells #[] 5 (0, 0))).ownsRow w7.heap.size 5 1 (.slice (some ⟨w7.heap.size, 0, none⟩) 0 0) 0 [] := by
                    refine ⟨rfl, .inr ⟨w7.heap.size, 0, #[], rfl, Nat.le_refl _, Blk.new w7 _ 5, ?_⟩⟩
                    simp
                  have HOWN := Lib.hid hown
                  have HR := Lib.hid ((hRR.out w7 (Kept.refl _ _)).alloc (Nat.le_refl _) (.cells #[] 5 (0, 0)))
                  clear hown z0 z1 q1 hbig
                  go_wp2_with (at_builtin; refine wpList_append_any _ rfl (.tmp 82) (.tmp 83) 26 rfl w7.heap.size 5 i0 (.int .u8 0) 1 1 Try.underlying26 hi hz0 hz1 hz2 rfl (by decide) _ 0 [] rfl HOWN.out w7.heap.size A1 b1.length c1 (byteVals b1) rfl HR.out HO.out ?c1 ?c2 ?c3 ?_)
                  case c1 => unfold maxLen; omega
                  case c2 => omega
                  case c3 => simp
                  intro v' w8 hown8 hgr _
                  obtain ⟨A8, c8, rfl⟩ := own_slice hown8
                  try simp only [Nat.zero_add, List.nil_append] at hown8
                  try rw [Nat.zero_add]
                  try rw [Nat.zero_add] at hgr
                  have hg8 : Chg none w7 w8 := Chg.kept ((Chg.refl none w7).alloc (.cells #[] 5 (0, 0))) (Kept.of_chg hgr) (fun g e => by simp [Value.ownBlock] at e; omega)
                  have hp8 := (HP6.out.chg hg8).chg (Chg.refl _ w8).drew
                  have hop8 := (HOP6.out.chg hg8).chg (Chg.refl _ w8).drew
                  have ho8 := own_chg hown8 (Chg.refl none w8).drew
                  have hk8 : Kept (foot B fs) w7 w8.drew := ((Kept.refl (foot B fs) w7).chg hg8).drew
                  obtain ⟨D, r, hD⟩ : ∃ D r, appended (fls fs) f b1 = (D, r) := ⟨_, _, rfl⟩
                  have HA11 := Lib.hid (append_is f A8 b1 c8 w8.drew hp8.d.disk (Reads.of_own ho8) D r hD)
                  have HO9 := Lib.hid (fun w9 f9 (s9 : DStep w8.drew B fs w9 f9) => hop8.step s9 hnB)
                  have HB12 := Lib.hid (fun w9 f9 (s9 : DStep w8.drew B fs w9 f9) => rappend_is f A1 b1 c1 w9 (hp8.stepD s9).r (hRR.out w9 (hk8.trans s9.kept)) (by omega) D r (by rw [← hsame]; exact hD))
                  have HSP := Lib.hid (fun w9 w10 f9 f10 (s9 : DStep w8.drew B fs w9 f9) (s10 : RStep w9 R fr w10 f10) => Spl.two hp8 ho8 HW6.out HFT.out s9 s10)
                  have hz1 := hop8.five.2.1
                  have hS1 : w8.drew.cell? ⟨b5, 1, none⟩ = some (.int .i64 f) ∧ w8.drew.cell? ⟨b5, 1, none⟩ = some (.int .i64 f) := ⟨hz1, hz1⟩
                  have HS1 := Lib.hid hS1
                  clear hown8 hgr hg8 hp8 hop8 ho8 hk8 hD hS1 hz1 HP6 HOP6 HFT HW6 HR HOWN HO hi hz0 hz2
                  go_wp2_with fail
                  have hS1 := HS1.out
                  refine wp_region_held_drew (S := fun w' => w'.cell? ⟨b5, 1, none⟩ = some (.int .i64 f) ∧ w'.cell? ⟨b5, 1, none⟩ = some (.int .i64 f)) (by kernel_rfl) hS1 (fun _ => ?_)
                  refine wpAnyH_take (i := 0) (oi := ⟨some 85, _, _, _, _, _⟩) (v := ?_) rfl (by kernel_rfl) (by kernel_rfl) (by kernel_rfl) (fun _ _ _ h => h) (Or.inl ⟨by rfl, ?_⟩) (by assumption) ?_
                  rotate_left
                  · intro w hSw; obtain ⟨sw0, sw1⟩ := hSw; go_simp; (try rw [if_pos hn3]); (try with_reducible rfl)
                  try simp only [Act.put, List.setIfInBounds_toArray, List.set_cons_zero, List.set_cons_succ]
                  refine wpAnyH_take (i := 1) (oi := ⟨some 86, _, _, _, _, _⟩) (v := ?_) rfl (by kernel_rfl) (by kernel_rfl) (by kernel_rfl) (fun _ _ _ h => h) (Or.inl ⟨by rfl, ?_⟩) (by assumption) ?_
                  rotate_left
                  · intro w hSw; obtain ⟨sw0, sw1⟩ := hSw; go_simp; (try rw [if_pos hn3]); (try with_reducible rfl)
                  try simp only [Act.put, List.setIfInBounds_toArray, List.set_cons_zero, List.set_cons_succ]
                  refine wpAnyH_take (i := 2) (oi := ⟨some 87, _, _, _, _, _⟩) (v := ?_) rfl (by kernel_rfl) (by kernel_rfl) (by kernel_rfl) (fun _ _ _ h => h) (Or.inl ⟨by rfl, ?_⟩) (by assumption) ?_
                  rotate_left
                  · intro w hSw; obtain ⟨sw0, sw1⟩ := hSw; go_simp; (try rw [if_pos hn3]); (try with_reducible rfl)
                  try simp only [Act.put, List.setIfInBounds_toArray, List.set_cons_zero, List.set_cons_succ]
                  refine wpAnyH_take (i := 3) (oi := ⟨some 88, _, _, _, _, _⟩) (v := ?_) rfl (by kernel_rfl) (by kernel_rfl) (by kernel_rfl) (fun _ _ _ h => h) (Or.inl ⟨by rfl, ?_⟩) (by assumption) ?_
                  rotate_left
                  · intro w hSw; obtain ⟨sw0, sw1⟩ := hSw; go_simp; (try rw [if_pos hn3]); (try with_reducible rfl)
                  try simp only [Act.put, List.setIfInBounds_toArray, List.set_cons_zero, List.set_cons_succ]
                  refine wpAnyH_take (i := 5) (oi := ⟨some 90, _, _, _, _, _⟩) (v := ?_) rfl (by kernel_rfl) (by kernel_rfl) (by kernel_rfl) (fun _ _ _ h => h) (Or.inl ⟨by rfl, ?_⟩) (by assumption) ?_
                  rotate_left
                  · intro w hSw; obtain ⟨sw0, sw1⟩ := hSw; go_simp; (try rw [if_pos hn3]); (try with_reducible rfl)
                  try simp only [Act.put, List.setIfInBounds_toArray, List.set_cons_zero, List.set_cons_succ]
                  refine wpAnyH_take (i := 6) (oi := ⟨some 91, _, _, _, _, _⟩) (v := ?_) rfl (by kernel_rfl) (by kernel_rfl) (by kernel_rfl) (fun _ _ _ h => h) (Or.inl ⟨by rfl, ?_⟩) (by assumption) ?_
                  rotate_left
                  · intro w hSw; obtain ⟨sw0, sw1⟩ := hSw; go_simp; (try rw [if_pos hn3]); (try with_reducible rfl)
                  try simp only [Act.put, List.setIfInBounds_toArray, List.set_cons_zero, List.set_cons_succ]
                  refine wpAnyH_take (i := 7) (oi := ⟨some 92, _, _, _, _, _⟩) (v := ?_) rfl (by kernel_rfl) (by kernel_rfl) (by kernel_rfl) (fun _ _ _ h => h) (Or.inl ⟨by rfl, ?_⟩) (by assumption) ?_
                  rotate_left
                  · intro w hSw; obtain ⟨sw0, sw1⟩ := hSw; go_simp; (try rw [if_pos hn3]); (try with_reducible rfl)
                  try simp only [Act.put, List.setIfInBounds_toArray, List.set_cons_zero, List.set_cons_succ]
                  refine wpAnyH_take (i := 8) (oi := ⟨some 93, _, _, _, _, _⟩) (v := ?_) rfl (by kernel_rfl) (by kernel_rfl) (by kernel_rfl) (fun _ _ _ h => h) (Or.inl ⟨by rfl, ?_⟩) (by assumption) ?_
                  rotate_left
                  · intro w hSw; obtain ⟨sw0, sw1⟩ := hSw; go_simp; (try rw [if_pos hn3]); (try with_reducible rfl)
                  try simp only [Act.put, List.setIfInBounds_toArray, List.set_cons_zero, List.set_cons_succ]
                  refine wpAnyH_ready (rs := [4]) (by kernel_rfl) (by simp) ?_
                  refine AllReadyH.cons (o := ⟨some 89, _, _, _, _, _⟩) rfl (fun K hK => ?_) ?_
                  rotate_left
                  · exact AllReadyH.nil
                  go_simp
                  go_at_call 11
                  refine (HA11.out).mono ?_
                  rintro e w9 ⟨rfl, f9, s9, h9⟩
                  have hk9 := HO9.out _ _ s9
                  have HA12 := Lib.hid (HB12.out _ _ s9)
                  go_wp2_with fail
                  refine hK.out _ _ ⟨hk9.five.2.1, hk9.five.2.1⟩ (fun _ => ?_)
                  clear hK K
                  try simp only [Act.put, List.setIfInBounds_toArray, List.set_cons_zero, List.set_cons_succ]
                  refine wpAnyH_ready (rs := [9]) (by kernel_rfl) (by simp) ?_
                  refine AllReadyH.cons (o := ⟨some 94, _, _, _, _, _⟩) rfl (fun K hK => ?_) ?_
                  rotate_left
                  · exact AllReadyH.nil
                  go_simp
                  go_at_call 12
                  refine (HA12.out).mono ?_
                  rintro e w10 ⟨rfl, f10, s10, h10⟩
                  have hk10 := (HO9.out _ _ s9).stepR s10 hnR
                  go_wp2_with fail
                  refine hK.out _ _ ⟨hk10.five.2.1, hk10.five.2.1⟩ (fun _ => ?_)
                  clear hK K
                  try simp only [Act.put, List.setIfInBounds_toArray, List.set_cons_zero, List.set_cons_succ]
                  refine wpAnyH_take (i := 10) (oi := ⟨some 8, _, _, _, _, _⟩) (v := ?_) rfl (by kernel_rfl) (by kernel_rfl) (by kernel_rfl) (fun _ _ _ h => h) (Or.inl ⟨by rfl, ?_⟩) (by assumption) ?_
                  rotate_left
                  · intro w hSw; obtain ⟨sw0, sw1⟩ := hSw; go_simp; (try rw [if_pos hn3]); (try with_reducible rfl)
                  try simp only [Act.put, List.setIfInBounds_toArray, List.set_cons_zero, List.set_cons_succ]
                  refine wpAnyH_take (i := 11) (oi := ⟨some 9, _, _, _, _, _⟩) (v := ?_) rfl (by kernel_rfl) (by kernel_rfl) (by kernel_rfl) (fun _ _ _ h => h) (Or.inl ⟨by rfl, ?_⟩) (by assumption) ?_
                  rotate_left
                  · intro w hSw; obtain ⟨sw0, sw1⟩ := hSw; go_simp; (try rw [if_pos hn3]); (try with_reducible rfl)
                  try simp only [Act.put, List.setIfInBounds_toArray, List.set_cons_zero, List.set_cons_succ]
                  refine wpAnyH_done (by kernel_rfl) ?_ _
                  as_aux_lemma =>
                    have hsp := HSP.out _ _ _ _ s9 s10
                    have hdd : fls f9 = fls f10 := by rw [h9, h10]
                    have HDD := Lib.hid hdd
                    clear HSP s9 s10 h9 h10 hdd HA11 HA12 HB12 HO9 HS1 hS1 hk9 hk10 hRR
                    go_wp2_with fail
                    go_loopw [97] (fun s97 wx => ∃ i : Nat, i ≤ b1.length ∧ s97 = .int .i64 i ∧ Spl w B R f9 f10 A8 b1.length c8 wx) (fun s97 _ => b1.length - (intOf s97).toNat)
                    case atStart => exact ⟨0, by omega, rfl, hsp⟩
                    case round =>
                      obtain ⟨i, hi, rfl, hsi⟩ := hrel
                      clear hsp
                      by_cases hi6 : i < b1.length
                      · obtain ⟨hpp, hcase⟩ := hsi
                        rcases hcase with h0 | ⟨g, rfl, hsg⟩
                        · omega
                        · obtain ⟨⟨z, hz⟩, hfz, hgl, hnx⟩ := hsg.next hi6
                          have HNX := Lib.hid hnx
                          clear hnx hsg hpp
                          go_wp2_with fail
                          go_roundw
                          case rel => exact ⟨i + 1, by omega, by go_num, (HNX.out _).p, .inr ⟨g, rfl, HNX.out _⟩⟩
                          case measure => simp [intOf]; omega
                      · have hpe := hsi.1
                        go_wp2_with fail
                        go_meet
                        exact ⟨⟨g2, hg22, rfl⟩, ⟨r, rfl, rfl⟩, B, f9, f10, rfl, hpe, HDD.out⟩
            · have r1 : (kind == 1) = false := by simp; omega
              have r6 : (kind == 6) = false := by simp; omega
              by_cases q2 : kind = 2
              · have r2 : (kind == 2) = true := by simp [q2]
                clear q1
                by_cases hf : 0 ≤ f ∧ f < 2
                · as_aux_lemma =>
                    have hfo : fOf f = 0 := by unfold fOf; rw [if_pos hf]
                    rw [hfo]
                    obtain ⟨n, rfl⟩ : ∃ n : Nat, f = n := ⟨f.toNat, by omega⟩
                    have hn2 : n < 2 := by omega
                    obtain ⟨f', hf'⟩ := hp.r.get (k := n) hn2
                    obtain ⟨y0, y1⟩ := hp.r.at_ hf'
                    obtain ⟨A0, cp, hv⟩ := own_slice (hp.r.file hf').own
                    rw [hv] at y0
                    have htn : turned (fls fs) n (fun f => ⟨f.bs, f.bs.length⟩) = ((fls fs).set n ⟨f'.fl.bs, f'.fl.bs.length⟩, 0) := by
                      unfold turned; rw [if_pos hf, Int.toNat_natCast, hsame, fls_getD hf']
                    have HC := Lib.hid (sync_is n wc hp.d.disk _ _ htn)
                    have HW := fun w6 f6 (s6 : DStep wc B fs w6 f6) (h6 : fls f6 = (fls fs).set n ⟨f'.fl.bs, f'.fl.bs.length⟩) (w7 : World) (g7 : Chg none w6 w7) =>
                      (Alk.both hp s6 h6 g7 (ref_syn (((hp.stepD s6).chg g7).r) hf' (Nat.le_refl _)) (by rw [fls_set, hsame]))
                    have HX := Lib.hid HW
                    have HO := Lib.hid (fun w6 f6 (s6 : DStep wc B fs w6 f6) => (hop.step s6 hnB).five)
                    have HK := Lib.hid (fun w6 f6 (s6 : DStep wc B fs w6 f6) => s6.kept.block R hp.r.lt (fun hc => hp.apart R hc (.inl rfl)))
                    have hblk := hp.r.blk
                    have hRl := hp.r.lt
                    have HRS := Lib.hid (fun w6 f6 (s6 : DStep wc B fs w6 f6) => (hp.stepD s6).r)
                    clear htn HW q2
                    go_wp2_with fail
                    refine HC.out.mono ?_
                    rintro e w6 ⟨rfl, f6, s6, h6⟩
                    obtain ⟨z0, z1, z2, z3, z4⟩ := HO.out _ _ s6
                    have hR6 := (HRS.out _ _ s6)
                    obtain ⟨y0', y1'⟩ := hR6.at_ hf'
                    rw [hv] at y0'
                    have hRl6 := hR6.lt
                    have HX6 := Lib.hid (HX.out _ _ s6 h6)
                    have HOP6 := Lib.hid (hop.step s6 hnB)
                    clear s6 h6
                    clear hp hop x0 x1 x2 x3 x4 z0 z2 z3 z4 y0 y1 HX HO HK hblk
                    have hfr : (fr.set n ⟨f'.v, ⟨f'.fl.bs, f'.fl.bs.length⟩⟩)[n]? = some ⟨f'.v, ⟨f'.fl.bs, f'.fl.bs.length⟩⟩ := List.getElem?_set_self (List.getElem?_eq_some_iff.1 hf').1
                    have hst := ref_syn (hR6.chg (Chg.refl _ w6).drew) hf' (Nat.le_refl f'.fl.bs.length)
                    have hk0 := (hst.at_.at_ hfr).1
                    have hk1 := ((HOP6.out.chg (Chg.refl _ w6).drew).stepR hst hnR).five.2.1
                    rw [hv] at hk0
                    have HKK := Lib.hid (And.intro hk1 hk0)
                    have hS1 : w6.drew.cell? ⟨b5, 1, none⟩ = some (.int .i64 n) ∧ w6.drew.cell? ⟨R, n, none⟩ = some (.slice A0 f'.fl.bs.length cp) := ⟨z1, y0'⟩
                    have HS1 := Lib.hid hS1
                    have hfin := HX6.out w6.drew (Chg.refl _ w6).drew
                    have HFIN := Lib.hid hfin
                    generalize f'.fl.bs.length = m at *
                    have hn3 : (n : Int) < 2 := by omega
                    have yz := Blk.frozen hR6.blk (2 + n)
                    clear hfr hst hk0 hk1 hS1 hfin z1 y0' hv hf' hR6
                    go_wp2_with fail
                    have hS1 := HS1.out
                    refine wp_region_held_drew (S := fun w' => w'.cell? ⟨b5, 1, none⟩ = some (.int .i64 n) ∧ w'.cell? ⟨R, n, none⟩ = some (.slice A0 m cp)) (by kernel_rfl) hS1 (fun _ => ?_)
                    refine wpAnyH_take (i := 0) (oi := ⟨some 115, _, _, _, _, _⟩) (v := ?_) rfl (by kernel_rfl) (by kernel_rfl) (by kernel_rfl) (fun _ _ _ h => h) (Or.inl ⟨by rfl, ?_⟩) (by assumption) ?_
                    rotate_left
                    · intro w hSw; obtain ⟨sw0, sw1⟩ := hSw; go_simp; (try rw [if_pos hn3]); (try with_reducible rfl)
                    try simp only [Act.put, List.setIfInBounds_toArray, List.set_cons_zero, List.set_cons_succ]
                    refine wpAnyH_take (i := 1) (oi := ⟨some 116, _, _, _, _, _⟩) (v := ?_) rfl (by kernel_rfl) (by kernel_rfl) (by kernel_rfl) (fun _ _ _ h => h) (Or.inl ⟨by rfl, ?_⟩) (by assumption) ?_
                    rotate_left
                    · intro w hSw; obtain ⟨sw0, sw1⟩ := hSw; go_simp; (try rw [if_pos hn3]); (try with_reducible rfl)
                    try simp only [Act.put, List.setIfInBounds_toArray, List.set_cons_zero, List.set_cons_succ]
                    refine wpAnyH_take (i := 2) (oi := ⟨some 117, _, _, _, _, _⟩) (v := ?_) rfl (by kernel_rfl) (by kernel_rfl) (by kernel_rfl) (fun _ _ _ h => h) (Or.inl ⟨by rfl, ?_⟩) (by assumption) ?_
                    rotate_left
                    · intro w hSw; obtain ⟨sw0, sw1⟩ := hSw; go_simp; (try rw [if_pos hn3]); (try with_reducible rfl)
                    try simp only [Act.put, List.setIfInBounds_toArray, List.set_cons_zero, List.set_cons_succ]
                    refine wpAnyH_take (i := 3) (oi := ⟨some 118, _, _, _, _, _⟩) (v := ?_) rfl (by kernel_rfl) (by kernel_rfl) (by kernel_rfl) (fun _ _ _ h => h) (Or.inl ⟨by rfl, ?_⟩) (by assumption) ?_
                    rotate_left
                    · intro w hSw; obtain ⟨sw0, sw1⟩ := hSw; go_simp; (try rw [if_pos hn3]); (try with_reducible rfl)
                    try simp only [Act.put, List.setIfInBounds_toArray, List.set_cons_zero, List.set_cons_succ]
                    refine wpAnyH_take (i := 4) (oi := ⟨some 119, _, _, _, _, _⟩) (v := ?_) rfl (by kernel_rfl) (by kernel_rfl) (by kernel_rfl) (fun _ _ _ h => h) (Or.inl ⟨by rfl, ?_⟩) (by assumption) ?_
                    rotate_left
                    · intro w hSw; obtain ⟨sw0, sw1⟩ := hSw; go_simp; (try rw [if_pos hn3]); (try with_reducible rfl)
                    try simp only [Act.put, List.setIfInBounds_toArray, List.set_cons_zero, List.set_cons_succ]
                    refine wpAnyH_take (i := 5) (oi := ⟨some 120, _, _, _, _, _⟩) (v := ?_) rfl (by kernel_rfl) (by kernel_rfl) (by kernel_rfl) (fun _ _ _ h => h) (Or.inl ⟨by rfl, ?_⟩) (by assumption) ?_
                    rotate_left
                    · intro w hSw; obtain ⟨sw0, sw1⟩ := hSw; go_simp; (try rw [if_pos hn3]); (try with_reducible rfl)
                    try simp only [Act.put, List.setIfInBounds_toArray, List.set_cons_zero, List.set_cons_succ]
                    refine wpAnyH_take (i := 6) (oi := ⟨some 121, _, _, _, _, _⟩) (v := ?_) rfl (by kernel_rfl) (by kernel_rfl) (by kernel_rfl) (fun _ _ _ h => h) (Or.inl ⟨by rfl, ?_⟩) (by assumption) ?_
                    rotate_left
                    · intro w hSw; obtain ⟨sw0, sw1⟩ := hSw; go_simp; (try rw [if_pos hn3]); (try with_reducible rfl)
                    try simp only [Act.put, List.setIfInBounds_toArray, List.set_cons_zero, List.set_cons_succ]
                    refine wpAnyH_take (i := 7) (oi := ⟨some 122, _, _, _, _, _⟩) (v := ?_) rfl (by kernel_rfl) (by kernel_rfl) (by kernel_rfl) (fun _ _ _ h => h) (Or.inl ⟨by rfl, ?_⟩) (by assumption) ?_
                    rotate_left
                    · intro w hSw; obtain ⟨sw0, sw1⟩ := hSw; go_simp; (try rw [if_pos hn3]); (try with_reducible rfl)
                    try simp only [Act.put, List.setIfInBounds_toArray, List.set_cons_zero, List.set_cons_succ]
                    refine wpAnyH_take (i := 8) (oi := ⟨some 123, _, _, _, _, _⟩) (v := ?_) rfl (by kernel_rfl) (by kernel_rfl) (by kernel_rfl) (fun _ _ _ h => h) (Or.inl ⟨by rfl, ?_⟩) (by assumption) ?_
                    rotate_left
                    · intro w hSw; obtain ⟨sw0, sw1⟩ := hSw; go_simp; (try rw [if_pos hn3]); (try with_reducible rfl)
                    try simp only [Act.put, List.setIfInBounds_toArray, List.set_cons_zero, List.set_cons_succ]
                    refine wpAnyH_take (i := 9) (oi := ⟨some 124, _, _, _, _, _⟩) (v := ?_) rfl (by kernel_rfl) (by kernel_rfl) (by kernel_rfl) (fun _ _ _ h => h) (Or.inl ⟨by rfl, ?_⟩) (by assumption) ?_
                    rotate_left
                    · intro w hSw; obtain ⟨sw0, sw1⟩ := hSw; go_simp; (try rw [if_pos hn3]); (try with_reducible rfl)
                    try simp only [Act.put, List.setIfInBounds_toArray, List.set_cons_zero, List.set_cons_succ]
                    refine wpAnyH_take (i := 10) (oi := ⟨some 125, _, _, _, _, _⟩) (v := ?_) rfl (by kernel_rfl) (by kernel_rfl) (by kernel_rfl) (fun _ _ _ h => h) (Or.inl ⟨by rfl, ?_⟩) (by assumption) ?_
                    rotate_left
                    · intro w hSw; obtain ⟨sw0, sw1⟩ := hSw; go_simp; (try rw [if_pos hn3]); (try with_reducible rfl)
                    try simp only [Act.put, List.setIfInBounds_toArray, List.set_cons_zero, List.set_cons_succ]
                    refine wpAnyH_take (i := 11) (oi := ⟨some 126, _, _, _, _, _⟩) (v := ?_) rfl (by kernel_rfl) (by kernel_rfl) (by kernel_rfl) (fun _ _ _ h => h) (Or.inl ⟨by rfl, ?_⟩) (by assumption) ?_
                    rotate_left
                    · intro w hSw; obtain ⟨sw0, sw1⟩ := hSw; go_simp; (try rw [if_pos hn3]); (try with_reducible rfl)
                    try simp only [Act.put, List.setIfInBounds_toArray, List.set_cons_zero, List.set_cons_succ]
                    refine wpAnyH_take (i := 12) (oi := ⟨some 127, _, _, _, _, _⟩) (v := ?_) rfl (by kernel_rfl) (by kernel_rfl) (by kernel_rfl) (fun _ _ _ h => h) (Or.inl ⟨by rfl, ?_⟩) (by assumption) ?_
                    rotate_left
                    · intro w hSw; obtain ⟨sw0, sw1⟩ := hSw; go_simp; (try rw [if_pos hn3]); (try with_reducible rfl)
                    try simp only [Act.put, List.setIfInBounds_toArray, List.set_cons_zero, List.set_cons_succ]
                    refine wpAnyH_take (i := 13) (oi := ⟨some 128, _, _, _, _, _⟩) (v := ?_) rfl (by kernel_rfl) (by kernel_rfl) (by kernel_rfl) (fun _ _ _ h => h) (Or.inl ⟨by rfl, ?_⟩) (by assumption) ?_
                    rotate_left
                    · intro w hSw; obtain ⟨sw0, sw1⟩ := hSw; go_simp; (try rw [if_pos hn3]); (try with_reducible rfl)
                    try simp only [Act.put, List.setIfInBounds_toArray, List.set_cons_zero, List.set_cons_succ]
                    refine wpAnyH_ready (rs := [14]) (by kernel_rfl) (by simp) ?_
                    refine AllReadyH.cons (o := ⟨none, _, _, _, _, _⟩) rfl (fun K hK => ?_) ?_
                    rotate_left
                    · exact AllReadyH.nil
                    go_simp
                    refine hK.out _ _ HKK.out (fun _ => ?_)
                    clear hK K
                    refine wpAnyH_done (by kernel_rfl) ?_ _
                    have hfin := HFIN.out
                    go_wp2_with fail
                    go_meet
                    exact ⟨⟨gr, hg2, rfl⟩, ⟨0, rfl, rfl⟩, hfin⟩
                · as_aux_lemma =>
                    have hfo : fOf f = 2 := by unfold fOf; rw [if_neg hf]
                    rw [hfo]
                    have htn : turned (fls fs) f (fun f => ⟨f.bs, f.bs.length⟩) = (fls fs, 2) := by unfold turned; rw [if_neg hf]
                    have HC := Lib.hid (sync_is f wc hp.d.disk _ _ htn)
                    have HW := Lib.hid (fun w6 f6 (s6 : DStep wc B fs w6 f6) (h6 : fls f6 = fls fs) => (⟨B, f6, fr, rfl, hp.stepD s6, by rw [h6, hsame]⟩ : Alk w R (.pointer (some ⟨B, 0, none⟩)) w6))
                    clear htn q2 hz0 hp hop
                    go_wp2_with fail
                    refine HC.out.mono ?_
                    rintro e w6 ⟨rfl, f6, s6, h6⟩
                    have hz := HW.out _ _ s6 h6
                    clear s6 h6 x0 x1 x2 x3 x4
                    go_wp2_with fail
                    go_meet
                    exact ⟨⟨gr, hg2, rfl⟩, ⟨2, rfl, rfl⟩, hz⟩
              · have r2 : (kind == 2) = false := by simp [q2]
                by_cases q3 : kind = 3
                · have r3 : (kind == 3) = true := by simp [q3]
                  clear q1 q2
                  by_cases hf : 0 ≤ f ∧ f < 2
                  · as_aux_lemma =>
                      have hfo : fOf f = 0 := by unfold fOf; rw [if_pos hf]
                      rw [hfo]
                      obtain ⟨n, rfl⟩ : ∃ n : Nat, f = n := ⟨f.toNat, by omega⟩
                      have hn2 : n < 2 := by omega
                      have hn3 : (n : Int) < 2 := by omega
                      obtain ⟨f', hf'⟩ := hp.r.get (k := n) hn2
                      have htn : turned (fls fs) n (fun _ => ⟨[], 0⟩) = ((fls fs).set n ⟨[], 0⟩, 0) := by
                        unfold turned; rw [if_pos hf, Int.toNat_natCast]
                      have HC := Lib.hid (clear_is n wc hp.d.disk _ _ htn)
                      have HX := Lib.hid (fun w6 f6 (s6 : DStep wc B fs w6 f6) (h6 : fls f6 = (fls fs).set n ⟨[], 0⟩) (w7 : World) (g7 : Chg none w6 w7) =>
                        And.intro (Alk.both hp s6 h6 g7 (ref_clear (((hp.stepD s6).chg g7).r) hf') (by rw [fls_set, hsame])) (Alk.both hp s6 h6 g7 (ref_clear2 (((hp.stepD s6).chg g7).r) hf') (by rw [fls_set, hsame])))
                      have HO := Lib.hid (fun w6 f6 (s6 : DStep wc B fs w6 f6) => hop.step s6 hnB)
                      have HRS := Lib.hid (fun w6 f6 (s6 : DStep wc B fs w6 f6) => (hp.stepD s6).r)
                      clear htn q3 hz0
                      go_wp2_with fail
                      refine HC.out.mono ?_
                      rintro e w6 ⟨rfl, f6, s6, h6⟩
                      have hO6 := HO.out _ _ s6
                      have hz1 := hO6.five.2.1
                      have hR6 := HRS.out _ _ s6
                      obtain ⟨y0', y1'⟩ := hR6.at_ hf'
                      obtain ⟨A0, cp, hv⟩ := own_slice (hR6.file hf').own
                      rw [hv] at y0'
                      have yz0 := Blk.frozen hR6.blk n
                      have yz1 := Blk.frozen hR6.blk (2 + n)
                      have hRl6 := hR6.lt
                      have hb1 := BlkL.set (hR6.chg (Chg.refl _ w6).drew).blk n (.slice none 0 0)
                      have hb2 := BlkL.set (hR6.chg (Chg.refl _ w6).drew).blk (2 + n) (.int .i64 0)
                      have ya1 : (w6.drew.setCell ⟨R, n, none⟩ (.slice none 0 0)).cell? ⟨R, 2 + n, none⟩ = some (.int .i64 f'.fl.syn) := by
                        rw [BlkL.cell hb1, List.getElem?_set_ne (by omega), ← BlkL.cell hR6.blk]; exact y1'
                      have ya0 : (w6.drew.setCell ⟨R, 2 + n, none⟩ (.int .i64 0)).cell? ⟨R, n, none⟩ = some (.slice A0 f'.fl.bs.length cp) := by
                        rw [BlkL.cell hb2, List.getElem?_set_ne (by omega), ← BlkL.cell hR6.blk]; exact y0'
                      have yb1 := Blk.frozen hb1 (2 + n)
                      have yb0 := Blk.frozen hb2 n
                      have HK1 := Lib.hid (OpS.five (Blk.setOther hO6 ⟨R, n, none⟩ (.slice none 0 0) hnR)).2.1
                      have HK2 := Lib.hid (OpS.five (Blk.setOther hO6 ⟨R, 2 + n, none⟩ (.int .i64 0) hnR)).2.1
                      have hfin := (HX.out _ _ s6 h6 w6.drew (Chg.refl _ w6).drew).1
                      have HFIN := Lib.hid hfin
                      have hS1 : w6.drew.cell? ⟨b5, 1, none⟩ = some (.int .i64 n) ∧ w6.drew.cell? ⟨b5, 1, none⟩ = some (.int .i64 n) := ⟨hz1, hz1⟩
                      have HKa := Lib.hid (And.intro HK1.out HK1.out)
                      have HKb := Lib.hid (OpS.five (Blk.setOther (Blk.setOther hO6 ⟨R, n, none⟩ (.slice none 0 0) hnR) ⟨R, 2 + n, none⟩ (.int .i64 0) hnR)).2.1
                      have HKc := Lib.hid (And.intro HKb.out HKb.out)
                      have HS1 := Lib.hid hS1
                      generalize f'.fl.bs.length = m at *
                      generalize f'.fl.syn = m2 at *
                      clear HX HO HRS HC HK1 HK2 HKb hb1 hb2 hv hf' hR6 hz1 hfin hS1 hO6 s6 h6 hp hop x0 x1 x2 x3 x4
                      go_wp2_with fail
                      have hS1 := HS1.out
                      refine wp_region_held_drew (S := fun w' => w'.cell? ⟨b5, 1, none⟩ = some (.int .i64 n) ∧ w'.cell? ⟨b5, 1, none⟩ = some (.int .i64 n)) (by kernel_rfl) hS1 (fun _ => ?_)
                      refine wpAnyH_take (i := 0) (oi := ⟨some 137, _, _, _, _, _⟩) (v := ?_) rfl (by kernel_rfl) (by kernel_rfl) (by kernel_rfl) (fun _ _ _ h => h) (Or.inl ⟨by rfl, ?_⟩) (by assumption) ?_
                      rotate_left
                      · intro w hSw; obtain ⟨sw0, sw1⟩ := hSw; go_simp; (try rw [if_pos hn3]); (try with_reducible rfl)
                      try simp only [Act.put, List.setIfInBounds_toArray, List.set_cons_zero, List.set_cons_succ]
                      refine wpAnyH_take (i := 1) (oi := ⟨some 138, _, _, _, _, _⟩) (v := ?_) rfl (by kernel_rfl) (by kernel_rfl) (by kernel_rfl) (fun _ _ _ h => h) (Or.inl ⟨by rfl, ?_⟩) (by assumption) ?_
                      rotate_left
                      · intro w hSw; obtain ⟨sw0, sw1⟩ := hSw; go_simp; (try rw [if_pos hn3]); (try with_reducible rfl)
                      try simp only [Act.put, List.setIfInBounds_toArray, List.set_cons_zero, List.set_cons_succ]
                      refine wpAnyH_take (i := 2) (oi := ⟨some 139, _, _, _, _, _⟩) (v := ?_) rfl (by kernel_rfl) (by kernel_rfl) (by kernel_rfl) (fun _ _ _ h => h) (Or.inl ⟨by rfl, ?_⟩) (by assumption) ?_
                      rotate_left
                      · intro w hSw; obtain ⟨sw0, sw1⟩ := hSw; go_simp; (try rw [if_pos hn3]); (try with_reducible rfl)
                      try simp only [Act.put, List.setIfInBounds_toArray, List.set_cons_zero, List.set_cons_succ]
                      refine wpAnyH_take (i := 3) (oi := ⟨some 140, _, _, _, _, _⟩) (v := ?_) rfl (by kernel_rfl) (by kernel_rfl) (by kernel_rfl) (fun _ _ _ h => h) (Or.inl ⟨by rfl, ?_⟩) (by assumption) ?_
                      rotate_left
                      · intro w hSw; obtain ⟨sw0, sw1⟩ := hSw; go_simp; (try rw [if_pos hn3]); (try with_reducible rfl)
                      try simp only [Act.put, List.setIfInBounds_toArray, List.set_cons_zero, List.set_cons_succ]
                      refine wpAnyH_take (i := 4) (oi := ⟨some 141, _, _, _, _, _⟩) (v := ?_) rfl (by kernel_rfl) (by kernel_rfl) (by kernel_rfl) (fun _ _ _ h => h) (Or.inl ⟨by rfl, ?_⟩) (by assumption) ?_
                      rotate_left
                      · intro w hSw; obtain ⟨sw0, sw1⟩ := hSw; go_simp; (try rw [if_pos hn3]); (try with_reducible rfl)
                      try simp only [Act.put, List.setIfInBounds_toArray, List.set_cons_zero, List.set_cons_succ]
                      refine wpAnyH_take (i := 5) (oi := ⟨some 142, _, _, _, _, _⟩) (v := ?_) rfl (by kernel_rfl) (by kernel_rfl) (by kernel_rfl) (fun _ _ _ h => h) (Or.inl ⟨by rfl, ?_⟩) (by assumption) ?_
                      rotate_left
                      · intro w hSw; obtain ⟨sw0, sw1⟩ := hSw; go_simp; (try rw [if_pos hn3]); (try with_reducible rfl)
                      try simp only [Act.put, List.setIfInBounds_toArray, List.set_cons_zero, List.set_cons_succ]
                      refine wpAnyH_take (i := 6) (oi := ⟨some 143, _, _, _, _, _⟩) (v := ?_) rfl (by kernel_rfl) (by kernel_rfl) (by kernel_rfl) (fun _ _ _ h => h) (Or.inl ⟨by rfl, ?_⟩) (by assumption) ?_
                      rotate_left
                      · intro w hSw; obtain ⟨sw0, sw1⟩ := hSw; go_simp; (try rw [if_pos hn3]); (try with_reducible rfl)
                      try simp only [Act.put, List.setIfInBounds_toArray, List.set_cons_zero, List.set_cons_succ]
                      refine wpAnyH_take (i := 7) (oi := ⟨some 144, _, _, _, _, _⟩) (v := ?_) rfl (by kernel_rfl) (by kernel_rfl) (by kernel_rfl) (fun _ _ _ h => h) (Or.inl ⟨by rfl, ?_⟩) (by assumption) ?_
                      rotate_left
                      · intro w hSw; obtain ⟨sw0, sw1⟩ := hSw; go_simp; (try rw [if_pos hn3]); (try with_reducible rfl)
                      try simp only [Act.put, List.setIfInBounds_toArray, List.set_cons_zero, List.set_cons_succ]
                      refine wpAnyH_take (i := 8) (oi := ⟨some 145, _, _, _, _, _⟩) (v := ?_) rfl (by kernel_rfl) (by kernel_rfl) (by kernel_rfl) (fun _ _ _ h => h) (Or.inl ⟨by rfl, ?_⟩) (by assumption) ?_
                      rotate_left
                      · intro w hSw; obtain ⟨sw0, sw1⟩ := hSw; go_simp; (try rw [if_pos hn3]); (try with_reducible rfl)
                      try simp only [Act.put, List.setIfInBounds_toArray, List.set_cons_zero, List.set_cons_succ]
                      refine wpAnyH_take (i := 10) (oi := ⟨some 146, _, _, _, _, _⟩) (v := ?_) rfl (by kernel_rfl) (by kernel_rfl) (by kernel_rfl) (fun _ _ _ h => h) (Or.inl ⟨by rfl, ?_⟩) (by assumption) ?_
                      rotate_left
                      · intro w hSw; obtain ⟨sw0, sw1⟩ := hSw; go_simp; (try rw [if_pos hn3]); (try with_reducible rfl)
                      try simp only [Act.put, List.setIfInBounds_toArray, List.set_cons_zero, List.set_cons_succ]
                      refine wpAnyH_take (i := 11) (oi := ⟨some 147, _, _, _, _, _⟩) (v := ?_) rfl (by kernel_rfl) (by kernel_rfl) (by kernel_rfl) (fun _ _ _ h => h) (Or.inl ⟨by rfl, ?_⟩) (by assumption) ?_
                      rotate_left
                      · intro w hSw; obtain ⟨sw0, sw1⟩ := hSw; go_simp; (try rw [if_pos hn3]); (try with_reducible rfl)
                      try simp only [Act.put, List.setIfInBounds_toArray, List.set_cons_zero, List.set_cons_succ]
                      refine wpAnyH_ready (rs := [9]) (by kernel_rfl) (by simp) ?_
                      refine AllReadyH.cons (o := ⟨none, _, _, _, _, _⟩) rfl (fun K hK => ?_) ?_
                      rotate_left
                      · exact AllReadyH.nil
                      go_simp
                      refine hK.out _ _ HKa.out (fun _ => ?_)
                      clear hK K
                      refine wpAnyH_take (i := 12) (oi := ⟨some 148, _, _, _, _, _⟩) (v := ?_) rfl (by kernel_rfl) (by kernel_rfl) (by kernel_rfl) (fun _ _ _ h => h) (Or.inl ⟨by rfl, ?_⟩) (by assumption) ?_
                      rotate_left
                      · intro w hSw; obtain ⟨sw0, sw1⟩ := hSw; go_simp; (try rw [if_pos hn3]); (try with_reducible rfl)
                      try simp only [Act.put, List.setIfInBounds_toArray, List.set_cons_zero, List.set_cons_succ]
                      refine wpAnyH_ready (rs := [13]) (by kernel_rfl) (by simp) ?_
                      refine AllReadyH.cons (o := ⟨none, _, _, _, _, _⟩) rfl (fun K hK => ?_) ?_
                      rotate_left
                      · exact AllReadyH.nil
                      go_simp
                      refine hK.out _ _ HKc.out (fun _ => ?_)
                      clear hK K
                      refine wpAnyH_done (by kernel_rfl) ?_ _
                      have hfin := HFIN.out
                      go_wp2_with fail
                      go_meet
                      exact ⟨⟨gr, hg2, rfl⟩, ⟨0, rfl, rfl⟩, hfin⟩
                  · as_aux_lemma =>
                      have hfo : fOf f = 2 := by unfold fOf; rw [if_neg hf]
                      rw [hfo]
                      have htn : turned (fls fs) f (fun _ => ⟨[], 0⟩) = (fls fs, 2) := by unfold turned; rw [if_neg hf]
                      have HC := Lib.hid (clear_is f wc hp.d.disk _ _ htn)
                      have HW := Lib.hid (fun w6 f6 (s6 : DStep wc B fs w6 f6) (h6 : fls f6 = fls fs) => (⟨B, f6, fr, rfl, hp.stepD s6, by rw [h6, hsame]⟩ : Alk w R (.pointer (some ⟨B, 0, none⟩)) w6))
                      clear htn q3 hz0 hp hop
                      go_wp2_with fail
                      refine HC.out.mono ?_
                      rintro e w6 ⟨rfl, f6, s6, h6⟩
                      have hz := HW.out _ _ s6 h6
                      clear s6 h6 x0 x1 x2 x3 x4
                      go_wp2_with fail
                      go_meet
                      exact ⟨⟨gr, hg2, rfl⟩, ⟨2, rfl, rfl⟩, hz⟩
                · have r3 : (kind == 3) = false := by simp [q3]
                  by_cases q4 : kind = 4
                  · as_aux_lemma =>
                      have r4 : (kind == 4) = true := by simp [q4]
                      clear q1 q2 q3 q4
                      have HC := Lib.hid (crash_is k0 k1 wc hp.d.disk _ rfl)
                      have HO := Lib.hid (fun w6 f6 (s6 : DStep wc B fs w6 f6) => (hop.step s6 hnB).five)
                      have HR6 := Lib.hid (fun w6 f6 (s6 : DStep wc B fs w6 f6) => rcrash_is k0 k1 w6 (hp.stepD s6).r _ rfl)
                      have HX := Lib.hid (fun w6 f6 (s6 : DStep wc B fs w6 f6) (h6 : fls f6 = crashed (fls fs) k0 k1) w7 f7 (s7 : RStep w6 R fr w7 f7) (h7 : fls f7 = crashed (fls fr) k0 k1) =>
                        (Alk.both hp s6 h6 (Chg.refl _ w6) s7 (by rw [h7, hsame])))
                      clear hz0 hp hop
                      go_wp2_with fail
                      refine HC.out.mono ?_
                      rintro e w6 ⟨rfl, f6, s6, h6⟩
                      obtain ⟨z0, z1, z2, z3, z4⟩ := HO.out _ _ s6
                      have HC7 := Lib.hid (HR6.out _ _ s6)
                      have HX7 := Lib.hid (HX.out _ _ s6 h6)
                      clear x0 x1 x2 x3 x4 s6 h6 HO HR6 HX HC
                      go_wp2_with fail
                      refine HC7.out.mono ?_
                      rintro e w7 ⟨rfl, f7, s7, h7⟩
                      have hz := HX7.out _ _ s7 h7
                      clear s7 h7 z0 z1 z2 z3 z4
                      go_wp2_with fail
                      go_meet
                      exact ⟨⟨gr, hg2, rfl⟩, ⟨0, rfl, rfl⟩, hz⟩
                  · have r4 : (kind == 4) = false := by simp [q4]
                    by_cases q5 : kind = 5
                    · as_aux_lemma =>
                        have r5 : (kind == 5) = true := by simp [q5]
                        clear q1 q2 q3 q4 q5 hz0 x1 x2 x3 x4
                        go_wp2_with fail
                        refine (copy_any B fs _ hp.d.disk).mono ?_
                        rintro e w6 ⟨nb, rfl, fn, hfn, hfe⟩
                        have ht := Trip.of hp hfn
                        have hsn : fls fn = fls fr := by rw [hfe, hsame]
                        have HSN := Lib.hid hsn
                        clear hfe hsn hfn hp hop x0
                        go_wp2_with fail
                        refine ((clear_any B fs 0 _ ht.o.disk).mono (fun _ _ hp => hp.step)).mono ?_
                        rintro e w7 ⟨rfl, f7, s7, _⟩
                        have ht7 := ht.step s7
                        clear s7 ht
                        go_wp2_with fail
                        refine ((append_any B f7 1 _ [9] 1 _ (ht7.o.disk.alloc _) (reads_mark w7 [9] _ rfl _)).mono (fun _ _ hp => hp.step)).mono ?_
                        rintro e w8 ⟨rfl, f8, s8, _⟩
                        have ht8 := (ht7.chg ((Chg.refl _ _).alloc _)).step s8
                        clear s8 ht7
                        go_wp2_with fail
                        refine (crash_any B f8 9 9 _ ht8.o.disk).mono ?_
                        rintro e w9 ⟨rfl, f9, s9, _⟩
                        have ht9 := ht8.step s9
                        have hz : Alk w R (.pointer (some ⟨nb, 0, none⟩)) w9 := ⟨nb, fn, fr, rfl, ht9.n, HSN.out⟩
                        clear s9 ht8 ht9
                        go_wp2_with fail
                        go_meet
                        exact ⟨⟨gr, hg2, rfl⟩, ⟨0, rfl, rfl⟩, hz⟩
                    · have r5 : (kind == 5) = false := by simp [q5]
                      clear q1 q2 q3 q4 q5 hp hop
                      go_wp2_with fail
                      go_meet
                      exact ⟨⟨gr, hg2, rfl⟩, ⟨0, rfl, rfl⟩, hz0⟩
          case rest =>
            obtain ⟨⟨g', hg', rfl⟩, ⟨e, rfl, rfl⟩, B', fs', fr', rfl, hp', hsame'⟩ := hcut
            clear hp hop HR x0 x1 x2 x3 x4 hbig hsz2 hnB hnR hsame hRB hbl
            have hRB : R ≠ B' := fun e => hp'.apart B' (.inl rfl) (.inl e.symm)
            obtain ⟨wo, rfl⟩ : ∃ wo : World, wo = wr := ⟨_, rfl⟩
            go_wp2_with fail
            go_loopw [14] (fun s14 wx => ∃ j : Nat, j ≤ 4 ∧ s14 = .int .i64 ((j : Int) - 1) ∧ Pair w B' R fs' fr' wx) (fun s14 _ => 4 - (intOf s14 + 1).toNat)
            case atStart => exact ⟨0, by omega, rfl, hp'⟩
            case round =>
              obtain ⟨j, hj, rfl, hpx⟩ := hrel
              clear hp'
              by_cases hj4 : j < 4
              · by_cases hin : 1 ≤ j ∧ j ≤ 2
                · as_aux_lemma =>
                    obtain ⟨n, rfl⟩ : ∃ n : Nat, j = n + 1 := ⟨j - 1, by omega⟩
                    have hn1 : (((n + 1 : Nat) : Int) - 1) = (n : Int) := by omega
                    simp only [hn1]
                    have hn2 : n < 2 := by omega
                    have hn3 : (n : Int) < 2 := by omega
                    have q1 : decide ((n : Int) < 3) = true := by simp; omega
                    obtain ⟨f', hf'⟩ := hpx.r.get (k := n) hn2
                    obtain ⟨y0, y1⟩ := hpx.r.at_ hf'
                    have hro := (hpx.r.file hf').own
                    obtain ⟨A0, cp, hv⟩ := own_slice hro
                    rw [hv] at y0 hro
                    have hfl : fileAt (fls fs') (n : Int) = f'.fl := by rw [hsame']; unfold fileAt; rw [if_pos ⟨by omega, by omega⟩, Int.toNat_natCast, fls_getD hf']
                    generalize f'.fl = F at *
                    obtain ⟨F1, F2⟩ := F
                    try dsimp only at y0 y1 hro hfl
                    have HB0 := Lib.hid (show (fileAt (fls fs') (n : Int)).bs = F1 by rw [hfl])
                    have hs0 : (fileAt (fls fs') (n : Int)).syn = F2 := by rw [hfl]
                    have HS0 := Lib.hid (fun W (h : DiskAt W B' fs') => synced_is (n : Int) W h _ hs0)
                    have hyes : true = decide (0 ≤ (n : Int) ∧ (n : Int) < 2) := by simp; omega
                    have HY := Lib.hid hyes
                    have hbase : ∀ g, wr.heap.size ≤ g → ¬ foot B' fs' g ∧ ¬ foot R fr' g := fun g hg => ⟨fun hc => by have := hpx.d.disk.footLt g hc; omega, fun hc => by have := hpx.r.footLt g hc; omega⟩
                    have HBASE := Lib.hid hbase
                    have HWR := Lib.hid hpx.d.chg.size
                    have hRl := hpx.r.lt
                    clear hfl hs0 hyes hv hf' hbase hn1
                    go_wp2_with fail
                    refine (bytes_is (n : Int) _ hpx.d.disk F1 HB0.out).mono ?_
                    rintro e w6 ⟨A6, n6, c6, rfl, hn6, ho6, g6⟩
                    have hpx6 := hpx.chg g6
                    have y0' := World.grownBy.cell g6 y0 (by simp)
                    have y1' := World.grownBy.cell g6 y1 (by simp)
                    have hR6 := Nat.lt_of_lt_of_le hRl g6.size
                    have hro6 := own_chg hro g6
                    have cv1 := conv_str _ ho6 hn6
                    have cv2 := conv_str _ (own_chg ho6 (Chg.refl none w6).drew) hn6
                    have cv3 := conv_str _ hro6 rfl
                    have cv4 := conv_str _ (own_chg hro6 (Chg.refl none w6).drew) rfl
                    have hn6b : n6 ≤ 9223372036854775807 := by have := own_cap (own_zero ho6); unfold maxLen at this; omega
                    have HSP := Lib.hid (Spl.of hpx6 ho6 HWR.out (fun g h1 _ => HBASE.out g h1))
                    have HD6 := Lib.hid hpx6.d.disk
                    have hS1 : w6.drew.cell? ⟨R, n, none⟩ = some (.slice A0 F1.length cp) ∧ w6.drew.cell? ⟨R, 2 + n, none⟩ = some (.int .i64 F2) ∧
                      (convert 26 9 (.slice A6 n6 c6)).run Try.prog w6.drew = .ok (.string (strB F1)) w6.drew ∧ (convert 26 9 (.slice A0 F1.length cp)).run Try.prog w6.drew = .ok (.string (strB F1)) w6.drew := ⟨y0', y1', cv2, cv4⟩
                    have HS1 := Lib.hid hS1
                    have HN6 := Lib.hid hn6
                    generalize strB F1 = S1 at *
                    clear y0 y1 y0' y1' cv1 cv2 cv3 cv4 hS1 hRl hn6 ho6 g6 hro hro6 hpx6 hpx
                    go_wp2_with fail
                    refine (has_is _ true HY.out _).mono ?_
                    rintro e w7 ⟨rfl, rfl⟩
                    go_wp2_with fail
                    have hS1 := HS1.out
                    refine wp_region_held_drew (S := fun w' => w'.cell? ⟨R, n, none⟩ = some (.slice A0 F1.length cp) ∧ w'.cell? ⟨R, 2 + n, none⟩ = some (.int .i64 F2) ∧ (convert 26 9 (.slice A6 n6 c6)).run Try.prog w' = .ok (.string S1) w' ∧ (convert 26 9 (.slice A0 F1.length cp)).run Try.prog w' = .ok (.string S1) w') (by kernel_rfl) hS1 (fun _ => ?_)
                    refine wpAnyH_take (i := 0) (oi := ⟨some 196, _, _, _, _, _⟩) (v := ?_) rfl (by kernel_rfl) (by kernel_rfl) (by kernel_rfl) (fun _ _ _ h => h) (Or.inl ⟨by rfl, ?_⟩) (by assumption) ?_
                    rotate_left
                    · intro w hSw; obtain ⟨sw0, sw1, sw2, sw3⟩ := hSw; go_simp; (try rw [if_pos hn3]); (try with_reducible rfl)
                    try simp only [Act.put, List.setIfInBounds_toArray, List.set_cons_zero, List.set_cons_succ]
                    refine wpAnyH_take (i := 1) (oi := ⟨some 197, _, _, _, _, _⟩) (v := ?_) rfl (by kernel_rfl) (by kernel_rfl) (by kernel_rfl) (fun _ _ _ h => h) (Or.inl ⟨by rfl, ?_⟩) (by assumption) ?_
                    rotate_left
                    · intro w hSw; obtain ⟨sw0, sw1, sw2, sw3⟩ := hSw; go_simp; (try rw [if_pos hn3]); (try with_reducible rfl)
                    try simp only [Act.put, List.setIfInBounds_toArray, List.set_cons_zero, List.set_cons_succ]
                    refine wpAnyH_take (i := 2) (oi := ⟨some 198, _, _, _, _, _⟩) (v := ?_) rfl (by kernel_rfl) (by kernel_rfl) (by kernel_rfl) (fun _ _ _ h => h) (Or.inl ⟨by rfl, ?_⟩) (by assumption) ?_
                    rotate_left
                    · intro w hSw; obtain ⟨sw0, sw1, sw2, sw3⟩ := hSw; go_simp; (try rw [if_pos hn3]); (try with_reducible rfl)
                    try simp only [Act.put, List.setIfInBounds_toArray, List.set_cons_zero, List.set_cons_succ]
                    refine wpAnyH_take (i := 3) (oi := ⟨some 199, _, _, _, _, _⟩) (v := ?_) rfl (by kernel_rfl) (by kernel_rfl) (by kernel_rfl) (fun _ _ _ h => h) (Or.inl ⟨by rfl, ?_⟩) (by assumption) ?_
                    rotate_left
                    · intro w hSw; obtain ⟨sw0, sw1, sw2, sw3⟩ := hSw; go_simp; (try rw [if_pos hn3]); (try with_reducible rfl)
                    try simp only [Act.put, List.setIfInBounds_toArray, List.set_cons_zero, List.set_cons_succ]
                    refine wpAnyH_take (i := 4) (oi := ⟨some 200, _, _, _, _, _⟩) (v := ?_) rfl (by kernel_rfl) (by kernel_rfl) (by kernel_rfl) (fun _ _ _ h => h) (Or.inl ⟨by rfl, ?_⟩) (by assumption) ?_
                    rotate_left
                    · intro w hSw; obtain ⟨sw0, sw1, sw2, sw3⟩ := hSw; go_simp; (try rw [if_pos hn3]); (try with_reducible rfl)
                    try simp only [Act.put, List.setIfInBounds_toArray, List.set_cons_zero, List.set_cons_succ]
                    refine wpAnyH_take (i := 5) (oi := ⟨some 201, _, _, _, _, _⟩) (v := ?_) rfl (by kernel_rfl) (by kernel_rfl) (by kernel_rfl) (fun _ _ _ h => h) (Or.inl ⟨by rfl, ?_⟩) (by assumption) ?_
                    rotate_left
                    · intro w hSw; obtain ⟨sw0, sw1, sw2, sw3⟩ := hSw; go_simp; (try rw [if_pos hn3]); (try with_reducible rfl)
                    try simp only [Act.put, List.setIfInBounds_toArray, List.set_cons_zero, List.set_cons_succ]
                    refine wpAnyH_take (i := 6) (oi := ⟨some 202, _, _, _, _, _⟩) (v := ?_) rfl (by kernel_rfl) (by kernel_rfl) (by kernel_rfl) (fun _ _ _ h => h) (Or.inl ⟨by rfl, ?_⟩) (by assumption) ?_
                    rotate_left
                    · intro w hSw; obtain ⟨sw0, sw1, sw2, sw3⟩ := hSw; go_simp; (try rw [if_pos hn3]); (try with_reducible rfl)
                    try simp only [Act.put, List.setIfInBounds_toArray, List.set_cons_zero, List.set_cons_succ]
                    refine wpAnyH_take (i := 7) (oi := ⟨some 203, _, _, _, _, _⟩) (v := ?_) rfl (by kernel_rfl) (by kernel_rfl) (by kernel_rfl) (fun _ _ _ h => h) (Or.inl ⟨by rfl, ?_⟩) (by assumption) ?_
                    rotate_left
                    · intro w hSw; obtain ⟨sw0, sw1, sw2, sw3⟩ := hSw; go_simp; (try rw [if_pos hn3]); (try with_reducible rfl)
                    try simp only [Act.put, List.setIfInBounds_toArray, List.set_cons_zero, List.set_cons_succ]
                    refine wpAnyH_take (i := 8) (oi := ⟨some 204, _, _, _, _, _⟩) (v := ?_) rfl (by kernel_rfl) (by kernel_rfl) (by kernel_rfl) (fun _ _ _ h => h) (Or.inl ⟨by rfl, ?_⟩) (by assumption) ?_
                    rotate_left
                    · intro w hSw; obtain ⟨sw0, sw1, sw2, sw3⟩ := hSw; go_simp; (try rw [if_pos hn3]); (try with_reducible rfl)
                    try simp only [Act.put, List.setIfInBounds_toArray, List.set_cons_zero, List.set_cons_succ]
                    refine wpAnyH_take (i := 9) (oi := ⟨some 205, _, _, _, _, _⟩) (v := ?_) rfl (by kernel_rfl) (by kernel_rfl) (by kernel_rfl) (fun _ _ _ h => h) (Or.inl ⟨by rfl, ?_⟩) (by assumption) ?_
                    rotate_left
                    · intro w hSw; obtain ⟨sw0, sw1, sw2, sw3⟩ := hSw; go_simp; (try rw [if_pos hn3]); (try simp only [bne_self_eq_false]); (try with_reducible rfl)
                    try simp only [Act.put, List.setIfInBounds_toArray, List.set_cons_zero, List.set_cons_succ]
                    refine wpAnyH_take (i := 10) (oi := ⟨some 206, _, _, _, _, _⟩) (v := ?_) rfl (by kernel_rfl) (by kernel_rfl) (by kernel_rfl) (fun _ _ _ h => h) (Or.inl ⟨by rfl, ?_⟩) (by assumption) ?_
                    rotate_left
                    · intro w hSw; obtain ⟨sw0, sw1, sw2, sw3⟩ := hSw; go_simp; (try rw [if_pos hn3]); (try with_reducible rfl)
                    try simp only [Act.put, List.setIfInBounds_toArray, List.set_cons_zero, List.set_cons_succ]
                    refine wpAnyH_take (i := 11) (oi := ⟨some 207, _, _, _, _, _⟩) (v := ?_) rfl (by kernel_rfl) (by kernel_rfl) (by kernel_rfl) (fun _ _ _ h => h) (Or.inl ⟨by rfl, ?_⟩) (by assumption) ?_
                    rotate_left
                    · intro w hSw; obtain ⟨sw0, sw1, sw2, sw3⟩ := hSw; go_simp; (try rw [if_pos hn3]); (try with_reducible rfl)
                    try simp only [Act.put, List.setIfInBounds_toArray, List.set_cons_zero, List.set_cons_succ]
                    refine wpAnyH_take (i := 12) (oi := ⟨some 208, _, _, _, _, _⟩) (v := ?_) rfl (by kernel_rfl) (by kernel_rfl) (by kernel_rfl) (fun _ _ _ h => h) (Or.inl ⟨by rfl, ?_⟩) (by assumption) ?_
                    rotate_left
                    · intro w hSw; obtain ⟨sw0, sw1, sw2, sw3⟩ := hSw; go_simp; (try rw [if_pos hn3]); (try with_reducible rfl)
                    try simp only [Act.put, List.setIfInBounds_toArray, List.set_cons_zero, List.set_cons_succ]
                    refine wpAnyH_take (i := 14) (oi := ⟨some 210, _, _, _, _, _⟩) (v := ?_) rfl (by kernel_rfl) (by kernel_rfl) (by kernel_rfl) (fun _ _ _ h => h) (Or.inl ⟨by rfl, ?_⟩) (by assumption) ?_
                    rotate_left
                    · intro w hSw; obtain ⟨sw0, sw1, sw2, sw3⟩ := hSw; go_simp; (try rw [if_pos hn3]); (try with_reducible rfl)
                    try simp only [Act.put, List.setIfInBounds_toArray, List.set_cons_zero, List.set_cons_succ]
                    refine wpAnyH_take (i := 15) (oi := ⟨some 211, _, _, _, _, _⟩) (v := ?_) rfl (by kernel_rfl) (by kernel_rfl) (by kernel_rfl) (fun _ _ _ h => h) (Or.inl ⟨by rfl, ?_⟩) (by assumption) ?_
                    rotate_left
                    · intro w hSw; obtain ⟨sw0, sw1, sw2, sw3⟩ := hSw; go_simp; (try rw [if_pos hn3]); (try with_reducible rfl)
                    try simp only [Act.put, List.setIfInBounds_toArray, List.set_cons_zero, List.set_cons_succ]
                    refine wpAnyH_take (i := 16) (oi := ⟨some 212, _, _, _, _, _⟩) (v := ?_) rfl (by kernel_rfl) (by kernel_rfl) (by kernel_rfl) (fun _ _ _ h => h) (Or.inl ⟨by rfl, ?_⟩) (by assumption) ?_
                    rotate_left
                    · intro w hSw; obtain ⟨sw0, sw1, sw2, sw3⟩ := hSw; go_simp; (try rw [if_pos hn3]); (try with_reducible rfl)
                    try simp only [Act.put, List.setIfInBounds_toArray, List.set_cons_zero, List.set_cons_succ]
                    refine wpAnyH_take (i := 17) (oi := ⟨some 213, _, _, _, _, _⟩) (v := ?_) rfl (by kernel_rfl) (by kernel_rfl) (by kernel_rfl) (fun _ _ _ h => h) (Or.inl ⟨by rfl, ?_⟩) (by assumption) ?_
                    rotate_left
                    · intro w hSw; obtain ⟨sw0, sw1, sw2, sw3⟩ := hSw; go_simp; (try rw [if_pos hn3]); (try with_reducible rfl)
                    try simp only [Act.put, List.setIfInBounds_toArray, List.set_cons_zero, List.set_cons_succ]
                    refine wpAnyH_take (i := 18) (oi := ⟨some 214, _, _, _, _, _⟩) (v := ?_) rfl (by kernel_rfl) (by kernel_rfl) (by kernel_rfl) (fun _ _ _ h => h) (Or.inl ⟨by rfl, ?_⟩) (by assumption) ?_
                    rotate_left
                    · intro w hSw; obtain ⟨sw0, sw1, sw2, sw3⟩ := hSw; go_simp; (try rw [if_pos hn3]); (try with_reducible rfl)
                    try simp only [Act.put, List.setIfInBounds_toArray, List.set_cons_zero, List.set_cons_succ]
                    refine wpAnyH_take (i := 19) (oi := ⟨some 215, _, _, _, _, _⟩) (v := ?_) rfl (by kernel_rfl) (by kernel_rfl) (by kernel_rfl) (fun _ _ _ h => h) (Or.inl ⟨by rfl, ?_⟩) (by assumption) ?_
                    rotate_left
                    · intro w hSw; obtain ⟨sw0, sw1, sw2, sw3⟩ := hSw; go_simp; (try rw [if_pos hn3]); (try with_reducible rfl)
                    try simp only [Act.put, List.setIfInBounds_toArray, List.set_cons_zero, List.set_cons_succ]
                    refine wpAnyH_ready (rs := [13]) (by kernel_rfl) (by simp) ?_
                    refine AllReadyH.cons (o := ⟨some 209, _, _, _, _, _⟩) rfl (fun K hK => ?_) ?_
                    rotate_left
                    · exact AllReadyH.nil
                    go_simp
                    go_at_call 19
                    refine (HS0.out _ HD6.out.drew).mono ?_
                    rintro e w7 ⟨rfl, rfl⟩
                    go_wp2_with fail
                    refine hK.out _ _ hS1 (fun _ => ?_)
                    clear hK K
                    try simp only [Act.put, List.setIfInBounds_toArray, List.set_cons_zero, List.set_cons_succ]
                    refine wpAnyH_take (i := 20) (oi := ⟨some 216, _, _, _, _, _⟩) (v := ?_) rfl (by kernel_rfl) (by kernel_rfl) (by kernel_rfl) (fun _ _ _ h => h) (Or.inl ⟨by rfl, ?_⟩) (by assumption) ?_
                    rotate_left
                    · intro w hSw; obtain ⟨sw0, sw1, sw2, sw3⟩ := hSw; go_simp; (try rw [if_pos hn3]); (try with_reducible rfl)
                    try simp only [Act.put, List.setIfInBounds_toArray, List.set_cons_zero, List.set_cons_succ]
                    refine wpAnyH_take (i := 21) (oi := ⟨some 217, _, _, _, _, _⟩) (v := ?_) rfl (by kernel_rfl) (by kernel_rfl) (by kernel_rfl) (fun _ _ _ h => h) (Or.inl ⟨by rfl, ?_⟩) (by assumption) ?_
                    rotate_left
                    · intro w hSw; obtain ⟨sw0, sw1, sw2, sw3⟩ := hSw; go_simp; (try rw [if_pos hn3]); (try with_reducible rfl)
                    try simp only [Act.put, List.setIfInBounds_toArray, List.set_cons_zero, List.set_cons_succ]
                    refine wpAnyH_done (by kernel_rfl) ?_ _
                    have hsp := HSP.out.drew
                    clear HSP HS1 hS1 HS0 HB0 HY HBASE HWR HD6
                    go_wp2_with fail
                    obtain ⟨wo2, rfl⟩ : ∃ wo2 : World, wo2 = wr := ⟨_, rfl⟩
                    generalize w6.drew = w7 at *
                    go_loopw [220] (fun s220 wx => ∃ i : Nat, i ≤ n6 ∧ s220 = .int .i64 i ∧ Spl w B' R fs' fr' A6 n6 c6 wx) (fun s220 _ => n6 - (intOf s220).toNat)
                    case atStart => exact ⟨0, by omega, rfl, hsp⟩
                    case round =>
                      obtain ⟨i, hi, rfl, hsi⟩ := hrel
                      clear hsp
                      by_cases hi6 : i < n6
                      · obtain ⟨hpp, hcase⟩ := hsi
                        rcases hcase with h0 | ⟨g, rfl, hsg⟩
                        · omega
                        · obtain ⟨⟨z, hz⟩, hfz, hgl, hnx⟩ := hsg.next hi6
                          have HNX := Lib.hid hnx
                          clear hnx hsg hpp
                          go_wp2_with fail
                          go_roundw
                          case rel => exact ⟨i + 1, by omega, by go_num, (HNX.out _).p, .inr ⟨g, rfl, HNX.out _⟩⟩
                          case measure => simp [intOf]; omega
                      · have hpe := hsi.1
                        go_wp2_with fail
                        go_roundw
                        case rel => exact ⟨n + 2, by omega, by go_num, hpe⟩
                        case measure => simp [intOf]; omega
                · as_aux_lemma =>
                    have q1 : decide ((j : Int) - 1 < 3) = true := by simp; omega
                    have hfz : fileAt (fls fs') ((j : Int) - 1) = ⟨[], 0⟩ := by unfold fileAt; rw [if_neg (by omega)]
                    have hb0 : (fileAt (fls fs') ((j : Int) - 1)).bs = [] := by rw [hfz]
                    have hs0 : (fileAt (fls fs') ((j : Int) - 1)).syn = 0 := by rw [hfz]
                    have HB0 := Lib.hid hb0
                    have HS0 := Lib.hid hs0
                    have hno : false = decide (0 ≤ (j : Int) - 1 ∧ (j : Int) - 1 < 2) := by simp; omega
                    have HNO := Lib.hid hno
                    have hjw : wrap64 ((j : Int) - 1 + 1) = (j : Int) - 1 + 1 := IntWalk.wrap64_in _ (by omega)
                    clear hfz hb0 hs0 hno
                    go_wp2_with fail
                    refine (bytes_is ((j : Int) - 1) _ hpx.d.disk [] HB0.out).mono ?_
                    rintro e w6 ⟨A6, n6, c6, rfl, hn6, ho6, g6⟩
                    have hpx6 := hpx.chg g6
                    have hn60 : n6 = 0 := hn6
                    subst hn60
                    clear hn6 ho6 g6
                    go_wp2_with fail
                    refine (has_is _ false HNO.out _).mono ?_
                    rintro e w7 ⟨rfl, rfl⟩
                    go_wp2_with fail
                    refine (synced_is _ _ hpx6.d.disk 0 HS0.out).mono ?_
                    rintro e w7 ⟨rfl, rfl⟩
                    go_wp2_with fail
                    go_roundw
                    case rel => exact ⟨j + 1, by omega, by go_num, hpx6⟩
                    case measure => simp [intOf]; omega
              · have q1 : decide ((j : Int) - 1 < 3) = false := by simp; omega
                have hz : Alk w R (.pointer (some ⟨B', 0, none⟩)) wr := ⟨_, _, _, rfl, hpx, hsame'⟩
                go_wp2_with fail
                go_roundw
                case rel => exact ⟨k + 1, g', by omega, hg', by go_num, rfl, hz⟩
                case measure => simp [intOf]; omega
    · have hgz := hp.d.chg
      go_wp2_with fail
      refine (known_any _).mono ?_
      rintro e w9 ⟨rfl, g9⟩
      go_wp2_with fail
      go_ret
      exact ⟨rfl, hgz.trans g9⟩

end Go.Proofs.Ytbgofhbanhanfaa
