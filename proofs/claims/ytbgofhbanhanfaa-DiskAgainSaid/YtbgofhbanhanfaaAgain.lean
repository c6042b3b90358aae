/-
  The law DiskAgain: its walk.
-/
import Derived.Test.YtbgofhbanhanfaaA2
namespace Go.Proofs.Ytbgofhbanhanfaa
open Go.RowKit

theorem pick_le (x : Int) (n : Nat) (hn : n ≤ 1000) : ∃ k : Nat, k ≤ n ∧ wrap64 ((IntKind.u64.wrap x).tmod ((n : Int) + 1)) = (k : Int) := by
  have hy : 0 ≤ IntKind.u64.wrap x := by simp [IntKind.wrap, IntKind.bits, IntKind.signed]; omega
  generalize IntKind.u64.wrap x = y at *
  have h1 := Int.emod_nonneg y (b := (n : Int) + 1) (by omega)
  have h2 := Int.emod_lt_of_pos y (b := (n : Int) + 1) (by omega)
  refine ⟨(y % ((n : Int) + 1)).toNat, by omega, ?_⟩
  rw [Int.tmod_eq_emod_of_nonneg hy, IntWalk.wrap64_in _ (by omega)]
  omega

/-- Both disks read the same, and are small. -/
structure Alike (w : World) (kb : Nat) (kp0 kp1 : Int) (B C n : Nat) (wr : World) (D : List Fl) (fc fd : List File) : Prop where
  two : Two w kb kp0 kp1 B C fc fd wr
  dc : fls fc = D
  dd : fls fd = D
  small : Small n D

def AlikeEx (w : World) (kb : Nat) (kp0 kp1 : Int) (B C n : Nat) (wr : World) : Prop := ∃ D fc fd, Alike w kb kp0 kp1 B C n wr D fc fd

theorem app2 (x y : Fl) (bs : List UInt8) (h : x.bs.length + bs.length ≤ 1048576) : appended [x, y] 0 bs = ([⟨x.bs ++ bs, x.syn⟩, y], 0) := by
  unfold appended
  rw [if_pos (by omega)]
  show (if x.bs.length + bs.length ≤ 1048576 then ([⟨x.bs ++ bs, x.syn⟩, y], 0) else ([x, y], 8)) = _
  rw [if_pos h]

def TwoEx (w : World) (kb : Nat) (kp0 kp1 : Int) (B C : Nat) (D : List Fl) (wx : World) : Prop := ∃ fc fd, Two w kb kp0 kp1 B C fc fd wx ∧ fls fc = D ∧ fls fd = D

set_option maxRecDepth 100000 in
set_option maxHeartbeats 8000000 in
theorem again_main (A : Option Addr) (L : List Opn) (ca : Nat) (E : Option Addr) (bb : List UInt8) (ce : Nat) (cut kp0 kp1 : Int) (w : World) (hl : L.length ≤ 40) (hb : bb.length ≤ 1000)
    (hA : RowsAt w 5 A Opn.cells L) (hL : ∀ o ∈ L, o.okIn w) (hE : Reads w w.heap.size 1 E bb.length (byteVals bb)) (hce : bb.length ≤ ce) :
    Calls Try.prog 7 #[.slice A L.length ca, .slice E bb.length ce, .int .i64 cut, .agg #[.int .i64 kp0, .int .i64 kp1]] w fun e w' => e = .returned (.bool true) ∧ Chg none w w' := by
  have e1 : decide ((40 : Int) < (L.length : Int)) = false := by simp; omega
  have e2 : decide ((1000 : Int) < (bb.length : Int)) = false := by simp; omega
  have hkb := Blk.new w #[.int .i64 kp0, .int .i64 kp1] 28
  have HE := Lib.hid hE
  clear hE
  go_enter Try.func7, Try.ntmps7
  go_wp2_with fail
  refine (new_rel _).mono ?_
  rintro e w1 ⟨rfl, r1⟩
  have g1 : Chg none w w1 := ((Chg.refl none w).alloc _).trans r1.chg
  have hkb1 := Blk.chg hkb r1.chg (by simp)
  have hz1 := r1.disk.lt
  go_wp2_with fail
  refine (new_rel _).mono ?_
  rintro e w2 ⟨rfl, r2⟩
  have hz2 := r2.disk.lt
  have hkb2 := Blk.chg hkb1 r2.chg (by simp)
  have hs1 : (w.alloc (.cells #[.int .i64 kp0, .int .i64 kp1] 28)).heap.size = w.heap.size + 1 := by simp
  have ht0 : Two w w.heap.size kp0 kp1 (w.heap.size + 1) w1.heap.size [zeroFile, zeroFile] [zeroFile, zeroFile] w2 := by
    rw [hs1] at r1
    refine ⟨⟨r1.disk.chg r2.chg, g1.trans r2.chg, fun g hg => by rw [zero_foot hg]; omega⟩, ⟨r2.disk, g1.trans r2.chg, fun g hg => by rw [zero_foot hg]; exact g1.size⟩, fun g h1 h2 => ?_, hkb2, fun hc => absurd (zero_foot hc) (by omega), fun hc => absurd (zero_foot hc) (by omega)⟩
    have q1 := zero_foot h1
    have q2 := zero_foot h2
    omega
  rw [hs1] at hz1
  clear r1 r2 hkb hkb1 g1 hs1
  have hal0 : AlikeEx w w.heap.size kp0 kp1 (w.heap.size + 1) w1.heap.size (1000 * 0) w2 := ⟨_, _, _, ht0, rfl, rfl, fun f hf => by
    have : f = ⟨[], 0⟩ := by simpa [fls, zeroFile] using hf
    rw [this]; exact Nat.zero_le _⟩
  clear ht0 hkb2
  generalize hkk : w.heap.size = kb at *
  have HKK := Lib.hid hkk
  generalize hBB : kb + 1 = B at *
  generalize hCC : w1.heap.size = C at *
  have HBB := Lib.hid hBB
  have HCC := Lib.hid hCC
  clear hkk hBB hCC
  go_wp2_with fail
  go_loopw [46] (fun s46 wr => ∃ k : Nat, k ≤ L.length ∧ s46 = .int .i64 k ∧ AlikeEx w kb kp0 kp1 B C (1000 * k) wr) (fun s46 _ => L.length - (intOf s46).toNat)
  case atStart => exact ⟨0, by omega, rfl, hal0⟩
  case round =>
    obtain ⟨k, hk, rfl, D, fc, fd, hal⟩ := hrel
    clear hal0
    by_cases hlt : k < L.length
    · have hxk : L[k]? = some L[k] := List.getElem?_eq_getElem hlt
      have hok := hL L[k] (List.getElem_mem hlt)
      obtain ⟨ba, oa, hAe, hba, hca⟩ := hA.five (by intro h; rw [h, List.length_nil] at hlt; omega)
      obtain ⟨d0, d1, d2, d3, d4⟩ := hca k _ hxk
      have hg := hal.two.c.chg
      have c0 := World.grownBy.cell hg d0 (by simp)
      have c1 := World.grownBy.cell hg d1 (by simp)
      have c2 := World.grownBy.cell hg d2 (by simp)
      have c3 := World.grownBy.cell hg d3 (by simp)
      have c4 := World.grownBy.cell hg d4 (by simp)
      have hba2 := Nat.lt_of_lt_of_le hba hg.size
      have hrd := hok.reads
      generalize L[k] = o at *
      obtain ⟨kind, f, Ao, bs, c, k0, k1⟩ := o
      dsimp only at c0 c1 c2 c3 c4 hrd
      have hb0 : ∀ W, W = wr.alloc (.cells #[.int .i64 kind, .int .i64 f, .slice Ao bs.length c, .int .i64 k0, .int .i64 k1] 33) → BothEx w kb kp0 kp1 B C wr.heap.size ⟨kind, f, Ao, bs, c, k0, k1⟩ D 0 W := by
        rintro W rfl
        exact ⟨fc, fd, hal.two.chg ((Chg.refl _ _).alloc _), Blk.new _ _ _, fun hc => absurd (hal.two.c.disk.footLt _ hc) (Nat.lt_irrefl _), fun hc => absurd (hal.two.d.disk.footLt _ hc) (Nat.lt_irrefl _), hal.dc, hal.dd⟩
      have hal2 := hal
      have HB0 := Lib.hid hb0
      have HSM := Lib.hid hal.small
      have HRD := Lib.hid hrd
      clear hxk d0 d1 d2 d3 d4 hca hok hrd hg hal hb0
      subst hAe
      by_cases hbig : bs.length ≤ 1000
      · have b1 : decide ((1000 : Int) < (bs.length : Int)) = false := by simp; omega
        clear hal2
        go_wp2_with fail
        have hb1 := HB0.out _ rfl
        clear HB0 c0 c1 c2 c3 c4
        generalize (wr.alloc (.cells #[.int .i64 kind, .int .i64 f, .slice Ao bs.length c, .int .i64 k0, .int .i64 k1] 33)) = wx at *
        generalize wr.heap.size = b5 at *
        obtain ⟨wo, rfl⟩ : ∃ wo : World, wo = wr := ⟨_, rfl⟩
        go_loopw [57] (fun s57 wr => ∃ j : Nat, j ≤ 2 ∧ s57 = .int .i64 j ∧ BothEx w kb kp0 kp1 B C b5 ⟨kind, f, Ao, bs, c, k0, k1⟩ D j wr) (fun s57 _ => 2 - (intOf s57).toNat)
        case atStart => exact ⟨0, by omega, rfl, hb1⟩
        case round =>
          obtain ⟨j, hj, rfl, hbo⟩ := hrel
          clear hb1
          by_cases hj2 : j < 2
          · have ix := index50 B C j hj2
            obtain ⟨fc1, fd1, hb2⟩ := hbo
            have o0 : wr.cell? ⟨b5, 0, none⟩ = some (.int .i64 kind) := by rw [Blk.cell hb2.op]; rfl
            have o1 : wr.cell? ⟨b5, 1, none⟩ = some (.int .i64 f) := by rw [Blk.cell hb2.op]; rfl
            have o2 : wr.cell? ⟨b5, 2, none⟩ = some (.slice Ao bs.length c) := by rw [Blk.cell hb2.op]; rfl
            have hrr := (HRD.out.below (hb2.two.c.chg.belowNone (Nat.le_refl _))).more hb2.two.c.chg.size
            have hex : BothEx w kb kp0 kp1 B C b5 ⟨kind, f, Ao, bs, c, k0, k1⟩ D j wr := ⟨fc1, fd1, hb2⟩
            have HRR := Lib.hid hrr
            clear hrr hb2
            by_cases q1 : kind = 1
            · have q1' : (kind == 1) = true := by simp [q1]
              have hC := both_append hex hj2 q1 HRR.out
              have HC := Lib.hid hC
              clear q1 hC
              go_wp2_with fail
              refine HC.out.mono ?_
              rintro e w6 ⟨⟨r6, rfl⟩, hx6⟩
              go_wp2_with fail
              go_roundw
              case rel => exact ⟨j + 1, by omega, by go_num, hx6⟩
              case measure => simp [intOf]; omega
            · have q1' : (kind == 1) = false := by simp [q1]
              by_cases q2 : kind = 2
              · have q2' : (kind == 2) = true := by simp [q2]
                have hC := both_sync hex hj2 q2
                have HC := Lib.hid hC
                clear q1 q2 hC
                go_wp2_with fail
                refine HC.out.mono ?_
                rintro e w6 ⟨⟨r6, rfl⟩, hx6⟩
                go_wp2_with fail
                go_roundw
                case rel => exact ⟨j + 1, by omega, by go_num, hx6⟩
                case measure => simp [intOf]; omega
              · have q2' : (kind == 2) = false := by simp [q2]
                by_cases q3 : kind = 3
                · have q3' : (kind == 3) = true := by simp [q3]
                  have hC := both_clear hex hj2 q3
                  have HC := Lib.hid hC
                  clear q1 q2 q3 hC
                  go_wp2_with fail
                  refine HC.out.mono ?_
                  rintro e w6 ⟨⟨r6, rfl⟩, hx6⟩
                  go_wp2_with fail
                  go_roundw
                  case rel => exact ⟨j + 1, by omega, by go_num, hx6⟩
                  case measure => simp [intOf]; omega
                · have q3' : (kind == 3) = false := by simp [q3]
                  have hx6 := both_none hex (by unfold eff; rw [if_neg q1, if_neg q2, if_neg q3])
                  clear q1 q2 q3
                  go_wp2_with fail
                  go_roundw
                  case rel => exact ⟨j + 1, by omega, by go_num, hx6⟩
                  case measure => simp [intOf]; omega
          · obtain rfl : j = 2 := by omega
            obtain ⟨fc1, fd1, hb2⟩ := hbo
            have hnext : AlikeEx w kb kp0 kp1 B C (1000 * (k + 1)) wr := ⟨eff ⟨kind, f, Ao, bs, c, k0, k1⟩ D, fc1, fd1, hb2.two, hb2.dc, hb2.dd, eff_small _ HSM.out hbig⟩
            clear hb2
            go_wp2_with fail
            go_roundw
            case rel => exact ⟨k + 1, by omega, by go_num, hnext⟩
            case measure => simp [intOf]; omega
      · have b1 : decide ((1000 : Int) < (bs.length : Int)) = true := by simp; omega
        have hnext : ∀ W, W = wr.alloc (.cells #[.int .i64 kind, .int .i64 f, .slice Ao bs.length c, .int .i64 k0, .int .i64 k1] 33) → AlikeEx w kb kp0 kp1 B C (1000 * (k + 1)) W := by
          rintro W rfl
          exact ⟨D, fc, fd, hal2.two.chg ((Chg.refl _ _).alloc _), hal2.dc, hal2.dd, fun f hf => Nat.le_trans (HSM.out f hf) (by omega)⟩
        have HNX := Lib.hid hnext
        clear hnext hal2 HB0 hbig
        go_wp2_with fail
        go_roundw
        case rel => exact ⟨k + 1, by omega, by go_num, HNX.out _ rfl⟩
        case measure => simp [intOf]; omega
    · obtain rfl : k = L.length := by omega
      go_upto_region 20 with fail
      have hbz : bb.length ≤ 9223372036854775806 := by omega
      go_cut [15] (fun s15 wx => (∃ q : Nat, q ≤ bb.length ∧ s15 = .int .i64 q) ∧ wx = wr)
      case first =>
        go_wp2_with fail
        go_meet
        obtain ⟨q, hq, he⟩ := pick_le cut bb.length hb
        exact ⟨⟨q, hq, by rw [he]⟩, rfl⟩
      case rest =>
        obtain ⟨⟨q, hq, rfl⟩, rfl⟩ := hcut
        obtain ⟨wo, rfl⟩ : ∃ wo : World, wo = wc := ⟨_, rfl⟩
        obtain ⟨htw, hdc, hdd, hsm⟩ := hal
        have hD2 := fls_len htw.c.disk
        rw [hdc] at hD2
        obtain ⟨x, y, rfl⟩ : ∃ x y, D = [x, y] := by
          match D, hD2 with
          | [x, y], _ => exact ⟨x, y, rfl⟩
        have hx1 : x.bs.length ≤ 40000 := Nat.le_trans (hsm x (by simp)) (by omega)
        have hre : ∀ W, Chg none w W → Reads W W.heap.size 1 E bb.length (byteVals bb) := fun W g => ((HE.out.below (g.belowNone (by rw [HKK.out]; exact Nat.le_refl _))).more (by rw [← HKK.out]; exact g.size))
        have HRE := Lib.hid hre
        have HDC := Lib.hid hdc
        have HDD := Lib.hid hdd
        clear hD2 hdc hdd hsm hre hlt hk
        go_upto_region 21 with fail
        go_cut [111] (fun s111 wx => s111 = .bool false ∧ TwoEx w kb kp0 kp1 B C [⟨x.bs ++ bb, x.syn⟩, y] wx)
        case first =>
          have hlt1 : (bb.take q).length = q := by rw [List.length_take]; omega
          have hlt2 : (bb.drop q).length = bb.length - q := List.length_drop
          have hA2 := fun (W : World) (fs : List File) (g : Chg none w W) (h : DiskAt W C fs) (hf : fls fs = [x, y]) =>
            append_is 0 E (bb.take q) ce W h (by have := (HRE.out W g).take hq; rw [Nat.mul_one, byteVals_take] at this; rw [hlt1]; exact this) [⟨x.bs ++ bb.take q, x.syn⟩, y] 0 (by rw [hf]; exact app2 _ _ _ (by rw [hlt1]; omega))
          have hA3 := fun (W : World) (fs : List File) (g : Chg none w W) (h : DiskAt W C fs) (hf : fls fs = [⟨x.bs ++ bb.take q, x.syn⟩, y]) =>
            append_is 0 (if ce = q then E else E.map (·.add (q * 1))) (bb.drop q) (ce - q) W h (by have := (HRE.out W g).cut hq hce; rw [Nat.mul_one, byteVals_drop] at this; rw [hlt2, Nat.mul_one]; exact this) [⟨x.bs ++ bb, x.syn⟩, y] 0
              (by rw [hf, app2 _ _ _ (by show (x.bs ++ bb.take q).length + _ ≤ _; rw [List.length_append, hlt1, hlt2]; omega)]; show ([⟨(x.bs ++ bb.take q) ++ bb.drop q, x.syn⟩, y], (0 : Int)) = _; rw [List.append_assoc, List.take_append_drop])
          rw [hlt1] at hA2
          rw [hlt2, Nat.mul_one] at hA3
          have HA2 := Lib.hid hA2
          have HA3 := Lib.hid hA3
          have hq1 : q ≤ ce := by omega
          have hq2 : (bb.length : Int) ≤ 1000 := by omega
          clear hlt1 hlt2 hA2 hA3
          cases E with
          | none =>
            by_cases hcap : ce = q
            · subst hcap
              have hz : bb.length - ce = 0 := by omega
              rw [if_pos rfl, Nat.sub_self, hz] at HA3
              clear hq1 hz
              go_wp2_with fail
              refine (append_is 0 _ bb ce _ htw.c.disk (HRE.out _ htw.c.chg) [⟨x.bs ++ bb, x.syn⟩, y] 0 (by rw [HDC.out]; exact app2 _ _ _ (by omega))).mono ?_
              rintro e w3 ⟨rfl, f3, s3, hf3⟩
              have t3 := htw.stepC s3
              have HF3 := Lib.hid hf3
              clear hf3 s3 htw
              go_wp2_with fail
              with_reducible refine (HA2.out _ _ t3.d.chg t3.d.disk HDD.out).mono ?_
              rintro e w4 ⟨rfl, f4, s4, hf4⟩
              have t4 := t3.stepD s4
              have HF4 := Lib.hid hf4
              clear hf4 s4 t3
              go_wp2_with fail
              with_reducible refine (HA3.out _ _ t4.d.chg t4.d.disk HF4.out).mono ?_
              rintro e w5 ⟨rfl, f5, s5, hf5⟩
              have t5 := t4.stepD s5
              have HF5 := Lib.hid hf5
              clear hf5 s5 t4
              go_wp2_with fail
              go_meet
              exact ⟨rfl, _, _, t5, HF3.out, HF5.out⟩
            · rw [if_neg hcap, Option.map_none] at HA3
              go_wp2_with fail
              refine (append_is 0 _ bb ce _ htw.c.disk (HRE.out _ htw.c.chg) [⟨x.bs ++ bb, x.syn⟩, y] 0 (by rw [HDC.out]; exact app2 _ _ _ (by omega))).mono ?_
              rintro e w3 ⟨rfl, f3, s3, hf3⟩
              have t3 := htw.stepC s3
              have HF3 := Lib.hid hf3
              clear hf3 s3 htw
              go_wp2_with fail
              with_reducible refine (HA2.out _ _ t3.d.chg t3.d.disk HDD.out).mono ?_
              rintro e w4 ⟨rfl, f4, s4, hf4⟩
              have t4 := t3.stepD s4
              have HF4 := Lib.hid hf4
              clear hf4 s4 t3
              go_wp2_with fail
              with_reducible refine (HA3.out _ _ t4.d.chg t4.d.disk HF4.out).mono ?_
              rintro e w5 ⟨rfl, f5, s5, hf5⟩
              have t5 := t4.stepD s5
              have HF5 := Lib.hid hf5
              clear hf5 s5 t4
              go_wp2_with fail
              go_meet
              exact ⟨rfl, _, _, t5, HF3.out, HF5.out⟩
          | some ea =>
            by_cases hcap : ce = q
            · subst hcap
              have hz : bb.length - ce = 0 := by omega
              rw [if_pos rfl, Nat.sub_self, hz] at HA3
              clear hq1 hz
              go_wp2_with fail
              refine (append_is 0 _ bb ce _ htw.c.disk (HRE.out _ htw.c.chg) [⟨x.bs ++ bb, x.syn⟩, y] 0 (by rw [HDC.out]; exact app2 _ _ _ (by omega))).mono ?_
              rintro e w3 ⟨rfl, f3, s3, hf3⟩
              have t3 := htw.stepC s3
              have HF3 := Lib.hid hf3
              clear hf3 s3 htw
              go_wp2_with fail
              with_reducible refine (HA2.out _ _ t3.d.chg t3.d.disk HDD.out).mono ?_
              rintro e w4 ⟨rfl, f4, s4, hf4⟩
              have t4 := t3.stepD s4
              have HF4 := Lib.hid hf4
              clear hf4 s4 t3
              go_wp2_with fail
              with_reducible refine (HA3.out _ _ t4.d.chg t4.d.disk HF4.out).mono ?_
              rintro e w5 ⟨rfl, f5, s5, hf5⟩
              have t5 := t4.stepD s5
              have HF5 := Lib.hid hf5
              clear hf5 s5 t4
              go_wp2_with fail
              go_meet
              exact ⟨rfl, _, _, t5, HF3.out, HF5.out⟩
            · rw [if_neg hcap, Option.map_some] at HA3
              go_wp2_with fail
              refine (append_is 0 _ bb ce _ htw.c.disk (HRE.out _ htw.c.chg) [⟨x.bs ++ bb, x.syn⟩, y] 0 (by rw [HDC.out]; exact app2 _ _ _ (by omega))).mono ?_
              rintro e w3 ⟨rfl, f3, s3, hf3⟩
              have t3 := htw.stepC s3
              have HF3 := Lib.hid hf3
              clear hf3 s3 htw
              go_wp2_with fail
              with_reducible refine (HA2.out _ _ t3.d.chg t3.d.disk HDD.out).mono ?_
              rintro e w4 ⟨rfl, f4, s4, hf4⟩
              have t4 := t3.stepD s4
              have HF4 := Lib.hid hf4
              clear hf4 s4 t3
              go_wp2_with fail
              with_reducible refine (HA3.out _ _ t4.d.chg t4.d.disk HF4.out).mono ?_
              rintro e w5 ⟨rfl, f5, s5, hf5⟩
              have t5 := t4.stepD s5
              have HF5 := Lib.hid hf5
              clear hf5 s5 t4
              go_wp2_with fail
              go_meet
              exact ⟨rfl, _, _, t5, HF3.out, HF5.out⟩
        case rest =>
          obtain ⟨rfl, fc6, fd6, t6, hdc6, hdd6⟩ := hcut
          have hok6 := fls_ok t6.c.disk
          have hl6 := fls_len t6.c.disk
          rw [hdc6] at hok6 hl6
          have htw2 := crashed_twice (k0 := kp0) (k1 := kp1) hl6 hok6
          have hC6 := hdc6
          generalize [⟨x.bs ++ bb, x.syn⟩, y] = D6 at *
          generalize hDD : crashed D6 kp0 kp1 = DD at *
          have HDC6 := Lib.hid hdc6
          have HDD6 := Lib.hid hdd6
          have HDDD := Lib.hid hDD
          have HTW := Lib.hid htw2
          have y0 : wc.cell? ⟨kb, 0, none⟩ = some (.int .i64 kp0) := by rw [Blk.cell t6.kp]; rfl
          have y1 : wc.cell? ⟨kb, 1, none⟩ = some (.int .i64 kp1) := by rw [Blk.cell t6.kp]; rfl
          clear hC6 hdc6 hdd6 hDD htw2 hok6 hl6 htw HRE HDC HDD
          go_wp2_with fail
          refine (crash_is kp0 kp1 _ t6.c.disk DD (by rw [HDC6.out]; exact HDDD.out)).mono ?_
          rintro e w7 ⟨rfl, f7, s7, hf7⟩
          have t7 := t6.stepC s7
          have HF7 := Lib.hid hf7
          have z0 : w7.cell? ⟨kb, 0, none⟩ = some (.int .i64 kp0) := by rw [Blk.cell t7.kp]; rfl
          have z1 : w7.cell? ⟨kb, 1, none⟩ = some (.int .i64 kp1) := by rw [Blk.cell t7.kp]; rfl
          clear hf7 s7 t6 y0 y1
          go_wp2_with fail
          refine (crash_is kp0 kp1 _ t7.d.disk DD (by rw [HDD6.out]; exact HDDD.out)).mono ?_
          rintro e w8 ⟨rfl, f8, s8, hf8⟩
          have t8 := t7.stepD s8
          have HF8 := Lib.hid hf8
          clear hf8 s8 t7 z0 z1
          go_wp2_with fail
          refine (crash_is 0 0 _ t8.c.disk DD (by rw [HF7.out]; exact HTW.out)).mono ?_
          rintro e w9 ⟨rfl, f9, s9, hf9⟩
          have t9 := t8.stepC s9
          have HF9 := Lib.hid hf9
          clear hf9 s9 t8
          go_wp2_with fail
          go_loopw [121] (fun s121 wr => ∃ j : Nat, j ≤ 2 ∧ s121 = .int .i64 j ∧ Two w kb kp0 kp1 B C f9 f8 wr) (fun s121 _ => 2 - (intOf s121).toNat)
          case atStart => exact ⟨0, by omega, rfl, t9⟩
          case round =>
            obtain ⟨j, hj, rfl, ht⟩ := hrel
            clear t9
            by_cases hj2 : j < 2
            · have gR : Chg none wr wr.drew := (Chg.refl none wr).drew
              have hBc := fun W (g : Chg none wr W) => bytes_is (j : Int) W (ht.c.disk.chg g) (fileAt DD j).bs (by rw [HF9.out])
              have hBd := fun W (g : Chg none wr W) => bytes_is (j : Int) W (ht.d.disk.chg g) (fileAt DD j).bs (by rw [HF8.out])
              have hSc := fun W (g : Chg none wr W) => synced_is (j : Int) W (ht.c.disk.chg g) (fileAt DD j).syn (by rw [HF9.out])
              have hSd := fun W (g : Chg none wr W) => synced_is (j : Int) W (ht.d.disk.chg g) (fileAt DD j).syn (by rw [HF8.out])
              have HBc := Lib.hid hBc
              have HBd := Lib.hid hBd
              have HSc := Lib.hid hSc
              have HSd := Lib.hid hSd
              clear hBc hBd hSc hSd
              generalize fileAt DD j = fl at *
              go_wp2_with fail
              have hT : True := trivial
              refine wp_region_held_drew (S := fun _ => True) (by kernel_rfl) trivial (fun _ => ?_)
              refine wpAnyH_take (i := 0) (oi := ⟨some 124, _, _, _, _, _⟩) (v := ?_) rfl (by kernel_rfl) (by kernel_rfl) (by kernel_rfl) (fun _ _ _ h => h) (Or.inl ⟨by rfl, ?_⟩) (by assumption) ?_
              rotate_left
              · intro w hSw; (try dsimp only at hSw); go_simp; (try with_reducible rfl)
              try simp only [Act.put, List.setIfInBounds_toArray, List.set_cons_zero, List.set_cons_succ]
              refine wpAnyH_take (i := 1) (oi := ⟨some 125, _, _, _, _, _⟩) (v := ?_) rfl (by kernel_rfl) (by kernel_rfl) (by kernel_rfl) (fun _ _ _ h => h) (Or.inl ⟨by rfl, ?_⟩) (by assumption) ?_
              rotate_left
              · intro w hSw; (try dsimp only at hSw); go_simp; (try with_reducible rfl)
              try simp only [Act.put, List.setIfInBounds_toArray, List.set_cons_zero, List.set_cons_succ]
              refine wpAnyH_take (i := 4) (oi := ⟨some 128, _, _, _, _, _⟩) (v := ?_) rfl (by kernel_rfl) (by kernel_rfl) (by kernel_rfl) (fun _ _ _ h => h) (Or.inl ⟨by rfl, ?_⟩) (by assumption) ?_
              rotate_left
              · intro w hSw; (try dsimp only at hSw); go_simp; (try with_reducible rfl)
              try simp only [Act.put, List.setIfInBounds_toArray, List.set_cons_zero, List.set_cons_succ]
              refine wpAnyH_take (i := 5) (oi := ⟨some 129, _, _, _, _, _⟩) (v := ?_) rfl (by kernel_rfl) (by kernel_rfl) (by kernel_rfl) (fun _ _ _ h => h) (Or.inl ⟨by rfl, ?_⟩) (by assumption) ?_
              rotate_left
              · intro w hSw; (try dsimp only at hSw); go_simp; (try with_reducible rfl)
              try simp only [Act.put, List.setIfInBounds_toArray, List.set_cons_zero, List.set_cons_succ]
              refine wpAnyH_ready (rs := [2]) (by kernel_rfl) (by simp) ?_
              refine AllReadyH.cons (o := ⟨some 126, _, _, _, _, _⟩) rfl (fun K hK => ?_) ?_
              rotate_left
              · exact AllReadyH.nil
              go_simp
              go_at_call 18
              refine (HBc.out _ gR).mono ?_
              rintro e wC ⟨AC, nC, cC, rfl, hnC, hoC, gC'⟩
              have gC : Chg none wr wC := gR.trans gC'
              have cvC := conv_str _ hoC hnC
              have HoC := Lib.hid hoC
              have HnC := Lib.hid hnC
              clear hnC hoC gC'
              go_wp2_with fail
              refine hK.out _ _ trivial (fun _ => wpAnyH_to (S2 := fun w' => (convert 26 9 (.slice AC nC cC)).run Try.prog w' = .ok (.string (strB fl.bs)) w') (fun _ _ => trivial) ?_)
              clear hK K
              try simp only [Act.put, List.setIfInBounds_toArray, List.set_cons_zero, List.set_cons_succ]
              refine wpAnyH_take (i := 3) (oi := ⟨some 127, _, _, _, _, _⟩) (v := ?_) rfl (by kernel_rfl) (by kernel_rfl) (by kernel_rfl) (fun _ _ _ h => h) (Or.inl ⟨by rfl, ?_⟩) (by assumption) ?_
              rotate_left
              · intro w hSw; (try dsimp only at hSw); go_simp; (try with_reducible rfl)
              try simp only [Act.put, List.setIfInBounds_toArray, List.set_cons_zero, List.set_cons_succ]
              refine wpAnyH_ready (rs := [6]) (by kernel_rfl) (by simp) ?_
              refine AllReadyH.cons (o := ⟨some 130, _, _, _, _, _⟩) rfl (fun K hK => ?_) ?_
              rotate_left
              · exact AllReadyH.nil
              go_simp
              go_at_call 18
              refine (HBd.out _ gC).mono ?_
              rintro e wD ⟨AD, nD, cD, rfl, hnD, hoD, gD'⟩
              have gD : Chg none wr wD := gC.trans gD'
              have cvD := conv_str _ hoD hnD
              have cvC2 := conv_str _ (own_chg HoC.out gD') HnC.out
              have HoD := Lib.hid hoD
              have HnD := Lib.hid hnD
              clear hnD hoD gD'
              go_wp2_with fail
              refine hK.out _ _ cvC2 (fun _ => wpAnyH_to (S2 := fun w' => ((convert 26 9 (.slice AC nC cC)).run Try.prog w' = .ok (.string (strB fl.bs)) w') ∧ ((convert 26 9 (.slice AD nD cD)).run Try.prog w' = .ok (.string (strB fl.bs)) w')) (fun _ h => h.1) ?_)
              clear hK K
              try simp only [Act.put, List.setIfInBounds_toArray, List.set_cons_zero, List.set_cons_succ]
              have hSab := And.intro cvC2 cvD
              refine wpAnyH_take (i := 7) (oi := ⟨some 131, _, _, _, _, _⟩) (v := ?_) rfl (by kernel_rfl) (by kernel_rfl) (by kernel_rfl) (fun _ _ _ h => h) (Or.inl ⟨by rfl, ?_⟩) (by assumption) ?_
              rotate_left
              · intro w hSw; (try dsimp only at hSw); go_simp; (try with_reducible rfl)
              try simp only [Act.put, List.setIfInBounds_toArray, List.set_cons_zero, List.set_cons_succ]
              refine wpAnyH_take (i := 8) (oi := ⟨some 132, _, _, _, _, _⟩) (v := ?_) rfl (by kernel_rfl) (by kernel_rfl) (by kernel_rfl) (fun _ _ _ h => h) (Or.inl ⟨by rfl, ?_⟩) (by assumption) ?_
              rotate_left
              · intro w hSw; (try dsimp only at hSw); go_simp; (try with_reducible rfl)
              try simp only [Act.put, List.setIfInBounds_toArray, List.set_cons_zero, List.set_cons_succ]
              refine wpAnyH_take (i := 9) (oi := ⟨some 133, _, _, _, _, _⟩) (v := ?_) rfl (by kernel_rfl) (by kernel_rfl) (by kernel_rfl) (fun _ _ _ h => h) (Or.inl ⟨by rfl, ?_⟩) (by assumption) ?_
              rotate_left
              · intro w hSw; (try dsimp only at hSw); go_simp; (try with_reducible rfl)
              try simp only [Act.put, List.setIfInBounds_toArray, List.set_cons_zero, List.set_cons_succ]
              refine wpAnyH_take (i := 10) (oi := ⟨some 134, _, _, _, _, _⟩) (v := ?_) rfl (by kernel_rfl) (by kernel_rfl) (by kernel_rfl) (fun _ _ _ h => h) (Or.inl ⟨by rfl, ?_⟩) (by assumption) ?_
              rotate_left
              · intro w hSw; (try dsimp only at hSw); go_simp; (try with_reducible rfl)
              try simp only [Act.put, List.setIfInBounds_toArray, List.set_cons_zero, List.set_cons_succ]
              refine wpAnyH_take (i := 11) (oi := ⟨some 135, _, _, _, _, _⟩) (v := ?_) rfl (by kernel_rfl) (by kernel_rfl) (by kernel_rfl) (fun _ _ _ h => h) (Or.inl ⟨by rfl, ?_⟩) (by assumption) ?_
              rotate_left
              · intro w hSw; (try dsimp only at hSw); go_simp; (try with_reducible rfl)
              try simp only [Act.put, List.setIfInBounds_toArray, List.set_cons_zero, List.set_cons_succ]
              refine wpAnyH_take (i := 13) (oi := ⟨some 137, _, _, _, _, _⟩) (v := ?_) rfl (by kernel_rfl) (by kernel_rfl) (by kernel_rfl) (fun _ _ _ h => h) (Or.inl ⟨by rfl, ?_⟩) (by assumption) ?_
              rotate_left
              · intro w hSw; (try dsimp only at hSw); go_simp; (try with_reducible rfl)
              try simp only [Act.put, List.setIfInBounds_toArray, List.set_cons_zero, List.set_cons_succ]
              refine wpAnyH_take (i := 14) (oi := ⟨some 138, _, _, _, _, _⟩) (v := ?_) rfl (by kernel_rfl) (by kernel_rfl) (by kernel_rfl) (fun _ _ _ h => h) (Or.inl ⟨by rfl, ?_⟩) (by assumption) ?_
              rotate_left
              · intro w hSw; (try dsimp only at hSw); go_simp; (try with_reducible rfl)
              try simp only [Act.put, List.setIfInBounds_toArray, List.set_cons_zero, List.set_cons_succ]
              refine wpAnyH_ready (rs := [12]) (by kernel_rfl) (by simp) ?_
              refine AllReadyH.cons (o := ⟨some 136, _, _, _, _, _⟩) rfl (fun K hK => ?_) ?_
              rotate_left
              · exact AllReadyH.nil
              go_simp
              go_at_call 19
              refine (HSc.out _ gD).mono ?_
              rintro e w11 ⟨rfl, rfl⟩
              go_wp2_with fail
              refine hK.out _ _ hSab (fun _ => ?_)
              clear hK K
              try simp only [Act.put, List.setIfInBounds_toArray, List.set_cons_zero, List.set_cons_succ]
              refine wpAnyH_ready (rs := [15]) (by kernel_rfl) (by simp) ?_
              refine AllReadyH.cons (o := ⟨some 139, _, _, _, _, _⟩) rfl (fun K hK => ?_) ?_
              rotate_left
              · exact AllReadyH.nil
              go_simp
              go_at_call 19
              refine (HSd.out _ gD).mono ?_
              rintro e w11 ⟨rfl, rfl⟩
              go_wp2_with fail
              refine hK.out _ _ hSab (fun _ => ?_)
              clear hK K
              try simp only [Act.put, List.setIfInBounds_toArray, List.set_cons_zero, List.set_cons_succ]
              refine wpAnyH_take (i := 16) (oi := ⟨some 140, _, _, _, _, _⟩) (v := ?_) rfl (by kernel_rfl) (by kernel_rfl) (by kernel_rfl) (fun _ _ _ h => h) (Or.inl ⟨by rfl, ?_⟩) (by assumption) ?_
              rotate_left
              · intro w hSw; (try dsimp only at hSw); go_simp; (try with_reducible rfl)
              try simp only [Act.put, List.setIfInBounds_toArray, List.set_cons_zero, List.set_cons_succ]
              refine wpAnyH_take (i := 17) (oi := ⟨some 141, _, _, _, _, _⟩) (v := ?_) rfl (by kernel_rfl) (by kernel_rfl) (by kernel_rfl) (fun _ _ _ h => h) (Or.inl ⟨by rfl, ?_⟩) (by assumption) ?_
              rotate_left
              · intro w hSw; (try dsimp only at hSw); go_simp; (try with_reducible rfl)
              try simp only [Act.put, List.setIfInBounds_toArray, List.set_cons_zero, List.set_cons_succ]
              refine wpAnyH_done (by kernel_rfl) ?_ _
              go_wp2_with fail
              go_roundw
              case rel => exact ⟨j + 1, by omega, by go_num, ht.chg gD⟩
              case measure => simp [intOf]; omega
            · have hgz := ht.c.chg
              go_wp2_with fail
              refine (known_any _).mono ?_
              rintro e w12 ⟨rfl, g12⟩
              go_wp2_with fail
              go_ret
              exact ⟨rfl, hgz.trans g12⟩

end Go.Proofs.Ytbgofhbanhanfaa
