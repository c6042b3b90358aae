/-
  Walks over package disk: Crash, Copy.
-/
import Derived.Test.YtbgofhbanhanfaaC
import Derived.Deep.DeepCutAuto
import Derived.Deep.CutBlock
namespace Go.Proofs.Ytbgofhbanhanfaa
open Go.RowKit

/-- One disk's way from world to world. -/
structure DStep (w : World) (b : Nat) (fs : List File) (w' : World) (fs' : List File) : Prop where
  disk : DiskAt w' b fs'
  kept : Kept (foot b fs) w w'
  foot : ∀ g, foot b fs' g → foot b fs g ∨ w.heap.size ≤ g

theorem DStep.refl {w : World} {b : Nat} {fs : List File} (h : DiskAt w b fs) : DStep w b fs w fs := ⟨h, Kept.refl _ _, fun _ hg => .inl hg⟩
theorem DStep.trans {w1 w2 w3 : World} {b : Nat} {f1 f2 f3 : List File} (h : DStep w1 b f1 w2 f2) (k : DStep w2 b f2 w3 f3) : DStep w1 b f1 w3 f3 :=
  ⟨k.disk, h.kept.then k.kept h.foot, fun g hg => by
    rcases k.foot g hg with h1 | h1
    · exact h.foot g h1
    · exact .inr (Nat.le_trans h.kept.size h1)⟩
theorem DStep.chg {w1 w2 w3 : World} {b : Nat} {f1 f2 : List File} (h : DStep w1 b f1 w2 f2) (k : Chg none w2 w3) : DStep w1 b f1 w3 f2 :=
  ⟨h.disk.chg k, h.kept.chg k, h.foot⟩
theorem DStep.drewN {w1 w2 : World} {b : Nat} {f1 f2 : List File} (h : DStep w1 b f1 w2 f2) (n : Nat) : DStep w1 b f1 (w2.drewN n) f2 := h.chg ((Chg.refl _ _).drewN n)
theorem DPost.step {w w' : World} {b : Nat} {fs : List File} {r e : Ending} {D : List Fl} (h : DPost w b fs r D e w') : e = r ∧ ∃ fs', DStep w b fs w' fs' ∧ fls fs' = D := by
  obtain ⟨he, fs', h1, h2, h3, h4⟩ := h
  exact ⟨he, fs', ⟨h1, h3, h4⟩, h2⟩

def stays (f : Fl) (keep : Int) : Int := f.syn + max 0 (min keep (f.bs.length - f.syn))
def crash1 (f : Fl) (keep : Int) : Fl := ⟨f.bs.take (stays f keep).toNat, (stays f keep).toNat⟩
def crashN (D : List Fl) (ks : List Int) : Nat → List Fl
  | 0 => D
  | n + 1 => (crashN D ks n).set n (crash1 ((crashN D ks n).getD n default) (ks.getD n 0))
def crashed (D : List Fl) (k0 k1 : Int) : List Fl := crashN D [k0, k1] 2

theorem stays_le (f : Fl) (keep : Int) (h : f.syn ≤ f.bs.length) : 0 ≤ stays f keep ∧ stays f keep ≤ f.bs.length ∧ f.syn ≤ stays f keep := by unfold stays; omega

theorem Reads.take {w : World} {B size n k : Nat} {A : Option Addr} {xs : List Value} (h : Reads w B size A n xs) (hk : k ≤ n) : Reads w B size A k (xs.take (k * size)) := by
  refine ⟨by rw [List.length_take, h.1]; exact Nat.min_eq_left (Nat.mul_le_mul_right _ hk), fun h0 => ?_⟩
  obtain ⟨ad, hA, hb, hc⟩ := h.2 (by omega)
  refine ⟨ad, hA, hb, fun j u hu => hc j u ?_⟩
  rw [List.getElem?_take] at hu
  split at hu
  · exact hu
  · cases hu

theorem own_cap {w : World} {A : Option Addr} {n c : Nat} {xs : List Value} (h : w.ownsRow 0 5 1 (.slice A n c) n xs) : n ≤ c ∧ c ≤ maxLen := by
  rcases h.2 with ⟨h1, h2⟩ | ⟨g, cap, cur, hv, _, _, h3, h4, _⟩
  · injection h1 with e1 e2 e3; omega
  · injection hv with e1 e2 e3; omega

def CrashRel (w : World) (b : Nat) (fs : List File) (kb : Nat) (k0 k1 : Int) (k : Nat) (wr : World) : Prop :=
  ∃ fs', DStep w b fs wr fs' ∧ fls fs' = crashN (fls fs) [k0, k1] k ∧ Blk wr kb #[.int .i64 k0, .int .i64 k1] 28 ∧ ¬ foot b fs' kb

theorem flat_put {W : World} {b k n' : Nat} {fs : List File} {f : File} {v' : Value} (h : BlkL W b (fs.flatMap File.cells) 46) (hf : fs[k]? = some f) (bs' : List UInt8) :
    BlkL ((W.setCell ⟨b, k * 2, none⟩ v').setCell ⟨b, k * 2 + 1, none⟩ (.int .i64 n')) b ((fs.set k ⟨v', ⟨bs', n'⟩⟩).flatMap File.cells) 46 := by
  have hkl : k < fs.length := (List.getElem?_eq_some_iff.1 hf).1
  have hb2 := BlkL.set h (k * 2) v'
  have hfl1 := flat_set File.cells 2 File.cells_len fs k 0 f ⟨v', f.fl⟩ v' hf (by omega) rfl
  rw [show k * 2 + 0 = k * 2 from rfl] at hfl1
  rw [hfl1] at hb2
  have hb3 := BlkL.set hb2 (k * 2 + 1) (.int .i64 n')
  have hf1 : (fs.set k ⟨v', f.fl⟩)[k]? = some ⟨v', f.fl⟩ := List.getElem?_set_self hkl
  rw [flat_set File.cells 2 File.cells_len _ k 1 _ ⟨v', ⟨bs', n'⟩⟩ (.int .i64 n') hf1 (by omega) rfl, List.set_set] at hb3
  exact hb3

theorem crash_next {w wr w1 : World} {b kb k st : Nat} {fs fs' : List File} {k0 k1 kk : Int} {f : File} (hst : DStep w b fs wr fs') (hfl : fls fs' = crashN (fls fs) [k0, k1] k)
    (hkb : Blk wr kb #[.int .i64 k0, .int .i64 k1] 28) (hnf : ¬ foot b fs' kb) (hf : fs'[k]? = some f) (hkk : [k0, k1].getD k 0 = kk) (hs : stays f.fl kk = st)
    (hb1 : BlkL w1 (wr.heap.size + 1 + 1) (byteVals (f.fl.bs.take st)) 5) (hg : Chg none wr w1) (hhi : st ≤ f.fl.bs.length) :
    CrashRel w b fs kb k0 k1 (k + 1) ((w1.setCell ⟨b, k * 2, none⟩ (.slice (some ⟨wr.heap.size + 1 + 1, 0, none⟩) st st)).setCell ⟨b, k * 2 + 1, none⟩ (.int .i64 st)) := by
  have htop := (hst.disk.file hf).top
  have hlen : (f.fl.bs.take st).length = st := by rw [List.length_take]; omega
  have hd1 := hst.disk.chg hg
  have hb3 := flat_put (n' := st) (v' := .slice (some ⟨wr.heap.size + 1 + 1, 0, none⟩) st st) hd1.blk hf (f.fl.bs.take st)
  have hlt := hst.disk.lt
  have hk1 : Kept (fun g => g = b) w1 ((w1.setCell ⟨b, k * 2, none⟩ (.slice (some ⟨wr.heap.size + 1 + 1, 0, none⟩) st st)).setCell ⟨b, k * 2 + 1, none⟩ (.int .i64 st)) := ((Kept.refl (fun g => g = b) w1).setCell ⟨b, k * 2, none⟩ _ (.inl rfl)).setCell ⟨b, k * 2 + 1, none⟩ _ (.inl rfl)
  have hok1 : File.okAt w1 b ⟨.slice (some ⟨wr.heap.size + 1 + 1, 0, none⟩) st st, ⟨f.fl.bs.take st, st⟩⟩ := by
    refine ⟨?_, by simp [Value.ownBlock]; omega, by show st ≤ (f.fl.bs.take st).length; omega, by show (f.fl.bs.take st).length ≤ _; omega⟩
    show w1.ownsRow 0 5 1 _ (f.fl.bs.take st).length (byteVals (f.fl.bs.take st))
    rw [hlen]
    exact own_blkL hb1 (Nat.zero_le _) (by rw [byteVals_len, hlen]) (by unfold maxLen; omega)
  obtain ⟨p1, p2, p3⟩ := hst.disk.put hf hb3 (((Kept.refl (fun g => g = b ∨ f.v.ownBlock = some g) wr).chg hg).setCell _ _ (.inl (.inl rfl)) |>.setCell _ _ (.inl (.inl rfl))) (hok1.keep hk1 (fun g hg e => by subst e; simp [Value.ownBlock] at hg; omega)) (.inr (fun g hg => by simp [Value.ownBlock] at hg; omega))
  have hkl2 := Blk.lt hkb
  refine ⟨_, hst.trans ⟨p1, p2, p3⟩, ?_, (p2.block kb hkl2 hnf).trans hkb, fun hc => ?_⟩
  · rw [fls_set, hfl]
    show _ = (crashN (fls fs) [k0, k1] k).set k _
    rw [← hfl, fls_getD hf, hkk]
    unfold crash1
    rw [hs]
    rfl
  · rcases p3 kb hc with h | h
    · exact hnf h
    · omega

set_option maxRecDepth 100000 in
set_option maxHeartbeats 4000000 in
theorem crash_any (b : Nat) (fs : List File) (k0 k1 : Int) (w : World) (h : DiskAt w b fs) :
    Calls Try.prog 15 #[.pointer (some ⟨b, 0, none⟩), .agg #[.int .i64 k0, .int .i64 k1]] w
      fun e w' => e = .returned (.tuple #[]) ∧ ∃ fs', DStep w b fs w' fs' ∧ fls fs' = crashed (fls fs) k0 k1 := by
  have hlt := h.lt
  have hk0 := Blk.new w #[.int .i64 k0, .int .i64 k1] 28
  have h1 : DStep w b fs (w.alloc (.cells #[.int .i64 k0, .int .i64 k1] 28)) fs := (DStep.refl h).chg ((Chg.refl _ _).alloc _)
  have hnf : ¬ foot b fs w.heap.size := fun hf => absurd (h.footLt _ hf) (Nat.lt_irrefl _)
  have hrel0 : CrashRel w b fs w.heap.size k0 k1 0 (w.alloc (.cells #[.int .i64 k0, .int .i64 k1] 28)) := ⟨fs, h1, rfl, hk0, hnf⟩
  clear hk0 h1 hnf h
  go_enter Try.func15, Try.ntmps15
  go_wp2_with fail
  generalize w.alloc (.cells #[.int .i64 k0, .int .i64 k1] 28) = w1 at *
  generalize w.heap.size = kb at *
  go_loopw [9] (fun s9 wr => ∃ k : Nat, k ≤ 2 ∧ s9 = .int .i64 k ∧ CrashRel w b fs kb k0 k1 k wr) (fun s9 _ => 2 - (intOf s9).toNat)
  case atStart => exact ⟨0, by omega, rfl, hrel0⟩
  case round =>
    obtain ⟨k, hk, rfl, hr⟩ := hrel
    clear hrel0
    by_cases hk2 : k < 2
    · obtain ⟨fs', hst, hfl, hkb, hnf⟩ := hr
      obtain ⟨f, hf⟩ := hst.disk.get hk2
      obtain ⟨c0, c1⟩ := hst.disk.at_ hf
      have hfo := hst.disk.file hf
      obtain ⟨A0, cp, hv⟩ := own_slice hfo.own
      have hown := hfo.own
      rw [hv] at c0 hown
      obtain ⟨hcap, hcm⟩ := own_cap hown
      have htop := hfo.top
      have hsyn := hfo.syn
      obtain ⟨kk, hkk, hkc⟩ : ∃ kk : Int, [k0, k1].getD k 0 = kk ∧ wr.cell? ⟨kb, k, none⟩ = some (.int .i64 kk) := by
        obtain rfl | rfl : k = 0 ∨ k = 1 := by omega
        · exact ⟨k0, rfl, by rw [Blk.cell hkb]; rfl⟩
        · exact ⟨k1, rfl, by rw [Blk.cell hkb]; rfl⟩
      have HKK := Lib.hid hkk
      have HF := Lib.hid hf
      have HFL := Lib.hid hfl
      have HV := Lib.hid hv
      clear hkk hf hfl hv hfo
      obtain ⟨st, hst0⟩ : ∃ st : Nat, stays f.fl kk = st := ⟨(stays f.fl kk).toNat, by have := (stays_le f.fl kk hsyn).1; omega⟩
      have hstl := stays_le f.fl kk hsyn
      rw [hst0] at hstl
      have hlo : f.fl.syn ≤ st := by omega
      have hhi : st ≤ f.fl.bs.length := by omega
      have HST := Lib.hid hst0
      unfold stays at hst0
      have hsum : ∀ x : Int, (f.fl.syn : Int) + max 0 (min kk ((f.fl.bs.length : Int) - (f.fl.syn : Int))) = x → x = st := fun x hx => by omega
      have HSUM := Lib.hid hsum
      clear hst0 hstl hsum
      go_wp2_with fail
      go_cut [6] (fun s6 wx => s6 = .int .i64 st ∧ ∃ q, wx = wr.drewN q)
      case first =>
        by_cases q1 : kk ≤ 0
        · have q2 : decide ((f.fl.bs.length : Int) - (f.fl.syn : Int) < kk) = false := by simp; omega
          have q3 : decide ((0 : Int) < kk) = false := by simp; omega
          go_wp2_with fail
          go_quiet (fail)
          all_goals go_wp2_with fail
          all_goals go_meet
          all_goals exact ⟨by congr 1; exact HSUM.out _ (by omega), _, rfl⟩
        · by_cases q0 : kk ≤ (f.fl.bs.length : Int) - (f.fl.syn : Int)
          · have q2 : decide ((f.fl.bs.length : Int) - (f.fl.syn : Int) < kk) = false := by simp; omega
            have q3 : decide ((0 : Int) < kk) = true := by simp; omega
            go_wp2_with fail
            go_quiet (fail)
            all_goals go_wp2_with fail
            all_goals go_meet
            all_goals exact ⟨by congr 1; exact HSUM.out _ (by omega), _, rfl⟩
          · have q2 : decide ((f.fl.bs.length : Int) - (f.fl.syn : Int) < kk) = true := by simp; omega
            have q3 : decide ((0 : Int) < kk) = true := by simp; omega
            go_wp2_with fail
            go_quiet (fail)
            all_goals go_wp2_with fail
            all_goals go_meet
            all_goals exact ⟨by congr 1; exact HSUM.out _ (by omega), _, rfl⟩
      case rest =>
        obtain ⟨rfl, q, rfl⟩ := hcut
        have hlen : (f.fl.bs.take st).length = st := by rw [List.length_take]; omega
        have hr1 : Reads wr wr.heap.size 1 A0 (f.fl.bs.take st).length (byteVals (f.fl.bs.take st)) := by
          have := (Reads.of_own hown).take (k := st) hhi
          rw [Nat.mul_one, byteVals_take] at this
          rw [hlen]
          exact this
        have hC := copied_any A0 (f.fl.bs.take st) cp st (wr.drewN q) (hr1.drewN q) (by omega)
        unfold CopiedPost at hC
        rw [hlen] at hC
        have HC := Lib.hid hC
        have hlt2 := hst.disk.lt
        have hblk := hst.disk.blk
        have hx1 : st ≤ cp := by omega
        have hnext := fun w1 hb1 hg => crash_next (w1 := w1) hst HFL.out hkb hnf HF.out HKK.out HST.out hb1 hg hhi
        have HX := Lib.hid hnext
        clear hlen hr1 hC hnext
        go_wp2_with fail
        refine HC.out.mono ?_
        rintro e w1 ⟨rfl, hb1, hg1⟩
        have hg2 : Chg none wr w1 := ((Chg.refl none wr).drewN q).trans hg1
        have hb2 : BlkL w1 (wr.heap.size + 1 + 1) (byteVals (f.fl.bs.take st)) 5 := hb1
        have hrel := HX.out w1 hb2 hg2
        have hblk1 : BlkL w1 b (fs'.flatMap File.cells) 46 := Blk.chg hblk hg2 (by simp)
        have d0 := World.grownBy.cell hg2 c0 (by simp)
        have d1 := World.grownBy.cell hg2 c1 (by simp)
        have z0 := Blk.frozen hblk1 (k * 2)
        have z1 := Blk.frozen hblk1 (k * 2 + 1)
        go_wp2_with fail
        go_roundw
        case rel => exact ⟨k + 1, by omega, by go_num, hrel⟩
        case measure => simp [intOf]; omega
    · obtain rfl : k = 2 := by omega
      obtain ⟨fs', hst, hfl, _, _⟩ := hr
      go_wp2_with fail
      go_end0
      exact ⟨rfl, fs', hst, hfl⟩

end Go.Proofs.Ytbgofhbanhanfaa
