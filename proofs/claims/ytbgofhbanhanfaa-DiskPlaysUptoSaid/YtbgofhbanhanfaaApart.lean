/-
  The law DiskApart: its walk.
-/
import Derived.Test.YtbgofhbanhanfaaNone
namespace Go.Proofs.Ytbgofhbanhanfaa
open Go.RowKit

theorem RowsAt.five {w : World} {A : Option Addr} {L : List Opn} (h : RowsAt w 5 A Opn.cells L) (hne : L ≠ []) :
    ∃ b off, A = some ⟨b, off, none⟩ ∧ b < w.heap.size ∧ ∀ i o, L[i]? = some o →
      w.cell? ⟨b, off + i * 5, none⟩ = some (.int .i64 o.kind) ∧ w.cell? ⟨b, off + i * 5 + 1, none⟩ = some (.int .i64 o.f) ∧
      w.cell? ⟨b, off + i * 5 + 2, none⟩ = some (.slice o.A o.bs.length o.c) ∧ w.cell? ⟨b, off + i * 5 + 3, none⟩ = some (.int .i64 o.k0) ∧ w.cell? ⟨b, off + i * 5 + 4, none⟩ = some (.int .i64 o.k1) := by
  obtain ⟨b, off, hA, hb, hc⟩ := h hne
  exact ⟨b, off, hA, hb, fun i o hi => ⟨hc i o hi 0 (by omega), hc i o hi 1 (by omega), hc i o hi 2 (by omega), hc i o hi 3 (by omega), hc i o hi 4 (by omega)⟩⟩

def KeptD (g : Nat) (D : List Fl) : Prop := D[g]? = some ⟨[107, 101, 112, 116], 0⟩

theorem KeptD.appended {g n : Nat} {D : List Fl} (h : KeptD g D) (hne : n ≠ g) (bs : List UInt8) : KeptD g (appended D n bs).1 := by
  unfold Proofs.Ytbgofhbanhanfaa.appended
  split
  · split
    · unfold KeptD; rw [Int.toNat_natCast, List.getElem?_set_ne hne]; exact h
    · exact h
  · exact h
theorem KeptD.turned {g n : Nat} {D : List Fl} (h : KeptD g D) (hne : n ≠ g) (f : Fl → Fl) : KeptD g (turned D n f).1 := by
  unfold Proofs.Ytbgofhbanhanfaa.turned
  split
  · unfold KeptD; rw [Int.toNat_natCast, List.getElem?_set_ne hne]; exact h
  · exact h
theorem KeptD.file {g : Nat} {D : List Fl} (h : KeptD g D) (hg : g < 2) : fileAt D g = ⟨[107, 101, 112, 116], 0⟩ := by
  unfold fileAt
  rw [if_pos ⟨by omega, by omega⟩, Int.toNat_natCast, List.getD_eq_getElem?_getD, h]
  rfl

set_option maxRecDepth 100000 in
set_option maxHeartbeats 8000000 in
theorem apart_main (A : Option Addr) (L : List Opn) (ca : Nat) (n g : Nat) (w : World) (hng0 : n + g = 1) (hl : L.length ≤ 60) (hA : RowsAt w 5 A Opn.cells L) (hL : ∀ o ∈ L, o.okIn w) :
    Calls Try.prog 6 #[.slice A L.length ca, .int .i64 n] w fun e w' => e = .returned (.bool true) ∧ Chg none w w' := by
  have e1 : decide ((60 : Int) < (L.length : Int)) = false := by simp; omega
  have e2 : decide ((n : Int) < 0) = false := by simp
  have e3 : decide ((1 : Int) < (n : Int)) = false := by simp; omega
  have hng : (1 : Int) - (n : Int) = (g : Int) := by omega
  have hn2 : n < 2 := by omega
  have hg2 : g < 2 := by omega
  have hne : n ≠ g := by omega
  have kc := fun (w : World) (C : Array Value) (n c : Nat) => Lib.run_convert_bytes_const (P := Try.prog) w 26 5 C n c Try.underlying26 Try.underlying5
  have hap : appended [⟨[], 0⟩, ⟨[], 0⟩] (g : Int) [107, 101, 112, 116] = ([⟨[], 0⟩, ⟨[], 0⟩].set g ⟨[107, 101, 112, 116], 0⟩, 0) := by
    obtain rfl | rfl : g = 0 ∨ g = 1 := by omega
    · decide
    · decide
  have hk0 : KeptD g ([⟨[], 0⟩, ⟨[], 0⟩].set g ⟨[107, 101, 112, 116], 0⟩) := by
    unfold KeptD; rw [List.getElem?_set_self (by simpa using hg2)]
  have KD := fun D (h : KeptD g D) => (show (fileAt D g).bs = [107, 101, 112, 116] ∧ (fileAt D g).syn = 0 by rw [h.file hg2]; exact ⟨rfl, rfl⟩)
  have HAP := Lib.hid hap
  have HK := Lib.hid hng0
  clear hap hng0
  go_enter Try.func6, Try.ntmps6
  go_wp2_with fail
  refine (new_rel _).mono ?_
  rintro e w1 ⟨rfl, r1⟩
  have hB := r1.disk.lt
  generalize hBB : w.heap.size = B at *
  have HBB := Lib.hid hBB
  clear hBB
  go_wp2_with fail
  refine (append_is g _ [107, 101, 112, 116] 4 _ (r1.disk.alloc _) (reads_mark w1 [107, 101, 112, 116] _ rfl _) _ 0 HAP.out).mono ?_
  rintro e w2 ⟨rfl, f2, s2, hf2⟩
  have r2 := (r1.more ((Chg.refl _ _).alloc _)).step s2
  rw [← hf2] at hk0
  have HKD := Lib.hid KD
  clear hf2 s2 r1 kc KD
  go_wp2_with fail
  go_loopw [38] (fun s38 wr => ∃ k : Nat, k ≤ L.length ∧ s38 = .int .i64 k ∧ ∃ fs, DRel w B fs wr ∧ KeptD g (fls fs)) (fun s38 _ => L.length - (intOf s38).toNat)
  case atStart => exact ⟨0, by omega, rfl, _, r2, hk0⟩
  case round =>
    obtain ⟨k, hk, rfl, fs, hr, hkd⟩ := hrel
    clear r2 hk0
    by_cases hlt : k < L.length
    · have hxk : L[k]? = some L[k] := List.getElem?_eq_getElem hlt
      have hok := hL L[k] (List.getElem_mem hlt)
      obtain ⟨ba, oa, hAe, hba, hca⟩ := hA.five (by intro h; rw [h, List.length_nil] at hlt; omega)
      obtain ⟨d0, d1, d2, d3, d4⟩ := hca k _ hxk
      have c0 := World.grownBy.cell hr.chg d0 (by simp)
      have c1 := World.grownBy.cell hr.chg d1 (by simp)
      have c2 := World.grownBy.cell hr.chg d2 (by simp)
      have c3 := World.grownBy.cell hr.chg d3 (by simp)
      have c4 := World.grownBy.cell hr.chg d4 (by simp)
      have hba2 := Nat.lt_of_lt_of_le hba hr.chg.size
      have hrd := (hok.reads.below (hr.chg.belowNone (Nat.le_refl _))).more hr.chg.size
      generalize L[k] = o at *
      obtain ⟨kind, f, Ao, bs, c, k0, k1⟩ := o
      dsimp only at c0 c1 c2 c3 c4 hrd
      have hrd2 := hrd.alloc (Nat.le_refl _) (.cells #[.int .i64 kind, .int .i64 f, .slice Ao bs.length c, .int .i64 k0, .int .i64 k1] 33)
      have hr2 := hr.more ((Chg.refl none wr).alloc (.cells #[.int .i64 kind, .int .i64 f, .slice Ao bs.length c, .int .i64 k0, .int .i64 k1] 33))
      have hsz2 : wr.heap.size ≤ (wr.alloc (.cells #[.int .i64 kind, .int .i64 f, .slice Ao bs.length c, .int .i64 k0, .int .i64 k1] 33)).heap.size := by simp
      have KD := HKD.out
      clear hxk d0 d1 d2 d3 d4 hca hok hrd HKD
      have HKD := Lib.hid KD
      have HR := Lib.hid (hrd2.more hsz2)
      subst hAe
      by_cases hbig : bs.length ≤ 1000
      · have b1 : decide ((1000 : Int) < (bs.length : Int)) = false := by simp; omega
        clear KD hrd2 hsz2
        by_cases q1 : kind = 1
        · have q1' : (kind == 1) = true := by simp [q1]
          clear q1
          go_wp2_with fail
          refine ((append_any B fs n Ao bs c _ hr2.disk HR.out).mono (fun _ _ hp => hp.step)).mono ?_
          rintro e w6 ⟨rfl, f6, s6, hf6⟩
          have r6 := hr2.step s6
          have hk6 : KeptD g (fls f6) := by rw [hf6]; exact hkd.appended hne _
          clear hf6 s6
          go_wp2_with fail
          have KD := HKD.out
          refine (bytes_is g _ r6.disk [107, 101, 112, 116] (KD _ hk6).1).mono ?_
          rintro e w7 ⟨A7, n7, c7, rfl, hn7, ho7, g7⟩
          have cv := conv_is _ ho7 hn7
          have r7 := r6.more g7
          have HN7 := Lib.hid hn7
          clear hn7 ho7 g7
          go_wp2_with fail
          refine (synced_is g _ r7.disk 0 (KD _ hk6).2).mono ?_
          rintro e w8 ⟨rfl, rfl⟩
          clear cv
          go_wp2_with fail
          go_roundw
          case rel => exact ⟨k + 1, by omega, by go_num, _, r7, hk6⟩
          case measure => simp [intOf]; omega
        · have q1' : (kind == 1) = false := by simp [q1]
          by_cases q2 : kind = 2
          · have q2' : (kind == 2) = true := by simp [q2]
            clear q1 q2
            go_wp2_with fail
            refine ((sync_any B fs n _ hr2.disk).mono (fun _ _ hp => hp.step)).mono ?_
            rintro e w6 ⟨rfl, f6, s6, hf6⟩
            have r6 := hr2.step s6
            have hk6 : KeptD g (fls f6) := by rw [hf6]; exact hkd.turned hne _
            clear hf6 s6
            go_wp2_with fail
            have KD := HKD.out
            refine (bytes_is g _ r6.disk [107, 101, 112, 116] (KD _ hk6).1).mono ?_
            rintro e w7 ⟨A7, n7, c7, rfl, hn7, ho7, g7⟩
            have cv := conv_is _ ho7 hn7
            have r7 := r6.more g7
            have HN7 := Lib.hid hn7
            clear hn7 ho7 g7
            go_wp2_with fail
            refine (synced_is g _ r7.disk 0 (KD _ hk6).2).mono ?_
            rintro e w8 ⟨rfl, rfl⟩
            clear cv
            go_wp2_with fail
            go_roundw
            case rel => exact ⟨k + 1, by omega, by go_num, _, r7, hk6⟩
            case measure => simp [intOf]; omega
          · have q2' : (kind == 2) = false := by simp [q2]
            by_cases q3 : kind = 3
            · have q3' : (kind == 3) = true := by simp [q3]
              clear q1 q2 q3
              go_wp2_with fail
              refine ((clear_any B fs n _ hr2.disk).mono (fun _ _ hp => hp.step)).mono ?_
              rintro e w6 ⟨rfl, f6, s6, hf6⟩
              have r6 := hr2.step s6
              have hk6 : KeptD g (fls f6) := by rw [hf6]; exact hkd.turned hne _
              clear hf6 s6
              go_wp2_with fail
              have KD := HKD.out
              refine (bytes_is g _ r6.disk [107, 101, 112, 116] (KD _ hk6).1).mono ?_
              rintro e w7 ⟨A7, n7, c7, rfl, hn7, ho7, g7⟩
              have cv := conv_is _ ho7 hn7
              have r7 := r6.more g7
              have HN7 := Lib.hid hn7
              clear hn7 ho7 g7
              go_wp2_with fail
              refine (synced_is g _ r7.disk 0 (KD _ hk6).2).mono ?_
              rintro e w8 ⟨rfl, rfl⟩
              clear cv
              go_wp2_with fail
              go_roundw
              case rel => exact ⟨k + 1, by omega, by go_num, _, r7, hk6⟩
              case measure => simp [intOf]; omega
            · have q3' : (kind == 3) = false := by simp [q3]
              have r6 := hr2
              have hk6 := hkd
              clear q1 q2 q3
              go_wp2_with fail
              have KD := HKD.out
              refine (bytes_is g _ r6.disk [107, 101, 112, 116] (KD _ hk6).1).mono ?_
              rintro e w7 ⟨A7, n7, c7, rfl, hn7, ho7, g7⟩
              have cv := conv_is _ ho7 hn7
              have r7 := r6.more g7
              have HN7 := Lib.hid hn7
              clear hn7 ho7 g7
              go_wp2_with fail
              refine (synced_is g _ r7.disk 0 (KD _ hk6).2).mono ?_
              rintro e w8 ⟨rfl, rfl⟩
              clear cv
              go_wp2_with fail
              go_roundw
              case rel => exact ⟨k + 1, by omega, by go_num, _, r7, hk6⟩
              case measure => simp [intOf]; omega
      · have b1 : decide ((1000 : Int) < (bs.length : Int)) = true := by simp; omega
        clear KD hrd2 hsz2 hbig
        go_wp2_with fail
        go_roundw
        case rel => exact ⟨k + 1, by omega, by go_num, _, hr2, hkd⟩
        case measure => simp [intOf]; omega
    · have hgz := hr.chg
      go_wp2_with fail
      refine (known_any _).mono ?_
      rintro e w9 ⟨rfl, g9⟩
      go_wp2_with fail
      go_ret
      exact ⟨rfl, hgz.trans g9⟩

end Go.Proofs.Ytbgofhbanhanfaa
