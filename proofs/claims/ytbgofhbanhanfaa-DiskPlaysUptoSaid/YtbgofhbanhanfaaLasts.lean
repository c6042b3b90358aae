/-
  The law DiskLasts: its walk.
-/
import Derived.Test.YtbgofhbanhanfaaApart
import Derived.Lib.Strings
import Derived.ShutString
namespace Go.Proofs.Ytbgofhbanhanfaa
open Go.RowKit

def strB (bs : List UInt8) : ByteArray := ⟨bs.toArray⟩
theorem strB_size (bs : List UInt8) : (strB bs).size = bs.length := size_of_list bs
theorem strB_extract (bs : List UInt8) (n : Nat) : (strB bs).extract 0 n = strB (bs.take n) := by
  have h := Lib.extract_data (strB bs) 0 n
  unfold strB at *
  apply ByteArray.ext
  apply Array.toList_inj.1
  rw [h]
  simp

theorem conv_str (w : World) {A : Option Addr} {n c base : Nat} {bs : List UInt8} (h : w.ownsRow base 5 1 (.slice A n c) n (byteVals bs)) (hn : n = bs.length) :
    (convert 26 9 (.slice A n c)).run Try.prog w = .ok (.string (strB bs)) w := conv_is w h hn

def sv (D : List Fl) (i j : Nat) : Value := if i < j then .string (strB (fileAt D i).bs) else .string ⟨#[]⟩
def sy (D : List Fl) (i j : Nat) : Value := if i < j then .int .i64 (fileAt D i).syn else .int .i64 0
theorem sv_set (D : List Fl) (j : Nat) (hj : j < 2) : #[sv D 0 j, sv D 1 j].setIfInBounds j (.string (strB (fileAt D j).bs)) = #[sv D 0 (j + 1), sv D 1 (j + 1)] := by
  obtain rfl | rfl : j = 0 ∨ j = 1 := by omega
  · rfl
  · rfl
theorem sy_set (D : List Fl) (j : Nat) (hj : j < 2) : #[sy D 0 j, sy D 1 j].setIfInBounds j (.int .i64 (fileAt D j).syn) = #[sy D 0 (j + 1), sy D 1 (j + 1)] := by
  obtain rfl | rfl : j = 0 ∨ j = 1 := by omega
  · rfl
  · rfl

theorem crashed_file {D : List Fl} {k0 k1 : Int} {j : Nat} (h : D.length = 2) (hj : j < 2) : fileAt (crashed D k0 k1) j = crash1 (fileAt D j) ([k0, k1].getD j 0) := by
  obtain ⟨x, y, rfl⟩ : ∃ x y, D = [x, y] := by
    match D, h with
    | [x, y], _ => exact ⟨x, y, rfl⟩
  obtain rfl | rfl : j = 0 ∨ j = 1 := by omega
  · rfl
  · rfl

theorem fileAt_ok {w : World} {b : Nat} {fs : List File} (h : DiskAt w b fs) {j : Nat} (hj : j < 2) : (fileAt (fls fs) j).syn ≤ (fileAt (fls fs) j).bs.length := by
  obtain ⟨f, hf⟩ := h.get hj
  have : fileAt (fls fs) j = f.fl := by unfold fileAt; rw [if_pos ⟨by omega, by omega⟩, Int.toNat_natCast, fls_getD hf]
  rw [this]
  exact (h.file hf).syn

theorem fls_len {w : World} {b : Nat} {fs : List File} (h : DiskAt w b fs) : (fls fs).length = 2 := by unfold fls; rw [List.length_map]; exact h.two

/-- What stands while the strings are held against the bytes. -/
structure Held (w : World) (B : Nat) (D : List Fl) (fs : List File) (a6 a7 : Nat) (wr : World) : Prop where
  r : DRel w B fs wr
  s6 : Blk wr a6 #[.string (strB (fileAt D 0).bs), .string (strB (fileAt D 1).bs)] 48
  s7 : Blk wr a7 #[.int .i64 (fileAt D 0).syn, .int .i64 (fileAt D 1).syn] 28

theorem Held.chg {w wr w' : World} {B a6 a7 : Nat} {D : List Fl} {fs : List File} (h : Held w B D fs a6 a7 wr) (g : Chg none wr w') : Held w B D fs a6 a7 w' :=
  ⟨h.r.more g, Blk.chg h.s6 g (by simp), Blk.chg h.s7 g (by simp)⟩

theorem Held.at_ {w wr : World} {B a6 a7 : Nat} {D : List Fl} {fs : List File} (h : Held w B D fs a6 a7 wr) {j : Nat} (hj : j < 2) :
    wr.cell? ⟨a6, j, none⟩ = some (.string (strB (fileAt D j).bs)) ∧ wr.cell? ⟨a7, j, none⟩ = some (.int .i64 (fileAt D j).syn) := by
  rw [Blk.cell h.s6, Blk.cell h.s7]
  obtain rfl | rfl : j = 0 ∨ j = 1 := by omega
  · exact ⟨rfl, rfl⟩
  · exact ⟨rfl, rfl⟩

/-- What stands while the strings are filled. -/
structure Fill (w : World) (B : Nat) (fs : List File) (b5 a6 a7 : Nat) (o : Opn) (j : Nat) (wr : World) : Prop where
  r : DRel w B fs wr
  op : OpS b5 o wr
  s6 : Blk wr a6 #[sv (fls fs) 0 j, sv (fls fs) 1 j] 48
  s7 : Blk wr a7 #[sy (fls fs) 0 j, sy (fls fs) 1 j] 28
  n5 : ¬ foot B fs b5
  n6 : ¬ foot B fs a6
  n7 : ¬ foot B fs a7
  u6 : w.heap.size ≤ a6
  u7 : w.heap.size ≤ a7
  h56 : b5 ≠ a6
  h57 : b5 ≠ a7
  h67 : a6 ≠ a7

theorem Fill.chg {w wr w' : World} {B b5 a6 a7 j : Nat} {fs : List File} {o : Opn} (h : Fill w B fs b5 a6 a7 o j wr) (g : Chg none wr w') : Fill w B fs b5 a6 a7 o j w' :=
  ⟨h.r.more g, h.op.chg g, Blk.chg h.s6 g (by simp), Blk.chg h.s7 g (by simp), h.n5, h.n6, h.n7, h.u6, h.u7, h.h56, h.h57, h.h67⟩

theorem Fill.next {w wr : World} {B b5 a6 a7 j : Nat} {fs : List File} {o : Opn} (h : Fill w B fs b5 a6 a7 o j wr) (hj : j < 2) :
    Fill w B fs b5 a6 a7 o (j + 1) ((wr.setCell ⟨a6, j, none⟩ (.string (strB (fileAt (fls fs) j).bs))).setCell ⟨a7, j, none⟩ (.int .i64 (fileAt (fls fs) j).syn)) := by
  have hk : Kept (fun g => g = a6 ∨ g = a7) wr ((wr.setCell ⟨a6, j, none⟩ (.string (strB (fileAt (fls fs) j).bs))).setCell ⟨a7, j, none⟩ (.int .i64 (fileAt (fls fs) j).syn)) :=
    ((Kept.refl (fun g => g = a6 ∨ g = a7) wr).setCell ⟨a6, j, none⟩ _ (.inl (.inl rfl))).setCell ⟨a7, j, none⟩ _ (.inl (.inr rfl))
  have e6 := Blk.setOther (Blk.set h.s6 j (.string (strB (fileAt (fls fs) j).bs))) ⟨a7, j, none⟩ (.int .i64 (fileAt (fls fs) j).syn) h.h67
  have e7 := Blk.set (Blk.setOther h.s7 ⟨a6, j, none⟩ (.string (strB (fileAt (fls fs) j).bs)) (fun e => h.h67 e.symm)) j (.int .i64 (fileAt (fls fs) j).syn)
  rw [sv_set _ _ hj] at e6
  rw [sy_set _ _ hj] at e7
  refine ⟨⟨h.r.disk.kept hk ?_, h.r.chg.kept hk ?_, h.r.own⟩, (hk.block b5 (Blk.lt h.op) ?_).trans h.op, e6, e7, h.n5, h.n6, h.n7, h.u6, h.u7, h.h56, h.h57, h.h67⟩
  · intro g hg hc
    rcases hc with rfl | rfl
    · exact h.n6 hg
    · exact h.n7 hg
  · intro g hc
    rcases hc with rfl | rfl
    · exact h.u6
    · exact h.u7
  · intro hc
    rcases hc with e | e
    · exact h.h56 e
    · exact h.h57 e

set_option maxRecDepth 100000 in
set_option maxHeartbeats 8000000 in
theorem lasts_main (A : Option Addr) (L : List Opn) (ca : Nat) (w : World) (hl : L.length ≤ 60) (hA : RowsAt w 5 A Opn.cells L) (hL : ∀ o ∈ L, o.okIn w) :
    Calls Try.prog 5 #[.slice A L.length ca] w fun e w' => e = .returned (.bool true) ∧ Chg none w w' := by
  have e1 : decide ((60 : Int) < (L.length : Int)) = false := by simp; omega
  go_enter Try.func5, Try.ntmps5
  go_wp2_with fail
  refine (new_rel _).mono ?_
  rintro e w1 ⟨rfl, r1⟩
  have hB := r1.disk.lt
  generalize hBB : w.heap.size = B at *
  have HBB := Lib.hid hBB
  clear hBB
  go_wp2_with fail
  go_loopw [26] (fun s26 wr => ∃ k : Nat, k ≤ L.length ∧ s26 = .int .i64 k ∧ ∃ fs, DRel w B fs wr) (fun s26 _ => L.length - (intOf s26).toNat)
  case atStart => exact ⟨0, by omega, rfl, _, r1⟩
  case round =>
    obtain ⟨k, hk, rfl, fs, hr⟩ := hrel
    clear r1
    by_cases hlt : k < L.length
    · have hxk : L[k]? = some L[k] := List.getElem?_eq_getElem hlt
      have hok := hL L[k] (List.getElem_mem hlt)
      obtain ⟨ba, oa, hAe, hba, hca⟩ := hA.five (by intro h; rw [h, List.length_nil] at hlt; omega)
      obtain ⟨d0, d1, d2, d3, d4⟩ := hca k _ hxk
      have c0 := World.grownBy.cell hr.chg d0 (by simp)
      have c1 := World.grownBy.cell hr.chg d1 (by simp)
      have c2 := World.grownBy.cell hr.chg d2 (by simp)
      have c3 := World.grownBy.cell hr.chg d3 (by simp)
      have c4 := World.grownBy.cell hr.chg d4 (by simp)
      have hba2 := Nat.lt_of_lt_of_le hba hr.chg.size
      have hrd := (hok.reads.below (hr.chg.belowNone (Nat.le_refl _))).more hr.chg.size
      generalize L[k] = o at *
      obtain ⟨kind, f, Ao, bs, c, k0, k1⟩ := o
      dsimp only at c0 c1 c2 c3 c4 hrd
      have hrd2 := hrd.alloc (Nat.le_refl _) (.cells #[.int .i64 kind, .int .i64 f, .slice Ao bs.length c, .int .i64 k0, .int .i64 k1] 33)
      have hr2 := hr.more ((Chg.refl none wr).alloc (.cells #[.int .i64 kind, .int .i64 f, .slice Ao bs.length c, .int .i64 k0, .int .i64 k1] 33))
      have hsz2 : wr.heap.size ≤ (wr.alloc (.cells #[.int .i64 kind, .int .i64 f, .slice Ao bs.length c, .int .i64 k0, .int .i64 k1] 33)).heap.size := by simp
      have hop : OpS wr.heap.size ⟨kind, f, Ao, bs, c, k0, k1⟩ (wr.alloc (.cells #[.int .i64 kind, .int .i64 f, .slice Ao bs.length c, .int .i64 k0, .int .i64 k1] 33)) := Blk.new _ _ _
      have hnf : ∀ g, wr.heap.size ≤ g → ¬ foot B fs g := fun g hg hc => absurd (hr.disk.footLt g hc) (by omega)
      clear hxk d0 d1 d2 d3 d4 hca hok hrd
      have HR := Lib.hid (hrd2.more hsz2)
      have HNF := Lib.hid hnf
      clear hrd2 hsz2 hnf
      subst hAe
      by_cases hbig : bs.length ≤ 1000
      · have b1 : decide ((1000 : Int) < (bs.length : Int)) = false := by simp; omega
        by_cases q1 : kind = 1
        · have q1' : (kind == 1) = true := by simp [q1]
          clear q1
          go_wp2_with fail
          refine ((append_any B fs f Ao bs c _ hr2.disk HR.out).mono (fun _ _ hp => hp.step)).mono ?_
          rintro e w6 ⟨rfl, f6, s6, hf6⟩
          have r6 := hr2.step s6
          clear hf6 s6
          go_wp2_with fail
          go_roundw
          case rel => exact ⟨k + 1, by omega, by go_num, _, r6⟩
          case measure => simp [intOf]; omega
        · have q1' : (kind == 1) = false := by simp [q1]
          by_cases q2 : kind = 2
          · have q2' : (kind == 2) = true := by simp [q2]
            clear q1 q2
            go_wp2_with fail
            refine ((sync_any B fs f _ hr2.disk).mono (fun _ _ hp => hp.step)).mono ?_
            rintro e w6 ⟨rfl, f6, s6, hf6⟩
            have r6 := hr2.step s6
            clear hf6 s6
            go_wp2_with fail
            go_roundw
            case rel => exact ⟨k + 1, by omega, by go_num, _, r6⟩
            case measure => simp [intOf]; omega
          · have q2' : (kind == 2) = false := by simp [q2]
            by_cases q3 : kind = 3
            · have q3' : (kind == 3) = true := by simp [q3]
              clear q1 q2 q3
              go_wp2_with fail
              refine ((clear_any B fs f _ hr2.disk).mono (fun _ _ hp => hp.step)).mono ?_
              rintro e w6 ⟨rfl, f6, s6, hf6⟩
              have r6 := hr2.step s6
              clear hf6 s6
              go_wp2_with fail
              go_roundw
              case rel => exact ⟨k + 1, by omega, by go_num, _, r6⟩
              case measure => simp [intOf]; omega
            · have q3' : (kind == 3) = false := by simp [q3]
              clear q1 q2 q3
              have hwz := hr.chg.size
              have hf0 : Fill w B fs wr.heap.size (wr.heap.size + 1) (wr.heap.size + 1 + 1) ⟨kind, f, Ao, bs, c, k0, k1⟩ 0 (((wr.alloc (.cells #[.int .i64 kind, .int .i64 f, .slice Ao bs.length c, .int .i64 k0, .int .i64 k1] 33)).alloc (.cells #[.string ⟨#[]⟩, .string ⟨#[]⟩] 48)).alloc (.cells #[.int .i64 0, .int .i64 0] 28)) := by
                have b6 := Blk.new (wr.alloc (.cells #[.int .i64 kind, .int .i64 f, .slice Ao bs.length c, .int .i64 k0, .int .i64 k1] 33)) #[.string ⟨#[]⟩, .string ⟨#[]⟩] 48
                have b7 := Blk.new ((wr.alloc (.cells #[.int .i64 kind, .int .i64 f, .slice Ao bs.length c, .int .i64 k0, .int .i64 k1] 33)).alloc (.cells #[.string ⟨#[]⟩, .string ⟨#[]⟩] 48)) #[.int .i64 0, .int .i64 0] 28
                rw [show (wr.alloc (.cells #[.int .i64 kind, .int .i64 f, .slice Ao bs.length c, .int .i64 k0, .int .i64 k1] 33)).heap.size = wr.heap.size + 1 by simp] at b6
                rw [show ((wr.alloc (.cells #[.int .i64 kind, .int .i64 f, .slice Ao bs.length c, .int .i64 k0, .int .i64 k1] 33)).alloc (.cells #[.string ⟨#[]⟩, .string ⟨#[]⟩] 48)).heap.size = wr.heap.size + 1 + 1 by simp] at b7
                exact ⟨hr2.more (((Chg.refl _ _).alloc _).alloc _), hop.chg (((Chg.refl _ _).alloc _).alloc _), b6.alloc _, b7, HNF.out _ (by omega), HNF.out _ (by omega), HNF.out _ (by omega), by omega, by omega, by omega, by omega, by omega⟩
              have HF0 := Lib.hid hf0
              clear hf0 hop HR hr hr2
              go_wp2_with fail
              have hf0 := HF0.out
              clear c0 c1 c2 c3 c4 HF0
              generalize (((wr.alloc (.cells #[.int .i64 kind, .int .i64 f, .slice Ao bs.length c, .int .i64 k0, .int .i64 k1] 33)).alloc (.cells #[.string ⟨#[]⟩, .string ⟨#[]⟩] 48)).alloc (.cells #[.int .i64 0, .int .i64 0] 28)) = wx at *
              generalize wr.heap.size + 1 + 1 = a7 at *
              generalize wr.heap.size + 1 = a6 at *
              generalize wr.heap.size = b5 at *
              obtain ⟨wo, rfl⟩ : ∃ wo : World, wo = wr := ⟨_, rfl⟩
              go_loopw [36] (fun s36 wr => ∃ j : Nat, j ≤ 2 ∧ s36 = .int .i64 j ∧ Fill w B fs b5 a6 a7 ⟨kind, f, Ao, bs, c, k0, k1⟩ j wr) (fun s36 _ => 2 - (intOf s36).toNat)
              case atStart => exact ⟨0, by omega, rfl, hf0⟩
              case round =>
                obtain ⟨j, hj, rfl, hfi⟩ := hrel
                clear hf0
                by_cases hj2 : j < 2
                · have HBY := fun W (h : DiskAt W B fs) => bytes_is (j : Int) W h _ rfl
                  have HSY := fun W (h : DiskAt W B fs) => synced_is (j : Int) W h _ rfl
                  have hnext := fun w6 (g6 : Chg none wr w6) => (hfi.chg g6).next hj2
                  have HB1 := Lib.hid HBY
                  have HS1 := Lib.hid HSY
                  have HX1 := Lib.hid hnext
                  have HFI := Lib.hid hfi
                  have m1 := hfi.h67
                  have m2 : a7 ≠ a6 := fun e => m1 e.symm
                  clear HBY HSY hnext
                  generalize (fileAt (fls fs) j) = fl at *
                  go_wp2_with fail
                  go_region_with ((first
                    | (go_at_call 18; refine (HB1.out _ (by first | exact HFI.out.r.disk | exact HFI.out.r.disk.drew)).mono ?_
                       rintro e w6 ⟨A6, n6, c6, rfl, hn6, ho6, g6⟩
                       have cv := conv_str _ ho6 hn6
                       have HN6 := Lib.hid hn6
                       have g66 : Chg none wr w6 := ((Chg.refl none wr).drew).trans g6
                       have hq6 := Blk.chg hfi.s6 g66 (by simp)
                       have hq7 := Blk.chg hfi.s7 g66 (by simp)
                       have x6 := Blk.cell hq6 j
                       have x7 := Blk.cell hq7 j
                       have z6 := Blk.frozen hq6 j
                       have z7 := Blk.frozen hq7 j
                       have hdk : DiskAt w6 B fs := hfi.r.disk.chg g66
                       clear hn6 ho6 g6 hq6 hq7)
                    | (go_at_call 19; refine (HS1.out _ (by first | exact hdk | exact HFI.out.r.disk | exact HFI.out.r.disk.drew)).mono ?_; rintro e w7 ⟨rfl, rfl⟩)))
                  all_goals
                    go_wp2_with fail
                    go_roundw
                    case rel => exact ⟨j + 1, by omega, by go_num, HX1.out w6 g66⟩
                    case measure => simp [intOf]; omega
                · obtain rfl : j = 2 := by omega
                  have c3 : wr.cell? ⟨b5, 3, none⟩ = some (.int .i64 k0) := by rw [Blk.cell hfi.op]; rfl
                  have c4 : wr.cell? ⟨b5, 4, none⟩ = some (.int .i64 k1) := by rw [Blk.cell hfi.op]; rfl
                  have hd2 := fls_len hfi.r.disk
                  have hfo := fun (j : Nat) (hj : j < 2) => fileAt_ok hfi.r.disk hj
                  have hcr := fun (j : Nat) (hj : j < 2) => crashed_file (k0 := k0) (k1 := k1) hd2 hj
                  generalize hD : fls fs = D at *
                  have HD := Lib.hid hD
                  have HCR := Lib.hid hcr
                  clear hD hcr hd2
                  go_wp2_with fail
                  refine (crash_is k0 k1 _ hfi.r.disk (crashed D k0 k1) (by rw [HD.out])).mono ?_
                  rintro e w8 ⟨rfl, f8, st8, hf8⟩
                  have hh0 : Held w B D f8 a6 a7 w8 := ⟨hfi.r.step st8, by have := (st8.kept.block a6 (Blk.lt hfi.s6) hfi.n6).trans hfi.s6; rw [HD.out] at this; exact this, by have := (st8.kept.block a7 (Blk.lt hfi.s7) hfi.n7).trans hfi.s7; rw [HD.out] at this; exact this⟩
                  have HF8 := Lib.hid hf8
                  clear c3 c4 hf8 st8 hfi
                  go_wp2_with fail
                  obtain ⟨wo2, rfl⟩ : ∃ wo : World, wo = wr := ⟨_, rfl⟩
                  go_loopw [55] (fun s55 wr => ∃ j : Nat, j ≤ 2 ∧ s55 = .int .i64 j ∧ Held w B D f8 a6 a7 wr) (fun s55 _ => 2 - (intOf s55).toNat)
                  case atStart => exact ⟨0, by omega, rfl, hh0⟩
                  case round =>
                    obtain ⟨j, hj, rfl, hh⟩ := hrel
                    clear hh0
                    by_cases hj2 : j < 2
                    · obtain ⟨x6, x7⟩ := hh.at_ hj2
                      have hc1 := HCR.out j hj2
                      have hso := hfo j hj2
                      generalize fileAt D j = F at *
                      generalize [k0, k1].getD j 0 = kj at *
                      have hstl := stays_le F kj hso
                      have hb8 : (fileAt (fls f8) j).bs = F.bs.take (stays F kj).toNat := by rw [HF8.out, hc1]; rfl
                      have hs8 : (fileAt (fls f8) j).syn = (stays F kj).toNat := by rw [HF8.out, hc1]; rfl
                      generalize hst : (stays F kj).toNat = st at *
                      have h1 : st ≤ F.bs.length := by omega
                      have h2 : F.syn ≤ st := by omega
                      have hV := strB_size F.bs
                      have hU := strB_size (F.bs.take st)
                      have hE := strB_extract F.bs st
                      rw [List.length_take, Nat.min_eq_left h1] at hU
                      have HB8 := Lib.hid hb8
                      have HS8 := Lib.hid hs8
                      have HV := Lib.hid hV
                      have HU := Lib.hid hU
                      have HE := Lib.hid hE
                      have p1 : decide ((F.bs.length : Int) < (st : Int)) = false := by simp; omega
                      have p2 : decide ((st : Int) < (F.syn : Int)) = false := by simp; omega
                      clear hc1 hso hstl hb8 hs8 hst hV hU hE
                      go_wp2_with fail
                      refine (bytes_is j _ hh.r.disk _ HB8.out).mono ?_
                      rintro e w9 ⟨A9, n9, c9, rfl, hn9, ho9, g9⟩
                      have cv := conv_str _ ho9 hn9
                      have hh9 := hh.chg g9
                      have y6 := World.grownBy.cell g9 x6 (by simp)
                      have y7 := World.grownBy.cell g9 x7 (by simp)
                      have HN9 := Lib.hid hn9
                      have hV := HV.out
                      have hU := HU.out
                      have hE := HE.out
                      clear hn9 ho9 g9 x6 x7
                      go_wp2_with fail
                      refine (synced_is j _ hh9.r.disk _ HS8.out).mono ?_
                      rintro e w10 ⟨rfl, rfl⟩
                      clear cv
                      go_wp2_with fail
                      go_roundw
                      case rel => exact ⟨j + 1, by omega, by go_num, hh9⟩
                      case measure => simp [intOf]; omega
                    · have hr9 := hh.r
                      go_wp2_with fail
                      go_roundw
                      case rel => exact ⟨k + 1, by omega, by go_num, _, hr9⟩
                      case measure => simp [intOf]; omega
      · have b1 : decide ((1000 : Int) < (bs.length : Int)) = true := by simp; omega
        clear hbig
        go_wp2_with fail
        go_roundw
        case rel => exact ⟨k + 1, by omega, by go_num, _, hr2⟩
        case measure => simp [intOf]; omega
    · have hgz := hr.chg
      go_wp2_with fail
      refine (known_any _).mono ?_
      rintro e w9 ⟨rfl, g9⟩
      go_wp2_with fail
      go_ret
      exact ⟨rfl, hgz.trans g9⟩

end Go.Proofs.Ytbgofhbanhanfaa
