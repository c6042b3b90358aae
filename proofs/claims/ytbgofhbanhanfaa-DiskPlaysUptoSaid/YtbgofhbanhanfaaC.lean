/-
  Walks over package disk: New, Append, Sync, Clear, Bytes, Synced.
-/
import Derived.Test.YtbgofhbanhanfaaB
namespace Go.Proofs.Ytbgofhbanhanfaa
open Go.RowKit

theorem DPost.same {w : World} {b : Nat} {fs : List File} (h : DiskAt w b fs) (r : Ending) : DPost w b fs r (fls fs) r w :=
  ⟨rfl, fs, h, rfl, Kept.refl _ _, fun _ hg => .inl hg⟩

def zeroFile : File := ⟨.slice none 0 0, ⟨[], 0⟩⟩
theorem zeroFile_ok (w : World) (b : Nat) : zeroFile.okAt w b := ⟨World.ownsRow_nil _ _ _ _, by simp [zeroFile, Value.ownBlock], Nat.le_refl _, by simp [zeroFile]⟩

theorem zero_disk (w : World) (b : Nat) (h : Blk w b #[.slice none 0 0, .int .i64 0, .slice none 0 0, .int .i64 0] 46) : DiskAt w b [zeroFile, zeroFile] := by
  refine ⟨h, rfl, ?_, ?_⟩
  · intro f hf
    simp at hf
    subst hf
    exact zeroFile_ok w b
  · intro i j f f' _ hf _ g hg
    have : f = zeroFile := by
      have := List.mem_of_getElem? hf
      simpa using this
    subst this
    simp [zeroFile, Value.ownBlock] at hg

theorem new_any (w : World) : Calls Try.prog 8 #[] w fun e w' => e = .returned (.pointer (some ⟨w.heap.size, 0, none⟩)) ∧ DiskAt w' w.heap.size [zeroFile, zeroFile] ∧ Chg none w w' := by
  go_enter Try.func8, Try.ntmps8
  go_wp2_with fail
  go_ret
  exact ⟨rfl, zero_disk _ _ (Blk.new _ _ _), (Chg.refl _ _).alloc _⟩

def appended (D : List Fl) (k : Int) (bs : List UInt8) : List Fl × Int :=
  if 0 ≤ k ∧ k < 2 then
    if (D.getD k.toNat default).bs.length + bs.length ≤ 1048576 then (D.set k.toNat ⟨(D.getD k.toNat default).bs ++ bs, (D.getD k.toNat default).syn⟩, 0) else (D, 8)
  else (D, 2)

theorem fls_getD {fs : List File} {k : Nat} {f : File} (h : fs[k]? = some f) : (fls fs).getD k default = f.fl := by rw [List.getD_eq_getElem?_getD, fls_get h]; rfl

set_option maxHeartbeats 1000000 in
theorem append_any (b : Nat) (fs : List File) (k : Int) (A : Option Addr) (bs : List UInt8) (c : Nat) (w : World) (h : DiskAt w b fs) (hr : Reads w w.heap.size 1 A bs.length (byteVals bs)) :
    Calls Try.prog 11 #[.pointer (some ⟨b, 0, none⟩), .int .i64 k, .slice A bs.length c] w
      (DPost w b fs (.returned (.int .i64 (appended (fls fs) k bs).2)) (appended (fls fs) k bs).1) := by
  have hlt := h.lt
  by_cases hk : 0 ≤ k ∧ k < 2
  · obtain ⟨n, rfl⟩ := Int.eq_ofNat_of_zero_le hk.1
    have hn : n < 2 := by omega
    obtain ⟨f, hf⟩ := h.get hn
    have hF := fun W => fault_yes b n hn W
    have HF := Lib.hid hF
    obtain ⟨c0, c1⟩ := h.at_ hf
    have hfo := h.file hf
    have htop := hfo.top
    obtain ⟨A0, cp, hv⟩ := own_slice hfo.own
    have hgd := fls_getD hf
    by_cases hfit : f.fl.bs.length + bs.length ≤ 1048576
    · have ha : appended (fls fs) n bs = ((fls fs).set n ⟨f.fl.bs ++ bs, f.fl.syn⟩, 0) := by
        unfold appended; rw [if_pos hk, Int.toNat_natCast, hgd, if_pos hfit]
      rw [ha]
      obtain ⟨i0, hi, hz0, hz1, hz2⟩ := info_parts Try.info5
      have d1 : decide ((1048576 : Int) - (f.fl.bs.length : Int) < (bs.length : Int)) = false := by simp; omega
      have hone := byteVals_one bs
      have hput := fun (v' : Value) (w1 w2 : World) => h.put (f' := ⟨v', ⟨f.fl.bs ++ bs, f.fl.syn⟩⟩) (w' := w2) hf
      have hown := hfo.own
      have hset := fun (v' : Value) (W : World) (hb : BlkL W b (fs.flatMap File.cells) 46) => BlkL.set hb (n * 2) v'
      have hflat := fun (v' : Value) => flat_set File.cells 2 File.cells_len fs n 0 f ⟨v', ⟨f.fl.bs ++ bs, f.fl.syn⟩⟩ v' hf (by omega) rfl
      have HP := Lib.hid hput
      have HO := Lib.hid hone
      have HOWN := Lib.hid hown
      have HR := Lib.hid hr
      have HSET := Lib.hid hset
      have HFL := Lib.hid hflat
      have HB := h.blk
      have hfar := hfo.far
      have hsyn := hfo.syn
      generalize hflv : f.v = v at *
      subst hv
      clear ha hgd hF hone hput hown hr hset hflat hflv
      go_enter Try.func11, Try.ntmps11
      go_wp2_with fail
      refine (HF.out _).mono ?_
      rintro e w' ⟨rfl, rfl⟩
      go_wp2_with (at_builtin; refine wpList_append_any _ rfl (.tmp 33) (.tmp 34) 26 rfl 0 5 i0 (.int .u8 0) 1 1 Try.underlying26 hi hz0 hz1 hz2 rfl (by decide) _ f.fl.bs.length (byteVals f.fl.bs) rfl HOWN.out w.heap.size A bs.length c (byteVals bs) rfl HR.out HO.out ?c1 ?c2 (Nat.zero_le _) ?_)
      case c1 => unfold maxLen; omega
      case c2 => omega
      intro v' w1 hown' hgr hat
      have hB1 : BlkL w1 b (fs.flatMap File.cells) 46 := Blk.chg HB hgr (fun e => hfar e.symm)
      have c0' := World.grownBy.cell hgr c0 (fun e => hfar e.symm)
      have fz := Blk.frozen hB1 (n * 2)
      obtain ⟨A', c', rfl⟩ := own_slice hown'
      have hfar' : (Value.slice A' (f.fl.bs.length + bs.length) c').ownBlock ≠ some b := by
        rcases hat with e | e <;> rw [e]
        · exact hfar
        · intro e2; simp at e2; omega
      have hk1 : Kept (fun g => g = b ∨ (Value.slice A0 f.fl.bs.length cp).ownBlock = some g) w w1 := (Kept.of_chg (c := (Value.slice A0 f.fl.bs.length cp).ownBlock) hgr).mono (fun g e => .inr e)
      have ho1 : File.okAt w1 b ⟨.slice A' (f.fl.bs.length + bs.length) c', ⟨f.fl.bs ++ bs, f.fl.syn⟩⟩ := by
        refine ⟨?_, hfar', ?_, ?_⟩
        · rw [byteVals_append] at hown'
          show w1.ownsRow 0 5 1 _ (f.fl.bs ++ bs).length _
          rw [List.length_append]
          exact hown'
        · show f.fl.syn ≤ (f.fl.bs ++ bs).length
          rw [List.length_append]; omega
        · show (f.fl.bs ++ bs).length ≤ _
          rw [List.length_append]; omega
      have hv' : (Value.slice A' (f.fl.bs.length + bs.length) c').ownBlock = (Value.slice A0 f.fl.bs.length cp).ownBlock ∨ ∀ g, (Value.slice A' (f.fl.bs.length + bs.length) c').ownBlock = some g → w.heap.size ≤ g := by
        rcases hat with e | e
        · exact .inl e
        · right
          intro g hg
          rw [e] at hg
          simp at hg
          omega
      clear hat hown' hgr c0
      go_wp2_with fail
      go_ret
      have hb2 := HSET.out (.slice A' (f.fl.bs.length + bs.length) c') w1 hB1
      have hfl := HFL.out (.slice A' (f.fl.bs.length + bs.length) c')
      rw [show n * 2 + 0 = n * 2 from rfl] at hfl
      rw [hfl] at hb2
      obtain ⟨p1, p2, p3⟩ := HP.out _ w1 _ hb2 (hk1.setCell _ _ (.inl (.inl rfl))) (ho1.keep ((Kept.refl (fun g => g = b) w1).setCell _ _ (.inl rfl)) (fun g hg e => hfar' (by rw [hg, e]))) hv'
      exact ⟨rfl, _, p1, fls_set _ _ _, p2, p3⟩
    · have ha : appended (fls fs) n bs = (fls fs, 8) := by
        unfold appended; rw [if_pos hk, Int.toNat_natCast, hgd, if_neg hfit]
      rw [ha]
      have d1 : decide ((1048576 : Int) - (f.fl.bs.length : Int) < (bs.length : Int)) = true := by simp; omega
      have HD := Lib.hid (DPost.same h (.returned (.int .i64 8)))
      rw [hv] at c0
      clear ha hgd hF hfo hv hf h hr
      go_enter Try.func11, Try.ntmps11
      go_wp2_with fail
      refine (HF.out _).mono ?_
      rintro e w' ⟨rfl, rfl⟩
      go_wp2_with fail
      go_ret
      exact HD.out
  · have ha : appended (fls fs) k bs = (fls fs, 2) := by unfold appended; rw [if_neg hk]
    rw [ha]
    have hF := fun W => fault_no b k hk W
    have HF := Lib.hid hF
    have HD := Lib.hid (DPost.same h (.returned (.int .i64 2)))
    clear ha hF h hr hk
    go_enter Try.func11, Try.ntmps11
    go_wp2_with fail
    refine (HF.out _).mono ?_
    rintro e w' ⟨rfl, rfl⟩
    go_wp2_with fail
    go_ret
    exact HD.out

theorem append_nil (k : Int) (v : Value) (w : World) : Calls Try.prog 11 #[.pointer none, .int .i64 k, v] w fun e w' => e = .returned (.int .i64 1) ∧ w = w' := by
  go_enter Try.func11, Try.ntmps11
  go_wp2_with fail
  refine (fault_nil k _).mono ?_
  rintro e w' ⟨rfl, rfl⟩
  go_wp2_with fail
  go_ret
  exact ⟨rfl, rfl⟩

/-- Of one file: what Sync and Clear do. -/
def turned (D : List Fl) (k : Int) (g : Fl → Fl) : List Fl × Int := if 0 ≤ k ∧ k < 2 then (D.set k.toNat (g (D.getD k.toNat default)), 0) else (D, 2)

set_option maxHeartbeats 1000000 in
theorem sync_any (b : Nat) (fs : List File) (k : Int) (w : World) (h : DiskAt w b fs) :
    Calls Try.prog 13 #[.pointer (some ⟨b, 0, none⟩), .int .i64 k] w
      (DPost w b fs (.returned (.int .i64 (turned (fls fs) k fun f => ⟨f.bs, f.bs.length⟩).2)) (turned (fls fs) k fun f => ⟨f.bs, f.bs.length⟩).1) := by
  have hlt := h.lt
  by_cases hk : 0 ≤ k ∧ k < 2
  · obtain ⟨n, rfl⟩ := Int.eq_ofNat_of_zero_le hk.1
    have hn : n < 2 := by omega
    obtain ⟨f, hf⟩ := h.get hn
    have hF := fun W => fault_yes b n hn W
    have HF := Lib.hid hF
    obtain ⟨c0, c1⟩ := h.at_ hf
    have hfo := h.file hf
    obtain ⟨A0, cp, hv⟩ := own_slice hfo.own
    have ha : turned (fls fs) n (fun f => ⟨f.bs, f.bs.length⟩) = ((fls fs).set n ⟨f.fl.bs, f.fl.bs.length⟩, 0) := by
      unfold turned; rw [if_pos hk, Int.toNat_natCast, fls_getD hf]
    rw [ha]
    have hb2 := BlkL.set h.blk (n * 2 + 1) (.int .i64 f.fl.bs.length)
    rw [flat_set File.cells 2 File.cells_len fs n 1 f ⟨f.v, ⟨f.fl.bs, f.fl.bs.length⟩⟩ _ hf (by omega) rfl] at hb2
    have hk2 : Kept (fun g => g = b ∨ f.v.ownBlock = some g) w (w.setCell ⟨b, n * 2 + 1, none⟩ (.int .i64 f.fl.bs.length)) := (Kept.refl _ _).setCell _ _ (.inl (.inl rfl))
    have ho2 : File.okAt (w.setCell ⟨b, n * 2 + 1, none⟩ (.int .i64 f.fl.bs.length)) b ⟨f.v, ⟨f.fl.bs, f.fl.bs.length⟩⟩ :=
      (⟨hfo.own, hfo.far, Nat.le_refl _, hfo.top⟩ : File.okAt w b ⟨f.v, ⟨f.fl.bs, f.fl.bs.length⟩⟩).keep ((Kept.refl (fun g => g = b) w).setCell _ _ (.inl rfl)) (fun g hg e => hfo.far (by rw [← e]; exact hg))
    obtain ⟨p1, p2, p3⟩ := h.put hf hb2 hk2 ho2 (.inl rfl)
    have hend : DPost w b fs (.returned (.int .i64 0)) ((fls fs).set n ⟨f.fl.bs, f.fl.bs.length⟩) (.returned (.int .i64 0)) (w.setCell ⟨b, n * 2 + 1, none⟩ (.int .i64 f.fl.bs.length)).drew := ⟨rfl, _, p1.drew, fls_set _ _ _, p2.drew, p3⟩
    have HE := Lib.hid hend
    have fz := Blk.frozen h.blk (n * 2 + 1)
    have htop := hfo.top
    rw [hv] at c0
    clear ha hF hfo hv hf h hb2 hk2 ho2 p1 p2 p3 hend
    go_enter Try.func13, Try.ntmps13
    go_wp2_with fail
    refine (HF.out _).mono ?_
    rintro e w' ⟨rfl, rfl⟩
    go_wp2_with fail
    go_region
    all_goals go_wp2_with fail
    all_goals go_ret
    all_goals exact HE.out
  · have ha : turned (fls fs) k (fun f => ⟨f.bs, f.bs.length⟩) = (fls fs, 2) := by unfold turned; rw [if_neg hk]
    rw [ha]
    have hF := fun W => fault_no b k hk W
    have HF := Lib.hid hF
    have HD := Lib.hid (DPost.same h (.returned (.int .i64 2)))
    clear ha hF h hk
    go_enter Try.func13, Try.ntmps13
    go_wp2_with fail
    refine (HF.out _).mono ?_
    rintro e w' ⟨rfl, rfl⟩
    go_wp2_with fail
    go_ret
    exact HD.out

theorem sync_nil (k : Int) (w : World) : Calls Try.prog 13 #[.pointer none, .int .i64 k] w fun e w' => e = .returned (.int .i64 1) ∧ w = w' := by
  go_enter Try.func13, Try.ntmps13
  go_wp2_with fail
  refine (fault_nil k _).mono ?_
  rintro e w' ⟨rfl, rfl⟩
  go_wp2_with fail
  go_ret
  exact ⟨rfl, rfl⟩

set_option maxHeartbeats 1000000 in
theorem clear_any (b : Nat) (fs : List File) (k : Int) (w : World) (h : DiskAt w b fs) :
    Calls Try.prog 14 #[.pointer (some ⟨b, 0, none⟩), .int .i64 k] w
      (DPost w b fs (.returned (.int .i64 (turned (fls fs) k fun _ => ⟨[], 0⟩).2)) (turned (fls fs) k fun _ => ⟨[], 0⟩).1) := by
  have hlt := h.lt
  by_cases hk : 0 ≤ k ∧ k < 2
  · obtain ⟨n, rfl⟩ := Int.eq_ofNat_of_zero_le hk.1
    have hn : n < 2 := by omega
    obtain ⟨f, hf⟩ := h.get hn
    have hF := fun W => fault_yes b n hn W
    have HF := Lib.hid hF
    obtain ⟨c0, c1⟩ := h.at_ hf
    have hfo := h.file hf
    obtain ⟨A0, cp, hv⟩ := own_slice hfo.own
    have ha : turned (fls fs) n (fun _ => ⟨[], 0⟩) = ((fls fs).set n ⟨[], 0⟩, 0) := by
      unfold turned; rw [if_pos hk, Int.toNat_natCast]
    rw [ha]
    have hb1 := BlkL.set h.blk (n * 2) (.slice none 0 0)
    have hfl1 := flat_set File.cells 2 File.cells_len fs n 0 f ⟨.slice none 0 0, f.fl⟩ (.slice none 0 0) hf (by omega) rfl
    rw [show n * 2 + 0 = n * 2 from rfl] at hfl1
    rw [hfl1] at hb1
    have hf1 : (fs.set n ⟨.slice none 0 0, f.fl⟩)[n]? = some ⟨.slice none 0 0, f.fl⟩ := List.getElem?_set_self (List.getElem?_eq_some_iff.1 hf).1
    have hb2 := BlkL.set hb1 (n * 2 + 1) (.int .i64 0)
    rw [flat_set File.cells 2 File.cells_len _ n 1 _ zeroFile (.int .i64 0) hf1 (by omega) rfl, List.set_set] at hb2
    have hk2 : Kept (fun g => g = b ∨ f.v.ownBlock = some g) w ((w.setCell ⟨b, n * 2, none⟩ (.slice none 0 0)).setCell ⟨b, n * 2 + 1, none⟩ (.int .i64 0)) := ((Kept.refl _ _).setCell _ _ (.inl (.inl rfl))).setCell _ _ (.inl (.inl rfl))
    obtain ⟨p1, p2, p3⟩ := h.put hf hb2 hk2 (zeroFile_ok _ _) (.inr (fun g hg => by simp [zeroFile, Value.ownBlock] at hg))
    have hend : DPost w b fs (.returned (.int .i64 0)) ((fls fs).set n ⟨[], 0⟩) (.returned (.int .i64 0)) ((w.setCell ⟨b, n * 2, none⟩ (.slice none 0 0)).setCell ⟨b, n * 2 + 1, none⟩ (.int .i64 0)) := ⟨rfl, _, p1, fls_set _ _ _, p2, p3⟩
    have HE := Lib.hid hend
    have fz := Blk.frozen h.blk (n * 2 + 1)
    have fz0 := Blk.frozen h.blk (n * 2)
    rw [hv] at c0
    clear ha hF hfo hv hf h hb2 hk2 p1 p2 p3 hend hb1 hfl1 hf1
    go_enter Try.func14, Try.ntmps14
    go_wp2_with fail
    refine (HF.out _).mono ?_
    rintro e w' ⟨rfl, rfl⟩
    go_wp2_with fail
    go_ret
    exact HE.out
  · have ha : turned (fls fs) k (fun _ => ⟨[], 0⟩) = (fls fs, 2) := by unfold turned; rw [if_neg hk]
    rw [ha]
    have hF := fun W => fault_no b k hk W
    have HF := Lib.hid hF
    have HD := Lib.hid (DPost.same h (.returned (.int .i64 2)))
    clear ha hF h hk
    go_enter Try.func14, Try.ntmps14
    go_wp2_with fail
    refine (HF.out _).mono ?_
    rintro e w' ⟨rfl, rfl⟩
    go_wp2_with fail
    go_ret
    exact HD.out

theorem clear_nil (k : Int) (w : World) : Calls Try.prog 14 #[.pointer none, .int .i64 k] w fun e w' => e = .returned (.int .i64 1) ∧ w = w' := by
  go_enter Try.func14, Try.ntmps14
  go_wp2_with fail
  refine (fault_nil k _).mono ?_
  rintro e w' ⟨rfl, rfl⟩
  go_wp2_with fail
  go_ret
  exact ⟨rfl, rfl⟩

/-- What Bytes tells: nothing of no file; else a row of its own. -/
def BytesPost (w : World) (bs : List UInt8) (e : Ending) (w' : World) : Prop :=
  ∃ A c, e = .returned (.slice A bs.length c) ∧ w'.ownsRow w.heap.size 5 1 (.slice A bs.length c) bs.length (byteVals bs) ∧ Chg none w w'

theorem own_blkL {w : World} {g base : Nat} {xs : List Value} {n : Nat} (h : BlkL w g xs 5) (hb : base ≤ g) (hn : xs.length = n) (hm : n ≤ maxLen) : w.ownsRow base 5 1 (.slice (some ⟨g, 0, none⟩) n n) n xs :=
  ⟨by omega, .inr ⟨g, n, xs.toArray, rfl, hb, h, Nat.le_refl _, hm, by simp [hn], by simp [← hn]⟩⟩

def fileAt (D : List Fl) (k : Int) : Fl := if 0 ≤ k ∧ k < 2 then D.getD k.toNat default else ⟨[], 0⟩

theorem field43_0 (w : World) (A : Option Addr) (n c : Nat) (s : Int) : (Instr.field 43 (.agg #[.slice A n c, .int .i64 s]) 0).run Try.prog w = .ok (.slice A n c) w := by
  have a26 := Try.isAgg26
  have z26 := Try.sizeOf26
  have u43 := Try.underlying43
  unfold Instr.field asAgg
  go_simp

set_option maxHeartbeats 1000000 in
theorem bytes_any (b : Nat) (fs : List File) (k : Int) (w : World) (h : DiskAt w b fs) :
    Calls Try.prog 18 #[.pointer (some ⟨b, 0, none⟩), .int .i64 k] w (BytesPost w (fileAt (fls fs) k).bs) := by
  have hlt := h.lt
  by_cases hk : 0 ≤ k ∧ k < 2
  · obtain ⟨n, rfl⟩ := Int.eq_ofNat_of_zero_le hk.1
    have hn : n < 2 := by omega
    obtain ⟨f, hf⟩ := h.get hn
    have hF := fun W => fault_yes b n hn W
    have HF := Lib.hid hF
    obtain ⟨c0, c1⟩ := h.at_ hf
    have hfo := h.file hf
    obtain ⟨A0, cp, hv⟩ := own_slice hfo.own
    have ha : fileAt (fls fs) n = f.fl := by unfold fileAt; rw [if_pos hk, Int.toNat_natCast, fls_getD hf]
    rw [ha]
    have hown := hfo.own
    rw [hv] at c0 hown
    have hC := copied_any A0 f.fl.bs cp f.fl.syn w (Reads.of_own hown) hfo.top
    have HC := Lib.hid hC
    have htop := hfo.top
    clear ha hF hfo hv hf h hown hC
    go_enter Try.func18, Try.ntmps18
    go_wp2_with fail
    refine (HF.out _).mono ?_
    rintro e w' ⟨rfl, rfl⟩
    go_wp2_with fail
    refine HC.out.mono ?_
    rintro e w1 ⟨rfl, hb1, hg1⟩
    have fl43 := field43_0
    go_wp2_with fail
    go_ret
    exact ⟨_, _, rfl, own_blkL hb1 (by omega) (byteVals_len _) (by unfold maxLen; omega), hg1⟩
  · have ha : fileAt (fls fs) k = ⟨[], 0⟩ := by unfold fileAt; rw [if_neg hk]
    rw [ha]
    have hF := fun W => fault_no b k hk W
    have HF := Lib.hid hF
    clear ha hF h hk
    go_enter Try.func18, Try.ntmps18
    go_wp2_with fail
    refine (HF.out _).mono ?_
    rintro e w' ⟨rfl, rfl⟩
    have hend : BytesPost w [] (.returned (.slice none 0 0)) w := ⟨none, 0, rfl, World.ownsRow_nil _ _ _ _, Chg.refl _ _⟩
    have HE := Lib.hid hend
    clear hend
    go_wp2_with fail
    go_ret
    exact HE.out

theorem bytes_nil (k : Int) (w : World) : Calls Try.prog 18 #[.pointer none, .int .i64 k] w fun e w' => e = .returned (.slice none 0 0) ∧ w = w' := by
  go_enter Try.func18, Try.ntmps18
  go_wp2_with fail
  refine (fault_nil k _).mono ?_
  rintro e w' ⟨rfl, rfl⟩
  go_wp2_with fail
  go_ret
  exact ⟨rfl, rfl⟩

set_option maxHeartbeats 1000000 in
theorem synced_any (b : Nat) (fs : List File) (k : Int) (w : World) (h : DiskAt w b fs) :
    Calls Try.prog 19 #[.pointer (some ⟨b, 0, none⟩), .int .i64 k] w fun e w' => e = .returned (.int .i64 (fileAt (fls fs) k).syn) ∧ w = w' := by
  have hlt := h.lt
  by_cases hk : 0 ≤ k ∧ k < 2
  · obtain ⟨n, rfl⟩ := Int.eq_ofNat_of_zero_le hk.1
    have hn : n < 2 := by omega
    obtain ⟨f, hf⟩ := h.get hn
    have hF := fun W => fault_yes b n hn W
    have HF := Lib.hid hF
    obtain ⟨c0, c1⟩ := h.at_ hf
    have ha : fileAt (fls fs) n = f.fl := by unfold fileAt; rw [if_pos hk, Int.toNat_natCast, fls_getD hf]
    rw [ha]
    clear ha hF hf h c0
    go_enter Try.func19, Try.ntmps19
    go_wp2_with fail
    refine (HF.out _).mono ?_
    rintro e w' ⟨rfl, rfl⟩
    go_wp2_with fail
    go_ret
    exact ⟨rfl, rfl⟩
  · have ha : fileAt (fls fs) k = ⟨[], 0⟩ := by unfold fileAt; rw [if_neg hk]
    rw [ha]
    have hF := fun W => fault_no b k hk W
    have HF := Lib.hid hF
    clear ha hF h hk
    go_enter Try.func19, Try.ntmps19
    go_wp2_with fail
    refine (HF.out _).mono ?_
    rintro e w' ⟨rfl, rfl⟩
    go_wp2_with fail
    go_ret
    exact ⟨rfl, rfl⟩

theorem synced_nil (k : Int) (w : World) : Calls Try.prog 19 #[.pointer none, .int .i64 k] w fun e w' => e = .returned (.int .i64 0) ∧ w = w' := by
  go_enter Try.func19, Try.ntmps19
  go_wp2_with fail
  refine (fault_nil k _).mono ?_
  rintro e w' ⟨rfl, rfl⟩
  go_wp2_with fail
  go_ret
  exact ⟨rfl, rfl⟩

end Go.Proofs.Ytbgofhbanhanfaa
