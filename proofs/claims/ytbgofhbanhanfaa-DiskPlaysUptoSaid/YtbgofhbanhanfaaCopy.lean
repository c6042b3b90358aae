/-
  Walks over package disk: Copy.
-/
import Derived.Test.YtbgofhbanhanfaaLasts
namespace Go.Proofs.Ytbgofhbanhanfaa
open Go.RowKit

/-- One file's row is laid anew, in a block that is new. -/
theorem put_row {w wr w1 : World} {b k g n' : Nat} {fs fs' : List File} {f : File} {bs' : List UInt8} (hst : DStep w b fs wr fs') (hf : fs'[k]? = some f)
    (hb1 : BlkL w1 g (byteVals bs') 5) (hnew : wr.heap.size ≤ g) (hg : Chg none wr w1) (htop : bs'.length ≤ 1048576) (hsyn : n' ≤ bs'.length) :
    DStep w b fs ((w1.setCell ⟨b, k * 2, none⟩ (.slice (some ⟨g, 0, none⟩) bs'.length bs'.length)).setCell ⟨b, k * 2 + 1, none⟩ (.int .i64 n')) (fs'.set k ⟨.slice (some ⟨g, 0, none⟩) bs'.length bs'.length, ⟨bs', n'⟩⟩) := by
  have hd1 := hst.disk.chg hg
  have hb3 := flat_put (n' := n') (v' := .slice (some ⟨g, 0, none⟩) bs'.length bs'.length) hd1.blk hf bs'
  have hlt := hst.disk.lt
  have hk1 : Kept (fun g => g = b) w1 ((w1.setCell ⟨b, k * 2, none⟩ (.slice (some ⟨g, 0, none⟩) bs'.length bs'.length)).setCell ⟨b, k * 2 + 1, none⟩ (.int .i64 n')) :=
    ((Kept.refl (fun g => g = b) w1).setCell ⟨b, k * 2, none⟩ _ (.inl rfl)).setCell ⟨b, k * 2 + 1, none⟩ _ (.inl rfl)
  have hok1 : File.okAt w1 b ⟨.slice (some ⟨g, 0, none⟩) bs'.length bs'.length, ⟨bs', n'⟩⟩ :=
    ⟨own_blkL hb1 (Nat.zero_le _) (byteVals_len _) (by unfold maxLen; omega), by simp [Value.ownBlock]; omega, hsyn, htop⟩
  obtain ⟨p1, p2, p3⟩ := hst.disk.put hf hb3 (((Kept.refl (fun g => g = b ∨ f.v.ownBlock = some g) wr).chg hg).setCell _ _ (.inl (.inl rfl)) |>.setCell _ _ (.inl (.inl rfl)))
    (hok1.keep hk1 (fun x hx e => by subst e; simp [Value.ownBlock] at hx; omega)) (.inr (fun x hx => by simp [Value.ownBlock] at hx; omega))
  exact hst.trans ⟨p1, p2, p3⟩

def half (D : List Fl) (j : Nat) : List Fl := [if 0 < j then fileAt D 0 else ⟨[], 0⟩, if 1 < j then fileAt D 1 else ⟨[], 0⟩]
theorem half_set (D : List Fl) (j : Nat) (hj : j < 2) : (half D j).set j (fileAt D j) = half D (j + 1) := by
  obtain rfl | rfl : j = 0 ∨ j = 1 := by omega
  · rfl
  · rfl
theorem half_two {D : List Fl} (h : D.length = 2) : half D 2 = D := by
  obtain ⟨x, y, rfl⟩ : ∃ x y, D = [x, y] := by
    match D, h with
    | [x, y], _ => exact ⟨x, y, rfl⟩
  rfl

theorem index44 (f0 f1 f : File) (j : Nat) (hj : j < 2) (hf : [f0, f1][j]? = some f) (w : World) :
    (Instr.index 44 (.agg #[f0.v, .int .i64 f0.fl.syn, f1.v, .int .i64 f1.fl.syn]) (.int .i64 j)).run Try.prog w = .ok (.agg #[f.v, .int .i64 f.fl.syn]) w := by
  obtain rfl | rfl : j = 0 ∨ j = 1 := by omega
  · obtain rfl : f0 = f := by simpa using hf
    kernel_rfl
  · obtain rfl : f1 = f := by simpa using hf
    kernel_rfl

/-- The copy, while it is made: j files have gone over. -/
def CopyRel (w : World) (nb : Nat) (b : Nat) (fs : List File) (j : Nat) (wr : World) : Prop := ∃ fn, DRel w nb fn wr ∧ fls fn = half (fls fs) j ∧ DiskAt wr b fs

/-- The next file has gone over. -/
theorem copy_next {w wr w1 : World} {nb b k g : Nat} {fs fn : List File} {f fo : File} (h : DiskAt w b fs) (hr : DRel w nb fn wr) (hfn : fls fn = half (fls fs) k) (hk : k < 2) (hfl : fileAt (fls fs) k = f.fl)
    (hfo : fn[k]? = some fo) (hb1 : BlkL w1 g (byteVals f.fl.bs) 5) (hnew : wr.heap.size ≤ g) (hg : Chg none wr w1) (htop : f.fl.bs.length ≤ 1048576) (hsyn : f.fl.syn ≤ f.fl.bs.length) :
    CopyRel w nb b fs (k + 1) ((w1.setCell ⟨nb, k * 2, none⟩ (.slice (some ⟨g, 0, none⟩) f.fl.bs.length f.fl.bs.length)).setCell ⟨nb, k * 2 + 1, none⟩ (.int .i64 f.fl.syn)) := by
  have p := put_row (bs' := f.fl.bs) (n' := f.fl.syn) (DStep.refl hr.disk) hfo hb1 hnew hg htop hsyn
  have hd := hr.step p
  refine ⟨_, hd, ?_, h.chg hd.chg⟩
  rw [fls_set, hfn, ← half_set _ _ hk, hfl]

set_option maxRecDepth 100000 in
set_option maxHeartbeats 8000000 in
theorem copy_any (b : Nat) (fs : List File) (w : World) (h : DiskAt w b fs) :
    Calls Try.prog 17 #[.pointer (some ⟨b, 0, none⟩)] w fun e w' => ∃ nb, e = .returned (.pointer (some ⟨nb, 0, none⟩)) ∧ ∃ fn, DRel w nb fn w' ∧ fls fn = fls fs := by
  obtain ⟨f0, f1, rfl⟩ : ∃ x y, fs = [x, y] := by
    have := h.two
    match fs, this with
    | [x, y], _ => exact ⟨x, y, rfl⟩
  obtain ⟨a0, a1⟩ := h.at_ (k := 0) (f := f0) rfl
  obtain ⟨a2, a3⟩ := h.at_ (k := 1) (f := f1) rfl
  simp only [Nat.zero_mul, Nat.one_mul, Nat.zero_add] at a0 a1 a2 a3
  rw [show (2 : Nat) + 1 = 3 from rfl] at a3
  have hzd := zero_disk _ _ (Blk.new w #[.slice none 0 0, .int .i64 0, .slice none 0 0, .int .i64 0] 46)
  have hr0 : DRel w w.heap.size [zeroFile, zeroFile] (w.alloc (.cells #[.slice none 0 0, .int .i64 0, .slice none 0 0, .int .i64 0] 46)) := ⟨hzd, (Chg.refl _ _).alloc _, fun g hg => by rw [zero_foot hg]; exact Nat.le_refl _⟩
  have hrel0 : CopyRel w w.heap.size b [f0, f1] 0 (w.alloc (.cells #[.slice none 0 0, .int .i64 0, .slice none 0 0, .int .i64 0] 46)) := ⟨_, hr0, rfl, h.alloc _⟩
  have hlt := h.lt
  have HREL0 := Lib.hid hrel0
  have H := Lib.hid h
  clear hzd hr0 hrel0 h
  go_enter Try.func17, Try.ntmps17
  go_wp2_with fail
  have hrel0 := HREL0.out
  clear a0 a1 a2 a3 HREL0
  generalize w.alloc (.cells #[.slice none 0 0, .int .i64 0, .slice none 0 0, .int .i64 0] 46) = w1 at *
  generalize w.heap.size = nb at *
  go_loopw [14] (fun s14 wr => ∃ k : Nat, k ≤ 2 ∧ s14 = .int .i64 k ∧ CopyRel w nb b [f0, f1] k wr) (fun s14 _ => 2 - (intOf s14).toNat)
  case atStart => exact ⟨0, by omega, rfl, hrel0⟩
  case round =>
    obtain ⟨k, hk, rfl, hrel⟩ := hrel
    clear hrel0
    by_cases hk2 : k < 2
    · obtain ⟨fn, hr, hfn, hsrc⟩ := hrel
      obtain ⟨f, hf⟩ := H.out.get hk2
      have ix := fun W => index44 f0 f1 f k hk2 hf W
      have hfo := hsrc.file hf
      obtain ⟨A0, cp, hv⟩ := own_slice hfo.own
      have hown := hfo.own
      rw [hv] at ix hown
      have hC := fun W (g : Chg none wr W) => copied_any A0 f.fl.bs cp f.fl.syn W ((Reads.of_own (own_chg hown g)) ) hfo.top
      unfold CopiedPost at hC
      obtain ⟨fo, hfo2⟩ := hr.disk.get hk2
      have hfile : fileAt (fls [f0, f1]) k = f.fl := by unfold fileAt; rw [if_pos ⟨by omega, by omega⟩, Int.toNat_natCast, fls_getD hf]
      have hHC := Lib.hid hC
      have HIX := Lib.hid ix
      have HFO := Lib.hid hfo
      have HFF := Lib.hid hfo2
      have HFN := Lib.hid hfn
      have HFILE := Lib.hid hfile
      clear hf hfo hv hown hC hfo2 hfn hfile
      go_wp2_with fail
      have hNX := fun (W : World) (g : Nat) (hb1 : BlkL W g (byteVals f.fl.bs) 5) (hn : wr.heap.size ≤ g) (hg : Chg none wr W) => copy_next (w1 := W) H.out hr HFN.out hk2 HFILE.out HFF.out hb1 hn hg HFO.out.top HFO.out.syn
      have hbo := hr.disk.blk
      obtain ⟨o0, o1⟩ := hr.disk.at_ HFF.out
      generalize hwx : wr.alloc (.cells #[.slice A0 f.fl.bs.length cp, .int .i64 f.fl.syn] 43) = wx
      have hbB : Blk wx wr.heap.size #[.slice A0 f.fl.bs.length cp, .int .i64 f.fl.syn] 43 := by rw [← hwx]; exact Blk.new wr _ 43
      have hgx : Chg none wr wx := by rw [← hwx]; exact (Chg.refl _ _).alloc _
      have hbo : BlkL wx nb (fn.flatMap File.cells) 46 := Blk.chg hbo hgx (by simp)
      have o0 := World.grownBy.cell hgx o0 (by simp)
      have o1 := World.grownBy.cell hgx o1 (by simp)
      have hsz := hgx.size
      have hne5 : wr.heap.size ≠ nb := by have := Blk.lt hr.disk.blk; omega
      generalize hb5 : wr.heap.size = b5 at *
      have hC := hHC.out wx.drew hgx.drew
      have hcells : ∀ W, Chg none wx W → W.cell? ⟨b5, 0, none⟩ = some (.slice A0 f.fl.bs.length cp) ∧ W.cell? ⟨b5, 1, none⟩ = some (.int .i64 f.fl.syn) := by
        intro W g
        have hb' := Blk.chg hbB g (by simp)
        exact ⟨hb'.cell 0, hb'.cell 1⟩
      have hnext := fun (W : World) (hb1 : BlkL W (wx.drew.heap.size + 1 + 1) (byteVals f.fl.bs) 5) (g : Chg none wx W) => hNX W _ hb1 (Nat.le_trans hsz (by show wx.heap.size ≤ wx.heap.size + 1 + 1; omega)) (hgx.trans g)
      have hS1 := hcells wx.drew (Chg.refl none wx).drew
      have HS := Lib.hid hcells
      have HC := Lib.hid hC
      have HNX := Lib.hid hnext
      clear hcells hC hnext hNX hr hsrc ix hwx
      refine wp_region_held_drew (S := (fun w' => w'.cell? ⟨b5, 0, none⟩ = some (.slice A0 f.fl.bs.length cp) ∧ w'.cell? ⟨b5, 1, none⟩ = some (.int .i64 f.fl.syn))) (by kernel_rfl) hS1 (fun _ => ?_)
      refine wpAnyH_take (i := 0) (oi := ⟨some 18, _, _, _, _, _⟩) (v := ?_) rfl (by kernel_rfl) (by kernel_rfl) (by kernel_rfl) (fun _ _ _ h => h) (Or.inl ⟨by rfl, ?_⟩) (by assumption) ?_
      rotate_left
      · intro w hSw; (try dsimp only at hSw); go_simp; (try with_reducible rfl)
      try simp only [Act.put, List.setIfInBounds_toArray, List.set_cons_zero, List.set_cons_succ]
      refine wpAnyH_take (i := 1) (oi := ⟨some 19, _, _, _, _, _⟩) (v := ?_) rfl (by kernel_rfl) (by kernel_rfl) (by kernel_rfl) (fun _ _ _ h => h) (Or.inl ⟨by rfl, ?_⟩) (by assumption) ?_
      rotate_left
      · intro w hSw; (try dsimp only at hSw); go_simp; (try with_reducible rfl)
      try simp only [Act.put, List.setIfInBounds_toArray, List.set_cons_zero, List.set_cons_succ]
      refine wpAnyH_take (i := 2) (oi := ⟨some 20, _, _, _, _, _⟩) (v := ?_) rfl (by kernel_rfl) (by kernel_rfl) (by kernel_rfl) (fun _ _ _ h => h) (Or.inl ⟨by rfl, ?_⟩) (by assumption) ?_
      rotate_left
      · intro w hSw; (try dsimp only at hSw); go_simp; (try with_reducible rfl)
      try simp only [Act.put, List.setIfInBounds_toArray, List.set_cons_zero, List.set_cons_succ]
      refine wpAnyH_take (i := 4) (oi := ⟨some 22, _, _, _, _, _⟩) (v := ?_) rfl (by kernel_rfl) (by kernel_rfl) (by kernel_rfl) (fun _ _ _ h => h) (Or.inl ⟨by rfl, ?_⟩) (by assumption) ?_
      rotate_left
      · intro w hSw; (try dsimp only at hSw); go_simp; (try with_reducible rfl)
      try simp only [Act.put, List.setIfInBounds_toArray, List.set_cons_zero, List.set_cons_succ]
      refine wpAnyH_take (i := 5) (oi := ⟨some 23, _, _, _, _, _⟩) (v := ?_) rfl (by kernel_rfl) (by kernel_rfl) (by kernel_rfl) (fun _ _ _ h => h) (Or.inl ⟨by rfl, ?_⟩) (by assumption) ?_
      rotate_left
      · intro w hSw; (try dsimp only at hSw); go_simp; (try with_reducible rfl)
      try simp only [Act.put, List.setIfInBounds_toArray, List.set_cons_zero, List.set_cons_succ]
      refine wpAnyH_ready (rs := [3]) (by kernel_rfl) (by simp) ?_
      refine AllReadyH.cons (o := ⟨some 21, _, _, _, _, _⟩) rfl (fun K hK => ?_) ?_
      rotate_left
      · exact AllReadyH.nil
      go_simp
      go_at_call 21
      refine HC.out.mono ?_
      rintro e w1 ⟨rfl, hb1, hg1⟩
      have hg2 : Chg none wx w1 := ((Chg.refl none wx).drew).trans hg1
      have hS2 := HS.out w1 hg2
      have hnx := HNX.out w1 hb1 hg2
      have d0 := World.grownBy.cell hg2 o0 (by simp)
      have d1 := World.grownBy.cell hg2 o1 (by simp)
      have z0 := Blk.frozen (Blk.chg hbo hg2 (by simp)) (k * 2)
      have z1 := Blk.frozen (Blk.chg hbo hg2 (by simp)) (k * 2 + 1)
      have hB2 := Blk.chg hbB hg2 (by simp)
      go_wp2_with fail
      refine hK.out _ _ hS2 (fun _ => ?_)
      clear hK K
      try simp only [Act.put, List.setIfInBounds_toArray, List.set_cons_zero, List.set_cons_succ]
      refine wpAnyH_take (i := 6) (oi := ⟨some 24, _, _, _, _, _⟩) (v := ?_) rfl (by kernel_rfl) (by kernel_rfl) (by kernel_rfl) (fun _ _ _ h => h) (Or.inl ⟨by rfl, ?_⟩) (by assumption) ?_
      rotate_left
      · intro w hSw; (try dsimp only at hSw); go_simp; (try with_reducible rfl)
      try simp only [Act.put, List.setIfInBounds_toArray, List.set_cons_zero, List.set_cons_succ]
      refine wpAnyH_ready (rs := [7]) (by kernel_rfl) (by simp) ?_
      refine AllReadyH.cons (o := ⟨none, _, _, _, _, _⟩) rfl (fun K hK => ?_) ?_
      rotate_left
      · exact AllReadyH.nil
      go_simp
      refine hK.out _ _ ⟨((hB2.setOther _ _ hne5).setOther _ _ hne5).cell 0, ((hB2.setOther _ _ hne5).setOther _ _ hne5).cell 1⟩ (fun _ => ?_)
      clear hK K
      refine wpAnyH_done (by kernel_rfl) ?_ _
      go_wp2_with fail
      go_roundw
      case rel => exact ⟨k + 1, by omega, by go_num, hnx⟩
      case measure => simp [intOf]; omega
    · obtain rfl : k = 2 := by omega
      obtain ⟨fn, hr, hfn, hsrc⟩ := hrel
      have hl : fls fn = fls [f0, f1] := by rw [hfn, half_two rfl]
      go_wp2_with fail
      refine bodyPost_ret (v := .pointer (some ⟨nb, 0, none⟩)) ?_ rfl ⟨_, rfl, fn, hr, hl⟩
      first | exact results_tmp rfl _ _ _ | rfl | simp [results, Try.results17, go_sem]

end Go.Proofs.Ytbgofhbanhanfaa
