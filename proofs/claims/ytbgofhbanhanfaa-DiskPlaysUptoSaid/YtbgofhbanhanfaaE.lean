/-
  The known case of layer 10.
-/
import Derived.Test.YtbgofhbanhanfaaD
import Derived.Laws.IdiomStrings
import Derived.Laws.BytesArg
import Derived.Lib.SlBytesConst
namespace Go.Proofs.Ytbgofhbanhanfaa
open Go.RowKit

theorem conv_own (w : World) {A : Option Addr} {c base : Nat} {bs : List UInt8} (h : w.ownsRow base 5 1 (.slice A bs.length c) bs.length (byteVals bs)) :
    (convert 26 9 (.slice A bs.length c)).run Try.prog w = .ok (.string ⟨bs.toArray⟩) w := by
  rcases h.2 with ⟨hv, h0⟩ | ⟨g, cap, cur, hv, _⟩
  · injection hv with e1 e2 e3
    subst e1
    have : bs = [] := List.eq_nil_of_length_eq_zero h0
    subst this
    exact run_convert_bytes_nil (P := Try.prog) w 26 5 Try.underlying26 Try.underlying5 _ _ 9 Try.underlying9
  · injection hv with e1 e2 e3
    subst e1
    refine run_convert_bytes_back w 26 9 5 ⟨g, 0, none⟩ c bs Try.underlying26 Try.underlying5 Try.underlying9 (fun j hj => ?_)
    refine h.cells (g := g) rfl j _ ?_
    simp [byteVals, List.getElem?_eq_getElem hj]

theorem reads_mark (w : World) (bs : List UInt8) (cs : Array Value) (hcs : cs.toList = byteVals bs) (fr : Nat × Nat) :
    Reads (w.alloc (.cells cs 5 fr)) (w.alloc (.cells cs 5 fr)).heap.size 1 (some ⟨w.heap.size, 0, none⟩) bs.length (byteVals bs) :=
  ⟨by rw [byteVals_len, Nat.mul_one], fun _ => ⟨_, rfl, by simp, fun j u hu => by
    rw [Go.WideShapes.add_plain, Nat.zero_add, World.cell?_alloc_mark, ← hu, ← hcs]; simp⟩⟩

/-- A disk of the call's own. -/
structure DRel (w : World) (b : Nat) (fs : List File) (wr : World) : Prop where
  disk : DiskAt wr b fs
  chg : Chg none w wr
  own : ∀ g, foot b fs g → w.heap.size ≤ g

theorem Chg.kept {S : Nat → Prop} {u v w : World} (h : Chg none u v) (k : Kept S v w) (hs : ∀ g, S g → u.heap.size ≤ g) : Chg none u w :=
  ⟨k.os.trans h.os, k.tape.trans h.tape, k.output.trans h.output, Nat.le_trans h.size k.size,
    fun i hi hn => (k.block i (Nat.lt_of_lt_of_le hi h.size) (fun t => by have := hs i t; omega)).trans (h.block i hi hn)⟩

theorem DRel.step {w wr w' : World} {b : Nat} {fs fs' : List File} (h : DRel w b fs wr) (k : DStep wr b fs w' fs') : DRel w b fs' w' :=
  ⟨k.disk, h.chg.kept k.kept h.own, fun g hg => by
    rcases k.foot g hg with h1 | h1
    · exact h.own g h1
    · exact Nat.le_trans h.chg.size h1⟩

theorem DRel.more {w wr w' : World} {b : Nat} {fs : List File} (h : DRel w b fs wr) (k : Chg none wr w') : DRel w b fs w' := ⟨h.disk.chg k, h.chg.trans k, h.own⟩

theorem zero_foot {b g : Nat} (h : foot b [zeroFile, zeroFile] g) : g = b := by
  rcases h with h | ⟨f, hf, hv⟩
  · exact h
  · simp at hf
    subst hf
    simp [zeroFile, Value.ownBlock] at hv

theorem new_rel (w : World) : Calls Try.prog 8 #[] w fun e w' => e = .returned (.pointer (some ⟨w.heap.size, 0, none⟩)) ∧ DRel w w.heap.size [zeroFile, zeroFile] w' :=
  (new_any w).mono fun _ _ ⟨h1, h2, h3⟩ => ⟨h1, h2, h3, fun g hg => by rw [zero_foot hg]; exact Nat.le_refl _⟩

/-- Bytes of a block that is known whole. -/
theorem reads_blk {w : World} {g : Nat} {bs : List UInt8} (h : BlkL w g (byteVals bs) 5) : Reads w w.heap.size 1 (some ⟨g, 0, none⟩) bs.length (byteVals bs) :=
  ⟨by rw [byteVals_len, Nat.mul_one], fun _ => ⟨_, rfl, Blk.lt h, fun j u hu => by rw [Go.WideShapes.add_plain, Nat.zero_add, BlkL.cell h]; exact hu⟩⟩

theorem append_is {b : Nat} {fs : List File} (k : Int) (A : Option Addr) (bs : List UInt8) (c : Nat) (w : World) (h : DiskAt w b fs) (hr : Reads w w.heap.size 1 A bs.length (byteVals bs)) (D : List Fl) (r : Int)
    (hD : appended (fls fs) k bs = (D, r)) :
    Calls Try.prog 11 #[.pointer (some ⟨b, 0, none⟩), .int .i64 k, .slice A bs.length c] w fun e w' => e = .returned (.int .i64 r) ∧ ∃ fs', DStep w b fs w' fs' ∧ fls fs' = D :=
  (append_any b fs k A bs c w h hr).mono fun _ _ hp => by
    have := hp.step
    rw [hD] at this
    exact this

theorem sync_is {b : Nat} {fs : List File} (k : Int) (w : World) (h : DiskAt w b fs) (D : List Fl) (r : Int) (hD : turned (fls fs) k (fun f => ⟨f.bs, f.bs.length⟩) = (D, r)) :
    Calls Try.prog 13 #[.pointer (some ⟨b, 0, none⟩), .int .i64 k] w fun e w' => e = .returned (.int .i64 r) ∧ ∃ fs', DStep w b fs w' fs' ∧ fls fs' = D :=
  (sync_any b fs k w h).mono fun _ _ hp => by
    have := hp.step
    rw [hD] at this
    exact this

theorem clear_is {b : Nat} {fs : List File} (k : Int) (w : World) (h : DiskAt w b fs) (D : List Fl) (r : Int) (hD : turned (fls fs) k (fun _ => ⟨[], 0⟩) = (D, r)) :
    Calls Try.prog 14 #[.pointer (some ⟨b, 0, none⟩), .int .i64 k] w fun e w' => e = .returned (.int .i64 r) ∧ ∃ fs', DStep w b fs w' fs' ∧ fls fs' = D :=
  (clear_any b fs k w h).mono fun _ _ hp => by
    have := hp.step
    rw [hD] at this
    exact this

theorem crash_is {b : Nat} {fs : List File} (k0 k1 : Int) (w : World) (h : DiskAt w b fs) (D : List Fl) (hD : crashed (fls fs) k0 k1 = D) :
    Calls Try.prog 15 #[.pointer (some ⟨b, 0, none⟩), .agg #[.int .i64 k0, .int .i64 k1]] w fun e w' => e = .returned (.tuple #[]) ∧ ∃ fs', DStep w b fs w' fs' ∧ fls fs' = D := by
  rw [← hD]; exact crash_any b fs k0 k1 w h

/-- Bytes, and what they are as a string. -/
theorem bytes_is {b : Nat} {fs : List File} (k : Int) (w : World) (h : DiskAt w b fs) (bs : List UInt8) (hb : (fileAt (fls fs) k).bs = bs) :
    Calls Try.prog 18 #[.pointer (some ⟨b, 0, none⟩), .int .i64 k] w fun e w' => ∃ A n c, e = .returned (.slice A n c) ∧ n = bs.length ∧ w'.ownsRow w.heap.size 5 1 (.slice A n c) n (byteVals bs) ∧ Chg none w w' := by
  rw [← hb]
  exact (bytes_any b fs k w h).mono fun _ _ ⟨A, c, h1, h2, h3⟩ => ⟨A, _, c, h1, rfl, h2, h3⟩

theorem conv_is (w : World) {A : Option Addr} {n c base : Nat} {bs : List UInt8} (h : w.ownsRow base 5 1 (.slice A n c) n (byteVals bs)) (hn : n = bs.length) :
    (convert 26 9 (.slice A n c)).run Try.prog w = .ok (.string ⟨bs.toArray⟩) w := by
  subst hn
  exact conv_own w h

theorem synced_is {b : Nat} {fs : List File} (k : Int) (w : World) (h : DiskAt w b fs) (n : Nat) (hb : (fileAt (fls fs) k).syn = n) :
    Calls Try.prog 19 #[.pointer (some ⟨b, 0, none⟩), .int .i64 k] w fun e w' => e = .returned (.int .i64 n) ∧ w = w' := by
  rw [← hb]; exact synced_any b fs k w h

set_option maxRecDepth 100000 in
set_option maxHeartbeats 4000000 in
theorem known_any (w : World) : Calls Try.prog 9 #[] w fun e w' => e = .returned (.bool true) ∧ Chg none w w' := by
  go_enter Try.func9, Try.ntmps9
  go_wp2_with fail
  refine (new_rel _).mono ?_
  rintro e w1 ⟨rfl, r1⟩
  have hB := r1.disk.lt
  have kc := fun (w : World) (C : Array Value) (n c : Nat) => Lib.run_convert_bytes_const (P := Try.prog) w 26 5 C n c Try.underlying26 Try.underlying5
  generalize w.heap.size = B at *
  go_wp2_with fail
  refine (append_is 0 _ [97, 98, 99] 3 _ (r1.disk.alloc _) (reads_mark w1 [97, 98, 99] _ rfl _) [⟨[97, 98, 99], 0⟩, ⟨[], 0⟩] 0 (by decide)).mono ?_
  rintro e w2 ⟨rfl, f2, s2, hf2⟩
  have r2 := (r1.more ((Chg.refl _ _).alloc _)).step s2
  have HF2 := Lib.hid hf2
  clear hf2 s2 r1
  go_wp2_with fail
  refine (sync_is 0 _ r2.disk [⟨[97, 98, 99], 3⟩, ⟨[], 0⟩] 0 (by rw [HF2.out]; decide)).mono ?_
  rintro e w3 ⟨rfl, f3, s3, hf3⟩
  have r3 := r2.step s3
  have HF3 := Lib.hid hf3
  clear hf3 s3 r2
  go_wp2_with fail
  refine (append_is 0 _ [100, 101, 102] 3 _ (r3.disk.alloc _) (reads_mark w3 [100, 101, 102] _ rfl _) [⟨[97, 98, 99, 100, 101, 102], 3⟩, ⟨[], 0⟩] 0 (by rw [HF3.out]; decide)).mono ?_
  rintro e w4 ⟨rfl, f4, s4, hf4⟩
  have r4 := (r3.more ((Chg.refl _ _).alloc _)).step s4
  have HF4 := Lib.hid hf4
  clear hf4 s4 r3
  go_wp2_with fail
  refine (crash_is 1 0 _ r4.disk [⟨[97, 98, 99, 100], 4⟩, ⟨[], 0⟩] (by rw [HF4.out]; decide)).mono ?_
  rintro e w5 ⟨rfl, f5, s5, hf5⟩
  have r5 := r4.step s5
  have HF5 := Lib.hid hf5
  clear hf5 s5 r4
  go_wp2_with fail
  refine (bytes_is 0 _ r5.disk [97, 98, 99, 100] (by rw [HF5.out]; decide)).mono ?_
  rintro e w6 ⟨A6, n6, c6, rfl, hn6, ho6, g6⟩
  have cv := conv_is _ ho6 hn6
  have HN6 := Lib.hid hn6
  have r6 := r5.more g6
  clear hn6 ho6 g6 r5
  go_wp2_with fail
  refine (synced_is 0 _ r6.disk 4 (by rw [HF5.out]; decide)).mono ?_
  rintro e w7 ⟨rfl, rfl⟩
  clear cv
  go_wp2_with fail
  refine (append_is 2 _ [97] 1 _ (r6.disk.alloc _) (reads_mark w6 [97] _ rfl _) [⟨[97, 98, 99, 100], 4⟩, ⟨[], 0⟩] 2 (by rw [HF5.out]; decide)).mono ?_
  rintro e w8 ⟨rfl, f8, s8, hf8⟩
  have r8 := (r6.more ((Chg.refl _ _).alloc _)).step s8
  clear hf8 s8 r6
  go_wp2_with fail
  go_ret
  exact ⟨rfl, r8.chg⟩

end Go.Proofs.Ytbgofhbanhanfaa
