/-
  Bytes as a string; the known case of layer 3.
-/
import Derived.Test.YtkbhhejnhjhacaaC
import Derived.Laws.IdiomStrings
import Derived.Laws.BytesArg
namespace Go.Proofs.Ytkbhhejnhjhacaa
open Go.RowKit

theorem conv_reads (w : World) {A : Option Addr} {n c B : Nat} {bs : List UInt8} (h : Reads w B 1 A n (byteVals bs)) :
    (convert 22 9 (.slice A n c)).run Try.prog w = .ok (.string ⟨bs.toArray⟩) w := by
  obtain rfl : n = bs.length := by have := h.1; rw [byteVals_len] at this; omega
  rcases Nat.eq_zero_or_pos bs.length with h0 | h0
  · have : bs = [] := List.eq_nil_of_length_eq_zero h0
    subst this
    rcases A with _ | ad
    · exact run_convert_bytes_nil (P := Try.prog) w 22 5 Try.underlying22 Try.underlying5 _ _ 9 Try.underlying9
    · exact run_convert_bytes_back w 22 9 5 ad c [] Try.underlying22 Try.underlying5 Try.underlying9 (fun j hj => by simp at hj)
  · obtain ⟨ad, rfl, hb, hc⟩ := h.2 h0
    refine run_convert_bytes_back w 22 9 5 ad c bs Try.underlying22 Try.underlying5 Try.underlying9 (fun j hj => ?_)
    refine hc j _ ?_
    simp [byteVals, List.getElem?_eq_getElem hj]

theorem conv_own (w : World) {A : Option Addr} {n c base : Nat} {bs : List UInt8} (h : w.ownsRow base 5 1 (.slice A n c) n (byteVals bs)) :
    (convert 22 9 (.slice A n c)).run Try.prog w = .ok (.string ⟨bs.toArray⟩) w := conv_reads w (Reads.of_own h)

theorem own_chg {w w' : World} {base n : Nat} {v : Value} {xs : List Value} (h : w.ownsRow base 5 1 v n xs) (g : Chg none w w') : w'.ownsRow base 5 1 v n xs :=
  h.kept g (by cases v.ownBlock <;> simp)

theorem reads_lit (w : World) (bs : List UInt8) (cs : Array Value) (hcs : cs.toList = byteVals bs) :
    Reads (w.alloc (.cells cs 5 (0, 0))) (w.alloc (.cells cs 5 (0, 0))).heap.size 1 (some ⟨w.heap.size, 0, none⟩) bs.length (byteVals bs) :=
  ⟨by rw [byteVals_len, Nat.mul_one], fun _ => ⟨_, rfl, by simp, fun j u hu => by
    rw [Go.WideShapes.add_plain, Nat.zero_add, (Blk.new w cs 5).cell, ← hu, ← hcs]; simp⟩⟩

theorem appendUint_nil (n : Nat) (z : Int) (w : World) (hn : n < 18446744073709551616) (hz : z = n) :
    Calls Try.prog 10 #[.slice none 0 0, .int .u64 z] w (OwnPost w w.heap.size (form n)) := by
  subst hz
  exact appendUint_any none [] 0 n w (fun _ => ⟨rfl, rfl⟩) ⟨rfl, fun h => absurd h (by simp)⟩ (by simp) hn

/-- The bytes, as a string. -/
def strOf (bs : List UInt8) : ByteArray := ⟨bs.toArray⟩

theorem uint_is (bs : List UInt8) (n g : Nat) (cs : Array Value) (hcs : cs.toList = byteVals bs) (r : Nat × Int × Int) (hr : readU bs 0 = r) (hn : n = bs.length) (hl : bs.length ≤ 1000000) (w : World) (hg : g = w.heap.size) :
    Calls Try.prog 16 #[.slice (some ⟨g, 0, none⟩) n n, .int .i64 0] (w.alloc (.cells cs 5 (0, 0))) (Told3 (w.alloc (.cells cs 5 (0, 0))) r) := by
  subst hn hg
  rw [← hr]
  exact uint_any (some ⟨w.heap.size, 0, none⟩) bs bs.length 0 _ (reads_lit w bs cs hcs) (Nat.le_refl _) hl

set_option maxHeartbeats 2000000 in
theorem known_any (w : World) : Calls Try.prog 9 #[] w fun e w' => e = .returned (.bool true) ∧ Chg none w w' := by
  go_enter Try.func9, Try.ntmps9
  go_wp2_with fail
  (with_reducible refine (uint_is [2, 0, 5] 3 _ #[.int .u8 2, .int .u8 0, .int .u8 5] rfl (0, 0, 5) (by decide) rfl (by decide) w rfl).mono ?_)
  rintro e w1 ⟨rfl, rfl⟩
  go_wp2_with fail
  (with_reducible refine (uint_is [9] 1 (w.heap.size + 1) #[.int .u8 9] rfl (0, 0, 5) (by decide) rfl (by decide) _ (by simp)).mono ?_)
  rintro e w1 ⟨rfl, rfl⟩
  go_wp2_with fail
  (with_reducible refine (uint_is [2, 1] 2 (w.heap.size + 1 + 1) #[.int .u8 2, .int .u8 1] rfl (0, 0, 4) (by decide) rfl (by decide) _ (by simp)).mono ?_)
  rintro e w1 ⟨rfl, rfl⟩
  go_wp2_with fail
  (with_reducible refine (appendUint_nil 0 0 _ (by decide) rfl).mono ?_)
  rintro e w1 ⟨A1, n1, c1, rfl, hn1, hown1, hb1⟩
  have cv1 := conv_own _ hown1
  rw [show form 0 = [0] by decide] at cv1
  have g1 : Chg none w w1 := (((((Chg.refl none w).alloc _).alloc _).alloc _)).trans ⟨hb1.os, hb1.tape, hb1.output, hb1.size, fun i hi _ => hb1.block i hi⟩
  clear hn1 hown1 hb1
  go_wp2_with fail
  (with_reducible refine (appendUint_nil 5 5 _ (by decide) rfl).mono ?_)
  rintro e w2 ⟨A2, n2, c2, rfl, hn2, hown2, hb2⟩
  have cv2 := conv_own _ hown2
  rw [show form 5 = [1, 5] by decide] at cv2
  have g2 : Chg none w w2 := g1.trans ⟨hb2.os, hb2.tape, hb2.output, hb2.size, fun i hi _ => hb2.block i hi⟩
  clear hn2 hown2 hb2 g1 cv1
  go_wp2_with fail
  (with_reducible refine (appendUint_nil 300 300 _ (by decide) rfl).mono ?_)
  rintro e w3 ⟨A3, n3, c3, rfl, hn3, hown3, hb3⟩
  have cv3 := conv_own _ hown3
  rw [show form 300 = [2, 1, 44] by decide] at cv3
  have g3 : Chg none w w3 := g2.trans ⟨hb3.os, hb3.tape, hb3.output, hb3.size, fun i hi _ => hb3.block i hi⟩
  clear hn3 hown3 hb3 g2 cv2
  go_wp2_with fail
  go_ret
  exact ⟨rfl, g3⟩

end Go.Proofs.Ytkbhhejnhjhacaa
