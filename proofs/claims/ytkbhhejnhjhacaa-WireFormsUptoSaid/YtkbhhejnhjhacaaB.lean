/-
  Package wire: putUint, AppendUint.
-/
import Derived.Test.YtkbhhejnhjhacaaA
namespace Go.Proofs.Ytkbhhejnhjhacaa
open Go.RowKit

theorem nb_int (n : Nat) : ((Lib.bitLen n : Nat) : Int) + 7 = ((Lib.bitLen n + 7 : Nat) : Int) := by omega

def Put (w : World) (base : Nat) (v : Value) (bs : List UInt8) (wr : World) : Prop :=
  wr.ownsRow base 5 1 v bs.length (byteVals bs) ∧ Below base w wr

theorem byte_ofNat (n : Nat) (h : n < 256) : ((UInt8.ofNat n).toNat : Int) = n := by
  simp [UInt8.toNat_ofNat', Nat.mod_eq_of_lt h]

theorem byte_shr (n k : Nat) : ((UInt8.ofNat (n / 256 ^ k)).toNat : Int) = (n : Int) / 2 ^ (8 * k) % 256 := by
  rw [show (256 : Nat) = 2 ^ 8 from rfl, ← Nat.pow_mul]
  simp [UInt8.toNat_ofNat']

set_option maxHeartbeats 4000000 in
theorem putUint_any (base : Nat) (v : Value) (k : Nat) (bs : List UInt8) (n : Nat) (w : World) (hown : w.ownsRow base 5 1 v k (byteVals bs)) (hb : base ≤ w.heap.size) (hn : n < 18446744073709551616) (hl : bs.length ≤ 1000000) :
    Calls Try.prog 23 #[v, .int .u64 n] w (OwnPost w base (bs ++ form n)) := by
  obtain rfl : k = bs.length := by have := hown.1; rw [byteVals_len] at this; omega
  obtain ⟨i0, hi, hz0, hz1, hz2⟩ := info_parts Try.info5
  have hlen := (Try.bits_Len64 (n : Int) w (by omega) (by omega))
  rw [Int.toNat_natCast] at hlen
  have hle := bitLen_64 n hn
  have hnb := nb_le n hn
  obtain ⟨L, hL⟩ : ∃ L, L = Lib.bitLen n := ⟨_, rfl⟩
  obtain ⟨f, hf⟩ : ∃ f, f = nb n := ⟨_, rfl⟩
  have hq : ((L : Int) + 7) / 8 = (f : Int) := by rw [hf, hL]; unfold nb; omega
  rw [← hL] at hlen hle
  rw [← hf] at hnb
  have HLEN := Lib.hid hlen
  have HOWN := Lib.hid hown
  have HF := Lib.hid hf
  have hn0 : (0 : Int) ≤ (n : Int) := by omega
  obtain ⟨A0, c0, rfl⟩ := own_slice hown
  clear hlen hL hf hown
  go_enter Try.func23, Try.ntmps23
  go_wp2_with fail
  refine HLEN.out.mono ?_
  rintro e w' ⟨rfl, rfl⟩
  have hr1 := reads_one w' (UInt8.ofNat f)
  rw [byte_ofNat f (by omega)] at hr1
  have HR1 := Lib.hid hr1
  have HO1 := Lib.hid (byteVals_one [UInt8.ofNat f])
  clear hr1
  go_wp2_with (at_builtin; refine wpList_append_any _ rfl (.tmp 11) (.tmp 14) 22 rfl base 5 i0 (.int .u8 0) 1 1 Try.underlying22 hi hz0 hz1 hz2 rfl (by decide) _ bs.length (byteVals bs) rfl (HOWN.out.alloc _) _ _ 1 1 (byteVals [UInt8.ofNat f]) rfl HR1.out HO1.out ?c1 ?c2 ?c3 ?_)
  case c1 => unfold maxLen; omega
  case c2 => omega
  case c3 => simp; omega
  intro v1 w1 hown1 hgr1 _
  rw [byteVals_append] at hown1
  have hb1 : Below base w' w1 := (((Below.refl _ _).alloc hb _).grown hgr1 (by simp; omega) (fun g hg => (HOWN.out.lt g hg).1))
  have hcl : (bs ++ [UInt8.ofNat f]).length = bs.length + 1 := by simp
  obtain ⟨A1, c1, rfl⟩ := own_slice hown1
  have hrel0 : Put w' base (.slice A1 (bs.length + 1) c1) (bs ++ UInt8.ofNat f :: (be f n).take 0) w1 := ⟨by simpa using hown1, hb1⟩
  have HREL0 := Lib.hid hrel0
  clear hgr1 hown1 hb1 HR1 HO1 hcl hrel0
  go_wp2_with fail
  go_loopw [0, 6] (fun v0 v6 wr => ∃ j : Nat, j ≤ f ∧ v6 = .int .i64 ((f : Int) - 1 - j) ∧ Put w' base v0 (bs ++ UInt8.ofNat f :: (be f n).take j) wr) (fun _ v6 _ => (intOf v6 + 1).toNat)
  case atStart => exact ⟨0, by omega, by simp, HREL0.out⟩
  case round =>
    obtain ⟨j, hj, rfl, hown2, hb2⟩ := hrel
    clear HREL0
    obtain ⟨A2, c2, rfl⟩ := own_slice hown2
    have hjl : (bs ++ UInt8.ofNat f :: (be f n).take j).length = bs.length + 1 + j := by
      rw [List.length_append, List.length_cons, List.length_take, be_len]; omega
    rw [hjl] at hown2
    by_cases hlt : j < f
    · have hr1 := reads_one wr (UInt8.ofNat (n / 256 ^ (f - 1 - j)))
      rw [byte_shr] at hr1
      have HR1 := Lib.hid hr1
      have HO1 := Lib.hid (byteVals_one [UInt8.ofNat (n / 256 ^ (f - 1 - j))])
      have HT := Lib.hid (be_take_succ f n j hlt)
      have HOWN2 := Lib.hid hown2
      have hsz := hb2.size
      rw [hjl]
      clear hr1 hown2 hjl
      go_wp2_with (at_builtin; refine wpList_append_any _ rfl (.tmp 22) (.tmp 28) 22 rfl base 5 i0 (.int .u8 0) 1 1 Try.underlying22 hi hz0 hz1 hz2 rfl (by decide) _ (bs.length + 1 + j) (byteVals (bs ++ UInt8.ofNat f :: (be f n).take j)) rfl (HOWN2.out.alloc _) _ _ 1 1 (byteVals [UInt8.ofNat (n / 256 ^ (f - 1 - j))]) rfl HR1.out HO1.out ?d1 ?d2 ?d3 ?_)
      case d1 => unfold maxLen; omega
      case d2 => omega
      case d3 => simp; omega
      intro v3 w3 hown3 hgr3 _
      rw [byteVals_append, List.append_assoc, List.cons_append, ← HT.out] at hown3
      have hb3 : Below base w' w3 := ((hb2.alloc (by omega) _).grown hgr3 (by simp; omega) (fun g hg => (HOWN2.out.lt g hg).1))
      have hrel : Put w' base v3 (bs ++ UInt8.ofNat f :: (be f n).take (j + 1)) w3 := by
        refine ⟨?_, hb3⟩
        have hl3 : (bs ++ UInt8.ofNat f :: (be f n).take (j + 1)).length = bs.length + 1 + j + 1 := by
          rw [List.length_append, List.length_cons, List.length_take, be_len]; omega
        rw [hl3]; exact hown3
      have HREL := Lib.hid hrel
      clear hrel hown3 hgr3 hb3
      go_wp2_with fail
      go_roundw
      case rel => exact ⟨j + 1, by omega, by congr 1; omega, HREL.out⟩
      case measure => simp [intOf]; omega
    · obtain rfl : j = f := by omega
      rw [hjl]
      have hfin : (be j n).take j = be j n := List.take_of_length_le (by rw [be_len]; omega)
      rw [hfin] at hown2
      have HOWN2 := Lib.hid hown2
      clear hown2 hjl hfin
      go_wp2_with fail
      go_ret
      have hl3 : (bs ++ form n).length = bs.length + 1 + j := by
        rw [List.length_append, form_len, ← HF.out]; omega
      refine ⟨A2, _, c2, rfl, hl3.symm, ?_, hb2⟩
      unfold form
      rw [← HF.out]
      exact HOWN2.out

set_option maxHeartbeats 1000000 in
theorem appendUint_any (A : Option Addr) (bs : List UInt8) (c n : Nat) (w : World) (hA : NilOk A bs.length c) (hr : Reads w w.heap.size 1 A bs.length (byteVals bs)) (hl : bs.length ≤ 1000000) (hn : n < 18446744073709551616) :
    Calls Try.prog 10 #[.slice A bs.length c, .int .u64 n] w (OwnPost w w.heap.size (bs ++ form n)) := by
  have HC := Lib.hid (clone24 A bs c w hA hr hl)
  clear hA hr
  go_enter Try.func10, Try.ntmps10
  go_wp2_with fail
  refine HC.out.mono ?_
  rintro e w1 ⟨A1, n1, c1, rfl, hn1, hown1, hb1⟩
  have HP := Lib.hid (putUint_any w.heap.size _ n1 bs n w1 hown1 hb1.size hn hl)
  clear hown1 hn1
  go_wp2_with fail
  refine HP.out.mono ?_
  rintro e w2 ⟨A2, n2, c2, rfl, hn2, hown2, hb2⟩
  have HN2 := Lib.hid hn2
  clear hn2
  go_wp2_with fail
  go_ret
  exact ⟨A2, n2, c2, rfl, HN2.out, hown2, hb1.trans hb2⟩

end Go.Proofs.Ytkbhhejnhjhacaa
