/-
  The document's answers of layer 3: Form, Row, ListForm.
-/
import Derived.Test.YtkbhhejnhjhacaaT
import Derived.Test.YtkbhhejnhjhacaaP
namespace Go.Proofs.Ytkbhhejnhjhacaa
open Go.RowKit

theorem chg_ofX {B : Nat} {w w' u : World} (h : Chg none u w) (hb : Below B w w') (hB : u.heap.size ≤ B) : Chg none u w' :=
  ⟨hb.os.trans h.os, hb.tape.trans h.tape, hb.output.trans h.output, Nat.le_trans h.size hb.size, fun i hi hn => (hb.block i (by omega)).trans (h.block i hi hn)⟩

theorem own_below {w w' : World} {B base e size n : Nat} {v : Value} {xs : List Value} (h : w.ownsRow base e size v n xs) (hb : Below B w w') (hB : ∀ g, v.ownBlock = some g → g < B) : w'.ownsRow base e size v n xs := by
  refine ⟨h.1, ?_⟩
  rcases h.2 with h1 | ⟨g, cap, cur, h1, h2, h3, h4⟩
  · exact .inl h1
  · exact .inr ⟨g, cap, cur, h1, h2, (hb.block g (hB g (by rw [h1]; rfl))).trans h3, h4⟩

theorem nb_pos_iff (n j : Nat) (h : n < 18446744073709551616) : 0 < n / 256 ^ j ↔ j < nb n := by
  have hp : 0 < 256 ^ j := Nat.pow_pos (by omega)
  constructor
  · intro h0
    have h1 : 256 ^ j ≤ n := by
      have := (Nat.le_div_iff_mul_le hp).1 h0
      simpa using this
    rcases Nat.lt_or_ge j (nb n) with h2 | h2
    · exact h2
    · have h3 := lt_nb n h
      have : 256 ^ nb n ≤ 256 ^ j := Nat.pow_le_pow_right (by omega) h2
      omega
  · intro h0
    have hn0 : n ≠ 0 := by
      rintro rfl
      have : nb 0 = 0 := by decide
      omega
    have h1 := (nb_ge n h hn0).2
    have h2 : 256 ^ j ≤ 256 ^ (nb n - 1) := Nat.pow_le_pow_right (by omega) (by omega)
    exact Nat.div_pos (by omega) hp

theorem u8_mod (n : Nat) : ((UInt8.ofNat n).toNat : Int) = (n : Int) % 256 := by simp

theorem reads_oneI (w : World) (z : Int) (x : UInt8) (hz : (x.toNat : Int) = z) : (w.alloc (.cells #[.int .u8 z] 5 (0, 0))).ownsRow w.heap.size 5 1 (.slice (some ⟨w.heap.size, 0, none⟩) 1 1) 1 (byteVals [x]) := by
  subst hz
  refine ⟨rfl, .inr ⟨w.heap.size, 1, #[.int .u8 x.toNat], rfl, Nat.le_refl _, Blk.new w _ 5, ?_⟩⟩
  simp [maxLen, byteVals]

def FormRel (w0 : World) (n j : Nat) (v : Value) (w : World) : Prop := (∃ k, w.ownsRow w0.heap.size 5 1 v k (byteVals (be j n))) ∧ Below w0.heap.size w0 w

set_option maxHeartbeats 4000000 in
theorem refForm_any (n : Nat) (w : World) (hn : n < 18446744073709551616) : Calls Try.prog 13 #[.int .u64 n] w (OwnPost w w.heap.size (form n)) := by
  obtain ⟨i0, hi, hz0, hz1, hz2⟩ := info_parts Try.info5
  have hnb := nb_le n hn
  have hrel0 : FormRel w n 0 (.slice none 0 0) w := ⟨⟨0, World.ownsRow_nil _ _ _ _⟩, Below.refl _ _⟩
  have HREL0 := Lib.hid hrel0
  clear hrel0
  go_enter Try.func13, Try.ntmps13
  go_wp2_with fail
  go_loopw [0, 3] (fun v0 v3 wr => ∃ j : Nat, j ≤ nb n ∧ v0 = .int .u64 ((n / 256 ^ j : Nat) : Int) ∧ FormRel w n j v3 wr) (fun v0 _ _ => (intOf v0).toNat)
  case atStart => exact ⟨0, by omega, by simp, HREL0.out⟩
  case round =>
    obtain ⟨j, hj, rfl, ⟨k, hown⟩, hbl⟩ := hrel
    obtain ⟨A, c, rfl⟩ := own_slice hown
    obtain rfl : k = j := by have := hown.1; rw [byteVals_len, be_len] at this; omega
    have hs := hbl.size
    have hiff := nb_pos_iff n k hn
    have hdd : n / 256 ^ (k + 1) = n / 256 ^ k / 256 := by rw [Nat.pow_succ, Nat.div_div_eq_div_mul]
    have hlt64 : n / 256 ^ k < 18446744073709551616 := Nat.lt_of_le_of_lt (Nat.div_le_self _ _) hn
    obtain ⟨q, hq⟩ : ∃ q, q = n / 256 ^ k := ⟨_, rfl⟩
    rw [← hq] at hiff hdd hlt64 ⊢
    have HDD := Lib.hid hdd
    have HQ := Lib.hid hq
    by_cases hlt : k < nb n
    · have hq0 : 0 < q := hiff.2 hlt
      have hz := u8_mod q
      have HX := Lib.hid (reads_oneI wr _ _ hz)
      have HR := Lib.hid ((Reads.of_own hown).alloc (Nat.le_refl _) (.cells #[.int .u8 ((q : Int) % 256)] 5 (0, 0)))
      have HO := Lib.hid (byteVals_one (be k n))
      clear hown hdd hq hiff hz
      go_wp2_with (at_builtin; refine wpList_append_any _ rfl (.tmp 9) (.tmp 10) 22 rfl wr.heap.size 5 i0 (.int .u8 0) 1 1 Try.underlying22 hi hz0 hz1 hz2 rfl (by decide) _ 1 (byteVals [UInt8.ofNat q]) rfl HX.out wr.heap.size A k c (byteVals (be k n)) rfl HR.out HO.out (by unfold maxLen; omega) (by omega) (by simp) ?_)
      intro v1 w1 hown1 hgr1 _
      have hb1 : Below w.heap.size w w1 := (hbl.alloc hs _).grown hgr1 (by simp; omega) (fun g hg => by have := (HX.out.lt g hg).1; omega)
      rw [byteVals_append] at hown1
      have e : [UInt8.ofNat q] ++ be k n = be (k + 1) n := by rw [be, HQ.out]; rfl
      rw [e] at hown1
      have hrel : FormRel w n (k + 1) v1 w1 := ⟨⟨_, World.ownsRow.mono hown1 hs⟩, hb1⟩
      have HREL := Lib.hid hrel
      clear hrel hown1 hgr1 e
      go_wp2_with fail
      go_roundw
      case rel => exact ⟨k + 1, by omega, by rw [HDD.out]; go_num, HREL.out⟩
      case measure => simp [intOf]; omega
    · obtain rfl : k = nb n := by omega
      have hq0 : q = 0 := by
        rcases Nat.eq_zero_or_pos q with h | h
        · exact h
        · have := hiff.1 h; omega
      subst hq0
      have hz := u8_mod (nb n)
      have hm : ((nb n : Nat) : Int) % 256 = nb n := by omega
      rw [hm] at hz
      have HX := Lib.hid (reads_oneI wr _ _ hz)
      have HR := Lib.hid ((Reads.of_own hown).alloc (Nat.le_refl _) (.cells #[.int .u8 (nb n : Nat)] 5 (0, 0)))
      have HO := Lib.hid (byteVals_one (be (nb n) n))
      generalize hf : nb n = f at *
      have HF := Lib.hid hf
      clear hown hdd hq hiff hz hm hf
      go_wp2_with (at_builtin; refine wpList_append_any _ rfl (.tmp 17) (.tmp 18) 22 rfl wr.heap.size 5 i0 (.int .u8 0) 1 1 Try.underlying22 hi hz0 hz1 hz2 rfl (by decide) _ 1 (byteVals [UInt8.ofNat f]) rfl HX.out wr.heap.size A f c (byteVals (be f n)) rfl HR.out HO.out (by unfold maxLen; omega) (by omega) (by simp) ?_)
      intro v1 w1 hown1 hgr1 _
      have hb1 : Below w.heap.size w w1 := (hbl.alloc hs _).grown hgr1 (by simp; omega) (fun g hg => by have := (HX.out.lt g hg).1; omega)
      rw [byteVals_append] at hown1
      have e : [UInt8.ofNat f] ++ be f n = form n := by unfold form; rw [HF.out]; rfl
      rw [e] at hown1
      have hown2 := World.ownsRow.mono hown1 hs
      obtain ⟨A1, c1, rfl⟩ := own_slice hown2
      have hl : 1 + f = (form n).length := by rw [form_len, HF.out]; omega
      have HL := Lib.hid hl
      have HOWN := Lib.hid hown2
      clear hown1 hown2 hgr1 e hl
      go_wp2_with fail
      go_ret
      exact ⟨A1, _, c1, rfl, HL.out, HOWN.out, hb1⟩

set_option maxHeartbeats 2000000 in
theorem refRow_any (A : Option Addr) (x : List UInt8) (c : Nat) (w : World) (hr : Reads w w.heap.size 1 A x.length (byteVals x)) (hl : x.length ≤ 1000000) :
    Calls Try.prog 14 #[.slice A x.length c] w (OwnPost w w.heap.size (row x)) := by
  obtain ⟨i0, hi, hz0, hz1, hz2⟩ := info_parts Try.info5
  have HF := Lib.hid (refForm_any x.length w (by omega))
  have HR := Lib.hid hr
  have HO := Lib.hid (byteVals_one x)
  have hnb := nb_le x.length (by omega)
  have hfl := form_len x.length
  clear hr
  go_enter Try.func14, Try.ntmps14
  go_wp2_with fail
  refine HF.out.mono ?_
  rintro e w1 ⟨A1, n1, c1, rfl, hn1, hown1, hb1⟩
  have hs1 := hb1.size
  have HR1 := Lib.hid (HR.out.below hb1)
  have HOWN1 := Lib.hid hown1
  have hn9 : n1 ≤ 9 := by omega
  have HN1 := Lib.hid hn1
  clear hown1 hn1 hfl
  go_wp2_with (at_builtin; refine wpList_append_any _ rfl (.tmp 6) (.tmp 7) 22 rfl w.heap.size 5 i0 (.int .u8 0) 1 1 Try.underlying22 hi hz0 hz1 hz2 rfl (by decide) _ n1 (byteVals (form x.length)) rfl HOWN1.out w.heap.size A x.length c (byteVals x) rfl HR1.out HO.out (by unfold maxLen; omega) (by omega) hs1 ?_)
  intro v2 w2 hown2 hgr2 _
  rw [byteVals_append] at hown2
  have hb2 : Below w.heap.size w w2 := hb1.grown hgr2 hs1 (fun g hg => (HOWN1.out.lt g hg).1)
  obtain ⟨A2, c2, rfl⟩ := own_slice hown2
  have hl2 : n1 + x.length = (row x).length := by rw [HN1.out]; unfold row; rw [List.length_append]
  have HL2 := Lib.hid hl2
  clear hl2 hgr2
  go_wp2_with fail
  go_ret
  exact ⟨A2, _, c2, rfl, HL2.out, hown2, hb2⟩

set_option maxHeartbeats 4000000 in
theorem refList_form (Al : Option Addr) (L : List Row) (cl : Nat) (w : World) (hL : RowsIn w w.heap.size Al L) (hs : rowsLen L ≤ 2000) :
    Calls Try.prog 15 #[.slice Al L.length cl] w (OwnPost w w.heap.size (listForm L)) := by
  obtain ⟨i0, hi, hz0, hz1, hz2⟩ := info_parts Try.info5
  have hll := rowsLen_ge L
  have hnb := nb_le L.length (by omega)
  have HF := Lib.hid (refForm_any L.length w (by omega))
  have HL := Lib.hid hL
  clear hL
  go_enter Try.func15, Try.ntmps15
  go_wp2_with fail
  refine HF.out.mono ?_
  rintro e w1 ⟨A1, n1, c1, rfl, hn1, hown1, hb1⟩
  have hrel0 : PutL w w.heap.size (.slice A1 n1 c1) (form L.length ++ flat (L.take 0)) w1 := ⟨⟨n1, by simpa [flat] using hown1⟩, hb1⟩
  have HREL0 := Lib.hid hrel0
  clear hn1 hown1 hrel0 HF
  go_wp2_with fail
  go_loopw [3, 4] (fun v3 v4 wr => ∃ k : Nat, k ≤ L.length ∧ v4 = .int .i64 k ∧ PutL w w.heap.size v3 (form L.length ++ flat (L.take k)) wr) (fun _ v4 _ => L.length - (intOf v4).toNat)
  case atStart => exact ⟨0, by omega, rfl, HREL0.out⟩
  case round =>
    obtain ⟨k, hk, rfl, ⟨n3, hown3⟩, hb3⟩ := hrel
    clear HREL0
    obtain ⟨A3, c3, rfl⟩ := own_slice hown3
    have hk9 : (form L.length ++ flat (L.take k)).length ≤ 200000 := by
      have h1 := rowsLen_take L k
      have h2 := flat_len_le (L.take k) (by omega)
      rw [List.length_append, form_len]; omega
    have hn3 : n3 ≤ 200000 := by have := hown3.1; rw [byteVals_len] at this; omega
    have hs3 := hb3.size
    by_cases hlt : k < L.length
    · obtain ⟨r, hrk⟩ : ∃ r, L[k]? = some r := ⟨_, List.getElem?_eq_getElem hlt⟩
      have hL3 := HL.out.below hb3
      obtain ⟨b, off, rfl, hbb, hcell⟩ := hL3.reads.plainV (by omega)
      have hck := hcell k _ (by rw [List.getElem?_map, hrk]; rfl)
      have hmem : r ∈ L := List.mem_of_getElem? hrk
      have hrr := ((hL3.each r hmem).reads).more hs3
      have hrl := rowsLen_mem L r hmem
      have hrow := row_len r.bs (by omega)
      have HRW := Lib.hid (refRow_any r.A r.bs r.c wr hrr (by omega))
      have HT := Lib.hid (flat_take hrk)
      have HOWN3 := Lib.hid hown3
      have HO := Lib.hid (byteVals_one (row r.bs))
      unfold Row.val at hck
      clear hown3 hrk hcell hL3 hrr hmem hk9
      go_wp2_with fail
      refine HRW.out.mono ?_
      rintro e w4 ⟨A4, n4, c4, rfl, hn4, hown4, hb4⟩
      subst hn4
      have HOWN4 := Lib.hid (own_below HOWN3.out hb4 (fun g hg => (HOWN3.out.lt g hg).2))
      have HR4 := Lib.hid (Reads.of_own hown4)
      have hs4 := hb4.size
      have hb04 : Below w.heap.size w w4 := hb3.trans (hb4.mono hs3)
      obtain ⟨b4, hb4e⟩ : ∃ b4, b4 = row r.bs := ⟨_, rfl⟩
      rw [← hb4e] at HR4 HO hrow ⊢
      have HB4 := Lib.hid hb4e
      clear hown4 hb4e
      go_wp2_with (at_builtin; refine wpList_append_any _ rfl (.tmp 15) (.tmp 20) 22 rfl w.heap.size 5 i0 (.int .u8 0) 1 1 Try.underlying22 hi hz0 hz1 hz2 rfl (by decide) _ n3 (byteVals (form L.length ++ flat (L.take k))) rfl HOWN4.out w4.heap.size A4 b4.length c4 (byteVals b4) rfl HR4.out HO.out (by unfold maxLen; omega) (by omega) (by omega) ?_)
      intro v5 w5 hown5 hgr5 _
      rw [byteVals_append, HB4.out, List.append_assoc, ← HT.out] at hown5
      have hb5 : Below w.heap.size w w5 := hb04.grown hgr5 (by omega) (fun g hg => (HOWN4.out.lt g hg).1)
      have hrel : PutL w w.heap.size v5 (form L.length ++ flat (L.take (k + 1))) w5 := ⟨⟨_, hown5⟩, hb5⟩
      have HREL := Lib.hid hrel
      clear hrel hown5 hgr5
      go_wp2_with fail
      go_roundw
      case rel => exact ⟨k + 1, by omega, by go_num, HREL.out⟩
      case measure => simp [intOf]; omega
    · obtain rfl : k = L.length := by omega
      rw [List.take_length] at hown3
      have hn3 : n3 = (listForm L).length := by
        have := hown3.1
        rw [byteVals_len] at this
        unfold listForm; omega
      have HN3 := Lib.hid hn3
      have HOWN3 := Lib.hid hown3
      clear hn3 hown3
      go_wp2_with fail
      go_ret
      exact ⟨A3, n3, c3, rfl, HN3.out, HOWN3.out, hb3⟩

end Go.Proofs.Ytkbhhejnhjhacaa
