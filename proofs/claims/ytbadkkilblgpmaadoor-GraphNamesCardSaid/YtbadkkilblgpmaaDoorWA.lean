/-
  Package wire, carried over: the forms of numbers and rows, written and read, and the document's answers.
-/
import Derived.Test.YtbadkkilblgpmaaDoorTB
import Derived.Test.YtbadkkilblgpmaaDoorR
import Derived.Shelf.Strconv.Itoa0
import Derived.Outline
import Derived.Lib.BitFns
import Derived.Lib.EndianBits
import Derived.Deep.Onto
import Derived.Lib.ItoaNum
namespace Go.Proofs.YtbadkkilblgpmaaDoor
open Go.RowKit Go.Shelf


def Tryd.lays129_ren : Go.Shelf.Ren := ⟨fun | 129 => 162 | n => n, fun | 53 => 35 | 3 => 3 | 4 => 4 | 46 => 105 | 5 => 5 | 9 => 9 | n => n, fun | n => n⟩
theorem Tryd.lays129 : Go.Proofs.Lays.n129 Tryd.prog Tryd.lays129_ren := {
  mixed := by kernel_rfl
  f129 := Tryd.func162.trans (congrArg some (by kernel_rfl))
  t3 := Tryd.underlying3
  a3 := Tryd.isAgg3
  z3 := Tryd.sizeOf3
  v3 := Tryd.zeroValue3
  t4 := Tryd.underlying4
  a4 := Tryd.isAgg4
  z4 := Tryd.sizeOf4
  v4 := Tryd.zeroValue4
  t5 := Tryd.underlying5
  a5 := Tryd.isAgg5
  z5 := Tryd.sizeOf5
  v5 := Tryd.zeroValue5
  t9 := Tryd.underlying9
  a9 := Tryd.isAgg9
  z9 := Tryd.sizeOf9
  v9 := Tryd.zeroValue9
  t46 := Tryd.underlying105
  a46 := Tryd.isAgg105
  z46 := Tryd.sizeOf105
  v46 := Tryd.zeroValue105
  t53 := Tryd.underlying35
  a53 := Tryd.isAgg35
  z53 := Tryd.sizeOf35
  v53 := Tryd.zeroValue35 }
/-- bits.Len64: "Len64 returns the minimum number of bits required to represent x; the result is 0 for x == 0.": IT RETURNS 'Lib.bitLen x'; the world is as it was. ('h0', 'h1': x is a uint64.) (LAID: no walk: one application.) -/
theorem Tryd.bits_Len64 (x : Int) (w : World) (h0 : 0 ≤ x) (h1 : x ≤ 18446744073709551615) :
    Calls Tryd.prog 162 #[.int .u64 x] w fun e w' => e = .returned (.int .i64 (Lib.bitLen x.toNat)) ∧ w' = w := Any.bits_Len64 Tryd.lays129 x w h0 h1
/-- How many bytes a number has, without noughts ahead. -/
def nb (n : Nat) : Nat := (Lib.bitLen n + 7) / 8
/-- The last k bytes of n, the highest first. -/
def wbe : Nat → Nat → List UInt8
  | 0, _ => []
  | k + 1, n => UInt8.ofNat (n / 256 ^ k) :: wbe k n
def form (n : Nat) : List UInt8 := UInt8.ofNat (nb n) :: wbe (nb n) n
theorem wbe_len : ∀ k n, (wbe k n).length = k
  | 0, _ => rfl
  | k + 1, n => by rw [wbe, List.length_cons, wbe_len k n]
theorem wbe_get : ∀ (k n j : Nat), j < k → (wbe k n)[j]? = some (UInt8.ofNat (n / 256 ^ (k - 1 - j)))
  | 0, _, _, h => by omega
  | k + 1, n, 0, _ => by rw [wbe]; simp
  | k + 1, n, j + 1, h => by
    rw [wbe, List.getElem?_cons_succ, wbe_get k n j (by omega)]
    congr 4
    omega
theorem bitLen_64 (n : Nat) (h : n < 18446744073709551616) : Lib.bitLen n ≤ 64 := Lib.bitLen_le n 64 (by omega) h
theorem nb_le (n : Nat) (h : n < 18446744073709551616) : nb n ≤ 8 := by
  have := bitLen_64 n h
  unfold nb; omega
theorem form_len (n : Nat) : (form n).length = nb n + 1 := by simp [form, wbe_len]
theorem wbe_take_succ (k n j : Nat) (h : j < k) : (wbe k n).take (j + 1) = (wbe k n).take j ++ [UInt8.ofNat (n / 256 ^ (k - 1 - j))] := by
  rw [List.take_succ_eq_append_getElem (by rw [wbe_len]; exact h)]
  congr 2
  have := wbe_get k n j h
  rw [List.getElem?_eq_getElem (by rw [wbe_len]; exact h)] at this
  simpa using this
/-- A slice of bytes of the call's own. -/
def Own (w : World) (base : Nat) (A : Option Addr) (n c : Nat) (bs : List UInt8) : Prop := n = bs.length ∧ w.ownsRow base 5 1 (.slice A n c) n (byteVals bs)
/-- A slice of bytes that is the caller's, as it came. -/
def NilOk (A : Option Addr) (n c : Nat) : Prop := A = none → n = 0 ∧ c = 0
theorem eq_nil22 (w : World) (a : Option Addr) (n c n' c' : Nat) : (binOp .eql 22 (.slice a n c) (.slice none n' c')).run Tryd.prog w = .ok (.bool a.isNone) w :=
  Lib.run_eql_slice_nil w _ _ a n c n' c' Tryd.underlying22
/-- What a writer tells: these bytes, in memory of its own. -/
def WPost (w : World) (base : Nat) (bs : List UInt8) (e : Ending) (w' : World) : Prop :=
  ∃ A n c, e = .returned (.slice A n c) ∧ n = bs.length ∧ w'.ownsRow base 5 1 (.slice A n c) n (byteVals bs) ∧ Below base w w'
set_option maxHeartbeats 1000000 in
theorem clone24 (A : Option Addr) (bs : List UInt8) (c : Nat) (w : World) (hA : NilOk A bs.length c) (hr : Reads w w.heap.size 1 A bs.length (byteVals bs)) (hn : bs.length ≤ 1000000) :
    Calls Tryd.prog 125 #[.slice A bs.length c] w (WPost w w.heap.size bs) := by
  obtain ⟨i0, hi, hz0, hz1, hz2⟩ := info_parts Tryd.info5
  have HO := Lib.hid (byteVals_one bs)
  have q22 := eq_nil22
  rcases A with _ | ad
  · obtain ⟨h0, rfl⟩ := hA rfl
    have : bs = [] := List.eq_nil_of_length_eq_zero h0
    subst this
    clear hr HO h0 hA
    go_enter Tryd.func125, Tryd.ntmps125
    go_wp2_with fail
    go_ret
    exact ⟨_, _, _, rfl, rfl, World.ownsRow_nil _ _ _ _, Below.refl _ _⟩
  · have hown : (w.alloc (.cells #[] 5 (0, 0))).ownsRow w.heap.size 5 1 (.slice (some ⟨w.heap.size, 0, none⟩) 0 0) 0 [] := by
      refine ⟨rfl, .inr ⟨w.heap.size, 0, #[], rfl, Nat.le_refl _, Blk.new w _ 5, ?_⟩⟩
      simp
    have HR := Lib.hid (hr.alloc (Nat.le_refl _) (.cells #[] 5 (0, 0)))
    have HOWN := Lib.hid hown
    clear hown hr hA
    go_enter Tryd.func125, Tryd.ntmps125
    go_wp2_with (at_builtin; refine wpList_append_any _ rfl (.tmp 5) (.tmp 6) 22 rfl w.heap.size 5 i0 (.int .u8 0) 1 1 Tryd.underlying22 hi hz0 hz1 hz2 rfl (by decide) _ 0 [] rfl HOWN.out w.heap.size (some ad) bs.length c (byteVals bs) rfl HR.out HO.out ?c1 ?c2 ?c3 ?_)
    case c1 => unfold maxLen; omega
    case c2 => omega
    case c3 => simp
    intro v' w1 hown' hgr _
    obtain ⟨A', c', rfl⟩ := own_slice hown'
    try simp only [Nat.zero_add, List.nil_append] at hown'
    have hb : Below w.heap.size w w1 := (((Below.refl _ _).alloc (Nat.le_refl _) _).grown hgr (by simp) (by simp [Value.ownBlock]))
    clear hgr
    go_wp2_with fail
    go_ret
    exact ⟨_, _, _, rfl, rfl, hown', hb⟩
set_option maxHeartbeats 1000000 in
theorem clone27 (A : Option Addr) (bs : List UInt8) (c : Nat) (w : World) (hA : NilOk A bs.length c) (hr : Reads w w.heap.size 1 A bs.length (byteVals bs)) (hn : bs.length ≤ 1000000) :
    Calls Tryd.prog 112 #[.slice A bs.length c] w (WPost w w.heap.size bs) := by
  obtain ⟨i0, hi, hz0, hz1, hz2⟩ := info_parts Tryd.info5
  have HO := Lib.hid (byteVals_one bs)
  have q22 := eq_nil22
  rcases A with _ | ad
  · obtain ⟨h0, rfl⟩ := hA rfl
    have : bs = [] := List.eq_nil_of_length_eq_zero h0
    subst this
    clear hr HO h0 hA
    go_enter Tryd.func112, Tryd.ntmps112
    go_wp2_with fail
    go_ret
    exact ⟨_, _, _, rfl, rfl, World.ownsRow_nil _ _ _ _, Below.refl _ _⟩
  · have hown : (w.alloc (.cells #[] 5 (0, 0))).ownsRow w.heap.size 5 1 (.slice (some ⟨w.heap.size, 0, none⟩) 0 0) 0 [] := by
      refine ⟨rfl, .inr ⟨w.heap.size, 0, #[], rfl, Nat.le_refl _, Blk.new w _ 5, ?_⟩⟩
      simp
    have HR := Lib.hid (hr.alloc (Nat.le_refl _) (.cells #[] 5 (0, 0)))
    have HOWN := Lib.hid hown
    clear hown hr hA
    go_enter Tryd.func112, Tryd.ntmps112
    go_wp2_with (at_builtin; refine wpList_append_any _ rfl (.tmp 5) (.tmp 6) 22 rfl w.heap.size 5 i0 (.int .u8 0) 1 1 Tryd.underlying22 hi hz0 hz1 hz2 rfl (by decide) _ 0 [] rfl HOWN.out w.heap.size (some ad) bs.length c (byteVals bs) rfl HR.out HO.out ?c1 ?c2 ?c3 ?_)
    case c1 => unfold maxLen; omega
    case c2 => omega
    case c3 => simp
    intro v' w1 hown' hgr _
    obtain ⟨A', c', rfl⟩ := own_slice hown'
    try simp only [Nat.zero_add, List.nil_append] at hown'
    have hb : Below w.heap.size w w1 := (((Below.refl _ _).alloc (Nat.le_refl _) _).grown hgr (by simp) (by simp [Value.ownBlock]))
    clear hgr
    go_wp2_with fail
    go_ret
    exact ⟨_, _, _, rfl, rfl, hown', hb⟩
theorem nb_int (n : Nat) : ((Lib.bitLen n : Nat) : Int) + 7 = ((Lib.bitLen n + 7 : Nat) : Int) := by omega
def Put (w : World) (base : Nat) (v : Value) (bs : List UInt8) (wr : World) : Prop :=
  wr.ownsRow base 5 1 v bs.length (byteVals bs) ∧ Below base w wr
theorem byte_ofNat (n : Nat) (h : n < 256) : ((UInt8.ofNat n).toNat : Int) = n := by
  simp [UInt8.toNat_ofNat', Nat.mod_eq_of_lt h]
theorem byte_shrW (n k : Nat) : ((UInt8.ofNat (n / 256 ^ k)).toNat : Int) = (n : Int) / 2 ^ (8 * k) % 256 := by
  rw [show (256 : Nat) = 2 ^ 8 from rfl, ← Nat.pow_mul]
  simp [UInt8.toNat_ofNat']
set_option maxRecDepth 100000 in
set_option maxHeartbeats 4000000 in
theorem putUint_any (base : Nat) (v : Value) (k : Nat) (bs : List UInt8) (n : Nat) (w : World) (hown : w.ownsRow base 5 1 v k (byteVals bs)) (hb : base ≤ w.heap.size) (hn : n < 18446744073709551616) (hl : bs.length ≤ 1000000) :
    Calls Tryd.prog 124 #[v, .int .u64 n] w (WPost w base (bs ++ form n)) := by
  obtain rfl : k = bs.length := by have := hown.1; rw [byteVals_len] at this; omega
  obtain ⟨i0, hi, hz0, hz1, hz2⟩ := info_parts Tryd.info5
  have hlen := (Tryd.bits_Len64 (n : Int) w (by omega) (by omega))
  rw [Int.toNat_natCast] at hlen
  have hle := bitLen_64 n hn
  have hnb := nb_le n hn
  obtain ⟨L, hL⟩ : ∃ L, L = Lib.bitLen n := ⟨_, rfl⟩
  obtain ⟨f, hf⟩ : ∃ f, f = nb n := ⟨_, rfl⟩
  have hq : ((L : Int) + 7) / 8 = (f : Int) := by rw [hf, hL]; unfold nb; omega
  rw [← hL] at hlen hle
  rw [← hf] at hnb
  have HLEN := Lib.hid hlen
  have HOWN := Lib.hid hown
  have HF := Lib.hid hf
  have hn0 : (0 : Int) ≤ (n : Int) := by omega
  obtain ⟨A0, c0, rfl⟩ := own_slice hown
  clear hlen hL hf hown
  go_enter Tryd.func124, Tryd.ntmps124
  go_wp2_with fail
  refine HLEN.out.mono ?_
  rintro e w' ⟨rfl, rfl⟩
  have hr1 := reads_one w' (UInt8.ofNat f)
  rw [byte_ofNat f (by omega)] at hr1
  have HR1 := Lib.hid hr1
  have HO1 := Lib.hid (byteVals_one [UInt8.ofNat f])
  clear hr1
  go_wp2_with (at_builtin; refine wpList_append_any _ rfl (.tmp 11) (.tmp 14) 22 rfl base 5 i0 (.int .u8 0) 1 1 Tryd.underlying22 hi hz0 hz1 hz2 rfl (by decide) _ bs.length (byteVals bs) rfl (HOWN.out.alloc _) _ _ 1 1 (byteVals [UInt8.ofNat f]) rfl HR1.out HO1.out ?c1 ?c2 ?c3 ?_)
  case c1 => unfold maxLen; omega
  case c2 => omega
  case c3 => simp; omega
  intro v1 w1 hown1 hgr1 _
  rw [byteVals_append] at hown1
  have hb1 : Below base w' w1 := (((Below.refl _ _).alloc hb _).grown hgr1 (by simp; omega) (fun g hg => (HOWN.out.lt g hg).1))
  have hcl : (bs ++ [UInt8.ofNat f]).length = bs.length + 1 := by simp
  obtain ⟨A1, c1, rfl⟩ := own_slice hown1
  have hrel0 : Put w' base (.slice A1 (bs.length + 1) c1) (bs ++ UInt8.ofNat f :: (wbe f n).take 0) w1 := ⟨by simpa using hown1, hb1⟩
  have HREL0 := Lib.hid hrel0
  clear hgr1 hown1 hb1 HR1 HO1 hcl hrel0
  go_wp2_with fail
  go_loopw [0, 6] (fun v0 v6 wr => ∃ j : Nat, j ≤ f ∧ v6 = .int .i64 ((f : Int) - 1 - j) ∧ Put w' base v0 (bs ++ UInt8.ofNat f :: (wbe f n).take j) wr) (fun _ v6 _ => (intOf v6 + 1).toNat)
  case atStart => exact ⟨0, by omega, by simp, HREL0.out⟩
  case round =>
    obtain ⟨j, hj, rfl, hown2, hb2⟩ := hrel
    clear HREL0
    obtain ⟨A2, c2, rfl⟩ := own_slice hown2
    have hjl : (bs ++ UInt8.ofNat f :: (wbe f n).take j).length = bs.length + 1 + j := by
      rw [List.length_append, List.length_cons, List.length_take, wbe_len]; omega
    rw [hjl] at hown2
    by_cases hlt : j < f
    · have hr1 := reads_one wr (UInt8.ofNat (n / 256 ^ (f - 1 - j)))
      rw [byte_shrW] at hr1
      have HR1 := Lib.hid hr1
      have HO1 := Lib.hid (byteVals_one [UInt8.ofNat (n / 256 ^ (f - 1 - j))])
      have HT := Lib.hid (wbe_take_succ f n j hlt)
      have HOWN2 := Lib.hid hown2
      have hsz := hb2.size
      rw [hjl]
      clear hr1 hown2 hjl
      go_wp2_with (at_builtin; refine wpList_append_any _ rfl (.tmp 22) (.tmp 28) 22 rfl base 5 i0 (.int .u8 0) 1 1 Tryd.underlying22 hi hz0 hz1 hz2 rfl (by decide) _ (bs.length + 1 + j) (byteVals (bs ++ UInt8.ofNat f :: (wbe f n).take j)) rfl (HOWN2.out.alloc _) _ _ 1 1 (byteVals [UInt8.ofNat (n / 256 ^ (f - 1 - j))]) rfl HR1.out HO1.out ?d1 ?d2 ?d3 ?_)
      case d1 => unfold maxLen; omega
      case d2 => omega
      case d3 => simp; omega
      intro v3 w3 hown3 hgr3 _
      rw [byteVals_append, List.append_assoc, List.cons_append, ← HT.out] at hown3
      have hb3 : Below base w' w3 := ((hb2.alloc (by omega) _).grown hgr3 (by simp; omega) (fun g hg => (HOWN2.out.lt g hg).1))
      have hrel : Put w' base v3 (bs ++ UInt8.ofNat f :: (wbe f n).take (j + 1)) w3 := by
        refine ⟨?_, hb3⟩
        have hl3 : (bs ++ UInt8.ofNat f :: (wbe f n).take (j + 1)).length = bs.length + 1 + j + 1 := by
          rw [List.length_append, List.length_cons, List.length_take, wbe_len]; omega
        rw [hl3]; exact hown3
      have HREL := Lib.hid hrel
      clear hrel hown3 hgr3 hb3
      go_wp2_with fail
      go_roundw
      case rel => exact ⟨j + 1, by omega, by congr 1; omega, HREL.out⟩
      case measure => simp [intOf]; omega
    · obtain rfl : j = f := by omega
      rw [hjl]
      have hfin : (wbe j n).take j = wbe j n := List.take_of_length_le (by rw [wbe_len]; omega)
      rw [hfin] at hown2
      have HOWN2 := Lib.hid hown2
      clear hown2 hjl hfin
      go_wp2_with fail
      go_ret
      have hl3 : (bs ++ form n).length = bs.length + 1 + j := by
        rw [List.length_append, form_len, ← HF.out]; omega
      refine ⟨A2, _, c2, rfl, hl3.symm, ?_, hb2⟩
      unfold form
      rw [← HF.out]
      exact HOWN2.out
/-- What bytes are as a number, the highest first. -/
def valW (l : List UInt8) : Nat := l.foldl (fun n c => n * 256 + c.toNat) 0
theorem val_snoc (l : List UInt8) (c : UInt8) : valW (l ++ [c]) = valW l * 256 + c.toNat := by simp [valW]
theorem val_from : ∀ (l : List UInt8) (a : Nat), l.foldl (fun n c => n * 256 + c.toNat) a < (a + 1) * 256 ^ l.length
  | [], a => by simp
  | c :: l, a => by
    rw [List.foldl_cons, List.length_cons, Nat.pow_succ]
    have h := val_from l (a * 256 + c.toNat)
    have hc := c.toNat_lt
    refine Nat.lt_of_lt_of_le h ?_
    rw [Nat.mul_comm (256 ^ l.length) 256, ← Nat.mul_assoc]
    exact Nat.mul_le_mul_right _ (by omega)
theorem valW_lt (l : List UInt8) : valW l < 256 ^ l.length := by
  have := val_from l 0
  simpa [valW] using this
/-- The digits of a number of k bytes, out of what follows the count. -/
def digits (k : Nat) (t : List UInt8) (next : Int) : Nat × Int × Int :=
  if k = 0 then (0, next, 0)
  else match t with
    | [] => (0, 0, 4)
    | c :: _ => if c.toNat = 0 then (0, 0, 5) else if t.length < k then (0, 0, 4) else (valW (t.take k), next + k, 0)
def readTail (r : List UInt8) (place : Int) : Nat × Int × Int :=
  match r with
  | [] => (0, 0, 4)
  | c :: t => if 8 < c.toNat then (0, 0, 5) else digits c.toNat t (place + 1)
/-- Uint. -/
def readU (bs : List UInt8) (place : Int) : Nat × Int × Int :=
  if place < 0 ∨ (bs.length : Int) < place then (0, 0, 2) else readTail (bs.drop place.toNat) place
theorem Reads.plain {w : World} {B : Nat} {A : Option Addr} {bs : List UInt8} (h : Reads w B 1 A bs.length (byteVals bs)) (hn : 0 < bs.length) :
    ∃ b off, A = some ⟨b, off, none⟩ ∧ b < B ∧ ∀ j c, bs[j]? = some c → w.cell? ⟨b, off + j, none⟩ = some (.int .u8 c.toNat) := by
  obtain ⟨ad, rfl, hb, hc⟩ := h.2 hn
  obtain ⟨b, off, spot⟩ := ad
  have h0 := hc 0 _ (byteVals_get (List.getElem?_eq_getElem hn))
  have hspot : spot = none := by
    have := World.cell?_spot h0
    simpa [Addr.add] using this
  subst hspot
  refine ⟨b, off, rfl, hb, fun j c hj => ?_⟩
  have := hc j _ (byteVals_get hj)
  rwa [Go.WideShapes.add_plain] at this
theorem digits_ok {k : Nat} {t : List UInt8} (p : Int) (hk : k ≤ t.length) (h : 0 < k → ∀ x, t[0]? = some x → x.toNat ≠ 0) : digits k t p = (valW (t.take k), p + k, 0) := by
  unfold digits
  by_cases h0 : k = 0
  · subst h0; simp [valW]
  · rw [if_neg h0]
    match t, hk, h with
    | [], hk, _ => simp at hk; omega
    | c :: t, hk, h =>
      dsimp only
      rw [if_neg (h (by omega) c rfl), if_neg (by omega)]
theorem digits_short {k : Nat} {t : List UInt8} (p : Int) (hk : t.length < k) (h : 0 < t.length → ∀ x, t[0]? = some x → x.toNat ≠ 0) : digits k t p = (0, 0, 4) := by
  unfold digits
  rw [if_neg (by omega)]
  match t, hk, h with
  | [], _, _ => rfl
  | c :: t, hk, h =>
    dsimp only
    rw [if_neg (h (by simp) c rfl), if_pos hk]
theorem digits_form {k : Nat} {t : List UInt8} {x : UInt8} (p : Int) (hk : 0 < k) (hx : t[0]? = some x) (h : x.toNat = 0) : digits k t p = (0, 0, 5) := by
  unfold digits
  rw [if_neg (by omega)]
  match t, hx with
  | c :: t, hx =>
    simp at hx
    subst hx
    dsimp only
    rw [if_pos h]
theorem val_take {t : List UInt8} {k : Nat} {x : UInt8} (hx : t[k]? = some x) : valW (t.take (k + 1)) = valW (t.take k) * 256 + x.toNat := by
  obtain ⟨hk, rfl⟩ := List.getElem?_eq_some_iff.1 hx
  rw [List.take_succ_eq_append_getElem hk, val_snoc]
theorem val_take_lt (t : List UInt8) (k : Nat) (hk : k < 8) : valW (t.take k) < 72057594037927936 := by
  have h := valW_lt (t.take k)
  refine Nat.lt_of_lt_of_le h ?_
  rw [show (72057594037927936 : Nat) = 256 ^ 7 from rfl]
  exact Nat.pow_le_pow_right (by omega) (by rw [List.length_take]; omega)
theorem bits_or_commW (k : IntKind) (x y : Int) : bits .or k x y = bits .or k y x := by
  simp only [bits, BitVec.or_comm]
theorem or_byteW (N x : Nat) (hx : x < 256) (hN : N < 72057594037927936) : bits .or .u64 ((N : Int) * 256) (x : Int) = ((N * 256 + x : Nat) : Int) := by
  rw [bits_or_commW, Go.u64_or8 _ _ (by omega) (by omega) (by omega) (by omega) (by omega)]
  omega
def Told3 (w : World) (r : Nat × Int × Int) (e : Ending) (w' : World) : Prop := e = .returned (.tuple #[.int .u64 r.1, .int .i64 r.2.1, .int .i64 r.2.2]) ∧ w = w'
set_option maxHeartbeats 4000000 in
theorem uint_any (A : Option Addr) (bs : List UInt8) (c : Nat) (place : Int) (w : World) (hr : Reads w w.heap.size 1 A bs.length (byteVals bs)) (hcap : bs.length ≤ c) (hl : bs.length ≤ 1000000) :
    Calls Tryd.prog 78 #[.slice A bs.length c, .int .i64 place] w (Told3 w (readU bs place)) := by
  by_cases h0 : place < 0
  · have hg : readU bs place = (0, 0, 2) := by unfold readU; rw [if_pos (.inl h0)]
    rw [hg]
    clear hg hr
    go_enter Tryd.func78, Tryd.ntmps78
    go_wp2_with fail
    go_step3
    go_wp2_with fail
    rw [Exit.noGoto_ret]
    go_ret3
    exact ⟨rfl, rfl⟩
  · by_cases h1 : (bs.length : Int) < place
    · have hg : readU bs place = (0, 0, 2) := by unfold readU; rw [if_pos (.inr h1)]
      rw [hg]
      have d0 : decide (place < 0) = false := by simpa using h0
      clear hg hr
      go_enter Tryd.func78, Tryd.ntmps78
      go_wp2_with fail
      go_step3
      go_wp2_with fail
      rw [Exit.noGoto_ret]
      go_ret3
      exact ⟨rfl, rfl⟩
    · obtain ⟨p, rfl⟩ := Int.eq_ofNat_of_zero_le (show 0 ≤ place by omega)
      have hp : p ≤ bs.length := by omega
      have hg : readU bs p = readTail (bs.drop p) p := by unfold readU; rw [if_neg (by omega), Int.toNat_natCast]
      rw [hg]
      clear hg
      have d0 : decide ((p : Int) < 0) = false := by simp
      have d1 : decide ((bs.length : Int) < (p : Int)) = false := by simp; omega
      rcases Nat.lt_or_ge p bs.length with hlt | hge
      · obtain ⟨b, off, rfl, hb, hcell⟩ := hr.plain (by omega)
        clear h0 h1 hr
        obtain ⟨d, hd⟩ : ∃ d, bs[p]? = some d := ⟨_, List.getElem?_eq_getElem hlt⟩
        obtain ⟨t, ht⟩ : ∃ t, t = bs.drop (p + 1) := ⟨_, rfl⟩
        have hdrop : bs.drop p = d :: t := by
          rw [ht, List.drop_eq_getElem_cons hlt]
          congr 1
          rw [List.getElem?_eq_getElem hlt] at hd
          simpa using hd
        have htl : p + 1 + t.length = bs.length := by rw [ht, List.length_drop]; omega
        have hc0 := hcell p d hd
        have hct : ∀ j x, t[j]? = some x → w.cell? ⟨b, off + p + (j + 1), none⟩ = some (.int .u8 x.toNat) := fun j x hj => by
          have := hcell (p + 1 + j) x (by rw [← hj, ht, List.getElem?_drop])
          rwa [show off + (p + 1 + j) = off + p + (j + 1) by omega] at this
        have hdlt := d.toNat_lt
        rw [hdrop]
        unfold readTail
        dsimp only
        have HT := Lib.hid hct
        have hlen : bs.length - p = t.length + 1 := by omega
        have hne : ¬ c = p := by omega
        clear hcell hd ht hdrop hct
        by_cases hbig : 8 < d.toNat
        · rw [if_pos hbig]
          go_enter Tryd.func78, Tryd.ntmps78
          go_wp2_with fail
          go_step3
          go_wp2_with fail
          rw [Exit.noGoto_ret]
          go_ret3
          exact ⟨rfl, rfl⟩
        · rw [if_neg hbig]
          go_enter Tryd.func78, Tryd.ntmps78
          go_wp2_with fail
          go_step3
          go_wp2_with fail
          go_step3
          go_wp2_with fail
          go_loop [4, 6, 31] (fun v4 v6 v31 => ∃ k : Nat, k ≤ d.toNat ∧ k ≤ t.length ∧ v31 = .int .i64 k ∧ v4 = .int .u64 (valW (t.take k)) ∧ v6 = .int .i64 0 ∧ (0 < k → ∀ x, t[0]? = some x → x.toNat ≠ 0)) (fun _ _ v31 => d.toNat - (intOf v31).toNat)
          case atStart => exact ⟨0, by omega, by omega, rfl, by simp [valW], rfl, fun h => absurd h (by omega)⟩
          case round =>
            obtain ⟨k, hk, hkt, rfl, rfl, rfl, hx⟩ := hrel
            have HX := Lib.hid hx
            clear hx
            by_cases hkd : k < d.toNat
            · by_cases hkl : k < t.length
              · obtain ⟨x, hxk⟩ : ∃ x, t[k]? = some x := ⟨_, List.getElem?_eq_getElem hkl⟩
                have hck := HT.out k x hxk
                have hxlt := x.toNat_lt
                have HXK := Lib.hid hxk
                have hv := val_take_lt t k (by omega)
                have HV := Lib.hid (val_take hxk)
                clear hxk
                by_cases hk0 : k = 0
                · subst hk0
                  simp only [Nat.zero_add] at hck
                  by_cases hx0 : x.toNat = 0
                  · have HD := Lib.hid (digits_form ((p : Int) + 1) hkd HXK.out hx0)
                    have hx0b : ((x.toNat : Int) == 0) = true := by simp [hx0]
                    clear hx0
                    go_wp2_with fail
                    (try rw [Exit.noGoto_ret])
                    go_ret3
                    rw [HD.out]
                    exact ⟨rfl, rfl⟩
                  · have hx0b : ((x.toNat : Int) == 0) = false := by simpa using hx0
                    have HX0 := Lib.hid hx0
                    clear hx0
                    go_wp2_with fail
                    go_round
                    case rel => exact ⟨0 + 1, by omega, by omega, by go_num, by rw [HV.out]; exact congrArg (Value.int .u64) (or_byteW 0 x.toNat hxlt (by omega)), rfl, fun _ y hy => by rw [HXK.out] at hy; simp at hy; subst hy; exact HX0.out⟩
                    case measure => simp [intOf]; omega
                · have hk0b : ((k : Int) == 0) = false := by simpa using hk0
                  have HK0 := Lib.hid hk0
                  clear hk0
                  go_wp2_with fail
                  go_round
                  case rel => exact ⟨k + 1, by omega, by omega, by go_num, by rw [HV.out]; exact congrArg (Value.int .u64) (or_byteW _ x.toNat hxlt hv), rfl, fun _ => HX.out (by have := HK0.out; omega)⟩
                  case measure => simp [intOf]; omega
              · have HD := Lib.hid (digits_short ((p : Int) + 1) (k := d.toNat) (t := t) (by omega) (fun h => HX.out (by omega)))
                go_wp2_with fail
                (try rw [Exit.noGoto_ret])
                go_ret3
                rw [HD.out]
                exact ⟨rfl, rfl⟩
            · have HD := Lib.hid (digits_ok ((p : Int) + 1) (k := d.toNat) (t := t) (by omega) (fun h => HX.out (by omega)))
              obtain rfl : k = d.toNat := by omega
              go_wp2_with fail
              (try rw [Exit.noGoto_ret])
              go_ret3
              rw [HD.out]
              exact ⟨rfl, rfl⟩
      · have hg : bs.drop p = [] := List.drop_of_length_le hge
        obtain rfl : p = bs.length := by omega
        rw [hg]
        clear hg hr h0 h1
        go_enter Tryd.func78, Tryd.ntmps78
        go_wp2_with fail
        go_step3
        go_wp2_with fail
        all_goals
          (try rw [Exit.noGoto_ret])
          go_ret3
          exact ⟨rfl, rfl⟩
theorem conv_own (w : World) {A : Option Addr} {n c base : Nat} {bs : List UInt8} (h : w.ownsRow base 5 1 (.slice A n c) n (byteVals bs)) :
    (convert 22 9 (.slice A n c)).run Tryd.prog w = .ok (.string ⟨bs.toArray⟩) w := conv_reads w (Reads.of_own h)
theorem own_chgW {w w' : World} {base n : Nat} {v : Value} {xs : List Value} (h : w.ownsRow base 5 1 v n xs) (g : Chg none w w') : w'.ownsRow base 5 1 v n xs :=
  h.kept g (by cases v.ownBlock <;> simp)
theorem reads_lit (w : World) (bs : List UInt8) (cs : Array Value) (hcs : cs.toList = byteVals bs) :
    Reads (w.alloc (.cells cs 5 (0, 0))) (w.alloc (.cells cs 5 (0, 0))).heap.size 1 (some ⟨w.heap.size, 0, none⟩) bs.length (byteVals bs) :=
  ⟨by rw [byteVals_len, Nat.mul_one], fun _ => ⟨_, rfl, by simp, fun j u hu => by
    rw [Go.WideShapes.add_plain, Nat.zero_add, (Blk.new w cs 5).cell, ← hu, ← hcs]; simp⟩⟩
theorem digits_next (k : Nat) (t : List UInt8) (p : Int) (he : (digits k t p).2.2 = 0) : (digits k t p).2.1 = p + k ∧ k ≤ t.length := by
  unfold digits at *
  by_cases h0 : k = 0
  · subst h0; simp
  · rw [if_neg h0] at *
    match t with
    | [] => simp at he
    | c :: t =>
      dsimp only at *
      by_cases h1 : c.toNat = 0
      · rw [if_pos h1] at he; simp at he
      · rw [if_neg h1] at *
        by_cases h2 : (c :: t).length < k
        · rw [if_pos h2] at he; simp at he
        · rw [if_neg h2]; exact ⟨rfl, by omega⟩
theorem digits_err (k : Nat) (t : List UInt8) (p : Int) (he : (digits k t p).2.2 ≠ 0) : (digits k t p).1 = 0 ∧ (digits k t p).2.1 = 0 := by
  unfold digits at *
  by_cases h0 : k = 0
  · subst h0; simp at he
  · rw [if_neg h0] at *
    match t with
    | [] => simp
    | c :: t =>
      dsimp only at *
      by_cases h1 : c.toNat = 0
      · rw [if_pos h1]; simp
      · rw [if_neg h1] at *
        by_cases h2 : (c :: t).length < k
        · rw [if_pos h2]; simp
        · rw [if_neg h2] at he; simp at he
theorem digits_lt (k : Nat) (t : List UInt8) (p : Int) (hk : k ≤ 8) : (digits k t p).1 < 18446744073709551616 := by
  unfold digits
  by_cases h0 : k = 0
  · subst h0; simp
  · rw [if_neg h0]
    match t with
    | [] => simp
    | c :: t =>
      dsimp only
      by_cases h1 : c.toNat = 0
      · rw [if_pos h1]; simp
      · rw [if_neg h1]
        by_cases h2 : (c :: t).length < k
        · rw [if_pos h2]; simp
        · rw [if_neg h2]
          refine Nat.lt_of_lt_of_le (valW_lt _) ?_
          rw [show (18446744073709551616 : Nat) = 256 ^ 8 from rfl]
          exact Nat.pow_le_pow_right (by omega) (by rw [List.length_take]; omega)
/-- What Uint tells: within the bytes, and a number of 64 bits. -/
structure Well (bs : List UInt8) (place : Int) (r : Nat × Int × Int) : Prop where
  ok : r.2.2 = 0 → 0 ≤ place ∧ place < r.2.1 ∧ r.2.1 ≤ bs.length
  err : r.2.2 ≠ 0 → r.1 = 0 ∧ r.2.1 = 0
  top : r.1 < 18446744073709551616
  low : 0 ≤ r.2.2
  high : r.2.2 ≤ 5
theorem digits_errs (k : Nat) (t : List UInt8) (p : Int) : 0 ≤ (digits k t p).2.2 ∧ (digits k t p).2.2 ≤ 5 := by
  unfold digits
  by_cases h0 : k = 0
  · subst h0; simp
  · rw [if_neg h0]
    match t with
    | [] => simp
    | c :: t =>
      dsimp only
      by_cases h1 : c.toNat = 0
      · rw [if_pos h1]; simp
      · rw [if_neg h1]
        by_cases h2 : (c :: t).length < k
        · rw [if_pos h2]; simp
        · rw [if_neg h2]; simp
theorem readU_well (bs : List UInt8) (place : Int) : Well bs place (readU bs place) := by
  unfold readU
  by_cases h : place < 0 ∨ (bs.length : Int) < place
  · rw [if_pos h]
    exact ⟨fun e => by simp at e, fun _ => ⟨rfl, rfl⟩, by decide, by decide, by decide⟩
  · rw [if_neg h]
    obtain ⟨p, rfl⟩ := Int.eq_ofNat_of_zero_le (show 0 ≤ place by omega)
    rw [Int.toNat_natCast]
    have hl : (bs.drop p).length = bs.length - p := List.length_drop
    unfold readTail
    match hd : bs.drop p with
    | [] => exact ⟨fun e => by simp at e, fun _ => ⟨rfl, rfl⟩, by simp, by simp, by simp⟩
    | c :: t =>
      rw [hd, List.length_cons] at hl
      dsimp only
      by_cases h1 : 8 < c.toNat
      · rw [if_pos h1]
        exact ⟨fun e => by simp at e, fun _ => ⟨rfl, rfl⟩, by simp, by simp, by simp⟩
      · rw [if_neg h1]
        refine ⟨fun e => ?_, digits_err _ _ _, digits_lt _ _ _ (by omega), (digits_errs _ _ _).1, (digits_errs _ _ _).2⟩
        obtain ⟨q1, q2⟩ := digits_next _ _ _ e
        rw [q1]
        omega
/-- count. -/
def readC (bs : List UInt8) (place most : Int) : Nat × Int × Int :=
  if (readU bs place).2.2 = 0 then (if most < 0 ∨ most < ((readU bs place).1 : Int) then (0, 0, 3) else readU bs place) else (0, 0, (readU bs place).2.2)
def ToldC (w : World) (r : Nat × Int × Int) (e : Ending) (w' : World) : Prop := e = .returned (.tuple #[.int .i64 r.1, .int .i64 r.2.1, .int .i64 r.2.2]) ∧ w = w'
set_option maxHeartbeats 2000000 in
theorem count_any (A : Option Addr) (bs : List UInt8) (c : Nat) (place most : Int) (w : World) (hr : Reads w w.heap.size 1 A bs.length (byteVals bs)) (hcap : bs.length ≤ c) (hl : bs.length ≤ 1000000) (hm : most ≤ 9223372036854775807) :
    Calls Tryd.prog 130 #[.slice A bs.length c, .int .i64 place, .int .i64 most] w (ToldC w (readC bs place most)) := by
  have HU := Lib.hid (uint_any A bs c place w hr hcap hl)
  have hw := readU_well bs place
  obtain ⟨n, next, er, hq⟩ : ∃ n next er, readU bs place = (n, next, er) := ⟨_, _, _, rfl⟩
  have hC : readC bs place most = if er = 0 then (if most < 0 ∨ most < (n : Int) then (0, 0, 3) else (n, next, er)) else (0, 0, er) := by unfold readC; rw [hq]
  rw [hC]
  rw [hq] at hw HU
  have htop := hw.top
  dsimp only at htop
  clear hq hC hw hr
  by_cases he : er = 0
  · subst he
    rw [if_pos rfl]
    by_cases hm0 : most < 0
    · rw [if_pos (.inl hm0)]
      go_enter Tryd.func130, Tryd.ntmps130
      go_wp2_with fail
      refine HU.out.mono ?_
      rintro e w' ⟨rfl, rfl⟩
      go_wp2_with fail
      go_ret3
      exact ⟨rfl, rfl⟩
    · have d0 : decide (most < 0) = false := by simpa using hm0
      have hm1 : 0 ≤ most := by omega
      by_cases hmn : most < (n : Int)
      · rw [if_pos (.inr hmn)]
        clear hm0
        go_enter Tryd.func130, Tryd.ntmps130
        go_wp2_with fail
        refine HU.out.mono ?_
        rintro e w' ⟨rfl, rfl⟩
        go_wp2_with fail
        go_ret3
        exact ⟨rfl, rfl⟩
      · rw [if_neg (by omega)]
        have d1 : decide (most < (n : Int)) = false := by simpa using hmn
        have hn9 : (n : Int) ≤ 9223372036854775807 := by omega
        clear hm0 hmn
        go_enter Tryd.func130, Tryd.ntmps130
        go_wp2_with fail
        refine HU.out.mono ?_
        rintro e w' ⟨rfl, rfl⟩
        go_wp2_with fail
        go_ret3
        exact ⟨rfl, rfl⟩
  · rw [if_neg he]
    have d0 : (er != 0) = true := by simpa using he
    have d1 : (er == 0) = false := by simpa using he
    clear he
    go_enter Tryd.func130, Tryd.ntmps130
    go_wp2_with fail
    refine HU.out.mono ?_
    rintro e w' ⟨rfl, rfl⟩
    go_wp2_with fail
    go_ret3
    exact ⟨rfl, rfl⟩
/-- Bytes. -/
def readB (bs : List UInt8) (place most : Int) : List UInt8 × Int × Int :=
  if (readC bs place most).2.2 = 0 then
    (if (bs.length : Int) - (readC bs place most).2.1 < ((readC bs place most).1 : Int) then ([], 0, 4)
    else ((bs.drop (readC bs place most).2.1.toNat).take (readC bs place most).1, (readC bs place most).2.1 + (readC bs place most).1, 0))
  else ([], 0, (readC bs place most).2.2)
theorem readC_well (bs : List UInt8) (place most : Int) : Well bs place (readC bs place most) := by
  have h := readU_well bs place
  unfold readC
  by_cases h0 : (readU bs place).2.2 = 0
  · rw [if_pos h0]
    by_cases h1 : most < 0 ∨ most < ((readU bs place).1 : Int)
    · rw [if_pos h1]; exact ⟨fun e => by simp at e, fun _ => ⟨rfl, rfl⟩, by simp, by simp, by simp⟩
    · rw [if_neg h1]; exact h
  · rw [if_neg h0]; exact ⟨fun e => absurd e h0, fun _ => ⟨rfl, rfl⟩, by simp, h.low, h.high⟩
/-- A row, its place and error: in memory of its own. -/
def ToldB (w : World) (r : List UInt8 × Int × Int) (e : Ending) (w' : World) : Prop :=
  ∃ A n c, e = .returned (.tuple #[.slice A n c, .int .i64 r.2.1, .int .i64 r.2.2]) ∧ n = r.1.length ∧ w'.ownsRow w.heap.size 5 1 (.slice A n c) n (byteVals r.1) ∧ Below w.heap.size w w'
theorem reads_mid {w : World} {B b off : Nat} {bs : List UInt8} (hb : b < B) (h : ∀ j c, bs[j]? = some c → w.cell? ⟨b, off + j, none⟩ = some (.int .u8 c.toNat)) (lo n : Nat) (hn : lo + n ≤ bs.length) :
    Reads w B 1 (some ⟨b, off + lo, none⟩) n (byteVals ((bs.drop lo).take n)) := by
  refine ⟨by rw [byteVals_len, List.length_take, List.length_drop]; omega, fun _ => ⟨_, rfl, hb, fun j u hu => ?_⟩⟩
  rw [Go.WideShapes.add_plain]
  unfold byteVals at hu
  rw [List.getElem?_map] at hu
  by_cases hj : j < n
  · rw [List.getElem?_take_of_lt hj, List.getElem?_drop] at hu
    obtain ⟨c, hc, rfl⟩ := Option.map_eq_some_iff.1 hu
    have := h _ _ hc
    rwa [show off + (lo + j) = off + lo + j by omega] at this
  · rw [List.getElem?_eq_none (by rw [List.length_take]; omega)] at hu
    simp at hu
set_option maxHeartbeats 4000000 in
theorem bytes_any (A : Option Addr) (bs : List UInt8) (c : Nat) (place most : Int) (w : World) (hr : Reads w w.heap.size 1 A bs.length (byteVals bs)) (hcap : bs.length ≤ c) (hl : bs.length ≤ 1000000) (hm : most ≤ 9223372036854775807) :
    Calls Tryd.prog 79 #[.slice A bs.length c, .int .i64 place, .int .i64 most] w (ToldB w (readB bs place most)) := by
  have HC := Lib.hid (count_any A bs c place most w hr hcap hl hm)
  have hw := readC_well bs place most
  obtain ⟨n, next, er, hq⟩ : ∃ n next er, readC bs place most = (n, next, er) := ⟨_, _, _, rfl⟩
  have hB : readB bs place most = if er = 0 then (if (bs.length : Int) - next < (n : Int) then ([], 0, 4) else ((bs.drop next.toNat).take n, next + n, 0)) else ([], 0, er) := by unfold readB; rw [hq]
  rw [hB]
  rw [hq] at hw HC
  have htop := hw.top
  dsimp only at htop
  clear hq hB
  by_cases he : er = 0
  · subst he
    rw [if_pos rfl]
    obtain ⟨p0, p1, p2⟩ := hw.ok rfl
    dsimp only at p1 p2
    obtain ⟨b, off, rfl, hb, hcell⟩ := hr.plain (by omega)
    obtain ⟨p, rfl⟩ := Int.eq_ofNat_of_zero_le (show 0 ≤ next by omega)
    rw [Int.toNat_natCast]
    clear hw hr p0 p1
    by_cases hs : (bs.length : Int) - (p : Int) < (n : Int)
    · rw [if_pos hs]
      clear hcell
      go_enter Tryd.func79, Tryd.ntmps79
      go_wp2_with fail
      refine HC.out.mono ?_
      rintro e w' ⟨rfl, rfl⟩
      go_wp2_with fail
      go_ret3
      exact ⟨_, _, _, rfl, rfl, World.ownsRow_nil _ _ _ _, Below.refl _ _⟩
    · rw [if_neg hs]
      have d1 : decide ((bs.length : Int) - (p : Int) < (n : Int)) = false := by simpa using hs
      have hpn : p + n ≤ bs.length := by omega
      have hln : ((bs.drop p).take n).length = n := by rw [List.length_take, List.length_drop]; omega
      have hq1 : (p : Int) ≤ (p : Int) + (n : Int) := by omega
      have hq2 : (p : Int) + (n : Int) ≤ (c : Int) := by omega
      have hCL := fun (A' : Option Addr) (c' : Nat) (hA : A' ≠ none) (hX : Reads w w.heap.size 1 A' n (byteVals ((bs.drop p).take n))) => clone27 A' ((bs.drop p).take n) c' w (fun h => absurd h hA) (by rw [hln]; exact hX) (by omega)
      rw [hln] at hCL
      have HLN := Lib.hid hln
      by_cases hcp : c = p
      · subst hcp
        obtain rfl : n = 0 := by omega
        have HCL := Lib.hid (hCL (some ⟨b, off, none⟩) 0 (by simp) ⟨by rw [byteVals_len, HLN.out], fun h => absurd h (by omega)⟩)
        clear hCL hln hcell hs
        go_enter Tryd.func79, Tryd.ntmps79
        go_wp2_with fail
        refine HC.out.mono ?_
        rintro e w' ⟨rfl, rfl⟩
        go_wp2_with fail
        refine HCL.out.mono ?_
        rintro e w1 ⟨A1, n1, c1, rfl, hn1, hown1, hb1⟩
        have HN1 := Lib.hid hn1
        clear hn1
        go_wp2_with fail
        go_ret3
        exact ⟨_, _, _, rfl, HN1.out, hown1, hb1⟩
      · have hX := reads_mid hb hcell p n hpn
        have HCL := Lib.hid (hCL (some ⟨b, off + p, none⟩) (c - p) (by simp) hX)
        clear hCL hX hcell hln hs
        go_enter Tryd.func79, Tryd.ntmps79
        go_wp2_with fail
        refine HC.out.mono ?_
        rintro e w' ⟨rfl, rfl⟩
        go_wp2_with fail
        refine HCL.out.mono ?_
        rintro e w1 ⟨A1, n1, c1, rfl, hn1, hown1, hb1⟩
        have HN1 := Lib.hid hn1
        clear hn1
        go_wp2_with fail
        go_ret3
        exact ⟨_, _, _, rfl, HN1.out, hown1, hb1⟩
  · rw [if_neg he]
    have d0 : (er != 0) = true := by simpa using he
    clear he hw hr
    go_enter Tryd.func79, Tryd.ntmps79
    go_wp2_with fail
    refine HC.out.mono ?_
    rintro e w' ⟨rfl, rfl⟩
    go_wp2_with fail
    go_ret3
    exact ⟨_, _, _, rfl, rfl, World.ownsRow_nil _ _ _ _, Below.refl _ _⟩
/-- A row's form. -/
def row (x : List UInt8) : List UInt8 := form x.length ++ x
theorem row_len (x : List UInt8) (h : x.length ≤ 1000000) : (row x).length ≤ 9 + x.length := by
  have := nb_le x.length (by omega)
  unfold row
  rw [List.length_append, form_len]; omega
set_option maxHeartbeats 2000000 in
theorem putBytes_any (base : Nat) (v : Value) (k : Nat) (bs : List UInt8) (A : Option Addr) (x : List UInt8) (c : Nat) (w : World) (hown : w.ownsRow base 5 1 v k (byteVals bs)) (hb : base ≤ w.heap.size)
    (hr : Reads w base 1 A x.length (byteVals x)) (hl : bs.length ≤ 500000) (hx : x.length ≤ 400000) :
    Calls Tryd.prog 126 #[v, .slice A x.length c] w (WPost w base (bs ++ row x)) := by
  obtain ⟨i0, hi, hz0, hz1, hz2⟩ := info_parts Tryd.info5
  have HP := Lib.hid (putUint_any base v k bs x.length w hown hb (by omega) (by omega))
  have hnb := nb_le x.length (by omega)
  have hfl : (bs ++ form x.length).length ≤ 500009 := by rw [List.length_append, form_len]; omega
  have HR := Lib.hid hr
  have HO := Lib.hid (byteVals_one x)
  obtain ⟨A0, c0, rfl⟩ := own_slice hown
  clear hown hr
  go_enter Tryd.func126, Tryd.ntmps126
  go_wp2_with fail
  refine HP.out.mono ?_
  rintro e w1 ⟨A1, n1, c1, rfl, hn1, hown1, hb1⟩
  have hs1 := hb1.size
  have HR1 := Lib.hid (HR.out.below hb1)
  have HOWN1 := Lib.hid hown1
  have hn1' : n1 ≤ 500009 := by omega
  have HN1 := Lib.hid hn1
  clear hown1 hn1
  go_wp2_with (at_builtin; refine wpList_append_any _ rfl (.tmp 9) (.tmp 10) 22 rfl base 5 i0 (.int .u8 0) 1 1 Tryd.underlying22 hi hz0 hz1 hz2 rfl (by decide) _ n1 (byteVals (bs ++ form x.length)) rfl HOWN1.out base A x.length c (byteVals x) rfl HR1.out HO.out ?c1 ?c2 ?c3 ?_)
  case c1 => unfold maxLen; omega
  case c2 => omega
  case c3 => omega
  intro v2 w2 hown2 hgr2 _
  rw [byteVals_append, List.append_assoc] at hown2
  have hb2 : Below base w w2 := hb1.grown hgr2 (by omega) (fun g hg => (HOWN1.out.lt g hg).1)
  obtain ⟨A2, c2, rfl⟩ := own_slice hown2
  have hl2 : n1 + x.length = (bs ++ row x).length := by
    rw [HN1.out]; unfold row; simp only [List.length_append]; omega
  have HL2 := Lib.hid hl2
  clear hl2 hgr2
  go_wp2_with fail
  go_ret
  exact ⟨A2, _, c2, rfl, HL2.out, hown2, hb2⟩
set_option maxHeartbeats 1000000 in
theorem appendUint_any (A : Option Addr) (bs : List UInt8) (c n : Nat) (w : World) (hA : NilOk A bs.length c) (hr : Reads w w.heap.size 1 A bs.length (byteVals bs)) (hl : bs.length ≤ 1000000) (hn : n < 18446744073709551616) :
    Calls Tryd.prog 74 #[.slice A bs.length c, .int .u64 n] w (WPost w w.heap.size (bs ++ form n)) := by
  have HC := Lib.hid (clone24 A bs c w hA hr hl)
  clear hA hr
  go_enter Tryd.func74, Tryd.ntmps74
  go_wp2_with fail
  refine HC.out.mono ?_
  rintro e w1 ⟨A1, n1, c1, rfl, hn1, hown1, hb1⟩
  have HP := Lib.hid (putUint_any w.heap.size _ n1 bs n w1 hown1 hb1.size hn hl)
  clear hown1 hn1
  go_wp2_with fail
  refine HP.out.mono ?_
  rintro e w2 ⟨A2, n2, c2, rfl, hn2, hown2, hb2⟩
  have HN2 := Lib.hid hn2
  clear hn2
  go_wp2_with fail
  go_ret
  exact ⟨A2, n2, c2, rfl, HN2.out, hown2, hb1.trans hb2⟩
set_option maxHeartbeats 1000000 in
theorem appendBytes_any (A : Option Addr) (bs : List UInt8) (c : Nat) (Ax : Option Addr) (x : List UInt8) (cx : Nat) (w : World) (hA : NilOk A bs.length c) (hr : Reads w w.heap.size 1 A bs.length (byteVals bs))
    (hx : Reads w w.heap.size 1 Ax x.length (byteVals x)) (hl : bs.length ≤ 500000) (hxl : x.length ≤ 400000) :
    Calls Tryd.prog 75 #[.slice A bs.length c, .slice Ax x.length cx] w (WPost w w.heap.size (bs ++ row x)) := by
  have HC := Lib.hid (clone24 A bs c w hA hr (by omega))
  have HX := Lib.hid hx
  clear hA hr hx
  go_enter Tryd.func75, Tryd.ntmps75
  go_wp2_with fail
  refine HC.out.mono ?_
  rintro e w1 ⟨A1, n1, c1, rfl, hn1, hown1, hb1⟩
  have HP := Lib.hid (putBytes_any w.heap.size _ n1 bs Ax x cx w1 hown1 hb1.size (HX.out.below hb1) hl hxl)
  clear hown1 hn1
  go_wp2_with fail
  refine HP.out.mono ?_
  rintro e w2 ⟨A2, n2, c2, rfl, hn2, hown2, hb2⟩
  have HN2 := Lib.hid hn2
  clear hn2
  go_wp2_with fail
  go_ret
  exact ⟨A2, n2, c2, rfl, HN2.out, hown2, hb1.trans hb2⟩
theorem lt_nb (n : Nat) (h : n < 18446744073709551616) : n < 256 ^ nb n := by
  by_cases h0 : n = 0
  · subst h0; exact Nat.pow_pos (by omega)
  · have hb := (Lib.bitLenAux_bounds 64 n h h0).2.2
    refine Nat.lt_of_lt_of_le hb ?_
    rw [show (256 : Nat) = 2 ^ 8 from rfl, ← Nat.pow_mul]
    refine Nat.pow_le_pow_right (by omega) ?_
    show Lib.bitLen n ≤ 8 * nb n
    unfold nb; omega
theorem val_from_eq : ∀ (l : List UInt8) (a : Nat), l.foldl (fun n c => n * 256 + c.toNat) a = a * 256 ^ l.length + valW l
  | [], a => by simp [valW]
  | c :: l, a => by
    have h1 := val_from_eq l (a * 256 + c.toNat)
    have h2 := val_from_eq l (0 * 256 + c.toNat)
    unfold valW
    rw [List.foldl_cons, List.foldl_cons, h1, h2, List.length_cons, Nat.pow_succ, Nat.add_mul, Nat.zero_mul, Nat.zero_add]
    have : a * 256 * 256 ^ l.length = a * (256 ^ l.length * 256) := by rw [Nat.mul_assoc, Nat.mul_comm 256]
    omega
theorem val_cons (c : UInt8) (l : List UInt8) : valW (c :: l) = c.toNat * 256 ^ l.length + valW l := by
  have := val_from_eq l (0 * 256 + c.toNat)
  unfold valW at *
  rw [List.foldl_cons, this]; simp
theorem valW_be : ∀ k n, valW (wbe k n) = n % 256 ^ k
  | 0, n => by simp [wbe, valW, Nat.mod_one]
  | k + 1, n => by
    rw [wbe, val_cons, wbe_len, valW_be k n, Nat.pow_succ, Nat.mod_mul]
    simp only [UInt8.toNat_ofNat']
    rw [Nat.mul_comm (n / 256 ^ k % 2 ^ 8)]
    show 256 ^ k * (n / 256 ^ k % 256) + n % 256 ^ k = _
    omega
theorem nb_ge (n : Nat) (h : n < 18446744073709551616) (h0 : n ≠ 0) : 1 ≤ nb n ∧ 256 ^ (nb n - 1) ≤ n := by
  have hb := Lib.bitLenAux_bounds 64 n h h0
  have h1 : 1 ≤ Lib.bitLen n := hb.1
  have h2 : 2 ^ (Lib.bitLen n - 1) ≤ n := hb.2.1
  refine ⟨by unfold nb; omega, ?_⟩
  refine Nat.le_trans ?_ h2
  rw [show (256 : Nat) = 2 ^ 8 from rfl, ← Nat.pow_mul]
  refine Nat.pow_le_pow_right (by omega) ?_
  unfold nb; omega
theorem digits_form_ok (n : Nat) (rest : List UInt8) (p : Int) (h : n < 18446744073709551616) : digits (nb n) (wbe (nb n) n ++ rest) p = (n, p + nb n, 0) := by
  by_cases h0 : n = 0
  · subst h0
    have : nb 0 = 0 := by decide
    rw [this]
    simp [digits]
  · obtain ⟨h1, h2⟩ := nb_ge n h h0
    have h3 := lt_nb n h
    obtain ⟨k, hk⟩ : ∃ k, nb n = k + 1 := ⟨nb n - 1, by omega⟩
    rw [hk] at h2 h3 ⊢
    simp only [Nat.add_sub_cancel] at h2
    unfold digits
    rw [if_neg (by omega)]
    have hl : (wbe (k + 1) n ++ rest).length = k + 1 + rest.length := by rw [List.length_append, wbe_len]
    have ht : (wbe (k + 1) n ++ rest).take (k + 1) = wbe (k + 1) n := by rw [List.take_append_of_le_length (by rw [wbe_len]; omega), List.take_of_length_le (by rw [wbe_len]; omega)]
    have hv : valW (wbe (k + 1) n) = n := by rw [valW_be, Nat.mod_eq_of_lt h3]
    have hd : (UInt8.ofNat (n / 256 ^ k)).toNat ≠ 0 := by
      rw [UInt8.toNat_ofNat']
      have hlt : n / 256 ^ k < 256 := by
        rw [Nat.div_lt_iff_lt_mul (Nat.pow_pos (by omega)), Nat.mul_comm, ← Nat.pow_succ]; exact h3
      have hge : 1 ≤ n / 256 ^ k := (Nat.le_div_iff_mul_le (Nat.pow_pos (by omega))).2 (by simpa using h2)
      rw [show (2 : Nat) ^ 8 = 256 from rfl, Nat.mod_eq_of_lt hlt]; omega
    have hc : wbe (k + 1) n ++ rest = UInt8.ofNat (n / 256 ^ k) :: (wbe k n ++ rest) := by rw [wbe]; rfl
    rw [hc] at hl ht ⊢
    dsimp only
    rw [if_neg hd, if_neg (by omega), ht, hv]
theorem readU_form (pre rest : List UInt8) (n : Nat) (h : n < 18446744073709551616) : readU (pre ++ (form n ++ rest)) pre.length = (n, ((pre.length + (form n).length : Nat) : Int), 0) := by
  unfold readU
  rw [if_neg (by rw [List.length_append]; omega), Int.toNat_natCast, List.drop_left]
  unfold form
  rw [List.cons_append]
  unfold readTail
  dsimp only
  have hnb := nb_le n h
  have hm : nb n % 2 ^ 8 = nb n := Nat.mod_eq_of_lt (by omega)
  rw [UInt8.toNat_ofNat', hm, if_neg (by omega), digits_form_ok n rest _ h, List.length_cons, wbe_len]
  congr 2
  omega
theorem readC_form (pre rest : List UInt8) (n : Nat) (most : Int) (h : n < 18446744073709551616) :
    readC (pre ++ (form n ++ rest)) pre.length most = if (n : Int) ≤ most then (n, ((pre.length + (form n).length : Nat) : Int), 0) else (0, 0, 3) := by
  unfold readC
  rw [readU_form pre rest n h, if_pos rfl]
  by_cases hm : (n : Int) ≤ most
  · rw [if_pos hm, if_neg (by dsimp only; omega)]
  · rw [if_neg hm, if_pos (by dsimp only; omega)]
theorem readB_row (pre rest x : List UInt8) (most : Int) (h : x.length < 18446744073709551616) :
    readB (pre ++ (row x ++ rest)) pre.length most = if (x.length : Int) ≤ most then (x, ((pre.length + (row x).length : Nat) : Int), 0) else ([], 0, 3) := by
  unfold readB
  have e : pre ++ (row x ++ rest) = pre ++ (form x.length ++ (x ++ rest)) := by unfold row; rw [List.append_assoc]
  rw [e, readC_form pre (x ++ rest) x.length most h]
  by_cases hm : (x.length : Int) ≤ most
  · rw [if_pos hm, if_pos rfl, if_pos hm, if_neg]
    · dsimp only
      rw [Int.toNat_natCast]
      have hd : (pre ++ (form x.length ++ (x ++ rest))).drop (pre.length + (form x.length).length) = x ++ rest := by
        rw [← List.append_assoc, ← List.length_append, List.drop_left]
      rw [hd, List.take_left]
      congr 2
      unfold row
      rw [List.length_append]; omega
    · dsimp only
      simp only [List.length_append]; omega
  · rw [if_neg hm, if_neg hm, if_neg (by decide)]
theorem chg_ofX {B : Nat} {w w' u : World} (h : Chg none u w) (hb : Below B w w') (hB : u.heap.size ≤ B) : Chg none u w' :=
  ⟨hb.os.trans h.os, hb.tape.trans h.tape, hb.output.trans h.output, Nat.le_trans h.size hb.size, fun i hi hn => (hb.block i (by omega)).trans (h.block i hi hn)⟩
theorem own_below {w w' : World} {B base e size n : Nat} {v : Value} {xs : List Value} (h : w.ownsRow base e size v n xs) (hb : Below B w w') (hB : ∀ g, v.ownBlock = some g → g < B) : w'.ownsRow base e size v n xs := by
  refine ⟨h.1, ?_⟩
  rcases h.2 with h1 | ⟨g, cap, cur, h1, h2, h3, h4⟩
  · exact .inl h1
  · exact .inr ⟨g, cap, cur, h1, h2, (hb.block g (hB g (by rw [h1]; rfl))).trans h3, h4⟩
theorem nb_pos_iff (n j : Nat) (h : n < 18446744073709551616) : 0 < n / 256 ^ j ↔ j < nb n := by
  have hp : 0 < 256 ^ j := Nat.pow_pos (by omega)
  constructor
  · intro h0
    have h1 : 256 ^ j ≤ n := by
      have := (Nat.le_div_iff_mul_le hp).1 h0
      simpa using this
    rcases Nat.lt_or_ge j (nb n) with h2 | h2
    · exact h2
    · have h3 := lt_nb n h
      have : 256 ^ nb n ≤ 256 ^ j := Nat.pow_le_pow_right (by omega) h2
      omega
  · intro h0
    have hn0 : n ≠ 0 := by
      rintro rfl
      have : nb 0 = 0 := by decide
      omega
    have h1 := (nb_ge n h hn0).2
    have h2 : 256 ^ j ≤ 256 ^ (nb n - 1) := Nat.pow_le_pow_right (by omega) (by omega)
    exact Nat.div_pos (by omega) hp
theorem u8_mod (n : Nat) : ((UInt8.ofNat n).toNat : Int) = (n : Int) % 256 := by simp
theorem reads_oneI (w : World) (z : Int) (x : UInt8) (hz : (x.toNat : Int) = z) : (w.alloc (.cells #[.int .u8 z] 5 (0, 0))).ownsRow w.heap.size 5 1 (.slice (some ⟨w.heap.size, 0, none⟩) 1 1) 1 (byteVals [x]) := by
  subst hz
  refine ⟨rfl, .inr ⟨w.heap.size, 1, #[.int .u8 x.toNat], rfl, Nat.le_refl _, Blk.new w _ 5, ?_⟩⟩
  simp [maxLen, byteVals]
def FormRel (w0 : World) (n j : Nat) (v : Value) (w : World) : Prop := (∃ k, w.ownsRow w0.heap.size 5 1 v k (byteVals (wbe j n))) ∧ Below w0.heap.size w0 w
set_option maxHeartbeats 4000000 in
theorem refForm_any (n : Nat) (w : World) (hn : n < 18446744073709551616) : Calls Tryd.prog 80 #[.int .u64 n] w (WPost w w.heap.size (form n)) := by
  obtain ⟨i0, hi, hz0, hz1, hz2⟩ := info_parts Tryd.info5
  have hnb := nb_le n hn
  have hrel0 : FormRel w n 0 (.slice none 0 0) w := ⟨⟨0, World.ownsRow_nil _ _ _ _⟩, Below.refl _ _⟩
  have HREL0 := Lib.hid hrel0
  clear hrel0
  go_enter Tryd.func80, Tryd.ntmps80
  go_wp2_with fail
  go_loopw [0, 3] (fun v0 v3 wr => ∃ j : Nat, j ≤ nb n ∧ v0 = .int .u64 ((n / 256 ^ j : Nat) : Int) ∧ FormRel w n j v3 wr) (fun v0 _ _ => (intOf v0).toNat)
  case atStart => exact ⟨0, by omega, by simp, HREL0.out⟩
  case round =>
    obtain ⟨j, hj, rfl, ⟨k, hown⟩, hbl⟩ := hrel
    obtain ⟨A, c, rfl⟩ := own_slice hown
    obtain rfl : k = j := by have := hown.1; rw [byteVals_len, wbe_len] at this; omega
    have hs := hbl.size
    have hiff := nb_pos_iff n k hn
    have hdd : n / 256 ^ (k + 1) = n / 256 ^ k / 256 := by rw [Nat.pow_succ, Nat.div_div_eq_div_mul]
    have hlt64 : n / 256 ^ k < 18446744073709551616 := Nat.lt_of_le_of_lt (Nat.div_le_self _ _) hn
    obtain ⟨q, hq⟩ : ∃ q, q = n / 256 ^ k := ⟨_, rfl⟩
    rw [← hq] at hiff hdd hlt64 ⊢
    have HDD := Lib.hid hdd
    have HQ := Lib.hid hq
    by_cases hlt : k < nb n
    · have hq0 : 0 < q := hiff.2 hlt
      have hz := u8_mod q
      have HX := Lib.hid (reads_oneI wr _ _ hz)
      have HR := Lib.hid ((Reads.of_own hown).alloc (Nat.le_refl _) (.cells #[.int .u8 ((q : Int) % 256)] 5 (0, 0)))
      have HO := Lib.hid (byteVals_one (wbe k n))
      clear hown hdd hq hiff hz
      go_wp2_with (at_builtin; refine wpList_append_any _ rfl (.tmp 9) (.tmp 10) 22 rfl wr.heap.size 5 i0 (.int .u8 0) 1 1 Tryd.underlying22 hi hz0 hz1 hz2 rfl (by decide) _ 1 (byteVals [UInt8.ofNat q]) rfl HX.out wr.heap.size A k c (byteVals (wbe k n)) rfl HR.out HO.out (by unfold maxLen; omega) (by omega) (by simp) ?_)
      intro v1 w1 hown1 hgr1 _
      have hb1 : Below w.heap.size w w1 := (hbl.alloc hs _).grown hgr1 (by simp; omega) (fun g hg => by have := (HX.out.lt g hg).1; omega)
      rw [byteVals_append] at hown1
      have e : [UInt8.ofNat q] ++ wbe k n = wbe (k + 1) n := by rw [wbe, HQ.out]; rfl
      rw [e] at hown1
      have hrel : FormRel w n (k + 1) v1 w1 := ⟨⟨_, World.ownsRow.mono hown1 hs⟩, hb1⟩
      have HREL := Lib.hid hrel
      clear hrel hown1 hgr1 e
      go_wp2_with fail
      go_roundw
      case rel => exact ⟨k + 1, by omega, by rw [HDD.out]; go_num, HREL.out⟩
      case measure => simp [intOf]; omega
    · obtain rfl : k = nb n := by omega
      have hq0 : q = 0 := by
        rcases Nat.eq_zero_or_pos q with h | h
        · exact h
        · have := hiff.1 h; omega
      subst hq0
      have hz := u8_mod (nb n)
      have hm : ((nb n : Nat) : Int) % 256 = nb n := by omega
      rw [hm] at hz
      have HX := Lib.hid (reads_oneI wr _ _ hz)
      have HR := Lib.hid ((Reads.of_own hown).alloc (Nat.le_refl _) (.cells #[.int .u8 (nb n : Nat)] 5 (0, 0)))
      have HO := Lib.hid (byteVals_one (wbe (nb n) n))
      generalize hf : nb n = f at *
      have HF := Lib.hid hf
      clear hown hdd hq hiff hz hm hf
      go_wp2_with (at_builtin; refine wpList_append_any _ rfl (.tmp 17) (.tmp 18) 22 rfl wr.heap.size 5 i0 (.int .u8 0) 1 1 Tryd.underlying22 hi hz0 hz1 hz2 rfl (by decide) _ 1 (byteVals [UInt8.ofNat f]) rfl HX.out wr.heap.size A f c (byteVals (wbe f n)) rfl HR.out HO.out (by unfold maxLen; omega) (by omega) (by simp) ?_)
      intro v1 w1 hown1 hgr1 _
      have hb1 : Below w.heap.size w w1 := (hbl.alloc hs _).grown hgr1 (by simp; omega) (fun g hg => by have := (HX.out.lt g hg).1; omega)
      rw [byteVals_append] at hown1
      have e : [UInt8.ofNat f] ++ wbe f n = form n := by unfold form; rw [HF.out]; rfl
      rw [e] at hown1
      have hown2 := World.ownsRow.mono hown1 hs
      obtain ⟨A1, c1, rfl⟩ := own_slice hown2
      have hl : 1 + f = (form n).length := by rw [form_len, HF.out]; omega
      have HL := Lib.hid hl
      have HOWN := Lib.hid hown2
      clear hown1 hown2 hgr1 e hl
      go_wp2_with fail
      go_ret
      exact ⟨A1, _, c1, rfl, HL.out, HOWN.out, hb1⟩
set_option maxHeartbeats 4000000 in
theorem refUint_any (A : Option Addr) (bs : List UInt8) (c : Nat) (place : Int) (w : World) (hr : Reads w w.heap.size 1 A bs.length (byteVals bs)) (hl : bs.length ≤ 1000000) :
    Calls Tryd.prog 91 #[.slice A bs.length c, .int .i64 place] w (Told3 w (readU bs place)) := by
  by_cases h0 : place < 0
  · have hg : readU bs place = (0, 0, 2) := by unfold readU; rw [if_pos (.inl h0)]
    rw [hg]
    clear hg hr
    go_enter Tryd.func91, Tryd.ntmps91
    go_wp2_with fail
    go_ret3
    exact ⟨rfl, rfl⟩
  · by_cases h1 : (bs.length : Int) < place
    · have hg : readU bs place = (0, 0, 2) := by unfold readU; rw [if_pos (.inr h1)]
      rw [hg]
      have d0 : decide (place < 0) = false := by simpa using h0
      clear hg hr
      go_enter Tryd.func91, Tryd.ntmps91
      go_wp2_with fail
      go_ret3
      exact ⟨rfl, rfl⟩
    · obtain ⟨p, rfl⟩ := Int.eq_ofNat_of_zero_le (show 0 ≤ place by omega)
      have hp : p ≤ bs.length := by omega
      have hg : readU bs p = readTail (bs.drop p) p := by unfold readU; rw [if_neg (by omega), Int.toNat_natCast]
      rw [hg]
      clear hg
      have d0 : decide ((p : Int) < 0) = false := by simp
      have d1 : decide ((bs.length : Int) < (p : Int)) = false := by simp; omega
      rcases Nat.lt_or_ge p bs.length with hlt | hge
      · obtain ⟨b, off, rfl, hb, hcell⟩ := hr.plain (by omega)
        clear h0 h1 hr
        obtain ⟨d, hd⟩ : ∃ d, bs[p]? = some d := ⟨_, List.getElem?_eq_getElem hlt⟩
        obtain ⟨t, ht⟩ : ∃ t, t = bs.drop (p + 1) := ⟨_, rfl⟩
        have hdrop : bs.drop p = d :: t := by
          rw [ht, List.drop_eq_getElem_cons hlt]
          congr 1
          rw [List.getElem?_eq_getElem hlt] at hd
          simpa using hd
        have htl : p + 1 + t.length = bs.length := by rw [ht, List.length_drop]; omega
        have hc0 := hcell p d hd
        have hct : ∀ j x, t[j]? = some x → w.cell? ⟨b, off + (p + (j + 1)), none⟩ = some (.int .u8 x.toNat) := fun j x hj => by
          have := hcell (p + 1 + j) x (by rw [← hj, ht, List.getElem?_drop])
          rwa [show p + 1 + j = p + (j + 1) by omega] at this
        have hdlt := d.toNat_lt
        have d2 : ((p : Int) == (bs.length : Int)) = false := by simp; omega
        rw [hdrop]
        unfold readTail
        dsimp only
        have HT := Lib.hid hct
        clear hcell hd ht hdrop hct
        by_cases hbig : 8 < d.toNat
        · rw [if_pos hbig]
          go_enter Tryd.func91, Tryd.ntmps91
          go_wp2_with fail
          go_ret3
          exact ⟨rfl, rfl⟩
        · rw [if_neg hbig]
          go_enter Tryd.func91, Tryd.ntmps91
          go_wp2_with fail
          go_loop [8, 9] (fun v8 v9 => ∃ k : Nat, k ≤ d.toNat ∧ k ≤ t.length ∧ v9 = .int .i64 ((k : Int) + 1) ∧ v8 = .int .u64 (valW (t.take k)) ∧ (0 < k → ∀ x, t[0]? = some x → x.toNat ≠ 0)) (fun _ v9 => d.toNat + 1 - (intOf v9).toNat)
          case atStart => exact ⟨0, by omega, by omega, rfl, by simp [valW], fun h => absurd h (by omega)⟩
          case round =>
            obtain ⟨k, hk, hkt, rfl, rfl, hx⟩ := hrel
            have HX := Lib.hid hx
            clear hx
            by_cases hkd : k < d.toNat
            · by_cases hkl : k < t.length
              · obtain ⟨x, hxk⟩ : ∃ x, t[k]? = some x := ⟨_, List.getElem?_eq_getElem hkl⟩
                have hck := HT.out k x hxk
                have hxlt := x.toNat_lt
                have HXK := Lib.hid hxk
                have hv := val_take_lt t k (by omega)
                have HV := Lib.hid (val_take hxk)
                clear hxk
                by_cases hk0 : k = 0
                · subst hk0
                  simp only [Nat.zero_add] at hck
                  by_cases hx0 : x.toNat = 0
                  · have HD := Lib.hid (digits_form ((p : Int) + 1) hkd HXK.out hx0)
                    have hx0b : ((x.toNat : Int) == 0) = true := by simp [hx0]
                    clear hx0
                    go_wp2_with fail
                    go_ret3
                    rw [HD.out]
                    exact ⟨rfl, rfl⟩
                  · have hx0b : ((x.toNat : Int) == 0) = false := by simpa using hx0
                    have HX0 := Lib.hid hx0
                    clear hx0
                    go_wp2_with fail
                    go_round
                    case rel => exact ⟨0 + 1, by omega, by omega, by go_num, by rw [HV.out]; simp [valW, IntKind.wrap_u64]; omega, fun _ y hy => by rw [HXK.out] at hy; simp at hy; subst hy; exact HX0.out⟩
                    case measure => simp [intOf]; omega
                · have hk0b : ((k : Int) + 1 == 1) = false := by simp; omega
                  have HK0 := Lib.hid hk0
                  clear hk0
                  go_wp2_with fail
                  go_round
                  case rel => exact ⟨k + 1, by omega, by omega, by go_num, by rw [HV.out]; go_num, fun _ => HX.out (by have := HK0.out; omega)⟩
                  case measure => simp [intOf]; omega
              · have HD := Lib.hid (digits_short ((p : Int) + 1) (k := d.toNat) (t := t) (by omega) (fun h => HX.out (by omega)))
                go_wp2_with fail
                go_ret3
                rw [HD.out]
                exact ⟨rfl, rfl⟩
            · have HD := Lib.hid (digits_ok ((p : Int) + 1) (k := d.toNat) (t := t) (by omega) (fun h => HX.out (by omega)))
              obtain rfl : k = d.toNat := by omega
              go_wp2_with fail
              go_ret3
              rw [HD.out]
              exact ⟨rfl, rfl⟩
      · have hg : bs.drop p = [] := List.drop_of_length_le hge
        obtain rfl : p = bs.length := by omega
        rw [hg]
        clear hg hr h0 h1
        go_enter Tryd.func91, Tryd.ntmps91
        go_wp2_with fail
        go_ret3
        exact ⟨rfl, rfl⟩
def PutB (w : World) (base : Nat) (v : Value) (bs : List UInt8) (wr : World) : Prop :=
  (∃ n, n = bs.length ∧ wr.ownsRow base 5 1 v n (byteVals bs)) ∧ Below base w wr
set_option maxRecDepth 100000 in
set_option maxHeartbeats 4000000 in
theorem refBytes_any (A : Option Addr) (bs : List UInt8) (c : Nat) (place most : Int) (w : World) (hr : Reads w w.heap.size 1 A bs.length (byteVals bs)) (hl : bs.length ≤ 1000000) (hm : most ≤ 9223372036854775807) :
    Calls Tryd.prog 92 #[.slice A bs.length c, .int .i64 place, .int .i64 most] w (ToldB w (readB bs place most)) := by
  obtain ⟨i0, hi, hz0, hz1, hz2⟩ := info_parts Tryd.info5
  have HU := Lib.hid (refUint_any A bs c place w hr hl)
  have hw := readU_well bs place
  obtain ⟨n, next, er, hq⟩ : ∃ n next er, readU bs place = (n, next, er) := ⟨_, _, _, rfl⟩
  have hC : readC bs place most = if er = 0 then (if most < 0 ∨ most < (n : Int) then (0, 0, 3) else (n, next, er)) else (0, 0, er) := by unfold readC; rw [hq]
  rw [hq] at hw HU
  have htop := hw.top
  dsimp only at htop
  by_cases he : er = 0
  · subst he
    rw [if_pos rfl] at hC
    by_cases hm0 : most < 0
    · rw [if_pos (.inl hm0)] at hC
      have hB : readB bs place most = ([], 0, 3) := by unfold readB; rw [hC]; rfl
      rw [hB]
      clear hB hC hq hw hr
      go_enter Tryd.func92, Tryd.ntmps92
      go_wp2_with fail
      refine HU.out.mono ?_
      rintro e w' ⟨rfl, rfl⟩
      go_wp2_with fail
      go_ret3
      exact ⟨_, _, _, rfl, rfl, World.ownsRow_nil _ _ _ _, Below.refl _ _⟩
    · have d0 : decide (most < 0) = false := by simpa using hm0
      have hm1 : 0 ≤ most := by omega
      by_cases hmn : most < (n : Int)
      · rw [if_pos (.inr hmn)] at hC
        have hB : readB bs place most = ([], 0, 3) := by unfold readB; rw [hC]; rfl
        rw [hB]
        clear hB hC hq hw hr hm0
        go_enter Tryd.func92, Tryd.ntmps92
        go_wp2_with fail
        refine HU.out.mono ?_
        rintro e w' ⟨rfl, rfl⟩
        go_wp2_with fail
        go_ret3
        exact ⟨_, _, _, rfl, rfl, World.ownsRow_nil _ _ _ _, Below.refl _ _⟩
      · rw [if_neg (by omega)] at hC
        obtain ⟨p0, p1, p2⟩ := hw.ok rfl
        dsimp only at p1 p2
        obtain ⟨p, rfl⟩ := Int.eq_ofNat_of_zero_le (show 0 ≤ next by omega)
        have hB : readB bs place most = if (bs.length : Int) - (p : Int) < (n : Int) then ([], 0, 4) else ((bs.drop p).take n, (p : Int) + n, 0) := by
          unfold readB; rw [hC]; rfl
        rw [hB]
        obtain ⟨b, off, rfl, hb, hcell⟩ := hr.plain (by omega)
        have d1 : decide (most < (n : Int)) = false := by simpa using hmn
        have hn9 : (n : Int) ≤ 9223372036854775807 := by omega
        have hn8 : n ≤ 9223372036854775807 := by omega
        have hpl : p ≤ bs.length := by omega
        have hrel0 : PutB w w.heap.size (.slice none 0 0) ((bs.drop p).take 0) w := ⟨⟨0, rfl, World.ownsRow_nil _ _ _ _⟩, Below.refl _ _⟩
        have HREL0 := Lib.hid hrel0
        have HCELL := Lib.hid hcell
        obtain ⟨R, hR⟩ : ∃ R : List UInt8 × Int × Int, R = if (bs.length : Int) - (p : Int) < (n : Int) then ([], 0, 4) else ((bs.drop p).take n, (p : Int) + n, 0) := ⟨_, rfl⟩
        rw [← hR]
        have HR := Lib.hid hR
        clear hB hC hq hw hr hm0 hmn hrel0 hcell hR
        go_enter Tryd.func92, Tryd.ntmps92
        go_wp2_with fail
        refine HU.out.mono ?_
        rintro e w' ⟨rfl, rfl⟩
        go_wp2_with fail
        go_loopw [12, 13] (fun v12 v13 wr => ∃ k : Nat, k ≤ n ∧ p + k ≤ bs.length ∧ v13 = .int .i64 k ∧ PutB w w.heap.size v12 ((bs.drop p).take k) wr) (fun _ v13 _ => n - (intOf v13).toNat)
        case atStart => exact ⟨0, by omega, by omega, rfl, HREL0.out⟩
        case round =>
          obtain ⟨k, hk, hpk, rfl, ⟨n2, hn2, hown2⟩, hb2⟩ := hrel
          clear HREL0
          obtain ⟨A2, c2, rfl⟩ := own_slice hown2
          have hlen2 : n2 = k := by rw [hn2, List.length_take, List.length_drop]; omega
          subst hlen2
          have HOWN2 := Lib.hid hown2
          have hs2 := hb2.size
          clear hn2 hown2
          by_cases hkn : n2 < n
          · by_cases hkl : p + n2 < bs.length
            · obtain ⟨x, hx⟩ : ∃ x, bs[p + n2]? = some x := ⟨_, List.getElem?_eq_getElem hkl⟩
              have hc := (hb2.cell (p := ⟨b, off + (p + n2), none⟩) hb).trans (HCELL.out (p + n2) x hx)
              have HR1 := Lib.hid (reads_one wr x)
              have HO1 := Lib.hid (byteVals_one [x])
              have ht : (bs.drop p).take (n2 + 1) = (bs.drop p).take n2 ++ [x] := by
                rw [List.take_succ_eq_append_getElem (by rw [List.length_drop]; omega)]
                congr 2
                have : (bs.drop p)[n2]? = some x := by rw [List.getElem?_drop]; exact hx
                rw [List.getElem?_eq_getElem (by rw [List.length_drop]; omega)] at this
                simpa using this
              have HTT := Lib.hid ht
              clear ht hx
              go_wp2_with (at_builtin; refine wpList_append_any _ rfl (.tmp 44) (.tmp 51) 22 rfl w.heap.size 5 i0 (.int .u8 0) 1 1 Tryd.underlying22 hi hz0 hz1 hz2 rfl (by decide) _ n2 (byteVals ((bs.drop p).take n2)) rfl (HOWN2.out.alloc _) _ _ 1 1 (byteVals [x]) rfl HR1.out HO1.out ?d1 ?d2 ?d3 ?_)
              case d1 => unfold maxLen; omega
              case d2 => omega
              case d3 => simp; omega
              intro v3 w3 hown3 hgr3 _
              rw [byteVals_append, ← HTT.out] at hown3
              have hb3 : Below w.heap.size w w3 := ((hb2.alloc (by omega) _).grown hgr3 (by simp; omega) (fun g hg => (HOWN2.out.lt g hg).1))
              have hrel : PutB w w.heap.size v3 ((bs.drop p).take (n2 + 1)) w3 := ⟨⟨_, by rw [List.length_take, List.length_drop]; omega, hown3⟩, hb3⟩
              have HREL := Lib.hid hrel
              clear hrel hown3 hgr3
              go_wp2_with fail
              go_roundw
              case rel => exact ⟨n2 + 1, by omega, by omega, by go_num, HREL.out⟩
              case measure => simp [intOf]; omega
            · have hR : R = ([], 0, 4) := by rw [HR.out, if_pos (by omega)]
              have HRR := Lib.hid hR
              clear hR
              go_wp2_with fail
              go_ret3
              rw [HRR.out]
              exact ⟨_, _, _, rfl, rfl, World.ownsRow_nil _ _ _ _, hb2⟩
          · obtain rfl : n2 = n := by omega
            have hR : R = ((bs.drop p).take n2, (p : Int) + n2, 0) := by rw [HR.out, if_neg (by omega)]
            have HRR := Lib.hid hR
            clear hR
            go_wp2_with fail
            go_ret3
            rw [HRR.out]
            exact ⟨_, _, _, rfl, by rw [List.length_take, List.length_drop]; omega, HOWN2.out, hb2⟩
  · rw [if_neg he] at hC
    have hB : readB bs place most = ([], 0, er) := by unfold readB; rw [hC, if_neg he]
    rw [hB]
    have d0 : (er != 0) = true := by simpa using he
    clear he hw hr hC hB hq
    go_enter Tryd.func92, Tryd.ntmps92
    go_wp2_with fail
    refine HU.out.mono ?_
    rintro e w' ⟨rfl, rfl⟩
    go_wp2_with fail
    go_ret3
    exact ⟨_, _, _, rfl, rfl, World.ownsRow_nil _ _ _ _, Below.refl _ _⟩
theorem appendBytes_nil (Ax : Option Addr) (x : List UInt8) (cx : Nat) (w : World) (hx : Reads w w.heap.size 1 Ax x.length (byteVals x)) (hxl : x.length ≤ 400000) :
    Calls Tryd.prog 75 #[.slice none 0 0, .slice Ax x.length cx] w (WPost w w.heap.size (row x)) :=
  appendBytes_any none [] 0 Ax x cx w (fun _ => ⟨rfl, rfl⟩) ⟨rfl, fun h => absurd h (by simp)⟩ hx (by simp) hxl
theorem own_capN {w : World} {base n c : Nat} {A : Option Addr} {xs : List Value} (h : w.ownsRow base 5 1 (.slice A n c) n xs) : n ≤ c := by
  rcases h.2 with ⟨h1, h2⟩ | ⟨g, cap, cur, h1, _, _, h4, _⟩
  · omega
  · injection h1 with _ _ h5
    omega

end Go.Proofs.YtbadkkilblgpmaaDoor
