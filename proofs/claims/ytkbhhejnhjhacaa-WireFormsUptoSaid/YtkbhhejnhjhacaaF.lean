/-
  Package wire: count, Bytes, putBytes, AppendBytes.
-/
import Derived.Test.YtkbhhejnhjhacaaD
namespace Go.Proofs.Ytkbhhejnhjhacaa
open Go.RowKit

theorem digits_next (k : Nat) (t : List UInt8) (p : Int) (he : (digits k t p).2.2 = 0) : (digits k t p).2.1 = p + k ∧ k ≤ t.length := by
  unfold digits at *
  by_cases h0 : k = 0
  · subst h0; simp
  · rw [if_neg h0] at *
    match t with
    | [] => simp at he
    | c :: t =>
      dsimp only at *
      by_cases h1 : c.toNat = 0
      · rw [if_pos h1] at he; simp at he
      · rw [if_neg h1] at *
        by_cases h2 : (c :: t).length < k
        · rw [if_pos h2] at he; simp at he
        · rw [if_neg h2]; exact ⟨rfl, by omega⟩

theorem digits_err (k : Nat) (t : List UInt8) (p : Int) (he : (digits k t p).2.2 ≠ 0) : (digits k t p).1 = 0 ∧ (digits k t p).2.1 = 0 := by
  unfold digits at *
  by_cases h0 : k = 0
  · subst h0; simp at he
  · rw [if_neg h0] at *
    match t with
    | [] => simp
    | c :: t =>
      dsimp only at *
      by_cases h1 : c.toNat = 0
      · rw [if_pos h1]; simp
      · rw [if_neg h1] at *
        by_cases h2 : (c :: t).length < k
        · rw [if_pos h2]; simp
        · rw [if_neg h2] at he; simp at he

theorem digits_lt (k : Nat) (t : List UInt8) (p : Int) (hk : k ≤ 8) : (digits k t p).1 < 18446744073709551616 := by
  unfold digits
  by_cases h0 : k = 0
  · subst h0; simp
  · rw [if_neg h0]
    match t with
    | [] => simp
    | c :: t =>
      dsimp only
      by_cases h1 : c.toNat = 0
      · rw [if_pos h1]; simp
      · rw [if_neg h1]
        by_cases h2 : (c :: t).length < k
        · rw [if_pos h2]; simp
        · rw [if_neg h2]
          refine Nat.lt_of_lt_of_le (val_lt _) ?_
          rw [show (18446744073709551616 : Nat) = 256 ^ 8 from rfl]
          exact Nat.pow_le_pow_right (by omega) (by rw [List.length_take]; omega)

/-- What Uint tells: within the bytes, and a number of 64 bits. -/
structure Well (bs : List UInt8) (place : Int) (r : Nat × Int × Int) : Prop where
  ok : r.2.2 = 0 → 0 ≤ place ∧ place < r.2.1 ∧ r.2.1 ≤ bs.length
  err : r.2.2 ≠ 0 → r.1 = 0 ∧ r.2.1 = 0
  top : r.1 < 18446744073709551616
  low : 0 ≤ r.2.2
  high : r.2.2 ≤ 5

theorem digits_errs (k : Nat) (t : List UInt8) (p : Int) : 0 ≤ (digits k t p).2.2 ∧ (digits k t p).2.2 ≤ 5 := by
  unfold digits
  by_cases h0 : k = 0
  · subst h0; simp
  · rw [if_neg h0]
    match t with
    | [] => simp
    | c :: t =>
      dsimp only
      by_cases h1 : c.toNat = 0
      · rw [if_pos h1]; simp
      · rw [if_neg h1]
        by_cases h2 : (c :: t).length < k
        · rw [if_pos h2]; simp
        · rw [if_neg h2]; simp

theorem readU_well (bs : List UInt8) (place : Int) : Well bs place (readU bs place) := by
  unfold readU
  by_cases h : place < 0 ∨ (bs.length : Int) < place
  · rw [if_pos h]
    exact ⟨fun e => by simp at e, fun _ => ⟨rfl, rfl⟩, by decide, by decide, by decide⟩
  · rw [if_neg h]
    obtain ⟨p, rfl⟩ := Int.eq_ofNat_of_zero_le (show 0 ≤ place by omega)
    rw [Int.toNat_natCast]
    have hl : (bs.drop p).length = bs.length - p := List.length_drop
    unfold readTail
    match hd : bs.drop p with
    | [] => exact ⟨fun e => by simp at e, fun _ => ⟨rfl, rfl⟩, by simp, by simp, by simp⟩
    | c :: t =>
      rw [hd, List.length_cons] at hl
      dsimp only
      by_cases h1 : 8 < c.toNat
      · rw [if_pos h1]
        exact ⟨fun e => by simp at e, fun _ => ⟨rfl, rfl⟩, by simp, by simp, by simp⟩
      · rw [if_neg h1]
        refine ⟨fun e => ?_, digits_err _ _ _, digits_lt _ _ _ (by omega), (digits_errs _ _ _).1, (digits_errs _ _ _).2⟩
        obtain ⟨q1, q2⟩ := digits_next _ _ _ e
        rw [q1]
        omega

/-- count. -/
def readC (bs : List UInt8) (place most : Int) : Nat × Int × Int :=
  if (readU bs place).2.2 = 0 then (if most < 0 ∨ most < ((readU bs place).1 : Int) then (0, 0, 3) else readU bs place) else (0, 0, (readU bs place).2.2)

def ToldC (w : World) (r : Nat × Int × Int) (e : Ending) (w' : World) : Prop := e = .returned (.tuple #[.int .i64 r.1, .int .i64 r.2.1, .int .i64 r.2.2]) ∧ w = w'

set_option maxHeartbeats 2000000 in
theorem count_any (A : Option Addr) (bs : List UInt8) (c : Nat) (place most : Int) (w : World) (hr : Reads w w.heap.size 1 A bs.length (byteVals bs)) (hcap : bs.length ≤ c) (hl : bs.length ≤ 1000000) (hm : most ≤ 9223372036854775807) :
    Calls Try.prog 26 #[.slice A bs.length c, .int .i64 place, .int .i64 most] w (ToldC w (readC bs place most)) := by
  have HU := Lib.hid (uint_any A bs c place w hr hcap hl)
  have hw := readU_well bs place
  obtain ⟨n, next, er, hq⟩ : ∃ n next er, readU bs place = (n, next, er) := ⟨_, _, _, rfl⟩
  have hC : readC bs place most = if er = 0 then (if most < 0 ∨ most < (n : Int) then (0, 0, 3) else (n, next, er)) else (0, 0, er) := by unfold readC; rw [hq]
  rw [hC]
  rw [hq] at hw HU
  have htop := hw.top
  dsimp only at htop
  clear hq hC hw hr
  by_cases he : er = 0
  · subst he
    rw [if_pos rfl]
    by_cases hm0 : most < 0
    · rw [if_pos (.inl hm0)]
      go_enter Try.func26, Try.ntmps26
      go_wp2_with fail
      refine HU.out.mono ?_
      rintro e w' ⟨rfl, rfl⟩
      go_wp2_with fail
      go_ret3
      exact ⟨rfl, rfl⟩
    · have d0 : decide (most < 0) = false := by simpa using hm0
      have hm1 : 0 ≤ most := by omega
      by_cases hmn : most < (n : Int)
      · rw [if_pos (.inr hmn)]
        clear hm0
        go_enter Try.func26, Try.ntmps26
        go_wp2_with fail
        refine HU.out.mono ?_
        rintro e w' ⟨rfl, rfl⟩
        go_wp2_with fail
        go_ret3
        exact ⟨rfl, rfl⟩
      · rw [if_neg (by omega)]
        have d1 : decide (most < (n : Int)) = false := by simpa using hmn
        have hn9 : (n : Int) ≤ 9223372036854775807 := by omega
        clear hm0 hmn
        go_enter Try.func26, Try.ntmps26
        go_wp2_with fail
        refine HU.out.mono ?_
        rintro e w' ⟨rfl, rfl⟩
        go_wp2_with fail
        go_ret3
        exact ⟨rfl, rfl⟩
  · rw [if_neg he]
    have d0 : (er != 0) = true := by simpa using he
    have d1 : (er == 0) = false := by simpa using he
    clear he
    go_enter Try.func26, Try.ntmps26
    go_wp2_with fail
    refine HU.out.mono ?_
    rintro e w' ⟨rfl, rfl⟩
    go_wp2_with fail
    go_ret3
    exact ⟨rfl, rfl⟩

/-- Bytes. -/
def readB (bs : List UInt8) (place most : Int) : List UInt8 × Int × Int :=
  if (readC bs place most).2.2 = 0 then
    (if (bs.length : Int) - (readC bs place most).2.1 < ((readC bs place most).1 : Int) then ([], 0, 4)
    else ((bs.drop (readC bs place most).2.1.toNat).take (readC bs place most).1, (readC bs place most).2.1 + (readC bs place most).1, 0))
  else ([], 0, (readC bs place most).2.2)

theorem readC_well (bs : List UInt8) (place most : Int) : Well bs place (readC bs place most) := by
  have h := readU_well bs place
  unfold readC
  by_cases h0 : (readU bs place).2.2 = 0
  · rw [if_pos h0]
    by_cases h1 : most < 0 ∨ most < ((readU bs place).1 : Int)
    · rw [if_pos h1]; exact ⟨fun e => by simp at e, fun _ => ⟨rfl, rfl⟩, by simp, by simp, by simp⟩
    · rw [if_neg h1]; exact h
  · rw [if_neg h0]; exact ⟨fun e => absurd e h0, fun _ => ⟨rfl, rfl⟩, by simp, h.low, h.high⟩

/-- A row, its place and error: in memory of its own. -/
def ToldB (w : World) (r : List UInt8 × Int × Int) (e : Ending) (w' : World) : Prop :=
  ∃ A n c, e = .returned (.tuple #[.slice A n c, .int .i64 r.2.1, .int .i64 r.2.2]) ∧ n = r.1.length ∧ w'.ownsRow w.heap.size 5 1 (.slice A n c) n (byteVals r.1) ∧ Below w.heap.size w w'

theorem reads_mid {w : World} {B b off : Nat} {bs : List UInt8} (hb : b < B) (h : ∀ j c, bs[j]? = some c → w.cell? ⟨b, off + j, none⟩ = some (.int .u8 c.toNat)) (lo n : Nat) (hn : lo + n ≤ bs.length) :
    Reads w B 1 (some ⟨b, off + lo, none⟩) n (byteVals ((bs.drop lo).take n)) := by
  refine ⟨by rw [byteVals_len, List.length_take, List.length_drop]; omega, fun _ => ⟨_, rfl, hb, fun j u hu => ?_⟩⟩
  rw [Go.WideShapes.add_plain]
  unfold byteVals at hu
  rw [List.getElem?_map] at hu
  by_cases hj : j < n
  · rw [List.getElem?_take_of_lt hj, List.getElem?_drop] at hu
    obtain ⟨c, hc, rfl⟩ := Option.map_eq_some_iff.1 hu
    have := h _ _ hc
    rwa [show off + (lo + j) = off + lo + j by omega] at this
  · rw [List.getElem?_eq_none (by rw [List.length_take]; omega)] at hu
    simp at hu

set_option maxHeartbeats 4000000 in
theorem bytes_any (A : Option Addr) (bs : List UInt8) (c : Nat) (place most : Int) (w : World) (hr : Reads w w.heap.size 1 A bs.length (byteVals bs)) (hcap : bs.length ≤ c) (hl : bs.length ≤ 1000000) (hm : most ≤ 9223372036854775807) :
    Calls Try.prog 18 #[.slice A bs.length c, .int .i64 place, .int .i64 most] w (ToldB w (readB bs place most)) := by
  have HC := Lib.hid (count_any A bs c place most w hr hcap hl hm)
  have hw := readC_well bs place most
  obtain ⟨n, next, er, hq⟩ : ∃ n next er, readC bs place most = (n, next, er) := ⟨_, _, _, rfl⟩
  have hB : readB bs place most = if er = 0 then (if (bs.length : Int) - next < (n : Int) then ([], 0, 4) else ((bs.drop next.toNat).take n, next + n, 0)) else ([], 0, er) := by unfold readB; rw [hq]
  rw [hB]
  rw [hq] at hw HC
  have htop := hw.top
  dsimp only at htop
  clear hq hB
  by_cases he : er = 0
  · subst he
    rw [if_pos rfl]
    obtain ⟨p0, p1, p2⟩ := hw.ok rfl
    dsimp only at p1 p2
    obtain ⟨b, off, rfl, hb, hcell⟩ := hr.plain (by omega)
    obtain ⟨p, rfl⟩ := Int.eq_ofNat_of_zero_le (show 0 ≤ next by omega)
    rw [Int.toNat_natCast]
    clear hw hr p0 p1
    by_cases hs : (bs.length : Int) - (p : Int) < (n : Int)
    · rw [if_pos hs]
      clear hcell
      go_enter Try.func18, Try.ntmps18
      go_wp2_with fail
      refine HC.out.mono ?_
      rintro e w' ⟨rfl, rfl⟩
      go_wp2_with fail
      go_ret3
      exact ⟨_, _, _, rfl, rfl, World.ownsRow_nil _ _ _ _, Below.refl _ _⟩
    · rw [if_neg hs]
      have d1 : decide ((bs.length : Int) - (p : Int) < (n : Int)) = false := by simpa using hs
      have hpn : p + n ≤ bs.length := by omega
      have hln : ((bs.drop p).take n).length = n := by rw [List.length_take, List.length_drop]; omega
      have hq1 : (p : Int) ≤ (p : Int) + (n : Int) := by omega
      have hq2 : (p : Int) + (n : Int) ≤ (c : Int) := by omega
      have hCL := fun (A' : Option Addr) (c' : Nat) (hA : A' ≠ none) (hX : Reads w w.heap.size 1 A' n (byteVals ((bs.drop p).take n))) => clone27 A' ((bs.drop p).take n) c' w (fun h => absurd h hA) (by rw [hln]; exact hX) (by omega)
      rw [hln] at hCL
      have HLN := Lib.hid hln
      by_cases hcp : c = p
      · subst hcp
        obtain rfl : n = 0 := by omega
        have HCL := Lib.hid (hCL (some ⟨b, off, none⟩) 0 (by simp) ⟨by rw [byteVals_len, HLN.out], fun h => absurd h (by omega)⟩)
        clear hCL hln hcell hs
        go_enter Try.func18, Try.ntmps18
        go_wp2_with fail
        refine HC.out.mono ?_
        rintro e w' ⟨rfl, rfl⟩
        go_wp2_with fail
        refine HCL.out.mono ?_
        rintro e w1 ⟨A1, n1, c1, rfl, hn1, hown1, hb1⟩
        have HN1 := Lib.hid hn1
        clear hn1
        go_wp2_with fail
        go_ret3
        exact ⟨_, _, _, rfl, HN1.out, hown1, hb1⟩
      · have hX := reads_mid hb hcell p n hpn
        have HCL := Lib.hid (hCL (some ⟨b, off + p, none⟩) (c - p) (by simp) hX)
        clear hCL hX hcell hln hs
        go_enter Try.func18, Try.ntmps18
        go_wp2_with fail
        refine HC.out.mono ?_
        rintro e w' ⟨rfl, rfl⟩
        go_wp2_with fail
        refine HCL.out.mono ?_
        rintro e w1 ⟨A1, n1, c1, rfl, hn1, hown1, hb1⟩
        have HN1 := Lib.hid hn1
        clear hn1
        go_wp2_with fail
        go_ret3
        exact ⟨_, _, _, rfl, HN1.out, hown1, hb1⟩
  · rw [if_neg he]
    have d0 : (er != 0) = true := by simpa using he
    clear he hw hr
    go_enter Try.func18, Try.ntmps18
    go_wp2_with fail
    refine HC.out.mono ?_
    rintro e w' ⟨rfl, rfl⟩
    go_wp2_with fail
    go_ret3
    exact ⟨_, _, _, rfl, rfl, World.ownsRow_nil _ _ _ _, Below.refl _ _⟩

end Go.Proofs.Ytkbhhejnhjhacaa
