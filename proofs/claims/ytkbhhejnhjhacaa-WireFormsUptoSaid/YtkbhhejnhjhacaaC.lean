/-
  Package wire: Uint.
-/
import Derived.Test.YtkbhhejnhjhacaaB
import Derived.Lib.EndianBits
namespace Go.Proofs.Ytkbhhejnhjhacaa
open Go.RowKit

/-- What bytes are as a number, the highest first. -/
def val (l : List UInt8) : Nat := l.foldl (fun n c => n * 256 + c.toNat) 0
theorem val_snoc (l : List UInt8) (c : UInt8) : val (l ++ [c]) = val l * 256 + c.toNat := by simp [val]
theorem val_from : ∀ (l : List UInt8) (a : Nat), l.foldl (fun n c => n * 256 + c.toNat) a < (a + 1) * 256 ^ l.length
  | [], a => by simp
  | c :: l, a => by
    rw [List.foldl_cons, List.length_cons, Nat.pow_succ]
    have h := val_from l (a * 256 + c.toNat)
    have hc := c.toNat_lt
    refine Nat.lt_of_lt_of_le h ?_
    rw [Nat.mul_comm (256 ^ l.length) 256, ← Nat.mul_assoc]
    exact Nat.mul_le_mul_right _ (by omega)
theorem val_lt (l : List UInt8) : val l < 256 ^ l.length := by
  have := val_from l 0
  simpa [val] using this

/-- The digits of a number of k bytes, out of what follows the count. -/
def digits (k : Nat) (t : List UInt8) (next : Int) : Nat × Int × Int :=
  if k = 0 then (0, next, 0)
  else match t with
    | [] => (0, 0, 4)
    | c :: _ => if c.toNat = 0 then (0, 0, 5) else if t.length < k then (0, 0, 4) else (val (t.take k), next + k, 0)

def readTail (r : List UInt8) (place : Int) : Nat × Int × Int :=
  match r with
  | [] => (0, 0, 4)
  | c :: t => if 8 < c.toNat then (0, 0, 5) else digits c.toNat t (place + 1)

/-- Uint. -/
def readU (bs : List UInt8) (place : Int) : Nat × Int × Int :=
  if place < 0 ∨ (bs.length : Int) < place then (0, 0, 2) else readTail (bs.drop place.toNat) place

theorem Reads.plain {w : World} {B : Nat} {A : Option Addr} {bs : List UInt8} (h : Reads w B 1 A bs.length (byteVals bs)) (hn : 0 < bs.length) :
    ∃ b off, A = some ⟨b, off, none⟩ ∧ b < B ∧ ∀ j c, bs[j]? = some c → w.cell? ⟨b, off + j, none⟩ = some (.int .u8 c.toNat) := by
  obtain ⟨ad, rfl, hb, hc⟩ := h.2 hn
  obtain ⟨b, off, spot⟩ := ad
  have h0 := hc 0 _ (byteVals_get (List.getElem?_eq_getElem hn))
  have hspot : spot = none := by
    have := World.cell?_spot h0
    simpa [Addr.add] using this
  subst hspot
  refine ⟨b, off, rfl, hb, fun j c hj => ?_⟩
  have := hc j _ (byteVals_get hj)
  rwa [Go.WideShapes.add_plain] at this

theorem digits_ok {k : Nat} {t : List UInt8} (p : Int) (hk : k ≤ t.length) (h : 0 < k → ∀ x, t[0]? = some x → x.toNat ≠ 0) : digits k t p = (val (t.take k), p + k, 0) := by
  unfold digits
  by_cases h0 : k = 0
  · subst h0; simp [val]
  · rw [if_neg h0]
    match t, hk, h with
    | [], hk, _ => simp at hk; omega
    | c :: t, hk, h =>
      dsimp only
      rw [if_neg (h (by omega) c rfl), if_neg (by omega)]
theorem digits_short {k : Nat} {t : List UInt8} (p : Int) (hk : t.length < k) (h : 0 < t.length → ∀ x, t[0]? = some x → x.toNat ≠ 0) : digits k t p = (0, 0, 4) := by
  unfold digits
  rw [if_neg (by omega)]
  match t, hk, h with
  | [], _, _ => rfl
  | c :: t, hk, h =>
    dsimp only
    rw [if_neg (h (by simp) c rfl), if_pos hk]
theorem digits_form {k : Nat} {t : List UInt8} {x : UInt8} (p : Int) (hk : 0 < k) (hx : t[0]? = some x) (h : x.toNat = 0) : digits k t p = (0, 0, 5) := by
  unfold digits
  rw [if_neg (by omega)]
  match t, hx with
  | c :: t, hx =>
    simp at hx
    subst hx
    dsimp only
    rw [if_pos h]
theorem val_take {t : List UInt8} {k : Nat} {x : UInt8} (hx : t[k]? = some x) : val (t.take (k + 1)) = val (t.take k) * 256 + x.toNat := by
  obtain ⟨hk, rfl⟩ := List.getElem?_eq_some_iff.1 hx
  rw [List.take_succ_eq_append_getElem hk, val_snoc]
theorem val_take_lt (t : List UInt8) (k : Nat) (hk : k < 8) : val (t.take k) < 72057594037927936 := by
  have h := val_lt (t.take k)
  refine Nat.lt_of_lt_of_le h ?_
  rw [show (72057594037927936 : Nat) = 256 ^ 7 from rfl]
  exact Nat.pow_le_pow_right (by omega) (by rw [List.length_take]; omega)

theorem bits_or_comm (k : IntKind) (x y : Int) : bits .or k x y = bits .or k y x := by
  simp only [bits, BitVec.or_comm]
theorem or_byte (N x : Nat) (hx : x < 256) (hN : N < 72057594037927936) : bits .or .u64 ((N : Int) * 256) (x : Int) = ((N * 256 + x : Nat) : Int) := by
  rw [bits_or_comm, Go.u64_or8 _ _ (by omega) (by omega) (by omega) (by omega) (by omega)]
  omega

def Told3 (w : World) (r : Nat × Int × Int) (e : Ending) (w' : World) : Prop := e = .returned (.tuple #[.int .u64 r.1, .int .i64 r.2.1, .int .i64 r.2.2]) ∧ w = w'

set_option maxHeartbeats 4000000 in
theorem uint_any (A : Option Addr) (bs : List UInt8) (c : Nat) (place : Int) (w : World) (hr : Reads w w.heap.size 1 A bs.length (byteVals bs)) (hcap : bs.length ≤ c) (hl : bs.length ≤ 1000000) :
    Calls Try.prog 16 #[.slice A bs.length c, .int .i64 place] w (Told3 w (readU bs place)) := by
  by_cases h0 : place < 0
  · have hg : readU bs place = (0, 0, 2) := by unfold readU; rw [if_pos (.inl h0)]
    rw [hg]
    clear hg hr
    go_enter Try.func16, Try.ntmps16
    go_wp2_with fail
    go_step3
    go_wp2_with fail
    rw [Exit.noGoto_ret]
    go_ret3
    exact ⟨rfl, rfl⟩
  · by_cases h1 : (bs.length : Int) < place
    · have hg : readU bs place = (0, 0, 2) := by unfold readU; rw [if_pos (.inr h1)]
      rw [hg]
      have d0 : decide (place < 0) = false := by simpa using h0
      clear hg hr
      go_enter Try.func16, Try.ntmps16
      go_wp2_with fail
      go_step3
      go_wp2_with fail
      rw [Exit.noGoto_ret]
      go_ret3
      exact ⟨rfl, rfl⟩
    · obtain ⟨p, rfl⟩ := Int.eq_ofNat_of_zero_le (show 0 ≤ place by omega)
      have hp : p ≤ bs.length := by omega
      have hg : readU bs p = readTail (bs.drop p) p := by unfold readU; rw [if_neg (by omega), Int.toNat_natCast]
      rw [hg]
      clear hg
      have d0 : decide ((p : Int) < 0) = false := by simp
      have d1 : decide ((bs.length : Int) < (p : Int)) = false := by simp; omega
      rcases Nat.lt_or_ge p bs.length with hlt | hge
      · obtain ⟨b, off, rfl, hb, hcell⟩ := hr.plain (by omega)
        clear h0 h1 hr
        obtain ⟨d, hd⟩ : ∃ d, bs[p]? = some d := ⟨_, List.getElem?_eq_getElem hlt⟩
        obtain ⟨t, ht⟩ : ∃ t, t = bs.drop (p + 1) := ⟨_, rfl⟩
        have hdrop : bs.drop p = d :: t := by
          rw [ht, List.drop_eq_getElem_cons hlt]
          congr 1
          rw [List.getElem?_eq_getElem hlt] at hd
          simpa using hd
        have htl : p + 1 + t.length = bs.length := by rw [ht, List.length_drop]; omega
        have hc0 := hcell p d hd
        have hct : ∀ j x, t[j]? = some x → w.cell? ⟨b, off + p + (j + 1), none⟩ = some (.int .u8 x.toNat) := fun j x hj => by
          have := hcell (p + 1 + j) x (by rw [← hj, ht, List.getElem?_drop])
          rwa [show off + (p + 1 + j) = off + p + (j + 1) by omega] at this
        have hdlt := d.toNat_lt
        rw [hdrop]
        unfold readTail
        dsimp only
        have HT := Lib.hid hct
        have hlen : bs.length - p = t.length + 1 := by omega
        have hne : ¬ c = p := by omega
        clear hcell hd ht hdrop hct
        by_cases hbig : 8 < d.toNat
        · rw [if_pos hbig]
          go_enter Try.func16, Try.ntmps16
          go_wp2_with fail
          go_step3
          go_wp2_with fail
          rw [Exit.noGoto_ret]
          go_ret3
          exact ⟨rfl, rfl⟩
        · rw [if_neg hbig]
          go_enter Try.func16, Try.ntmps16
          go_wp2_with fail
          go_step3
          go_wp2_with fail
          go_step3
          go_wp2_with fail
          go_loop [4, 6, 31] (fun v4 v6 v31 => ∃ k : Nat, k ≤ d.toNat ∧ k ≤ t.length ∧ v31 = .int .i64 k ∧ v4 = .int .u64 (val (t.take k)) ∧ v6 = .int .i64 0 ∧ (0 < k → ∀ x, t[0]? = some x → x.toNat ≠ 0)) (fun _ _ v31 => d.toNat - (intOf v31).toNat)
          case atStart => exact ⟨0, by omega, by omega, rfl, by simp [val], rfl, fun h => absurd h (by omega)⟩
          case round =>
            obtain ⟨k, hk, hkt, rfl, rfl, rfl, hx⟩ := hrel
            have HX := Lib.hid hx
            clear hx
            by_cases hkd : k < d.toNat
            · by_cases hkl : k < t.length
              · obtain ⟨x, hxk⟩ : ∃ x, t[k]? = some x := ⟨_, List.getElem?_eq_getElem hkl⟩
                have hck := HT.out k x hxk
                have hxlt := x.toNat_lt
                have HXK := Lib.hid hxk
                have hv := val_take_lt t k (by omega)
                have HV := Lib.hid (val_take hxk)
                clear hxk
                by_cases hk0 : k = 0
                · subst hk0
                  simp only [Nat.zero_add] at hck
                  by_cases hx0 : x.toNat = 0
                  · have HD := Lib.hid (digits_form ((p : Int) + 1) hkd HXK.out hx0)
                    have hx0b : ((x.toNat : Int) == 0) = true := by simp [hx0]
                    clear hx0
                    go_wp2_with fail
                    (try rw [Exit.noGoto_ret])
                    go_ret3
                    rw [HD.out]
                    exact ⟨rfl, rfl⟩
                  · have hx0b : ((x.toNat : Int) == 0) = false := by simpa using hx0
                    have HX0 := Lib.hid hx0
                    clear hx0
                    go_wp2_with fail
                    go_round
                    case rel => exact ⟨0 + 1, by omega, by omega, by go_num, by rw [HV.out]; exact congrArg (Value.int .u64) (or_byte 0 x.toNat hxlt (by omega)), rfl, fun _ y hy => by rw [HXK.out] at hy; simp at hy; subst hy; exact HX0.out⟩
                    case measure => simp [intOf]; omega
                · have hk0b : ((k : Int) == 0) = false := by simpa using hk0
                  have HK0 := Lib.hid hk0
                  clear hk0
                  go_wp2_with fail
                  go_round
                  case rel => exact ⟨k + 1, by omega, by omega, by go_num, by rw [HV.out]; exact congrArg (Value.int .u64) (or_byte _ x.toNat hxlt hv), rfl, fun _ => HX.out (by have := HK0.out; omega)⟩
                  case measure => simp [intOf]; omega
              · have HD := Lib.hid (digits_short ((p : Int) + 1) (k := d.toNat) (t := t) (by omega) (fun h => HX.out (by omega)))
                go_wp2_with fail
                (try rw [Exit.noGoto_ret])
                go_ret3
                rw [HD.out]
                exact ⟨rfl, rfl⟩
            · have HD := Lib.hid (digits_ok ((p : Int) + 1) (k := d.toNat) (t := t) (by omega) (fun h => HX.out (by omega)))
              obtain rfl : k = d.toNat := by omega
              go_wp2_with fail
              (try rw [Exit.noGoto_ret])
              go_ret3
              rw [HD.out]
              exact ⟨rfl, rfl⟩
      · have hg : bs.drop p = [] := List.drop_of_length_le hge
        obtain rfl : p = bs.length := by omega
        rw [hg]
        clear hg hr h0 h1
        go_enter Try.func16, Try.ntmps16
        go_wp2_with fail
        go_step3
        go_wp2_with fail
        all_goals
          (try rw [Exit.noGoto_ret])
          go_ret3
          exact ⟨rfl, rfl⟩

end Go.Proofs.Ytkbhhejnhjhacaa
