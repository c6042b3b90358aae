/-
  The document's answers of layer 3: Uint, Bytes.
-/
import Derived.Test.YtkbhhejnhjhacaaI
namespace Go.Proofs.Ytkbhhejnhjhacaa
open Go.RowKit

set_option maxHeartbeats 4000000 in
theorem refUint_any (A : Option Addr) (bs : List UInt8) (c : Nat) (place : Int) (w : World) (hr : Reads w w.heap.size 1 A bs.length (byteVals bs)) (hl : bs.length ≤ 1000000) :
    Calls Try.prog 17 #[.slice A bs.length c, .int .i64 place] w (Told3 w (readU bs place)) := by
  by_cases h0 : place < 0
  · have hg : readU bs place = (0, 0, 2) := by unfold readU; rw [if_pos (.inl h0)]
    rw [hg]
    clear hg hr
    go_enter Try.func17, Try.ntmps17
    go_wp2_with fail
    go_ret3
    exact ⟨rfl, rfl⟩
  · by_cases h1 : (bs.length : Int) < place
    · have hg : readU bs place = (0, 0, 2) := by unfold readU; rw [if_pos (.inr h1)]
      rw [hg]
      have d0 : decide (place < 0) = false := by simpa using h0
      clear hg hr
      go_enter Try.func17, Try.ntmps17
      go_wp2_with fail
      go_ret3
      exact ⟨rfl, rfl⟩
    · obtain ⟨p, rfl⟩ := Int.eq_ofNat_of_zero_le (show 0 ≤ place by omega)
      have hp : p ≤ bs.length := by omega
      have hg : readU bs p = readTail (bs.drop p) p := by unfold readU; rw [if_neg (by omega), Int.toNat_natCast]
      rw [hg]
      clear hg
      have d0 : decide ((p : Int) < 0) = false := by simp
      have d1 : decide ((bs.length : Int) < (p : Int)) = false := by simp; omega
      rcases Nat.lt_or_ge p bs.length with hlt | hge
      · obtain ⟨b, off, rfl, hb, hcell⟩ := hr.plain (by omega)
        clear h0 h1 hr
        obtain ⟨d, hd⟩ : ∃ d, bs[p]? = some d := ⟨_, List.getElem?_eq_getElem hlt⟩
        obtain ⟨t, ht⟩ : ∃ t, t = bs.drop (p + 1) := ⟨_, rfl⟩
        have hdrop : bs.drop p = d :: t := by
          rw [ht, List.drop_eq_getElem_cons hlt]
          congr 1
          rw [List.getElem?_eq_getElem hlt] at hd
          simpa using hd
        have htl : p + 1 + t.length = bs.length := by rw [ht, List.length_drop]; omega
        have hc0 := hcell p d hd
        have hct : ∀ j x, t[j]? = some x → w.cell? ⟨b, off + (p + (j + 1)), none⟩ = some (.int .u8 x.toNat) := fun j x hj => by
          have := hcell (p + 1 + j) x (by rw [← hj, ht, List.getElem?_drop])
          rwa [show p + 1 + j = p + (j + 1) by omega] at this
        have hdlt := d.toNat_lt
        have d2 : ((p : Int) == (bs.length : Int)) = false := by simp; omega
        rw [hdrop]
        unfold readTail
        dsimp only
        have HT := Lib.hid hct
        clear hcell hd ht hdrop hct
        by_cases hbig : 8 < d.toNat
        · rw [if_pos hbig]
          go_enter Try.func17, Try.ntmps17
          go_wp2_with fail
          go_ret3
          exact ⟨rfl, rfl⟩
        · rw [if_neg hbig]
          go_enter Try.func17, Try.ntmps17
          go_wp2_with fail
          go_loop [8, 9] (fun v8 v9 => ∃ k : Nat, k ≤ d.toNat ∧ k ≤ t.length ∧ v9 = .int .i64 ((k : Int) + 1) ∧ v8 = .int .u64 (val (t.take k)) ∧ (0 < k → ∀ x, t[0]? = some x → x.toNat ≠ 0)) (fun _ v9 => d.toNat + 1 - (intOf v9).toNat)
          case atStart => exact ⟨0, by omega, by omega, rfl, by simp [val], fun h => absurd h (by omega)⟩
          case round =>
            obtain ⟨k, hk, hkt, rfl, rfl, hx⟩ := hrel
            have HX := Lib.hid hx
            clear hx
            by_cases hkd : k < d.toNat
            · by_cases hkl : k < t.length
              · obtain ⟨x, hxk⟩ : ∃ x, t[k]? = some x := ⟨_, List.getElem?_eq_getElem hkl⟩
                have hck := HT.out k x hxk
                have hxlt := x.toNat_lt
                have HXK := Lib.hid hxk
                have hv := val_take_lt t k (by omega)
                have HV := Lib.hid (val_take hxk)
                clear hxk
                by_cases hk0 : k = 0
                · subst hk0
                  simp only [Nat.zero_add] at hck
                  by_cases hx0 : x.toNat = 0
                  · have HD := Lib.hid (digits_form ((p : Int) + 1) hkd HXK.out hx0)
                    have hx0b : ((x.toNat : Int) == 0) = true := by simp [hx0]
                    clear hx0
                    go_wp2_with fail
                    go_ret3
                    rw [HD.out]
                    exact ⟨rfl, rfl⟩
                  · have hx0b : ((x.toNat : Int) == 0) = false := by simpa using hx0
                    have HX0 := Lib.hid hx0
                    clear hx0
                    go_wp2_with fail
                    go_round
                    case rel => exact ⟨0 + 1, by omega, by omega, by go_num, by rw [HV.out]; simp [val, IntKind.wrap_u64]; omega, fun _ y hy => by rw [HXK.out] at hy; simp at hy; subst hy; exact HX0.out⟩
                    case measure => simp [intOf]; omega
                · have hk0b : ((k : Int) + 1 == 1) = false := by simp; omega
                  have HK0 := Lib.hid hk0
                  clear hk0
                  go_wp2_with fail
                  go_round
                  case rel => exact ⟨k + 1, by omega, by omega, by go_num, by rw [HV.out]; go_num, fun _ => HX.out (by have := HK0.out; omega)⟩
                  case measure => simp [intOf]; omega
              · have HD := Lib.hid (digits_short ((p : Int) + 1) (k := d.toNat) (t := t) (by omega) (fun h => HX.out (by omega)))
                go_wp2_with fail
                go_ret3
                rw [HD.out]
                exact ⟨rfl, rfl⟩
            · have HD := Lib.hid (digits_ok ((p : Int) + 1) (k := d.toNat) (t := t) (by omega) (fun h => HX.out (by omega)))
              obtain rfl : k = d.toNat := by omega
              go_wp2_with fail
              go_ret3
              rw [HD.out]
              exact ⟨rfl, rfl⟩
      · have hg : bs.drop p = [] := List.drop_of_length_le hge
        obtain rfl : p = bs.length := by omega
        rw [hg]
        clear hg hr h0 h1
        go_enter Try.func17, Try.ntmps17
        go_wp2_with fail
        go_ret3
        exact ⟨rfl, rfl⟩

def PutB (w : World) (base : Nat) (v : Value) (bs : List UInt8) (wr : World) : Prop :=
  (∃ n, n = bs.length ∧ wr.ownsRow base 5 1 v n (byteVals bs)) ∧ Below base w wr

set_option maxHeartbeats 4000000 in
theorem refBytes_any (A : Option Addr) (bs : List UInt8) (c : Nat) (place most : Int) (w : World) (hr : Reads w w.heap.size 1 A bs.length (byteVals bs)) (hl : bs.length ≤ 1000000) (hm : most ≤ 9223372036854775807) :
    Calls Try.prog 19 #[.slice A bs.length c, .int .i64 place, .int .i64 most] w (ToldB w (readB bs place most)) := by
  obtain ⟨i0, hi, hz0, hz1, hz2⟩ := info_parts Try.info5
  have HU := Lib.hid (refUint_any A bs c place w hr hl)
  have hw := readU_well bs place
  obtain ⟨n, next, er, hq⟩ : ∃ n next er, readU bs place = (n, next, er) := ⟨_, _, _, rfl⟩
  have hC : readC bs place most = if er = 0 then (if most < 0 ∨ most < (n : Int) then (0, 0, 3) else (n, next, er)) else (0, 0, er) := by unfold readC; rw [hq]
  rw [hq] at hw HU
  have htop := hw.top
  dsimp only at htop
  by_cases he : er = 0
  · subst he
    rw [if_pos rfl] at hC
    by_cases hm0 : most < 0
    · rw [if_pos (.inl hm0)] at hC
      have hB : readB bs place most = ([], 0, 3) := by unfold readB; rw [hC]; rfl
      rw [hB]
      clear hB hC hq hw hr
      go_enter Try.func19, Try.ntmps19
      go_wp2_with fail
      refine HU.out.mono ?_
      rintro e w' ⟨rfl, rfl⟩
      go_wp2_with fail
      go_ret3
      exact ⟨_, _, _, rfl, rfl, World.ownsRow_nil _ _ _ _, Below.refl _ _⟩
    · have d0 : decide (most < 0) = false := by simpa using hm0
      have hm1 : 0 ≤ most := by omega
      by_cases hmn : most < (n : Int)
      · rw [if_pos (.inr hmn)] at hC
        have hB : readB bs place most = ([], 0, 3) := by unfold readB; rw [hC]; rfl
        rw [hB]
        clear hB hC hq hw hr hm0
        go_enter Try.func19, Try.ntmps19
        go_wp2_with fail
        refine HU.out.mono ?_
        rintro e w' ⟨rfl, rfl⟩
        go_wp2_with fail
        go_ret3
        exact ⟨_, _, _, rfl, rfl, World.ownsRow_nil _ _ _ _, Below.refl _ _⟩
      · rw [if_neg (by omega)] at hC
        obtain ⟨p0, p1, p2⟩ := hw.ok rfl
        dsimp only at p1 p2
        obtain ⟨p, rfl⟩ := Int.eq_ofNat_of_zero_le (show 0 ≤ next by omega)
        have hB : readB bs place most = if (bs.length : Int) - (p : Int) < (n : Int) then ([], 0, 4) else ((bs.drop p).take n, (p : Int) + n, 0) := by
          unfold readB; rw [hC]; rfl
        rw [hB]
        obtain ⟨b, off, rfl, hb, hcell⟩ := hr.plain (by omega)
        have d1 : decide (most < (n : Int)) = false := by simpa using hmn
        have hn9 : (n : Int) ≤ 9223372036854775807 := by omega
        have hn8 : n ≤ 9223372036854775807 := by omega
        have hpl : p ≤ bs.length := by omega
        have hrel0 : PutB w w.heap.size (.slice none 0 0) ((bs.drop p).take 0) w := ⟨⟨0, rfl, World.ownsRow_nil _ _ _ _⟩, Below.refl _ _⟩
        have HREL0 := Lib.hid hrel0
        have HCELL := Lib.hid hcell
        obtain ⟨R, hR⟩ : ∃ R : List UInt8 × Int × Int, R = if (bs.length : Int) - (p : Int) < (n : Int) then ([], 0, 4) else ((bs.drop p).take n, (p : Int) + n, 0) := ⟨_, rfl⟩
        rw [← hR]
        have HR := Lib.hid hR
        clear hB hC hq hw hr hm0 hmn hrel0 hcell hR
        go_enter Try.func19, Try.ntmps19
        go_wp2_with fail
        refine HU.out.mono ?_
        rintro e w' ⟨rfl, rfl⟩
        go_wp2_with fail
        go_loopw [12, 13] (fun v12 v13 wr => ∃ k : Nat, k ≤ n ∧ p + k ≤ bs.length ∧ v13 = .int .i64 k ∧ PutB w w.heap.size v12 ((bs.drop p).take k) wr) (fun _ v13 _ => n - (intOf v13).toNat)
        case atStart => exact ⟨0, by omega, by omega, rfl, HREL0.out⟩
        case round =>
          obtain ⟨k, hk, hpk, rfl, ⟨n2, hn2, hown2⟩, hb2⟩ := hrel
          clear HREL0
          obtain ⟨A2, c2, rfl⟩ := own_slice hown2
          have hlen2 : n2 = k := by rw [hn2, List.length_take, List.length_drop]; omega
          subst hlen2
          have HOWN2 := Lib.hid hown2
          have hs2 := hb2.size
          clear hn2 hown2
          by_cases hkn : n2 < n
          · by_cases hkl : p + n2 < bs.length
            · obtain ⟨x, hx⟩ : ∃ x, bs[p + n2]? = some x := ⟨_, List.getElem?_eq_getElem hkl⟩
              have hc := (hb2.cell (p := ⟨b, off + (p + n2), none⟩) hb).trans (HCELL.out (p + n2) x hx)
              have HR1 := Lib.hid (reads_one wr x)
              have HO1 := Lib.hid (byteVals_one [x])
              have ht : (bs.drop p).take (n2 + 1) = (bs.drop p).take n2 ++ [x] := by
                rw [List.take_succ_eq_append_getElem (by rw [List.length_drop]; omega)]
                congr 2
                have : (bs.drop p)[n2]? = some x := by rw [List.getElem?_drop]; exact hx
                rw [List.getElem?_eq_getElem (by rw [List.length_drop]; omega)] at this
                simpa using this
              have HTT := Lib.hid ht
              clear ht hx
              go_wp2_with (at_builtin; refine wpList_append_any _ rfl (.tmp 44) (.tmp 51) 22 rfl w.heap.size 5 i0 (.int .u8 0) 1 1 Try.underlying22 hi hz0 hz1 hz2 rfl (by decide) _ n2 (byteVals ((bs.drop p).take n2)) rfl (HOWN2.out.alloc _) _ _ 1 1 (byteVals [x]) rfl HR1.out HO1.out ?d1 ?d2 ?d3 ?_)
              case d1 => unfold maxLen; omega
              case d2 => omega
              case d3 => simp; omega
              intro v3 w3 hown3 hgr3 _
              rw [byteVals_append, ← HTT.out] at hown3
              have hb3 : Below w.heap.size w w3 := ((hb2.alloc (by omega) _).grown hgr3 (by simp; omega) (fun g hg => (HOWN2.out.lt g hg).1))
              have hrel : PutB w w.heap.size v3 ((bs.drop p).take (n2 + 1)) w3 := ⟨⟨_, by rw [List.length_take, List.length_drop]; omega, hown3⟩, hb3⟩
              have HREL := Lib.hid hrel
              clear hrel hown3 hgr3
              go_wp2_with fail
              go_roundw
              case rel => exact ⟨n2 + 1, by omega, by omega, by go_num, HREL.out⟩
              case measure => simp [intOf]; omega
            · have hR : R = ([], 0, 4) := by rw [HR.out, if_pos (by omega)]
              have HRR := Lib.hid hR
              clear hR
              go_wp2_with fail
              go_ret3
              rw [HRR.out]
              exact ⟨_, _, _, rfl, rfl, World.ownsRow_nil _ _ _ _, hb2⟩
          · obtain rfl : n2 = n := by omega
            have hR : R = ((bs.drop p).take n2, (p : Int) + n2, 0) := by rw [HR.out, if_neg (by omega)]
            have HRR := Lib.hid hR
            clear hR
            go_wp2_with fail
            go_ret3
            rw [HRR.out]
            exact ⟨_, _, _, rfl, by rw [List.length_take, List.length_drop]; omega, HOWN2.out, hb2⟩
  · rw [if_neg he] at hC
    have hB : readB bs place most = ([], 0, er) := by unfold readB; rw [hC, if_neg he]
    rw [hB]
    have d0 : (er != 0) = true := by simpa using he
    clear he hw hr hC hB hq
    go_enter Try.func19, Try.ntmps19
    go_wp2_with fail
    refine HU.out.mono ?_
    rintro e w' ⟨rfl, rfl⟩
    go_wp2_with fail
    go_ret3
    exact ⟨_, _, _, rfl, rfl, World.ownsRow_nil _ _ _ _, Below.refl _ _⟩

end Go.Proofs.Ytkbhhejnhjhacaa
