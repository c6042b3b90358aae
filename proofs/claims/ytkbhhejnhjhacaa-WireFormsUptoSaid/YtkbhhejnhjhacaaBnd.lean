/-
  The law WireBounds: its walk.
-/
import Derived.Test.YtkbhhejnhjhacaaT
namespace Go.Proofs.Ytkbhhejnhjhacaa
open Go.RowKit

def lens : List Row → Nat
  | [] => 0
  | r :: L => r.bs.length + lens L
theorem rowsLen_lens : ∀ L : List Row, rowsLen L = L.length + lens L
  | [] => rfl
  | r :: L => by rw [rowsLen, lens, rowsLen_lens L, List.length_cons]; omega
theorem lens_take {L : List Row} {k : Nat} {r : Row} (h : L[k]? = some r) : lens (L.take (k + 1)) = lens (L.take k) + r.bs.length := by
  induction L generalizing k with
  | nil => simp at h
  | cons x L ih =>
    cases k with
    | zero => simp at h; subst h; simp [lens]
    | succ k =>
      have := ih (k := k) (by simpa using h)
      simp only [List.take_succ_cons, lens] at *
      omega
theorem lens_le (L : List Row) (k : Nat) : lens (L.take k) ≤ lens L := by
  induction L generalizing k with
  | nil => simp
  | cons x L ih =>
    cases k with
    | zero => simp [lens]
    | succ k => have := ih k; simp only [List.take_succ_cons, lens]; omega

set_option maxHeartbeats 2000000 in
theorem size_any (A : Option Addr) (L : List Row) (c B : Nat) (w : World) (hL : RowsIn w B A L) (hs : rowsLen L ≤ 4611686018427387904) :
    Calls Try.prog 8 #[.slice A L.length c] w fun e w' => e = .returned (.int .i64 (rowsLen L)) ∧ w = w' := by
  have hq := rowsLen_lens L
  rw [hq] at hs ⊢
  have HL := Lib.hid hL
  clear hL hq
  go_enter Try.func8, Try.ntmps8
  go_wp2_with fail
  go_loop [3, 9] (fun v3 v9 => ∃ k : Nat, k ≤ L.length ∧ v9 = .int .i64 k ∧ v3 = .int .i64 ((L.length + lens (L.take k) : Nat) : Int)) (fun _ v9 => L.length - (intOf v9).toNat)
  case atStart => exact ⟨0, by omega, rfl, by simp [lens]⟩
  case round =>
    obtain ⟨k, hk, rfl, rfl⟩ := hrel
    have hle := lens_le L k
    by_cases hlt : k < L.length
    · obtain ⟨r, hrk⟩ : ∃ r, L[k]? = some r := ⟨_, List.getElem?_eq_getElem hlt⟩
      obtain ⟨b, off, rfl, hbb, hcell⟩ := HL.out.reads.plainV (by omega)
      have hck := hcell k _ (by rw [List.getElem?_map, hrk]; rfl)
      have ht := lens_take hrk
      have hle2 := lens_le L (k + 1)
      have hr : r.bs.length ≤ lens L := by omega
      have HT := Lib.hid ht
      unfold Row.val at hck
      clear hcell hrk ht hle2
      go_wp2_with fail
      go_round
      case rel => exact ⟨k + 1, by omega, by go_num, by rw [HT.out]; go_num⟩
      case measure => simp [intOf]; omega
    · obtain rfl : k = L.length := by omega
      go_wp2_with fail
      go_ret
      exact ⟨by first | rfl | exact ret_int (by omega) | exact ret_int (by simp), rfl⟩

def longest (L : List Row) : Nat := L.foldl (fun m r => max m r.bs.length) 0
theorem longest_from (m : Int) : ∀ (L : List Row) (a : Nat), ((L.foldl (fun m r => max m r.bs.length) a : Nat) : Int) ≤ m ↔ (a : Int) ≤ m ∧ ∀ r ∈ L, (r.bs.length : Int) ≤ m
  | [], a => by simp
  | r :: L, a => by
    rw [List.foldl_cons, longest_from m L]
    constructor
    · rintro ⟨h1, h2⟩
      refine ⟨by omega, fun q hq => ?_⟩
      rcases List.mem_cons.1 hq with rfl | hq
      · omega
      · exact h2 q hq
    · rintro ⟨h1, h2⟩
      have := h2 r (by simp)
      exact ⟨by omega, fun q hq => h2 q (by simp [hq])⟩
theorem longest_take {L : List Row} {k : Nat} {r : Row} (h : L[k]? = some r) : longest (L.take (k + 1)) = max (longest (L.take k)) r.bs.length := by
  obtain ⟨hk, rfl⟩ := List.getElem?_eq_some_iff.1 h
  unfold longest
  rw [List.take_succ_eq_append_getElem hk, List.foldl_append]
  rfl
theorem longest_le (L : List Row) (k : Nat) (h : rowsLen L ≤ 1000) : longest (L.take k) ≤ 1000 := by
  have := (longest_from 1000 (L.take k) 0).2 ⟨by omega, fun r hr => by
    have := rowsLen_mem L r (List.mem_of_mem_take hr); omega⟩
  unfold longest; omega

theorem appendList_nil (Al : Option Addr) (L : List Row) (cl : Nat) (w : World) (hL : RowsIn w w.heap.size Al L) (hs : rowsLen L ≤ 2000) :
    Calls Try.prog 12 #[.slice none 0 0, .slice Al L.length cl] w (OwnPost w w.heap.size (listForm L)) :=
  appendList_any none [] 0 Al L cl w (fun _ => ⟨rfl, rfl⟩) ⟨rfl, fun h => absurd h (by simp)⟩ hL (by simp) hs
theorem appendBytes_nil (Ax : Option Addr) (x : List UInt8) (cx : Nat) (w : World) (hx : Reads w w.heap.size 1 Ax x.length (byteVals x)) (hxl : x.length ≤ 400000) :
    Calls Try.prog 11 #[.slice none 0 0, .slice Ax x.length cx] w (OwnPost w w.heap.size (row x)) :=
  appendBytes_any none [] 0 Ax x cx w (fun _ => ⟨rfl, rfl⟩) ⟨rfl, fun h => absurd h (by simp)⟩ hx (by simp) hxl

theorem own_capN {w : World} {base n c : Nat} {A : Option Addr} {xs : List Value} (h : w.ownsRow base 5 1 (.slice A n c) n xs) : n ≤ c := by
  rcases h.2 with ⟨h1, h2⟩ | ⟨g, cap, cur, h1, _, _, h4, _⟩
  · omega
  · injection h1 with _ _ h5
    omega

set_option maxRecDepth 100000 in
set_option maxHeartbeats 16000000 in
theorem bounds_main (Al : Option Addr) (L : List Row) (cl : Nat) (many most : Int) (w : World) (hL : RowsIn w w.heap.size Al L) (hs : rowsLen L ≤ 4611686018427387904)
    (hmy : many ≤ 9223372036854775807) (hmo : most ≤ 9223372036854775807) :
    Calls Try.prog 7 #[.slice Al L.length cl, .int .i64 many, .int .i64 most] w fun e w' => e = .returned (.bool true) ∧ Chg none w w' := by
  have HS := Lib.hid (size_any Al L cl w.heap.size w hL hs)
  by_cases hbig : 1000 < rowsLen L
  · have hb : (1000 : Int) < ((rowsLen L : Nat) : Int) := by omega
    clear hL
    go_enter Try.func7, Try.ntmps7
    go_wp2_with fail
    refine HS.out.mono ?_
    rintro e w' ⟨rfl, rfl⟩
    go_wp2_with fail
    refine (known_any _).mono ?_
    rintro e w1 ⟨rfl, g1⟩
    go_wp2_with fail
    go_ret
    exact ⟨rfl, g1⟩
  · have hb : ((rowsLen L : Nat) : Int) ≤ 1000 := by omega
    have HL := Lib.hid hL
    have hll := rowsLen_ge L
    have hAL := appendList_nil Al L cl w hL (by omega)
    have HAL := Lib.hid hAL
    clear hL hAL
    go_enter Try.func7, Try.ntmps7
    go_wp2_with fail
    refine HS.out.mono ?_
    rintro e w' ⟨rfl, rfl⟩
    go_wp2_with fail
    go_loop [7, 23] (fun v7 v23 => ∃ k : Nat, k ≤ L.length ∧ v23 = .int .i64 k ∧ v7 = .int .i64 (longest (L.take k) : Nat)) (fun _ v23 => L.length - (intOf v23).toNat)
    case atStart => exact ⟨0, by omega, rfl, by simp [longest]⟩
    case round =>
      obtain ⟨k, hk, rfl, rfl⟩ := hrel
      have hlg := longest_le L k (by omega)
      by_cases hlt : k < L.length
      · obtain ⟨r, hrk⟩ : ∃ r, L[k]? = some r := ⟨_, List.getElem?_eq_getElem hlt⟩
        obtain ⟨b, off, rfl, hbb, hcell⟩ := HL.out.reads.plainV (by omega)
        have hck := hcell k _ (by rw [List.getElem?_map, hrk]; rfl)
        have ht := longest_take hrk
        have hr := rowsLen_mem L r (List.mem_of_getElem? hrk)
        have HT := Lib.hid ht
        unfold Row.val at hck
        clear hcell hrk ht
        go_wp2_with fail
        go_round
        case rel => exact ⟨k + 1, by omega, by go_num, by rw [HT.out]; go_num⟩
        case measure => simp [intOf]; omega
      · obtain rfl : k = L.length := by omega
        have hfit := readL_list [] [] L many most (fun r hr => by have := rowsLen_mem L r hr; omega) (by omega)
        simp only [List.nil_append, List.append_nil, List.length_nil] at hfit
        have hlo := longest_from most L 0
        have HFIT := Lib.hid hfit
        have HLO := Lib.hid hlo
        rw [List.take_length] at hlg ⊢
        clear hfit hlo
        go_wp2_with fail
        refine HAL.out.mono ?_
        rintro e w1 ⟨A1, n1, c1, rfl, hn1, hown1, hb1⟩
        subst hn1
        have hfl : (listForm L).length ≤ 1000000 := by
          have h1 := flat_len_le L (by omega)
          have h2 := nb_le L.length (by omega)
          unfold listForm
          rw [List.length_append, form_len]; omega
        have hli := list_any A1 (listForm L) c1 ((0 : Nat) : Int) many most w1 (Reads.of_own hown1) (own_capN hown1) hfl hmy hmo
        rw [HFIT.out] at hli
        have HLI := Lib.hid hli
        clear hown1 hli
        by_cases hmn : (L.length : Int) ≤ many
        · have e1 : decide ((L.length : Int) ≤ many) = true := by simpa using hmn
          by_cases h0 : L.length = 0
          · have e2 : ((L.length : Int) == 0) = true := by simp [h0]
            rw [if_pos ⟨hmn, fun r hr => by rw [List.eq_nil_of_length_eq_zero h0] at hr; cases hr⟩] at HLI
            go_wp2_with fail
            refine HLI.out.mono ?_
            rintro e w2 ⟨A2, n2, c2, rows2, rfl, hr2, hg2, hb2'⟩
            have hb2 : Below w.heap.size w w2 := hb1.trans (hb2'.mono hb1.size)
            clear hr2 hg2 HLI
            go_wp2_with fail
            go_loopw [71] (fun v71 wr => ∃ k : Nat, k ≤ L.length ∧ v71 = .int .i64 k ∧ Below w.heap.size w wr) (fun v71 _ => L.length - (intOf v71).toNat)
            case atStart => exact ⟨0, by omega, rfl, hb2⟩
            case round =>
              obtain ⟨k, hk, rfl, hb3⟩ := hrel
              by_cases hlt : k < L.length
              · exact absurd hlt (by omega)
              · obtain rfl : k = L.length := by omega
                go_wp2_with fail
                refine (known_any _).mono ?_
                rintro e w9 ⟨rfl, g9⟩
                go_wp2_with fail
                go_ret
                exact ⟨rfl, (show Chg none w wr from ⟨hb3.os, hb3.tape, hb3.output, hb3.size, fun i hi _ => hb3.block i hi⟩).trans g9⟩
          · have e2 : ((L.length : Int) == 0) = false := by simpa using h0
            by_cases hlo : (longest L : Int) ≤ most
            · have e3 : decide ((longest L : Int) ≤ most) = true := by simpa using hlo
              rw [if_pos ⟨hmn, (HLO.out.1 hlo).2⟩] at HLI
              go_wp2_with fail
              refine HLI.out.mono ?_
              rintro e w2 ⟨A2, n2, c2, rows2, rfl, hr2, hg2, hb2'⟩
              have hb2 : Below w.heap.size w w2 := hb1.trans (hb2'.mono hb1.size)
              clear hr2 hg2 HLI
              go_wp2_with fail
              go_loopw [71] (fun v71 wr => ∃ k : Nat, k ≤ L.length ∧ v71 = .int .i64 k ∧ Below w.heap.size w wr) (fun v71 _ => L.length - (intOf v71).toNat)
              case atStart => exact ⟨0, by omega, rfl, hb2⟩
              case round =>
                obtain ⟨k, hk, rfl, hb3⟩ := hrel
                by_cases hlt : k < L.length
                · obtain ⟨r, hrk⟩ : ∃ r, L[k]? = some r := ⟨_, List.getElem?_eq_getElem hlt⟩
                  have hL3 := HL.out.below hb3
                  obtain ⟨b, off, rfl, hbb, hcell⟩ := hL3.reads.plainV (by omega)
                  have hck := hcell k _ (by rw [List.getElem?_map, hrk]; rfl)
                  have hrm := List.mem_of_getElem? hrk
                  have hrr := ((hL3.each r hrm).reads).more hb3.size
                  have hr := rowsLen_mem L r hrm
                  have HAB := Lib.hid (appendBytes_nil r.A r.bs r.c wr hrr (by omega))
                  have hrow := readB_row [] [] r.bs most (by omega)
                  simp only [List.nil_append, List.append_nil, List.length_nil] at hrow
                  have HROW := Lib.hid hrow
                  unfold Row.val at hck
                  clear hcell hrk hL3 hrr hrow
                  go_wp2_with fail
                  refine HAB.out.mono ?_
                  rintro e w4 ⟨A4, n4, c4, rfl, hn4, hown4, hb4⟩
                  subst hn4
                  have hrl := row_len r.bs (by omega)
                  have hB := bytes_any A4 (row r.bs) c4 ((0 : Nat) : Int) most w4 (Reads.of_own hown4) (own_capN hown4) (by omega) hmo
                  rw [HROW.out] at hB
                  have hck4 := (hb4.cell (p := ⟨b, off + k, none⟩) (Nat.lt_of_lt_of_le hbb hb3.size)).trans hck
                  have hs4 := hb4.size
                  clear hown4
                  by_cases hm : (r.bs.length : Int) ≤ most
                  · rw [if_pos hm] at hB
                    have HB := Lib.hid hB
                    have hd : decide ((r.bs.length : Int) ≤ most) = true := by simpa using hm
                    clear hB
                    go_wp2_with fail
                    refine HB.out.mono ?_
                    rintro e w5 ⟨A5, n5, c5, rfl, hn5, hown5, hb5⟩
                    have hck5 := (hb5.cell (p := ⟨b, off + k, none⟩) (by have := hb3.size; show b < _; omega)).trans hck4
                    clear hn5 hown5
                    go_wp2_with fail
                    go_roundw
                    case rel => exact ⟨k + 1, by omega, by go_num, hb3.trans ((hb4.trans (hb5.mono hs4)).mono hb3.size)⟩
                    case measure => simp [intOf]; omega
                  · rw [if_neg hm] at hB
                    have HB := Lib.hid hB
                    have hd : decide ((r.bs.length : Int) ≤ most) = false := by simpa using hm
                    have hm' : most < (r.bs.length : Int) := by omega
                    clear hB hm
                    go_wp2_with fail
                    refine HB.out.mono ?_
                    rintro e w5 ⟨A5, n5, c5, rfl, hn5, hown5, hb5⟩
                    have hck5 := (hb5.cell (p := ⟨b, off + k, none⟩) (by have := hb3.size; show b < _; omega)).trans hck4
                    clear hn5 hown5
                    go_wp2_with fail
                    go_roundw
                    case rel => exact ⟨k + 1, by omega, by go_num, hb3.trans ((hb4.trans (hb5.mono hs4)).mono hb3.size)⟩
                    case measure => simp [intOf]; omega
                · obtain rfl : k = L.length := by omega
                  go_wp2_with fail
                  refine (known_any _).mono ?_
                  rintro e w9 ⟨rfl, g9⟩
                  go_wp2_with fail
                  go_ret
                  exact ⟨rfl, (show Chg none w wr from ⟨hb3.os, hb3.tape, hb3.output, hb3.size, fun i hi _ => hb3.block i hi⟩).trans g9⟩
            · have e3 : decide ((longest L : Int) ≤ most) = false := by simpa using hlo
              have e4 : most < (longest L : Int) := by omega
              have hno : ¬ ∀ r ∈ L, (r.bs.length : Int) ≤ most := fun hh => hlo (HLO.out.2 ⟨by
                obtain ⟨r, hr⟩ : ∃ r, r ∈ L := List.exists_mem_of_length_pos (by omega)
                have := hh r hr; omega, hh⟩)
              have HNO := Lib.hid hno
              clear hno hlo
              rw [if_neg (fun hh => HNO.out hh.2)] at HLI
              go_wp2_with fail
              refine HLI.out.mono ?_
              rintro e w2 ⟨A2, n2, c2, rows2, rfl, hr2, hg2, hb2'⟩
              have hb2 : Below w.heap.size w w2 := hb1.trans (hb2'.mono hb1.size)
              clear hr2 hg2 HLI
              go_wp2_with fail
              go_loopw [71] (fun v71 wr => ∃ k : Nat, k ≤ L.length ∧ v71 = .int .i64 k ∧ Below w.heap.size w wr) (fun v71 _ => L.length - (intOf v71).toNat)
              case atStart => exact ⟨0, by omega, rfl, hb2⟩
              case round =>
                obtain ⟨k, hk, rfl, hb3⟩ := hrel
                by_cases hlt : k < L.length
                · obtain ⟨r, hrk⟩ : ∃ r, L[k]? = some r := ⟨_, List.getElem?_eq_getElem hlt⟩
                  have hL3 := HL.out.below hb3
                  obtain ⟨b, off, rfl, hbb, hcell⟩ := hL3.reads.plainV (by omega)
                  have hck := hcell k _ (by rw [List.getElem?_map, hrk]; rfl)
                  have hrm := List.mem_of_getElem? hrk
                  have hrr := ((hL3.each r hrm).reads).more hb3.size
                  have hr := rowsLen_mem L r hrm
                  have HAB := Lib.hid (appendBytes_nil r.A r.bs r.c wr hrr (by omega))
                  have hrow := readB_row [] [] r.bs most (by omega)
                  simp only [List.nil_append, List.append_nil, List.length_nil] at hrow
                  have HROW := Lib.hid hrow
                  unfold Row.val at hck
                  clear hcell hrk hL3 hrr hrow
                  go_wp2_with fail
                  refine HAB.out.mono ?_
                  rintro e w4 ⟨A4, n4, c4, rfl, hn4, hown4, hb4⟩
                  subst hn4
                  have hrl := row_len r.bs (by omega)
                  have hB := bytes_any A4 (row r.bs) c4 ((0 : Nat) : Int) most w4 (Reads.of_own hown4) (own_capN hown4) (by omega) hmo
                  rw [HROW.out] at hB
                  have hck4 := (hb4.cell (p := ⟨b, off + k, none⟩) (Nat.lt_of_lt_of_le hbb hb3.size)).trans hck
                  have hs4 := hb4.size
                  clear hown4
                  by_cases hm : (r.bs.length : Int) ≤ most
                  · rw [if_pos hm] at hB
                    have HB := Lib.hid hB
                    have hd : decide ((r.bs.length : Int) ≤ most) = true := by simpa using hm
                    clear hB
                    go_wp2_with fail
                    refine HB.out.mono ?_
                    rintro e w5 ⟨A5, n5, c5, rfl, hn5, hown5, hb5⟩
                    have hck5 := (hb5.cell (p := ⟨b, off + k, none⟩) (by have := hb3.size; show b < _; omega)).trans hck4
                    clear hn5 hown5
                    go_wp2_with fail
                    go_roundw
                    case rel => exact ⟨k + 1, by omega, by go_num, hb3.trans ((hb4.trans (hb5.mono hs4)).mono hb3.size)⟩
                    case measure => simp [intOf]; omega
                  · rw [if_neg hm] at hB
                    have HB := Lib.hid hB
                    have hd : decide ((r.bs.length : Int) ≤ most) = false := by simpa using hm
                    have hm' : most < (r.bs.length : Int) := by omega
                    clear hB hm
                    go_wp2_with fail
                    refine HB.out.mono ?_
                    rintro e w5 ⟨A5, n5, c5, rfl, hn5, hown5, hb5⟩
                    have hck5 := (hb5.cell (p := ⟨b, off + k, none⟩) (by have := hb3.size; show b < _; omega)).trans hck4
                    clear hn5 hown5
                    go_wp2_with fail
                    go_roundw
                    case rel => exact ⟨k + 1, by omega, by go_num, hb3.trans ((hb4.trans (hb5.mono hs4)).mono hb3.size)⟩
                    case measure => simp [intOf]; omega
                · obtain rfl : k = L.length := by omega
                  go_wp2_with fail
                  refine (known_any _).mono ?_
                  rintro e w9 ⟨rfl, g9⟩
                  go_wp2_with fail
                  go_ret
                  exact ⟨rfl, (show Chg none w wr from ⟨hb3.os, hb3.tape, hb3.output, hb3.size, fun i hi _ => hb3.block i hi⟩).trans g9⟩
        · have e1 : decide ((L.length : Int) ≤ many) = false := by simpa using hmn
          have e2 : many < (L.length : Int) := by omega
          have HMN := Lib.hid hmn
          clear hmn
          rw [if_neg (fun hh => HMN.out hh.1)] at HLI
          go_wp2_with fail
          refine HLI.out.mono ?_
          rintro e w2 ⟨A2, n2, c2, rows2, rfl, hr2, hg2, hb2'⟩
          have hb2 : Below w.heap.size w w2 := hb1.trans (hb2'.mono hb1.size)
          clear hr2 hg2 HLI
          go_wp2_with fail
          go_loopw [71] (fun v71 wr => ∃ k : Nat, k ≤ L.length ∧ v71 = .int .i64 k ∧ Below w.heap.size w wr) (fun v71 _ => L.length - (intOf v71).toNat)
          case atStart => exact ⟨0, by omega, rfl, hb2⟩
          case round =>
            obtain ⟨k, hk, rfl, hb3⟩ := hrel
            by_cases hlt : k < L.length
            · obtain ⟨r, hrk⟩ : ∃ r, L[k]? = some r := ⟨_, List.getElem?_eq_getElem hlt⟩
              have hL3 := HL.out.below hb3
              obtain ⟨b, off, rfl, hbb, hcell⟩ := hL3.reads.plainV (by omega)
              have hck := hcell k _ (by rw [List.getElem?_map, hrk]; rfl)
              have hrm := List.mem_of_getElem? hrk
              have hrr := ((hL3.each r hrm).reads).more hb3.size
              have hr := rowsLen_mem L r hrm
              have HAB := Lib.hid (appendBytes_nil r.A r.bs r.c wr hrr (by omega))
              have hrow := readB_row [] [] r.bs most (by omega)
              simp only [List.nil_append, List.append_nil, List.length_nil] at hrow
              have HROW := Lib.hid hrow
              unfold Row.val at hck
              clear hcell hrk hL3 hrr hrow
              go_wp2_with fail
              refine HAB.out.mono ?_
              rintro e w4 ⟨A4, n4, c4, rfl, hn4, hown4, hb4⟩
              subst hn4
              have hrl := row_len r.bs (by omega)
              have hB := bytes_any A4 (row r.bs) c4 ((0 : Nat) : Int) most w4 (Reads.of_own hown4) (own_capN hown4) (by omega) hmo
              rw [HROW.out] at hB
              have hck4 := (hb4.cell (p := ⟨b, off + k, none⟩) (Nat.lt_of_lt_of_le hbb hb3.size)).trans hck
              have hs4 := hb4.size
              clear hown4
              by_cases hm : (r.bs.length : Int) ≤ most
              · rw [if_pos hm] at hB
                have HB := Lib.hid hB
                have hd : decide ((r.bs.length : Int) ≤ most) = true := by simpa using hm
                clear hB
                go_wp2_with fail
                refine HB.out.mono ?_
                rintro e w5 ⟨A5, n5, c5, rfl, hn5, hown5, hb5⟩
                have hck5 := (hb5.cell (p := ⟨b, off + k, none⟩) (by have := hb3.size; show b < _; omega)).trans hck4
                clear hn5 hown5
                go_wp2_with fail
                go_roundw
                case rel => exact ⟨k + 1, by omega, by go_num, hb3.trans ((hb4.trans (hb5.mono hs4)).mono hb3.size)⟩
                case measure => simp [intOf]; omega
              · rw [if_neg hm] at hB
                have HB := Lib.hid hB
                have hd : decide ((r.bs.length : Int) ≤ most) = false := by simpa using hm
                have hm' : most < (r.bs.length : Int) := by omega
                clear hB hm
                go_wp2_with fail
                refine HB.out.mono ?_
                rintro e w5 ⟨A5, n5, c5, rfl, hn5, hown5, hb5⟩
                have hck5 := (hb5.cell (p := ⟨b, off + k, none⟩) (by have := hb3.size; show b < _; omega)).trans hck4
                clear hn5 hown5
                go_wp2_with fail
                go_roundw
                case rel => exact ⟨k + 1, by omega, by go_num, hb3.trans ((hb4.trans (hb5.mono hs4)).mono hb3.size)⟩
                case measure => simp [intOf]; omega
            · obtain rfl : k = L.length := by omega
              go_wp2_with fail
              refine (known_any _).mono ?_
              rintro e w9 ⟨rfl, g9⟩
              go_wp2_with fail
              go_ret
              exact ⟨rfl, (show Chg none w wr from ⟨hb3.os, hb3.tape, hb3.output, hb3.size, fun i hi _ => hb3.block i hi⟩).trans g9⟩

end Go.Proofs.Ytkbhhejnhjhacaa
