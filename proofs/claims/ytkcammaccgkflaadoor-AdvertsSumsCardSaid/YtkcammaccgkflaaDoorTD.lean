/-
  AdvertsOrder: the walk.
-/
import Derived.Test.YtkcammaccgkflaaDoorTC
namespace Go.Proofs.YtkcammaccgkflaaDoor
open Go.RowKit

theorem Two.fst {w u : World} {p q : Nat} {L M : List Att} (h : Two w u p L q M) : SetNew w u p L := by
  obtain ⟨A, c, A', c', h1, h2, h3, h4⟩ := h
  exact ⟨A, c, h1, h4⟩
theorem Two.snd {w u : World} {p q : Nat} {L M : List Att} (h : Two w u p L q M) : SetNew w u q M := h.swap.fst
theorem Two.grew {w u : World} {p q : Nat} {L M : List Att} (h : Two w u p L q M) : Chg none w u := h.fst.grew
theorem add_fst {w0 u : World} {p q : Nat} {L M : List Att} (h : Two w0 u p L q M) (ok : OkA L) (a : Att) : Calls Tryd.prog 45 #[.pointer (some ⟨p, 0, none⟩), .agg (attCells a).toArray] u fun e w' => e = .returned (.int .i64 (addM L a).2) ∧ Two w0 w' p (addM L a).1 q M := by
  obtain ⟨A, c, A', c', h1, h2, h3, h4⟩ := h
  exact (add_any u _ p A c L a h1 ok).mono fun e w' k => AddP.two h1 h2 h3 h4 k
theorem add_snd {w0 u : World} {p q : Nat} {L M : List Att} (h : Two w0 u p L q M) (ok : OkA M) (a : Att) : Calls Tryd.prog 45 #[.pointer (some ⟨q, 0, none⟩), .agg (attCells a).toArray] u fun e w' => e = .returned (.int .i64 (addM M a).2) ∧ Two w0 w' p L q (addM M a).1 :=
  (add_fst h.swap ok a).mono fun _ _ k => ⟨k.1, k.2.swap⟩
/-- Two that are made one behind the other. -/
theorem two_new {w w1 w2 : World} (h1 : SetAt w1 w.heap.size w.heap.size none 0 []) (g1 : Chg none w w1) (h2 : SetAt w2 w1.heap.size w1.heap.size none 0 []) (g2 : Chg none w1 w2) : Two w w2 w.heap.size [] w1.heap.size [] :=
  ⟨none, 0, none, 0, h1.chg g2, h2.mono g1.size, fun g a b => (by
    rcases a with a | a
    · rcases b with b | b
      · have := Blk.lt h1.hd; omega
      · cases b
    · cases a), g1.trans g2⟩
theorem drop_rev {l : List Att} {m : Nat} {x : Att} (h : l[m]? = some x) : (l.drop m).reverse = (l.drop (m + 1)).reverse ++ [x] := by
  obtain ⟨hlt, rfl⟩ := List.getElem?_eq_some_iff.1 h
  rw [List.drop_eq_getElem_cons hlt, List.reverse_cons]
/-- What the second set has been told. -/
def toldB (l : List Att) (kk m : Nat) : List Att := (l.drop kk).reverse ++ ((l.take kk).drop m).reverse
theorem toldB_mem (l : List Att) (kk : Nat) : ∀ x, x ∈ l ↔ x ∈ toldB l kk 0 := fun x => by
  unfold toldB
  rw [List.drop_zero, List.mem_append, List.mem_reverse, List.mem_reverse, or_comm, ← List.mem_append, List.take_append_drop]
theorem toldB_start (l : List Att) (kk : Nat) : toldB l kk kk = (l.drop kk).reverse := by
  unfold toldB
  rw [show (l.take kk).drop kk = [] from List.drop_eq_nil_of_le (by rw [List.length_take]; omega)]; simp
theorem toldB_step {l : List Att} {kk m : Nat} {x : Att} (hm : m < kk) (h : l[m]? = some x) : toldB l kk m = toldB l kk (m + 1) ++ [x] := by
  unfold toldB
  rw [drop_rev (l := l.take kk) (m := m) (x := x) (by rw [List.getElem?_take_of_lt hm]; exact h), List.append_assoc]

set_option maxRecDepth 100000 in
set_option maxHeartbeats 16000000 in
theorem order_law (A : Option Addr) (l : List Att) (c : Nat) (at_ : Int) (w : World) (hl : RowsAt w 97 A attCells l) (hlm : l.length ≤ 9223372036854775807) (hTb : Tabs w) :
    Calls Tryd.prog 17 #[.slice A l.length c, .int .i64 at_] w fun e w' => e = .returned (.bool true) ∧ Chg none w w' := by
  have HK := Lib.hid (known41_any w hTb)
  have i300 : decide ((300 : Int) < (l.length : Int)) = decide (300 < l.length) := decide_eq_decide.2 (by omega)
  by_cases h300 : 300 < l.length
  · have d1 : decide (300 < l.length) = true := decide_eq_true h300
    rw [d1] at i300
    clear hl hTb
    go_enter Tryd.func17, Tryd.ntmps17
    go_wp2_with fail
    refine HK.out.mono ?_
    rintro e w1 ⟨rfl, g1⟩
    go_wp2_with fail
    go_ret
    exact ⟨rfl, g1⟩
  have d1 : decide (300 < l.length) = false := decide_eq_false h300
  rw [d1] at i300
  have HARG := Lib.hid (arg_rows hl)
  have HNEW := Lib.hid new_any
  have HL := Lib.hid h300
  have HTB := Lib.hid hTb
  have HKN : Hid (∀ v, Chg none w v → Calls Tryd.prog 41 #[] v fun e w' => e = .returned (.bool true) ∧ Chg none v w') := Lib.hid fun v g => known41_any v (hTb.chg g (by simp))
  clear HK hl hTb
  go_enter Tryd.func17, Tryd.ntmps17
  go_wp2_with fail
  refine (HNEW.out w).mono ?_
  rintro e w1 ⟨rfl, hset, g1⟩
  go_wp2_with fail
  refine (HNEW.out w1).mono ?_
  rintro e w2 ⟨rfl, hset2, g2⟩
  have HS1 : Hid (Two w w2 w.heap.size (addAll [] (l.take 0)) w1.heap.size []) := Lib.hid (two_new hset g1 hset2 g2)
  clear hset g1 hset2 g2 HNEW i300 d1
  obtain ⟨pa, hpa⟩ : ∃ pa, w.heap.size = pa := ⟨_, rfl⟩
  obtain ⟨pb, hpb⟩ : ∃ pb, w1.heap.size = pb := ⟨_, rfl⟩
  rw [hpa, hpb] at HS1
  rw [hpa, hpb]
  clear hpa hpb
  go_upto_region 7 with fail
  obtain ⟨kk, hkl, hkk⟩ : ∃ kk : Nat, kk ≤ l.length ∧ wrap64 ((IntKind.u64.wrap at_).tmod (↑l.length + 1)) = (kk : Int) := by
    have hu : IntKind.u64.wrap at_ = at_ % 18446744073709551616 := by simp [IntKind.wrap, IntKind.signed, IntKind.bits]
    have h0 : 0 ≤ at_ % 18446744073709551616 := Int.emod_nonneg _ (by decide)
    rw [hu, Int.tmod_eq_emod_of_nonneg h0]
    have h2 : 0 ≤ (at_ % 18446744073709551616) % ((l.length : Int) + 1) := Int.emod_nonneg _ (by omega)
    have h3 : (at_ % 18446744073709551616) % ((l.length : Int) + 1) < (l.length : Int) + 1 := Int.emod_lt_of_pos _ (by omega)
    refine ⟨((at_ % 18446744073709551616) % ((l.length : Int) + 1)).toNat, by omega, ?_⟩
    generalize (at_ % 18446744073709551616) % ((l.length : Int) + 1) = z at *
    unfold wrap64
    omega
  rw [hkk]
  clear hkk
  have HKL := Lib.hid hkl
  clear hkl
  go_upto_region 8 with fail
  go_loopw [37] (fun s37 wr => ∃ k : Nat, k ≤ l.length ∧ s37 = .int .i64 k ∧ Hid (Two w wr pa (addAll [] (l.take k)) pb [])) (fun s37 _ => l.length - (intOf s37).toNat)
  case atStart => exact ⟨0, Nat.zero_le _, rfl, HS1⟩
  case round =>
    obtain ⟨k, hk, rfl, HS⟩ := hrel
    by_cases hlt : k < l.length
    · have hd : decide (k < l.length) = true := by rw [decide_eq_true_eq]; exact hlt
      have hd2 : decide ((k : Int) < (l.length : Int)) = true := by rw [decide_eq_true_eq]; omega
      have hlt' : (k : Int) < (l.length : Int) := by omega
      have hkl : (k : Int) ≤ 300 := by have := HL.out; omega
      obtain ⟨x, hx⟩ : ∃ x, l[k]? = some x := ⟨_, List.getElem?_eq_getElem hlt⟩
      obtain ⟨rb, ro, rfl, hr⟩ := HARG.out k x hx
      have HRX := Lib.hid (hr wr HS.out.grew)
      have HIX := Lib.hid (info46 x)
      have HAD := Lib.hid (add_fst HS.out (addAll_okn _) x)
      rw [← addAll_take [] l hx] at HAD
      have HLT := Lib.hid hlt
      clear hr hx hlt
      go_wp2_with (refine wpList_load_mid rfl 46 _ rfl rb (ro + k * 97) rfl (attCells x) _ HRX.out Tryd.underlying46 rfl HIX.out ?_)
      refine HAD.out.mono ?_
      rintro e w2 ⟨rfl, hs⟩
      have HS2 := Lib.hid hs
      clear hs
      go_wp2_with fail
      go_roundw
      case rel => exact ⟨k + 1, by have := HLT.out; omega, by first | rfl | go_num, HS2⟩
      case measure => have := HLT.out; first | omega | (simp only [intOf]; omega) | (simp [intOf]; omega)
    · have hd : decide (k < l.length) = false := by rw [decide_eq_false_iff_not]; exact hlt
      have hd2 : decide ((k : Int) < (l.length : Int)) = false := by rw [decide_eq_false_iff_not]; omega
      obtain rfl : k = l.length := by omega
      rw [List.take_length] at HS
      have HEND := Lib.hid (addAll_order (toldB_mem l kk))
      have hok := addAll_okn l
      generalize addAll [] l = S at HS hok HEND
      have HOK := Lib.hid hok
      clear hlt hok hk
      have hl300 : (l.length : Int) ≤ 300 := by have := HL.out; omega
      go_upto_region 13 with fail
      obtain ⟨wo, rfl⟩ : ∃ wo : World, wo = wr := ⟨_, rfl⟩
      have HT0 : Hid (Two w wo pa S pb (addAll [] (l.drop l.length).reverse)) := Lib.hid (by rw [List.drop_length]; exact HS.out)
      go_loopw [9] (fun s9 wr => ∃ m : Nat, kk ≤ m ∧ m ≤ l.length ∧ s9 = .int .i64 ((m : Int) - 1) ∧ Hid (Two w wr pa S pb (addAll [] (l.drop m).reverse))) (fun s9 _ => (intOf s9 + 1).toNat)
      case atStart => exact ⟨l.length, HKL.out, Nat.le_refl _, by first | rfl | go_num, HT0⟩
      case round =>
        obtain ⟨m, hm1, hm2, rfl, HS⟩ := hrel
        by_cases hlt : kk < m
        · obtain ⟨m, rfl⟩ : ∃ m', m = m' + 1 := ⟨m - 1, by omega⟩
          have e1 : (((m + 1 : Nat) : Int) - 1) = (m : Int) := by omega
          rw [e1]
          have hd : decide ((kk : Int) ≤ (m : Int)) = true := by rw [decide_eq_true_eq]; omega
          have hd2 : decide (kk ≤ m) = true := by rw [decide_eq_true_eq]; omega
          have hlt' : (m : Int) < (l.length : Int) := by omega
          have hml : m < l.length := by omega
          have hkl : (m : Int) ≤ 300 := by omega
          obtain ⟨x, hx⟩ : ∃ x, l[m]? = some x := ⟨_, List.getElem?_eq_getElem hml⟩
          obtain ⟨rb, ro, rfl, hr⟩ := HARG.out m x hx
          have HRX := Lib.hid (hr wr HS.out.grew)
          have HIX := Lib.hid (info46 x)
          have HAD := Lib.hid (add_snd HS.out (addAll_okn _) x)
          rw [← addAll_snoc, ← drop_rev hx] at HAD
          have HLT := Lib.hid hlt
          clear hr hx hlt e1
          go_wp2_with (refine wpList_load_mid rfl 46 _ rfl rb (ro + m * 97) rfl (attCells x) _ HRX.out Tryd.underlying46 rfl HIX.out ?_)
          refine HAD.out.mono ?_
          rintro e w2 ⟨rfl, hs⟩
          have HS2 := Lib.hid hs
          clear hs
          go_wp2_with fail
          go_roundw
          case rel => exact ⟨m, by have := HLT.out; omega, by omega, by first | rfl | go_num, HS2⟩
          case measure => first | omega | (simp only [intOf]; omega) | (simp [intOf]; omega)
        · obtain rfl : m = kk := by omega
          have hd : decide ((m : Int) ≤ (m : Int) - 1) = false := by rw [decide_eq_false_iff_not]; omega
          have hS3 : Hid (Two w wr pa S pb (addAll [] (toldB l m m))) := Lib.hid (by rw [toldB_start]; exact HS.out)
          clear hlt hm1 hm2
          have hmk : (m : Int) ≤ 300 := by have := HKL.out; omega
          go_upto_region 17 with fail
          obtain ⟨wp, rfl⟩ : ∃ wp : World, wp = wr := ⟨_, rfl⟩
          go_loopw [10] (fun s10 wr => ∃ j : Nat, j ≤ m ∧ s10 = .int .i64 ((j : Int) - 1) ∧ Hid (Two w wr pa S pb (addAll [] (toldB l m j)))) (fun s10 _ => (intOf s10 + 1).toNat)
          case atStart => exact ⟨m, Nat.le_refl _, by first | rfl | go_num, hS3⟩
          case round =>
            obtain ⟨j, hj, rfl, HS⟩ := hrel
            by_cases hlt : 0 < j
            · obtain ⟨j, rfl⟩ : ∃ j', j = j' + 1 := ⟨j - 1, by omega⟩
              have e1 : (((j + 1 : Nat) : Int) - 1) = (j : Int) := by omega
              rw [e1]
              have hjm : j < m := by omega
              have hjl : j < l.length := by have := HKL.out; omega
              have hlt' : (j : Int) < (l.length : Int) := by omega
              have hkl : (j : Int) ≤ 300 := by omega
              have hd : decide ((0 : Int) ≤ (j : Int)) = true := by rw [decide_eq_true_eq]; omega
              obtain ⟨x, hx⟩ : ∃ x, l[j]? = some x := ⟨_, List.getElem?_eq_getElem hjl⟩
              obtain ⟨rb, ro, rfl, hr⟩ := HARG.out j x hx
              have HRX := Lib.hid (hr wr HS.out.grew)
              have HIX := Lib.hid (info46 x)
              have HAD := Lib.hid (add_snd HS.out (addAll_okn _) x)
              rw [← addAll_snoc, ← toldB_step hjm hx] at HAD
              clear hr hx hlt e1
              go_wp2_with (refine wpList_load_mid rfl 46 _ rfl rb (ro + j * 97) rfl (attCells x) _ HRX.out Tryd.underlying46 rfl HIX.out ?_)
              refine HAD.out.mono ?_
              rintro e w2 ⟨rfl, hs⟩
              have HS2 := Lib.hid hs
              clear hs
              go_wp2_with fail
              go_roundw
              case rel => exact ⟨j, by omega, by first | rfl | go_num, HS2⟩
              case measure => first | omega | (simp only [intOf]; omega) | (simp [intOf]; omega)
            · obtain rfl : j = 0 := by omega
              rw [← HEND.out] at HS
              clear hlt hj hS3
              have hs1 := sum_new HS.out.fst HOK.out [] none 0 (txt_none _) (by decide) (HS.out.fst.tabs HTB.out)
              have HS2 := Lib.hid (fun (v : World) (g : Chg none wr v) => sum_new (HS.out.snd.chg g) HOK.out [] none 0 (txt_none _) (by decide) ((HS.out.snd.chg g).tabs HTB.out))
              have HB1 := Lib.hid (fun (v : World) (g : Chg none wr v) => by
                have := below_new (HS.out.fst.chg g) HOK.out [] none 0 (txt_none _) (by decide)
                rwa [belowA_nil] at this)
              have HB2 := Lib.hid (fun (v : World) (g : Chg none wr v) => by
                have := below_new (HS.out.snd.chg g) HOK.out [] none 0 (txt_none _) (by decide)
                rwa [belowA_nil] at this)
              have hlS := HOK.out.len
              have hDl := sumD_len S []
              have HSM := Lib.hid hs1
              clear hs1
              unfold SumTold at HSM HS2
              rw [belowA_nil] at HSM HS2
              generalize sumD S [] = D at HSM HS2 hDl
              obtain ⟨DD, hDD⟩ : ∃ DD, DD = (byteVals D).toArray := ⟨_, rfl⟩
              rw [← hDD] at HSM HS2
              have HDD := Lib.hid hDD
              have HI30 : Hid ((Tryd.prog.info? 30).map (·.size) = some (byteVals D).length) := Lib.hid (by rw [byteVals_len, hDl]; show _ = _; kernel_rfl)
              have hg30 := guard30
              have hq : ∀ v : World, (binOp .eql 30 (.agg DD) (.agg DD)).run Tryd.prog v = .ok (.bool true) v := fun v => by rw [hDD, eql30 _ _ hDl hDl v]; simp
              clear hDD
              go_wp2_with fail
              refine HSM.out.mono ?_
              rintro e w3 ⟨rfl, g3⟩
              obtain ⟨W4, HW4, HZB4, HI4, HZ4, HO4, HG4, HR4⟩ := box30 w3 D hDl
              have HG34 := Lib.hid (g3.trans HG4.out)
              rw [← HDD.out] at HW4 HI4 HZ4 HO4
              clear g3 HSM HG4
              unfold zero32 at HW4 HZB4 HZ4
              go_upto_region 21 with (refine wpList_store_row rfl 30 _ _ rfl w3.heap.size DD rfl rfl 30 _ HZB4.out HI4.out HZ4.out HO4.out ?_; rw [← HW4.out])
              clear HW4 HZB4 HI4 HZ4 HO4
              generalize w3.heap.size = pd at *
              go_wp2_with fail
              refine (HS2.out _ HG34.out).mono ?_
              rintro e w5 ⟨rfl, g5⟩
              obtain ⟨W6, HW6, HZB6, HI6, HZ6, HO6, HG6, HR6⟩ := box30 w5 D hDl
              have HR4' := Lib.hid (fun (v : World) (g : Chg none W6 v) => HR4.out v ((g5.trans HG6.out).trans g))
              have HG36 := Lib.hid (HG34.out.trans (g5.trans HG6.out))
              rw [← HDD.out] at HW6 HI6 HZ6 HO6
              clear g5 HS2 HG6 HR4
              unfold zero32 at HW6 HZB6 HZ6
              go_upto_region 22 with (refine wpList_store_row rfl 30 _ _ rfl w5.heap.size DD rfl rfl 30 _ HZB6.out HI6.out HZ6.out HO6.out ?_; rw [← HW6.out])
              clear HW6 HZB6 HI6 HZ6 HO6
              generalize w5.heap.size = pe at *
              go_wp2_with fail
              refine (HB1.out _ HG36.out).mono ?_
              rintro e w7 ⟨A7, c7, rfl, hown7, g7⟩
              go_wp2_with fail
              refine (HB2.out _ (HG36.out.trans g7)).mono ?_
              rintro e w8 ⟨A8, c8, rfl, hown8, g8⟩
              have hsa := same52_any S S _ _ A7 A8 c7 c8 w8 (World.ownsRow.kept hown7 g8 (by cases (Value.slice A7 S.length c7).ownBlock <;> simp)) hown8 (by omega)
              rw [decide_eq_true rfl] at hsa
              have HSA := Lib.hid hsa
              have HG8 := Lib.hid (HS.out.grew.trans (HG36.out.trans (g7.trans g8)))
              have G68 := Lib.hid (g7.trans g8)
              clear hown7 hown8 g7 g8 hsa HB1 HB2
              go_wp2_with fail
              refine HSA.out.mono ?_
              rintro e w9 ⟨rfl, g9⟩
              have HRa := Lib.hid (HR4'.out w9 (G68.out.trans g9))
              have HRb := Lib.hid (HR6.out w9 (G68.out.trans g9))
              have HG9 := Lib.hid (HG8.out.trans g9)
              have HKX := Lib.hid (HKN.out w9 HG9.out)
              clear g9 HSA
              go_wp2_with (first
                | (refine wpList_load_mid_if rfl 30 _ rfl pd 0 rfl (byteVals D) _ HRa.out Tryd.underlying30 rfl HI30.out ?_; rw [← HDD.out])
                | (refine wpList_load_mid_if rfl 30 _ rfl pe 0 rfl (byteVals D) _ HRb.out Tryd.underlying30 rfl HI30.out ?_; rw [← HDD.out]))
              refine HKX.out.mono ?_
              rintro e w10 ⟨rfl, g10⟩
              go_wp2_with fail
              go_ret
              exact ⟨rfl, HG9.out.trans g10⟩

end Go.Proofs.YtkcammaccgkflaaDoor
