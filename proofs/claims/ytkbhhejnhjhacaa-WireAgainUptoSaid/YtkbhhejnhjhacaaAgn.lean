/-
  The law WireAgain: its walk.
-/
import Derived.Test.YtkbhhejnhjhacaaBnd
import Derived.Test.YtkbhhejnhjhacaaP
namespace Go.Proofs.Ytkbhhejnhjhacaa
open Go.RowKit

set_option maxRecDepth 100000 in
set_option maxHeartbeats 8000000 in
theorem again_main (ra : Row) (n : Nat) (rx : Row) (Al : Option Addr) (L : List Row) (cl : Nat) (rr : Row) (w : World) (ha : ra.okAt w w.heap.size) (hn : n < 18446744073709551616) (hx : rx.okAt w w.heap.size)
    (hL : RowsIn w w.heap.size Al L) (hr : rr.okAt w w.heap.size) (h1 : ra.bs.length ≤ 1048576) (h2 : rx.bs.length ≤ 1048576) (h3 : rr.bs.length ≤ 1048576) (h4 : rowsLen L ≤ 1048576) :
    Calls Try.prog 5 #[.slice ra.A ra.bs.length ra.c, .int .u64 n, .slice rx.A rx.bs.length rx.c, .slice Al L.length cl, .slice rr.A rr.bs.length rr.c] w fun e w' => e = .returned (.bool true) ∧ Chg none w w' := by
  obtain ⟨i0, hi, hz0, hz1, hz2⟩ := info_parts Try.info5
  have HS := Lib.hid (size_any Al L cl w.heap.size w hL (by omega))
  obtain ⟨aA, ac, ab⟩ := ra
  obtain ⟨xA, xc, xb⟩ := rx
  obtain ⟨rA, rc, rb⟩ := rr
  dsimp only at *
  by_cases hbig : 2000 < ab.length + xb.length + rb.length + rowsLen L
  · have hb : (2000 : Int) < (ab.length : Int) + (xb.length : Int) + (rb.length : Int) + ((rowsLen L : Nat) : Int) := by omega
    clear hL ha hx hr
    go_enter Try.func5, Try.ntmps5
    go_wp2_with fail
    refine HS.out.mono ?_
    rintro e w' ⟨rfl, rfl⟩
    go_wp2_with fail
    refine (known_any _).mono ?_
    rintro e w1 ⟨rfl, g1⟩
    go_wp2_with fail
    go_ret
    exact ⟨rfl, g1⟩
  · have hb : (ab.length : Int) + (xb.length : Int) + (rb.length : Int) + ((rowsLen L : Nat) : Int) ≤ 2000 := by omega
    have hll := rowsLen_ge L
    have HL := Lib.hid hL
    have HX := Lib.hid hx
    have HR := Lib.hid hr
    have HU := Lib.hid (appendUint_any aA ab ac n w ha.nil ha.reads (by omega) hn)
    have hf9 := nb_le n hn
    have hfl := form_len n
    have hrl := row_len xb (by omega)
    have HFL := Lib.hid hfl
    clear hL ha hx hr hfl
    go_enter Try.func5, Try.ntmps5
    go_wp2_with fail
    refine HS.out.mono ?_
    rintro e w' ⟨rfl, rfl⟩
    go_wp2_with fail
    refine HU.out.mono ?_
    rintro e w1 ⟨A1, n1, c1, rfl, hn1, hown1, hb1⟩
    obtain ⟨b1, hB1⟩ : ∃ b1, b1 = ab ++ form n := ⟨_, rfl⟩
    rw [← hB1] at hn1 hown1
    subst hn1
    have hs1 := hb1.size
    have hl1 : b1.length = ab.length + (nb n + 1) := by rw [hB1, List.length_append, HFL.out]
    have HL1 := Lib.hid hl1
    have HE1 := Lib.hid hB1
    have HB1 := Lib.hid (appendBytes_any A1 b1 c1 xA xb xc w1 (own_nilOk hown1) (Reads.of_own hown1) ((HX.out.reads.below hb1).more hs1) (by omega) (by omega))
    clear hown1 hB1 hl1
    go_wp2_with fail
    refine HB1.out.mono ?_
    rintro e w2 ⟨A2, n2, c2, rfl, hn2, hown2, hb2⟩
    obtain ⟨b2, hB2⟩ : ∃ b2, b2 = b1 ++ row xb := ⟨_, rfl⟩
    rw [← hB2] at hn2 hown2
    subst hn2
    have hs2 := hb2.size
    have hl2 : b2.length = b1.length + (row xb).length := by rw [hB2, List.length_append]
    have HL2 := Lib.hid hl2
    have HE2 := Lib.hid hB2
    have hb02 : Below w.heap.size w w2 := hb1.trans (hb2.mono hs1)
    have HLI := Lib.hid (appendList_any A2 b2 c2 Al L cl w2 (own_nilOk hown2) (Reads.of_own hown2) ((HL.out.below hb02).more (by omega)) (by have := HL1.out; omega) (by omega))
    clear hown2 HB1 hB2 hl2
    go_wp2_with fail
    refine HLI.out.mono ?_
    rintro e w3 ⟨A3, n3, c3, rfl, hn3, hown3, hb3⟩
    obtain ⟨b3, hB3⟩ : ∃ b3, b3 = b2 ++ listForm L := ⟨_, rfl⟩
    rw [← hB3] at hn3 hown3
    subst hn3
    have hs3 := hb3.size
    have hb03 : Below w.heap.size w w3 := hb02.trans (hb3.mono (by omega))
    have hlf : (listForm L).length ≤ 20000 := by
      have h1 := flat_len_le L (by omega)
      have h2 := nb_le L.length (by omega)
      unfold listForm
      rw [List.length_append, form_len]; omega
    have hl3 : b3.length = b2.length + (listForm L).length := by rw [hB3, List.length_append]
    have hl39 : b3.length ≤ 100000 := by have := HL1.out; have := HL2.out; omega
    have HL3 := Lib.hid hl3
    have HE3 := Lib.hid hB3
    have hown : (w3.alloc (.cells #[] 5 (0, 0))).ownsRow w3.heap.size 5 1 (.slice (some ⟨w3.heap.size, 0, none⟩) 0 0) 0 [] := by
      refine ⟨rfl, .inr ⟨w3.heap.size, 0, #[], rfl, Nat.le_refl _, Blk.new w3 _ 5, ?_⟩⟩
      simp
    have HOWN := Lib.hid hown
    have HO3 := Lib.hid (byteVals_one b3)
    have HOR := Lib.hid (byteVals_one rb)
    have HR3 := Lib.hid ((Reads.of_own hown3).alloc (Nat.le_refl _) (.cells #[] 5 (0, 0)))
    have HN3 := Lib.hid (own_nilOk hown3)
    have HRR := Lib.hid ((HR.out.reads.below hb03).more (show w.heap.size ≤ w3.heap.size by omega))
    clear hown hown3 hB3 hl3 HLI HU
    go_wp2_with (first
      | (at_builtin; refine wpList_append_any _ rfl (.tmp 40) (.tmp 41) 22 rfl w3.heap.size 5 i0 (.int .u8 0) 1 1 Try.underlying22 hi hz0 hz1 hz2 rfl (by decide) _ 0 [] rfl HOWN.out w3.heap.size A3 b3.length c3 (byteVals b3) rfl HR3.out HO3.out (by unfold maxLen; omega) (by omega) (by simp) ?_)
      | fail)
    intro v4 w4 hown4 hgr4 _
    obtain ⟨A4, c4, rfl⟩ := own_slice hown4
    have hb4 : Below w3.heap.size w3 w4 := ((Below.refl _ _).alloc (Nat.le_refl _) _).grown hgr4 (by simp) (fun g hg => (HOWN.out.lt g hg).1)
    try simp only [Nat.zero_add, List.nil_append] at hown4
    have HOWN4 := Lib.hid hown4
    have HRR4 := Lib.hid (HRR.out.below hb4)
    have hs4 := hb4.size
    clear hown4 hgr4
    go_wp2_with (first
      | (at_builtin; refine wpList_append_any _ rfl (.tmp 42) (.tmp 43) 22 rfl w3.heap.size 5 i0 (.int .u8 0) 1 1 Try.underlying22 hi hz0 hz1 hz2 rfl (by decide) _ b3.length (byteVals b3) rfl HOWN4.out w3.heap.size rA rb.length rc (byteVals rb) rfl HRR4.out HOR.out (by unfold maxLen; omega) (by omega) hs4 ?_)
      | fail)
    intro v5 w5 hown5 hgr5 _
    obtain ⟨A5, c5, rfl⟩ := own_slice hown5
    have hb5 : Below w3.heap.size w3 w5 := hb4.grown hgr5 hs4 (fun g hg => (HOWN4.out.lt g hg).1)
    rw [byteVals_append] at hown5
    have hs5 := hb5.size
    have hb05 : Below w.heap.size w w5 := hb03.trans (hb5.mono (by omega))
    obtain ⟨all, hall⟩ : ∃ all, all = b3 ++ rb := ⟨_, rfl⟩
    have hla : b3.length + rb.length = all.length := by rw [hall, List.length_append]
    rw [← hall, hla] at hown5
    rw [hla]
    have HALL := Lib.hid hall
    have hla9 : all.length ≤ 200000 := by omega
    have hrd := Reads.of_own hown5
    have hcap := own_capN hown5
    have hU := uint_any A5 all c5 ab.length w5 hrd hcap (by omega)
    have e1 : all = ab ++ (form n ++ (row xb ++ listForm L ++ rb)) := by rw [HALL.out, HE3.out, HE2.out, HE1.out]; simp only [List.append_assoc]
    have e2 : all = b1 ++ (row xb ++ (listForm L ++ rb)) := by rw [HALL.out, HE3.out, HE2.out]; simp only [List.append_assoc]
    have e3 : all = b2 ++ (listForm L ++ rb) := by rw [HALL.out, HE3.out]; simp only [List.append_assoc]
    have q1 : readU all ab.length = (n, (b1.length : Int), 0) := by rw [e1, readU_form _ _ _ hn, HE1.out, List.length_append]
    have q2 : readB all b1.length xb.length = (xb, (b2.length : Int), 0) := by rw [e2, readB_row _ _ _ _ (by omega), if_pos (by omega), HE2.out, List.length_append]
    have q3 : readL all b2.length L.length 2000 = (L.map Row.bs, (b3.length : Int), 0) := by
      rw [e3, readL_list _ _ _ _ _ (fun r hr => by have := rowsLen_mem L r hr; omega) (by omega), if_pos ⟨by omega, fun r hr => by have := rowsLen_mem L r hr; omega⟩, HE3.out, List.length_append]
    rw [q1] at hU
    have HUI := Lib.hid hU
    have hB := bytes_any A5 all c5 b1.length xb.length w5 hrd hcap (by omega) (by omega)
    rw [q2] at hB
    have HBY := Lib.hid hB
    have HRD := Lib.hid hrd
    have HQ3 := Lib.hid q3
    clear hU hB hall hla hown5 hgr5 hrd e1 e2 e3 q1 q2 q3 HOWN4 HRR4 HRR HR3 HOWN HO3 HOR
    go_wp2_with fail
    refine HUI.out.mono ?_
    rintro e w' ⟨rfl, rfl⟩
    go_wp2_with fail
    refine HBY.out.mono ?_
    rintro e w6 ⟨A6, n6, c6, rfl, hn6, hown6, hb6⟩
    dsimp only at hn6 hown6
    have hs6 := hb6.size
    have cv6 := conv_own _ hown6
    have hb06 : Below w.heap.size w w6 := hb05.trans (hb6.mono (by omega))
    have cvx := conv_reads w6 (c := xc) (HX.out.reads.below hb06)
    have hLi := list_any A5 all c5 b2.length L.length 2000 w6 ((HRD.out.below hb6).more hs6) hcap (by omega) (by omega) (by omega)
    rw [HQ3.out] at hLi
    have HLI := Lib.hid hLi
    clear hn6 hown6 hLi HUI HBY
    go_wp2_with fail
    refine HLI.out.mono ?_
    rintro e w7 ⟨A7, n7, c7, rows7, rfl, hr7, hg7, hb7⟩
    dsimp only at hr7
    have hs7 := hb7.size
    have hb07 : Below w.heap.size w w7 := hb06.trans (hb7.mono (by omega))
    obtain rfl : n7 = rows7.length := hg7.len
    have hsm := same_any A7 Al rows7 L c7 cl w7.heap.size w7 (Nat.le_refl _) hg7.rowsIn ((HL.out.below hb07).more (by omega)) (own_max hg7.list) (by omega)
    rw [hr7, decide_eq_true rfl] at hsm
    have HSM := Lib.hid hsm
    clear hsm hr7 hg7 HLI cv6 cvx
    go_wp2_with fail
    refine HSM.out.mono ?_
    rintro e w8 ⟨rfl, g8⟩
    go_wp2_with fail
    refine (known_any _).mono ?_
    rintro e w9 ⟨rfl, g9⟩
    go_wp2_with fail
    go_ret
    exact ⟨rfl, ((show Chg none w w7 from ⟨hb07.os, hb07.tape, hb07.output, hb07.size, fun i hi _ => hb07.block i hi⟩).trans g8).trans g9⟩

end Go.Proofs.Ytkbhhejnhjhacaa
