/-
  The document's program: Bytes.
-/
import Derived.Test.YtglfakglcoffkaaDoorBW
import Derived.Test.YtglfakglcoffkaaDoorPZ
import Derived.Lib.AppendStr
namespace Go.Proofs.YtglfakglcoffkaaDoor
open Go.RowKit


set_option maxHeartbeats 32000000 in
set_option maxRecDepth 100000 in
theorem refbytes_any (L : List Ins) (A : Option Addr) (c : Nat) (w : World) (hr : RowsAt w 6 A insCells L) (hm : mayB L = true) :
    Calls Tryd.prog 40 #[.slice A L.length c] w fun e w' => ∃ A' n c', e = .returned (.slice A' n c') ∧ ByAt w w' A' n c' (progB L) := by
  obtain ⟨i0, hi, hz0, hz1, hz2⟩ := info_parts Tryd.info5
  have hl : L.length ≤ 30 := (mayB_small hm).1
  have HSM := Lib.hid (mayB_small hm).2
  have HR : Hid (∀ v, Chg none w v → RowsAt v 6 A insCells L) := fun v g => hr.chg g
  have HPL : Hid (∀ k, (partB L k).length ≤ 10000) := partB_len hm
  have HFO : Hid (∀ (m : Nat) (v : World), m < 18446744073709551616 → Calls Tryd.prog 67 #[.int .u64 m] v fun e w' => ∃ A n c, e = .returned (.slice A n c) ∧ n = (form m).length ∧ Reads w' w'.heap.size 1 A n (byteVals (form m)) ∧ Chg none v w') :=
    fun m v h => (refForm_any m v h).mono fun e w' hp => post_chg hp
  have HOB : Hid (∀ x : List UInt8, ∀ u ∈ byteVals x, u.oneCell' = true) := fun x => byteVals_one x
  clear hr hm
  have hwl : IntKind.u64.wrap (L.length : Int) = (L.length : Int) := by rw [IntKind.wrap_u64]; omega
  have HF1 := Lib.hid (refForm_any L.length w (by omega))
  go_enter Tryd.func40, Tryd.ntmps40
  go_wp2_with fail
  refine HF1.out.mono ?_
  rintro e w2 hp2
  obtain ⟨A2, n2, c2, rfl, hb2, -⟩ := ByAt.of_post hp2 (Chg.refl none w)
  have B2 : Hid (ByAt w w2 A2 n2 c2 (partB L 0)) := by
    show ByAt _ _ _ _ _ _
    have e : partB L 0 = form L.length := by unfold partB; simp
    rw [e]; exact hb2
  clear hb2 hp2 HF1 hwl
  go_wp2_with fail
  go_loopw [3, 4] (fun s3 s4 wr => ∃ (k : Nat) (A1 : Option Addr) (n1 c1 : Nat), s4 = .int .i64 k ∧ s3 = .slice A1 n1 c1 ∧ Hid (k ≤ L.length) ∧ Hid (ByAt w wr A1 n1 c1 (partB L k))) (fun _ s4 _ => L.length - (intOf s4).toNat)
  case atStart => exact ⟨0, A2, n2, c2, rfl, rfl, Lib.hid (Nat.zero_le _), B2⟩
  case round =>
    obtain ⟨k, A1, n1, c1, rfl, rfl, H1, H2⟩ := hrel
    by_cases hlt : k < L.length
    · have hd : decide ((k : Int) < (L.length : Int)) = true := by rw [decide_eq_true_eq]; omega
      obtain ⟨x, hkx⟩ : ∃ x, L[k]? = some x := ⟨_, List.getElem?_eq_getElem hlt⟩
      have hne : L ≠ [] := by intro e; subst e; simp at hlt
      have HRW := Lib.hid (HR.out wr H2.out.2.2)
      obtain ⟨b, off, rfl, -, -⟩ := HRW.out hne
      obtain ⟨hb, x0, x1, x2, x3, x4, x5⟩ := HRW.out.six hkx
      have HLT := Lib.hid hlt
      have HSX := Lib.hid (HSM.out x (List.mem_of_getElem? hkx))
      have HPS := Lib.hid (partB_succ hkx)
      obtain ⟨V0, hV⟩ : ∃ V0, V0 = wr := ⟨_, rfl⟩
      rw [← hV] at hb x0 x1 x2 x3 x4 x5 H2 ⊢
      clear hV hkx hne HRW HR hlt HSM B2
      obtain ⟨op, sa, sb, sc, xn, xm⟩ := x
      dsimp only at x0 x1 x2 x3 x4 x5
      obtain ⟨xN, rfl⟩ : ∃ xN : Nat, xn = xN := ⟨xn.toNat, by have := HSX.out.n; dsimp only at this; omega⟩
      obtain ⟨xM, rfl⟩ : ∃ xM : Nat, xm = xM := ⟨xm.toNat, by have := HSX.out.m; dsimp only at this; omega⟩
      have hopw : IntKind.u64.wrap (op : Int) = (op : Int) := by have := HSX.out.op; dsimp only at this; rw [IntKind.wrap_u64]; omega
      have HLA : Hid (sa.length ≤ 40) := HSX.out.a
      have HLB : Hid (sb.length ≤ 40) := HSX.out.b
      have HLC : Hid (sc.length ≤ 40) := HSX.out.c
      have HXN : Hid ((xN : Int) ≤ 2000) := HSX.out.n.2
      have HXM : Hid ((xM : Int) ≤ 2000) := HSX.out.m.2
      have HOP : Hid (op ≤ 11) := HSX.out.op
      have HBN : Hid (∀ j, (partB L k ++ (form op ++ ([sa, sb, sc].take j).flatMap row)).length ≤ 10200) := fun j => by
        have h1 := HPL.out k
        have h2 := form_small op (by have := HOP.out; omega)
        have h3 := row_len sa (by have := HLA.out; omega)
        have h4 := row_len sb (by have := HLB.out; omega)
        have h5 := row_len sc (by have := HLC.out; omega)
        have h6 := HLA.out
        have h7 := HLB.out
        have h8 := HLC.out
        have hfl : (([sa, sb, sc].take j).flatMap row).length ≤ 160 := by
          rcases (show j = 0 ∨ j = 1 ∨ j = 2 ∨ 3 ≤ j by omega) with rfl | rfl | rfl | hj
          · simp
          · simp only [List.take_succ_cons, List.take_zero, List.flatMap_cons, List.flatMap_nil, List.length_append, List.length_nil]; omega
          · simp only [List.take_succ_cons, List.take_zero, List.flatMap_cons, List.flatMap_nil, List.length_append, List.length_nil]; omega
          · rw [List.take_of_length_le (by simpa using hj)]
            simp only [List.flatMap_cons, List.flatMap_nil, List.length_append, List.length_nil]; omega
        simp only [List.length_append]
        omega
      go_upto_region 6 with fail
      have HG0 : Hid (Chg none V0 (V0.alloc (.cells #[.int .u8 op, .string ⟨sa.toArray⟩, .string ⟨sb.toArray⟩, .string ⟨sc.toArray⟩, .int .i64 (xN : Nat), .int .i64 (xM : Nat)] 61))) := (Chg.refl _ _).alloc _
      have HX0 : Hid (Blk (V0.alloc (.cells #[.int .u8 op, .string ⟨sa.toArray⟩, .string ⟨sb.toArray⟩, .string ⟨sc.toArray⟩, .int .i64 (xN : Nat), .int .i64 (xM : Nat)] 61)) V0.heap.size #[.int .u8 op, .string ⟨sa.toArray⟩, .string ⟨sb.toArray⟩, .string ⟨sc.toArray⟩, .int .i64 (xN : Nat), .int .i64 (xM : Nat)] 61) := blk_newAt _ _ _ rfl
      generalize V0.alloc (.cells #[.int .u8 op, .string ⟨sa.toArray⟩, .string ⟨sb.toArray⟩, .string ⟨sc.toArray⟩, .int .i64 (xN : Nat), .int .i64 (xM : Nat)] 61) = W0 at *
      have B0 : Hid (ByAt w W0 A1 n1 c1 (partB L k)) := H2.out.chg HG0.out
      have BX := HX0
      have q0 : W0.cell? ⟨V0.heap.size, 0, none⟩ = some (.int .u8 op) := HX0.out.cell 0
      have HN0 : Hid (n1 ≤ 10000) := by have := HPL.out k; show _ ≤ _; rw [B0.out.1]; omega
      clear HX0 HG0 x0 x1 x2 x3 x4 x5 hb H2
      generalize V0.heap.size = PX at *
      have HFm := Lib.hid (HFO.out op W0 (by have := HOP.out; omega))
      go_wp2_with fail
      refine HFm.out.mono ?_
      rintro e v3 ⟨Af, nf, cf, rfl, hnf, hrf, hgf⟩
      have HBf := Lib.hid (B0.out.chg hgf)
      have HRf := Lib.hid hrf
      have HOf := Lib.hid (HOB.out (form op))
      have hfs := form_small op (by have := HOP.out; omega)
      have HNf : Hid (nf ≤ 9) := by show _ ≤ _; rw [hnf]; exact hfs
      have HSf : Hid (w.heap.size ≤ v3.heap.size) := HBf.out.2.2.size
      have HEf := Lib.hid hnf
      have BXf := Lib.hid (BX.out.chg hgf (by simp))
      clear BX
      clear hnf hrf hgf hfs HFm
      go_wp2_with (at_builtin; refine wpList_append_any _ rfl (.tmp 22) (.tmp 26) 22 rfl w.heap.size 5 i0 (.int .u8 0) 1 1 Tryd.underlying22 hi hz0 hz1 hz2 rfl (by decide) _ n1 (byteVals (partB L k)) rfl HBf.out.2.1 _ Af nf cf (byteVals (form op)) rfl HRf.out HOf.out (by have := HNf.out; have := HN0.out; unfold maxLen; omega) (by have := HNf.out; have := HN0.out; omega) HSf.out ?_)
      intro vv w3 hown hgr _
      obtain ⟨A3, c3, rfl⟩ := own_slice hown
      have B3 := Lib.hid (HBf.out.app HEf.out hown hgr)
      have BX := Lib.hid (BXf.out.past (by decide) HBf.out.2.1 hgr)
      clear BXf
      clear HBf HRf HOf HSf HEf hown hgr
      have HN3 : Hid (n1 + nf ≤ 10009) := by have := HNf.out; have := HN0.out; show _ ≤ _; omega
      obtain ⟨n3, hnk⟩ : ∃ n3, n3 = n1 + nf := ⟨_, rfl⟩
      rw [← hnk] at B3 HN3
      try rw [← hnk]
      clear hnk HNf
      have B3 : Hid (ByAt w w3 A3 n3 c3 (partB L k ++ (form op ++ ([sa, sb, sc].take 0).flatMap row))) := by
        show ByAt _ _ _ _ _ _
        simpa using B3.out
      have q1 : w3.cell? ⟨PX, 1, none⟩ = some (.string ⟨sa.toArray⟩) := BX.out.cell 1
      have q2 : w3.cell? ⟨PX, 2, none⟩ = some (.string ⟨sb.toArray⟩) := BX.out.cell 2
      have q3 : w3.cell? ⟨PX, 3, none⟩ = some (.string ⟨sc.toArray⟩) := BX.out.cell 3
      clear q0 hopw HN0
      go_upto_region 9 with fail
      have HB4 : Hid (ByAt w (w3.alloc (.cells #[.string ⟨sa.toArray⟩, .string ⟨sb.toArray⟩, .string ⟨sc.toArray⟩] 9)) A3 n3 c3 (partB L k ++ (form op ++ ([sa, sb, sc].take 0).flatMap row))) := B3.out.chg ((Chg.refl _ _).alloc _)
      have BX : Hid (Blk (w3.alloc (.cells #[.string ⟨sa.toArray⟩, .string ⟨sb.toArray⟩, .string ⟨sc.toArray⟩] 9)) PX #[.int .u8 op, .string ⟨sa.toArray⟩, .string ⟨sb.toArray⟩, .string ⟨sc.toArray⟩, .int .i64 (xN : Nat), .int .i64 (xM : Nat)] 61) := BX.out.alloc _
      have BS : Hid (Blk (w3.alloc (.cells #[.string ⟨sa.toArray⟩, .string ⟨sb.toArray⟩, .string ⟨sc.toArray⟩] 9)) w3.heap.size #[.string ⟨sa.toArray⟩, .string ⟨sb.toArray⟩, .string ⟨sc.toArray⟩] 9) := blk_newAt _ _ _ rfl
      generalize w3.alloc (.cells #[.string ⟨sa.toArray⟩, .string ⟨sb.toArray⟩, .string ⟨sc.toArray⟩] 9) = W4 at *
      clear q1 q2 q3 B3
      generalize w3.heap.size = PS at *
      go_loopw [3, 7] (fun s3 s7 wq => ∃ (j : Nat) (A4 : Option Addr) (n4 c4 : Nat), s7 = .int .i64 j ∧ s3 = .slice A4 n4 c4 ∧ Hid (j ≤ 3) ∧ Hid (ByAt w wq A4 n4 c4 (partB L k ++ (form op ++ ([sa, sb, sc].take j).flatMap row))) ∧ Hid (Blk wq PX #[.int .u8 op, .string ⟨sa.toArray⟩, .string ⟨sb.toArray⟩, .string ⟨sc.toArray⟩, .int .i64 (xN : Nat), .int .i64 (xM : Nat)] 61) ∧ Hid (Blk wq PS #[.string ⟨sa.toArray⟩, .string ⟨sb.toArray⟩, .string ⟨sc.toArray⟩] 9)) (fun _ s7 _ => 3 - (intOf s7).toNat)
      case atStart => exact ⟨0, A3, n3, c3, rfl, rfl, Lib.hid (by decide), HB4, BX, BS⟩
      case round =>
        clear HB4 BX BS
        obtain ⟨j, A4, n4, c4, rfl, rfl, J1, J2, BX, BS⟩ := hrel
        have hj3 := J1.out
        have HN4 : Hid (n4 ≤ 10200) := by have := HBN.out j; show _ ≤ _; rw [J2.out.1]; exact this
        rcases (show j = 0 ∨ j = 1 ∨ j = 2 ∨ j = 3 by omega) with rfl | rfl | rfl | hje
        · clear hj3
          have hwq : IntKind.u64.wrap (sa.length : Int) = (sa.length : Int) := by have := HLA.out; rw [IntKind.wrap_u64]; omega
          obtain ⟨BB, HBB⟩ : ∃ BB, Hid (BB = partB L k ++ (form op ++ ([sa, sb, sc].take 0).flatMap row)) := ⟨_, Lib.hid rfl⟩
          have J2 : Hid (ByAt w wr A4 n4 c4 BB) := by show ByAt _ _ _ _ _ _; rw [HBB.out]; exact J2.out
          have r1 : wr.cell? ⟨PS, 0, none⟩ = some (.string ⟨sa.toArray⟩) := BS.out.cell 0
          have HFm := Lib.hid (HFO.out sa.length wr (by have := HLA.out; omega))
          go_wp2_with fail
          refine HFm.out.mono ?_
          rintro e v5 ⟨Af, nf, cf, rfl, hnf, hrf, hgf⟩
          have HBf := Lib.hid (J2.out.chg hgf)
          have HRf := Lib.hid hrf
          have HOf := Lib.hid (HOB.out (form sa.length))
          have hfs := form_small sa.length (by have := HLA.out; omega)
          have HNf : Hid (nf ≤ 9) := by show _ ≤ _; rw [hnf]; exact hfs
          have HSf : Hid (w.heap.size ≤ v5.heap.size) := HBf.out.2.2.size
          have HEf := Lib.hid hnf
          have BXf := Lib.hid (BX.out.chg hgf (by simp))
          have BSf := Lib.hid (BS.out.chg hgf (by simp))
          clear BS
          clear BX
          clear hnf hrf hgf hfs HFm
          go_wp2_with (at_builtin; refine wpList_append_any _ rfl (.tmp 39) (.tmp 46) 22 rfl w.heap.size 5 i0 (.int .u8 0) 1 1 Tryd.underlying22 hi hz0 hz1 hz2 rfl (by decide) _ n4 (byteVals (BB)) rfl HBf.out.2.1 _ Af nf cf (byteVals (form sa.length)) rfl HRf.out HOf.out (by have := HNf.out; have := HN4.out; unfold maxLen; omega) (by have := HNf.out; have := HN4.out; omega) HSf.out ?_)
          intro vv w5 hown hgr _
          obtain ⟨A5, c5, rfl⟩ := own_slice hown
          have B5 := Lib.hid (HBf.out.app HEf.out hown hgr)
          have BX := Lib.hid (BXf.out.past (by decide) HBf.out.2.1 hgr)
          have BS := Lib.hid (BSf.out.past (by decide) HBf.out.2.1 hgr)
          clear BSf
          clear BXf
          clear HBf HRf HOf HSf HEf hown hgr
          have HN5 : Hid (n4 + nf ≤ 10209) := by have := HNf.out; have := HN4.out; show _ ≤ _; omega
          obtain ⟨n5, hnk⟩ : ∃ n5, n5 = n4 + nf := ⟨_, rfl⟩
          rw [← hnk] at B5 HN5
          try rw [← hnk]
          clear hnk HNf
          have r2 : w5.cell? ⟨PS, 0, none⟩ = some (.string ⟨sa.toArray⟩) := BS.out.cell 0
          have hsx : (⟨sa.toArray⟩ : ByteArray).size = sa.length := List.size_toArray
          have HSZ := Lib.hid B5.out.2.2.size
          clear r1 hwq
          go_wp2_with (at_builtin; refine Lib.wpList_append_own_string _ rfl (.tmp 48) (.tmp 52) 22 9 rfl w.heap.size 5 i0 Tryd.underlying22 Tryd.underlying9 hi hz0 hz1 hz2 _ n5 _ rfl B5.out.2.1 ⟨sa.toArray⟩ rfl (by rw [hsx]; have := HN5.out; have := HLA.out; unfold maxLen; omega) (by rw [hsx]; have := HN5.out; have := HLA.out; omega) HSZ.out ?_)
          intro vv w6 hown hgr _
          obtain ⟨A6, c6, rfl⟩ := own_slice hown
          have BX := Lib.hid (BX.out.past (by decide) B5.out.2.1 hgr)
          have BS := Lib.hid (BS.out.past (by decide) B5.out.2.1 hgr)
          try simp only [hsx] at hown ⊢
          try rw [strCells_bytes] at hown
          have B6 : Hid (ByAt w w6 A6 (n5 + sa.length) c6 (partB L k ++ (form op ++ ([sa, sb, sc].take 1).flatMap row))) := by
            have h := B5.out.app rfl hown hgr
            show ByAt _ _ _ _ _ _
            rw [HBB.out] at h
            simpa [row] using h
          obtain ⟨n6, hn6⟩ : ∃ n6, n6 = n5 + sa.length := ⟨_, rfl⟩
          rw [← hn6] at B6
          try rw [← hn6]
          clear hown hgr hn6 r2 hsx HSZ B5 HN5 J2 HN4
          go_wp2_with fail
          go_roundw
          case rel => exact ⟨1, A6, n6, c6, by first | rfl | (simp; done), rfl, Lib.hid (by decide), B6, BX, BS⟩
          case measure => first | omega | (simp only [intOf]; omega) | (simp [intOf]; done)
        · clear hj3
          have hwq : IntKind.u64.wrap (sb.length : Int) = (sb.length : Int) := by have := HLB.out; rw [IntKind.wrap_u64]; omega
          obtain ⟨BB, HBB⟩ : ∃ BB, Hid (BB = partB L k ++ (form op ++ ([sa, sb, sc].take 1).flatMap row)) := ⟨_, Lib.hid rfl⟩
          have J2 : Hid (ByAt w wr A4 n4 c4 BB) := by show ByAt _ _ _ _ _ _; rw [HBB.out]; exact J2.out
          have r1 : wr.cell? ⟨PS, 1, none⟩ = some (.string ⟨sb.toArray⟩) := BS.out.cell 1
          have HFm := Lib.hid (HFO.out sb.length wr (by have := HLB.out; omega))
          go_wp2_with fail
          refine HFm.out.mono ?_
          rintro e v5 ⟨Af, nf, cf, rfl, hnf, hrf, hgf⟩
          have HBf := Lib.hid (J2.out.chg hgf)
          have HRf := Lib.hid hrf
          have HOf := Lib.hid (HOB.out (form sb.length))
          have hfs := form_small sb.length (by have := HLB.out; omega)
          have HNf : Hid (nf ≤ 9) := by show _ ≤ _; rw [hnf]; exact hfs
          have HSf : Hid (w.heap.size ≤ v5.heap.size) := HBf.out.2.2.size
          have HEf := Lib.hid hnf
          have BXf := Lib.hid (BX.out.chg hgf (by simp))
          have BSf := Lib.hid (BS.out.chg hgf (by simp))
          clear BS
          clear BX
          clear hnf hrf hgf hfs HFm
          go_wp2_with (at_builtin; refine wpList_append_any _ rfl (.tmp 39) (.tmp 46) 22 rfl w.heap.size 5 i0 (.int .u8 0) 1 1 Tryd.underlying22 hi hz0 hz1 hz2 rfl (by decide) _ n4 (byteVals (BB)) rfl HBf.out.2.1 _ Af nf cf (byteVals (form sb.length)) rfl HRf.out HOf.out (by have := HNf.out; have := HN4.out; unfold maxLen; omega) (by have := HNf.out; have := HN4.out; omega) HSf.out ?_)
          intro vv w5 hown hgr _
          obtain ⟨A5, c5, rfl⟩ := own_slice hown
          have B5 := Lib.hid (HBf.out.app HEf.out hown hgr)
          have BX := Lib.hid (BXf.out.past (by decide) HBf.out.2.1 hgr)
          have BS := Lib.hid (BSf.out.past (by decide) HBf.out.2.1 hgr)
          clear BSf
          clear BXf
          clear HBf HRf HOf HSf HEf hown hgr
          have HN5 : Hid (n4 + nf ≤ 10209) := by have := HNf.out; have := HN4.out; show _ ≤ _; omega
          obtain ⟨n5, hnk⟩ : ∃ n5, n5 = n4 + nf := ⟨_, rfl⟩
          rw [← hnk] at B5 HN5
          try rw [← hnk]
          clear hnk HNf
          have r2 : w5.cell? ⟨PS, 1, none⟩ = some (.string ⟨sb.toArray⟩) := BS.out.cell 1
          have hsx : (⟨sb.toArray⟩ : ByteArray).size = sb.length := List.size_toArray
          have HSZ := Lib.hid B5.out.2.2.size
          clear r1 hwq
          go_wp2_with (at_builtin; refine Lib.wpList_append_own_string _ rfl (.tmp 48) (.tmp 52) 22 9 rfl w.heap.size 5 i0 Tryd.underlying22 Tryd.underlying9 hi hz0 hz1 hz2 _ n5 _ rfl B5.out.2.1 ⟨sb.toArray⟩ rfl (by rw [hsx]; have := HN5.out; have := HLB.out; unfold maxLen; omega) (by rw [hsx]; have := HN5.out; have := HLB.out; omega) HSZ.out ?_)
          intro vv w6 hown hgr _
          obtain ⟨A6, c6, rfl⟩ := own_slice hown
          have BX := Lib.hid (BX.out.past (by decide) B5.out.2.1 hgr)
          have BS := Lib.hid (BS.out.past (by decide) B5.out.2.1 hgr)
          try simp only [hsx] at hown ⊢
          try rw [strCells_bytes] at hown
          have B6 : Hid (ByAt w w6 A6 (n5 + sb.length) c6 (partB L k ++ (form op ++ ([sa, sb, sc].take 2).flatMap row))) := by
            have h := B5.out.app rfl hown hgr
            show ByAt _ _ _ _ _ _
            rw [HBB.out] at h
            simpa [row] using h
          obtain ⟨n6, hn6⟩ : ∃ n6, n6 = n5 + sb.length := ⟨_, rfl⟩
          rw [← hn6] at B6
          try rw [← hn6]
          clear hown hgr hn6 r2 hsx HSZ B5 HN5 J2 HN4
          go_wp2_with fail
          go_roundw
          case rel => exact ⟨2, A6, n6, c6, by first | rfl | (simp; done), rfl, Lib.hid (by decide), B6, BX, BS⟩
          case measure => first | omega | (simp only [intOf]; omega) | (simp [intOf]; done)
        · clear hj3
          have hwq : IntKind.u64.wrap (sc.length : Int) = (sc.length : Int) := by have := HLC.out; rw [IntKind.wrap_u64]; omega
          obtain ⟨BB, HBB⟩ : ∃ BB, Hid (BB = partB L k ++ (form op ++ ([sa, sb, sc].take 2).flatMap row)) := ⟨_, Lib.hid rfl⟩
          have J2 : Hid (ByAt w wr A4 n4 c4 BB) := by show ByAt _ _ _ _ _ _; rw [HBB.out]; exact J2.out
          have r1 : wr.cell? ⟨PS, 2, none⟩ = some (.string ⟨sc.toArray⟩) := BS.out.cell 2
          have HFm := Lib.hid (HFO.out sc.length wr (by have := HLC.out; omega))
          go_wp2_with fail
          refine HFm.out.mono ?_
          rintro e v5 ⟨Af, nf, cf, rfl, hnf, hrf, hgf⟩
          have HBf := Lib.hid (J2.out.chg hgf)
          have HRf := Lib.hid hrf
          have HOf := Lib.hid (HOB.out (form sc.length))
          have hfs := form_small sc.length (by have := HLC.out; omega)
          have HNf : Hid (nf ≤ 9) := by show _ ≤ _; rw [hnf]; exact hfs
          have HSf : Hid (w.heap.size ≤ v5.heap.size) := HBf.out.2.2.size
          have HEf := Lib.hid hnf
          have BXf := Lib.hid (BX.out.chg hgf (by simp))
          have BSf := Lib.hid (BS.out.chg hgf (by simp))
          clear BS
          clear BX
          clear hnf hrf hgf hfs HFm
          go_wp2_with (at_builtin; refine wpList_append_any _ rfl (.tmp 39) (.tmp 46) 22 rfl w.heap.size 5 i0 (.int .u8 0) 1 1 Tryd.underlying22 hi hz0 hz1 hz2 rfl (by decide) _ n4 (byteVals (BB)) rfl HBf.out.2.1 _ Af nf cf (byteVals (form sc.length)) rfl HRf.out HOf.out (by have := HNf.out; have := HN4.out; unfold maxLen; omega) (by have := HNf.out; have := HN4.out; omega) HSf.out ?_)
          intro vv w5 hown hgr _
          obtain ⟨A5, c5, rfl⟩ := own_slice hown
          have B5 := Lib.hid (HBf.out.app HEf.out hown hgr)
          have BX := Lib.hid (BXf.out.past (by decide) HBf.out.2.1 hgr)
          have BS := Lib.hid (BSf.out.past (by decide) HBf.out.2.1 hgr)
          clear BSf
          clear BXf
          clear HBf HRf HOf HSf HEf hown hgr
          have HN5 : Hid (n4 + nf ≤ 10209) := by have := HNf.out; have := HN4.out; show _ ≤ _; omega
          obtain ⟨n5, hnk⟩ : ∃ n5, n5 = n4 + nf := ⟨_, rfl⟩
          rw [← hnk] at B5 HN5
          try rw [← hnk]
          clear hnk HNf
          have r2 : w5.cell? ⟨PS, 2, none⟩ = some (.string ⟨sc.toArray⟩) := BS.out.cell 2
          have hsx : (⟨sc.toArray⟩ : ByteArray).size = sc.length := List.size_toArray
          have HSZ := Lib.hid B5.out.2.2.size
          clear r1 hwq
          go_wp2_with (at_builtin; refine Lib.wpList_append_own_string _ rfl (.tmp 48) (.tmp 52) 22 9 rfl w.heap.size 5 i0 Tryd.underlying22 Tryd.underlying9 hi hz0 hz1 hz2 _ n5 _ rfl B5.out.2.1 ⟨sc.toArray⟩ rfl (by rw [hsx]; have := HN5.out; have := HLC.out; unfold maxLen; omega) (by rw [hsx]; have := HN5.out; have := HLC.out; omega) HSZ.out ?_)
          intro vv w6 hown hgr _
          obtain ⟨A6, c6, rfl⟩ := own_slice hown
          have BX := Lib.hid (BX.out.past (by decide) B5.out.2.1 hgr)
          have BS := Lib.hid (BS.out.past (by decide) B5.out.2.1 hgr)
          try simp only [hsx] at hown ⊢
          try rw [strCells_bytes] at hown
          have B6 : Hid (ByAt w w6 A6 (n5 + sc.length) c6 (partB L k ++ (form op ++ ([sa, sb, sc].take 3).flatMap row))) := by
            have h := B5.out.app rfl hown hgr
            show ByAt _ _ _ _ _ _
            rw [HBB.out] at h
            simpa [row] using h
          obtain ⟨n6, hn6⟩ : ∃ n6, n6 = n5 + sc.length := ⟨_, rfl⟩
          rw [← hn6] at B6
          try rw [← hn6]
          clear hown hgr hn6 r2 hsx HSZ B5 HN5 J2 HN4
          go_wp2_with fail
          go_roundw
          case rel => exact ⟨3, A6, n6, c6, by first | rfl | (simp; done), rfl, Lib.hid (by decide), B6, BX, BS⟩
          case measure => first | omega | (simp only [intOf]; omega) | (simp [intOf]; done)
        · have hd3 : decide (j < 3) = false := by rw [decide_eq_false_iff_not]; omega
          have hd4 : decide ((j : Int) < 3) = false := by rw [decide_eq_false_iff_not]; omega
          rw [hje] at J2
          clear hje J1 hj3
          have hwN : IntKind.u64.wrap ((xN : Nat) : Int) = ((xN : Nat) : Int) := by have := HXN.out; rw [IntKind.wrap_u64]; omega
          have hwM : IntKind.u64.wrap ((xM : Nat) : Int) = ((xM : Nat) : Int) := by have := HXM.out; rw [IntKind.wrap_u64]; omega
          obtain ⟨BB, HBB⟩ : ∃ BB, Hid (BB = partB L k ++ (form op ++ ([sa, sb, sc].take 3).flatMap row)) := ⟨_, Lib.hid rfl⟩
          have J2 : Hid (ByAt w wr A4 n4 c4 BB) := by show ByAt _ _ _ _ _ _; rw [HBB.out]; exact J2.out
          have r4 : wr.cell? ⟨PX, 4, none⟩ = some (.int .i64 (xN : Nat)) := BX.out.cell 4
          have HFm := Lib.hid (HFO.out xN wr (by have := HXN.out; omega))
          go_wp2_with fail
          refine HFm.out.mono ?_
          rintro e v6 ⟨Af, nf, cf, rfl, hnf, hrf, hgf⟩
          have HBf := Lib.hid (J2.out.chg hgf)
          have HRf := Lib.hid hrf
          have HOf := Lib.hid (HOB.out (form xN))
          have hfs := form_small xN (by have := HXN.out; omega)
          have HNf : Hid (nf ≤ 9) := by show _ ≤ _; rw [hnf]; exact hfs
          have HSf : Hid (w.heap.size ≤ v6.heap.size) := HBf.out.2.2.size
          have HEf := Lib.hid hnf
          have BXf := Lib.hid (BX.out.chg hgf (by simp))
          have BSf := Lib.hid (BS.out.chg hgf (by simp))
          clear BS
          clear BX
          clear hnf hrf hgf hfs HFm
          go_wp2_with (at_builtin; refine wpList_append_any _ rfl (.tmp 54) (.tmp 58) 22 rfl w.heap.size 5 i0 (.int .u8 0) 1 1 Tryd.underlying22 hi hz0 hz1 hz2 rfl (by decide) _ n4 (byteVals (BB)) rfl HBf.out.2.1 _ Af nf cf (byteVals (form xN)) rfl HRf.out HOf.out (by have := HNf.out; have := HN4.out; unfold maxLen; omega) (by have := HNf.out; have := HN4.out; omega) HSf.out ?_)
          intro vv w6 hown hgr _
          obtain ⟨A6, c6, rfl⟩ := own_slice hown
          have B6 := Lib.hid (HBf.out.app HEf.out hown hgr)
          have BX := Lib.hid (BXf.out.past (by decide) HBf.out.2.1 hgr)
          have BS := Lib.hid (BSf.out.past (by decide) HBf.out.2.1 hgr)
          clear BSf
          clear BXf
          clear HBf HRf HOf HSf HEf hown hgr
          have HN6 : Hid (n4 + nf ≤ 10209) := by have := HNf.out; have := HN4.out; show _ ≤ _; omega
          obtain ⟨n6, hnk⟩ : ∃ n6, n6 = n4 + nf := ⟨_, rfl⟩
          rw [← hnk] at B6 HN6
          try rw [← hnk]
          clear hnk HNf
          have r5 : w6.cell? ⟨PX, 5, none⟩ = some (.int .i64 (xM : Nat)) := BX.out.cell 5
          clear r4
          have HFm := Lib.hid (HFO.out xM w6 (by have := HXM.out; omega))
          go_wp2_with fail
          refine HFm.out.mono ?_
          rintro e v7 ⟨Af, nf, cf, rfl, hnf, hrf, hgf⟩
          have HBf := Lib.hid (B6.out.chg hgf)
          have HRf := Lib.hid hrf
          have HOf := Lib.hid (HOB.out (form xM))
          have hfs := form_small xM (by have := HXM.out; omega)
          have HNf : Hid (nf ≤ 9) := by show _ ≤ _; rw [hnf]; exact hfs
          have HSf : Hid (w.heap.size ≤ v7.heap.size) := HBf.out.2.2.size
          have HEf := Lib.hid hnf
          have BXf := Lib.hid (BX.out.chg hgf (by simp))
          have BSf := Lib.hid (BS.out.chg hgf (by simp))
          clear BS
          clear BX
          clear hnf hrf hgf hfs HFm
          go_wp2_with (at_builtin; refine wpList_append_any _ rfl (.tmp 60) (.tmp 64) 22 rfl w.heap.size 5 i0 (.int .u8 0) 1 1 Tryd.underlying22 hi hz0 hz1 hz2 rfl (by decide) _ n6 (byteVals (BB ++ form xN)) rfl HBf.out.2.1 _ Af nf cf (byteVals (form xM)) rfl HRf.out HOf.out (by have := HNf.out; have := HN6.out; unfold maxLen; omega) (by have := HNf.out; have := HN6.out; omega) HSf.out ?_)
          intro vv w7 hown hgr _
          obtain ⟨A7, c7, rfl⟩ := own_slice hown
          have B7 := Lib.hid (HBf.out.app HEf.out hown hgr)
          have BX := Lib.hid (BXf.out.past (by decide) HBf.out.2.1 hgr)
          have BS := Lib.hid (BSf.out.past (by decide) HBf.out.2.1 hgr)
          clear BSf
          clear BXf
          clear HBf HRf HOf HSf HEf hown hgr
          have HN7 : Hid (n6 + nf ≤ 10218) := by have := HNf.out; have := HN6.out; show _ ≤ _; omega
          obtain ⟨n7, hnk⟩ : ∃ n7, n7 = n6 + nf := ⟨_, rfl⟩
          rw [← hnk] at B7 HN7
          try rw [← hnk]
          clear hnk HNf
          have I2 : Hid (ByAt w w7 A7 n7 c7 (partB L (k + 1))) := by
            show ByAt _ _ _ _ _ _
            rw [HPS.out]
            unfold insF
            have h := B7.out
            rw [HBB.out] at h
            simpa using h
          clear r5 B7 B6 BX BS J2
          go_wp2_with fail
          go_roundw
          case rel => exact ⟨k + 1, A7, n7, c7, by first | rfl | (simp; done), rfl, Lib.hid HLT.out, I2⟩
          case measure =>
            have := HLT.out
            first | omega | (simp only [intOf]; omega) | (simp [intOf]; omega)
    · have hd : decide (k < L.length) = false := by rw [decide_eq_false_iff_not]; exact hlt
      have I2' : Hid (ByAt w wr A1 n1 c1 (progB L)) := by
        show ByAt _ _ _ _ _ _
        rw [← partB_all (k := k) (by omega)]; exact H2.out
      clear hlt H2
      go_wp2_with fail
      go_ret
      exact ⟨A1, n1, c1, rfl, I2'.out⟩

end Go.Proofs.YtglfakglcoffkaaDoor
