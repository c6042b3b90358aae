/-
  The document's tag, by layer 1's words.
-/
import Derived.Test.YtehpigmcmgfkoaaDoorR9
namespace Go.Proofs.YtehpigmcmgfkoaaDoor
open Go.RowKit

theorem turnB_succ (k : List UInt8) (x : UInt8) (i : Nat) (h : i < k.length) : turnB (k.take (i + 1)) x = turnB (k.take i) x ++ [k.getD i 0 ^^^ x] := by
  unfold turnB
  rw [List.take_succ_eq_append_getElem h, List.map_append, List.getD_eq_getElem?_getD, List.getElem?_eq_getElem h]; rfl
theorem two_chg {v w : World} {a b : Nat} {x y : List Value} {c : Option Nat} (h : v.rangeAt a 0 x ∧ v.rangeAt b 0 y) (g : Chg c v w) (ha : some a ≠ c) (hb : some b ≠ c) : w.rangeAt a 0 x ∧ w.rangeAt b 0 y := ⟨rangeAt_chg h.1 g ha, rangeAt_chg h.2 g hb⟩
/-- Two rows of the call's own, of which neither lies where the other one does. -/
def apart (u v : Value) : Prop := ∀ g, u.ownBlock = some g → v.ownBlock ≠ some g

set_option maxRecDepth 100000 in
set_option maxHeartbeats 16000000 in
theorem tagbyr_any (p q : Prt) (w : World) (hp : p.ok w) (hq : q.ok w) (hn : p.x.length ≤ 900000) (hm : q.x.length ≤ 900000) :
    Calls Tryd.prog 44 #[.agg (H0.map u32v).toArray, .agg (K0.map u32v).toArray, .slice p.A p.x.length p.c, .slice q.A q.x.length q.c] w fun e w' => e = .returned (.agg (byteVals (tagB p.x q.x)).toArray) ∧ Chg none w w' := by
  obtain ⟨i0, hi, hz0, hz1, hz2⟩ := info_parts Tryd.info5
  obtain ⟨HA, hHA⟩ : ∃ HA, HA = (H0.map u32v).toArray := ⟨_, rfl⟩
  obtain ⟨KA, hKA⟩ : ∃ KA, KA = (K0.map u32v).toArray := ⟨_, rfl⟩
  have HSUM : Hid (∀ (v : World) (A : Option Addr) (x : List UInt8) (n c : Nat), Txt v A x → n = x.length → n ≤ c → n ≤ 1000000 → Calls Tryd.prog 18 #[.agg HA, .agg KA, .slice A n c] v fun e w' => e = .returned (.agg (byteVals (dig x)).toArray) ∧ Chg none v w') := by
    rw [hHA, hKA]; exact fun v A x n c h1 h2 h3 h4 => by subst h2; exact sumr_any ⟨A, x, c⟩ v ⟨h1, h3⟩ h4
  have HKEY : Hid (∀ v, Chg none w v → Calls Tryd.prog 56 #[.agg HA, .agg KA, .slice p.A p.x.length p.c] v (OwnPost v (keyB p.x))) := by
    rw [hHA, hKA]; exact fun v g => keyr_any p v (hp.chg g) (by omega)
  have HI25 : Hid ((Tryd.prog.info? 25).map (·.size) = some HA.size) := by rw [hHA]; exact info25_H0
  have HI26 : Hid ((Tryd.prog.info? 26).map (·.size) = some KA.size) := by rw [hKA]; exact info26_K0
  have HL25 : Hid ((Tryd.prog.info? 25).map (·.size) = some (H0.map u32v).length) := by show _ = _; kernel_rfl
  have HL26 : Hid ((Tryd.prog.info? 26).map (·.size) = some (K0.map u32v).length) := by show _ = _; kernel_rfl
  obtain ⟨W3, hW3⟩ : ∃ W3, W3 = ((w.alloc (.cells HA 25)).alloc (.cells KA 26)).alloc (.cells zero32 30) := ⟨_, rfl⟩
  have HW3 : Hid (((w.alloc (.cells HA 25)).alloc (.cells KA 26)).alloc (.cells #[Value.int IntKind.u8 0, Value.int IntKind.u8 0, Value.int IntKind.u8 0, Value.int IntKind.u8 0, Value.int IntKind.u8 0, Value.int IntKind.u8 0, Value.int IntKind.u8 0, Value.int IntKind.u8 0, Value.int IntKind.u8 0, Value.int IntKind.u8 0, Value.int IntKind.u8 0, Value.int IntKind.u8 0, Value.int IntKind.u8 0, Value.int IntKind.u8 0, Value.int IntKind.u8 0, Value.int IntKind.u8 0, Value.int IntKind.u8 0, Value.int IntKind.u8 0, Value.int IntKind.u8 0, Value.int IntKind.u8 0, Value.int IntKind.u8 0, Value.int IntKind.u8 0, Value.int IntKind.u8 0, Value.int IntKind.u8 0, Value.int IntKind.u8 0, Value.int IntKind.u8 0, Value.int IntKind.u8 0, Value.int IntKind.u8 0, Value.int IntKind.u8 0, Value.int IntKind.u8 0, Value.int IntKind.u8 0, Value.int IntKind.u8 0] 30) = W3) := hW3.symm
  have g0 : Chg none w W3 := by rw [hW3]; exact (((Chg.refl _ _).alloc _).alloc _).alloc _
  have bH : Blk W3 w.heap.size HA 25 := by rw [hW3]; exact Blk.alloc (Blk.alloc (Blk.new _ _ _) _) _
  have bK : Blk W3 (w.heap.size + 1) KA 26 := by rw [hW3]; exact Blk.alloc (Blk.newAt _ _ (by simp)) _
  have bR : Blk W3 (w.heap.size + 1 + 1) zero32 30 := by rw [hW3]; exact Blk.newAt _ _ (by simp)
  rw [← hHA, ← hKA]
  obtain ⟨K, hK⟩ : ∃ K, K = keyB p.x := ⟨_, rfl⟩
  have hKl : K.length = 64 := by rw [hK, keyB_len]
  obtain ⟨y, hy⟩ : ∃ y, y = q.x := ⟨_, rfl⟩
  obtain ⟨m, hm'⟩ : ∃ m, m = y.length := ⟨_, rfl⟩
  have HQ : Hid (∀ v, Chg none w v → Txt v q.A y) := by rw [hy]; exact fun v g => hq.1.chg g
  have hqc : m ≤ q.c := by rw [hm', hy]; exact hq.2
  obtain ⟨T, hT⟩ : ∃ T, T = tagB p.x y := ⟨_, rfl⟩
  have hT2 : T = dig (turnB K 92 ++ dig (turnB K 54 ++ y)) := by rw [hT, hK]; rfl
  have hTl : T.length = 32 := by rw [hT, tagB_len]
  unfold OwnPost at HKEY
  rw [← hK] at HKEY
  rw [hKl] at HKEY
  rw [← hy] at hm ⊢
  rw [← hm'] at hm ⊢
  rw [← hT]
  have HT := Lib.hid hT2
  have HTL := Lib.hid hTl
  have HM := Lib.hid hm'
  have HKL := Lib.hid hKl
  have HHA := Lib.hid hHA
  have HKA := Lib.hid hKA
  have hHK : w.heap.size < w.heap.size + 1 := by omega
  have hKR : w.heap.size + 1 < w.heap.size + 1 + 1 := by omega
  have hRB : w.heap.size + 1 + 1 < W3.heap.size := bR.lt
  have hle : w.heap.size ≤ w.heap.size := Nat.le_refl _
  clear hHA hKA hW3 hK hKl hy hm' hT hT2 hTl hp hq
  go_enter Tryd.func44, Tryd.ntmps44
  go_upto_region 1 with fail
  rw [HW3.out]
  clear HW3
  generalize w.heap.size + 1 + 1 = pR at *
  generalize w.heap.size + 1 = pK at *
  generalize hpH : w.heap.size = pH at *
  have HPH := Lib.hid hpH
  clear hpH
  have HRH : Hid (W3.heap[pH]? = some (.cells HA 25 (0, 0))) := bH
  have HRK : Hid (W3.heap[pK]? = some (.cells KA 26 (0, 0))) := bK
  go_wp2_with (first
    | (refine wpList_load_row rfl 25 _ rfl pH rfl 25 _ (0, 0) _ HRH.out Tryd.underlying25 rfl HI25.out ?_)
    | (refine wpList_load_row rfl 26 _ rfl pK rfl 26 _ (0, 0) _ HRK.out Tryd.underlying26 rfl HI26.out ?_))
  refine (HKEY.out W3 g0).mono ?_
  rintro e w1 ⟨A9, c9, rfl, hown9, g1⟩
  have bH1 : BlkL w1 pH (H0.map u32v) 25 := by have := Blk.chg bH g1 (by simp); rw [HHA.out] at this; exact this
  have bK1 : BlkL w1 pK (K0.map u32v) 26 := by have := Blk.chg bK g1 (by simp); rw [HKA.out] at this; exact this
  have bR1 := Blk.chg bR g1 (by simp)
  have g01 := g0.trans g1
  obtain ⟨g9, hA9, hg9, hr9, hc9⟩ := own_bytes_cell hown9 (by decide)
  subst hA9
  have HR9 := Lib.hid hr9
  have hB1 : pR < w1.heap.size := bR1.lt
  have hwB : w.heap.size ≤ w1.heap.size := g01.size
  have HQ1 : Hid (∀ v, Chg none w1 v → Txt v q.A y) := fun v g => HQ.out v (g01.trans g)
  clear HRH HRK HI25 HI26 HKEY HQ hown9 hr9 bH bK bR g0 g1
  obtain ⟨B1, hB1e⟩ : ∃ B1, B1 = w1.heap.size := ⟨_, rfl⟩
  rw [← hB1e] at hB1 hg9 hwB
  have HB1 := Lib.hid hB1e
  clear hB1e
  go_upto_block 0 with fail
  go_cut [10, 11, 12] (fun s10 s11 _ wx => ∃ pX c10 pY c11, s10 = .slice (some ⟨pX, 0, none⟩) 64 c10 ∧ s11 = .slice (some ⟨pY, 0, none⟩) 64 c11 ∧ Hid (wx.ownsRow B1 5 1 (.slice (some ⟨pX, 0, none⟩) 64 c10) 64 (byteVals (turnB K 54))) ∧ Hid (wx.ownsRow B1 5 1 (.slice (some ⟨pY, 0, none⟩) 64 c11) 64 (byteVals (turnB K 92))) ∧ pX < wx.heap.size ∧ pY < wx.heap.size ∧ B1 ≤ pX ∧ B1 ≤ pY ∧ pX ≠ pY ∧ Chg none w1 wx)
  case first =>
    go_wp2_with fail
    go_loopw [10, 11, 12] (fun s10 s11 s12 wr => ∃ (i : Nat) (A10 A11 : Option Addr) (c10 c11 : Nat), i ≤ 64 ∧ s12 = .int .i64 i ∧ s10 = .slice A10 i c10 ∧ s11 = .slice A11 i c11 ∧ Hid (wr.ownsRow B1 5 1 (.slice A10 i c10) i (byteVals (turnB (K.take i) 54))) ∧ Hid (wr.ownsRow B1 5 1 (.slice A11 i c11) i (byteVals (turnB (K.take i) 92))) ∧ Hid (apart (.slice A10 i c10) (.slice A11 i c11)) ∧ Chg none w1 wr) (fun _ _ s12 _ => 64 - (intOf s12).toNat)
    case atStart => exact ⟨0, none, none, 0, 0, by omega, rfl, rfl, rfl, World.ownsRow_nil _ _ _ _, World.ownsRow_nil _ _ _ _, fun g h => by simp [Value.ownBlock] at h, Chg.refl _ _⟩
    case round =>
      obtain ⟨i, A10, A11, c10, c11, hi64, rfl, rfl, rfl, HO10, HO11, HAP, gi⟩ := hrel
      by_cases hlt : i < 64
      · obtain ⟨k, hk⟩ : ∃ k, k = K.getD i 0 := ⟨_, rfl⟩
        have hkl : i < K.length := by rw [HKL.out]; exact hlt
        have ck : ∀ v, Chg none w1 v → v.cell? ⟨g9, i, none⟩ = some (.int .u8 (k.toNat : Int)) := fun v g => by
          have := HR9.out i _ (byte_at hkl)
          rw [Nat.zero_add] at this
          rw [hk]
          exact World.grownBy.cell g this (by simp)
        have HCK := Lib.hid ck
        have c0 := ck wr gi
        have h54 := turnB_succ K 54 i hkl
        have h92 := turnB_succ K 92 i hkl
        rw [← hk] at h54 h92
        have hx54 : bits .xor .u8 (k.toNat : Int) 54 = ((k ^^^ 54).toNat : Int) := u8_xor k 54
        have hx92 : bits .xor .u8 (k.toNat : Int) 92 = ((k ^^^ 92).toNat : Int) := u8_xor k 92
        have H54 := Lib.hid h54
        have H92 := Lib.hid h92
        have HRA := Lib.hid (reads_one wr (k ^^^ 54))
        have HOA := Lib.hid (byteVals_one [k ^^^ 54])
        have HOB := Lib.hid (byteVals_one [k ^^^ 92])
        have hBw : B1 ≤ wr.heap.size := by rw [HB1.out]; exact gi.size
        clear hk hkl ck h54 h92
        have i0' : (0 : Int) ≤ (i : Int) := by omega
        have i64' : (i : Int) < 64 := by omega
        go_upto_region 7 with (at_builtin; refine wpList_append_any _ rfl (.tmp 22) (.tmp 28) 22 rfl B1 5 i0 (.int .u8 0) 1 1 Tryd.underlying22 hi hz0 hz1 hz2 rfl (by decide) _ i (byteVals (turnB (K.take i) 54)) rfl (HO10.out.alloc _) _ (some ⟨wr.heap.size, 0, none⟩) 1 1 (byteVals [k ^^^ 54]) rfl HRA.out HOA.out (by unfold maxLen; omega) (by omega) (by simp; omega) ?_)
        intro v5 w5 hown5 hgr5 hob5
        rw [byteVals_append, ← H54.out] at hown5
        have gA : Chg none wr (wr.alloc (.cells #[.int .u8 ((k ^^^ 54).toNat : Int)] 5)) := (Chg.refl _ _).alloc _
        have g5 : Chg none w1 w5 := own_chg (gi.trans gA) (HO10.out.alloc _) (by rw [HB1.out]; exact Nat.le_refl _) hgr5
        have ho11 : w5.ownsRow B1 5 1 (.slice A11 i c11) i (byteVals (turnB (K.take i) 92)) := (HO11.out.alloc _).kept hgr5 (by
          cases h : (Value.slice A11 i c11).ownBlock with
          | none => exact .inl rfl
          | some z => exact .inr fun e => HAP.out z e.symm h)
        have hap5 : apart v5 (.slice A11 i c11) := fun z hz hz2 => by
          have hlz := (HO11.out.lt z hz2).2
          rcases hob5 with h | h
          · rw [h] at hz; exact HAP.out z hz hz2
          · rw [h] at hz; injection hz with hz; (try simp at hz); omega
        obtain ⟨A5, c5, rfl⟩ := own_slice hown5
        have HO5 := Lib.hid hown5
        have HO51 := Lib.hid ho11
        have HAP5 := Lib.hid hap5
        have c5' := HCK.out w5 g5
        have HRB := Lib.hid (reads_one w5 (k ^^^ 92))
        have hBw5 : B1 ≤ w5.heap.size := by rw [HB1.out]; exact g5.size
        clear hown5 hgr5 hob5 gA ho11 hap5 HRA HOA HO10 HO11 HAP c0 hx54 H54
        go_wp2_with (at_builtin; refine wpList_append_any _ rfl (.tmp 30) (.tmp 36) 22 rfl B1 5 i0 (.int .u8 0) 1 1 Tryd.underlying22 hi hz0 hz1 hz2 rfl (by decide) _ i (byteVals (turnB (K.take i) 92)) rfl (HO51.out.alloc _) _ (some ⟨w5.heap.size, 0, none⟩) 1 1 (byteVals [k ^^^ 92]) rfl HRB.out HOB.out (by unfold maxLen; omega) (by omega) (by simp; omega) ?_)
        intro v6 w6 hown6 hgr6 hob6
        rw [byteVals_append, ← H92.out] at hown6
        have gA : Chg none w5 (w5.alloc (.cells #[.int .u8 ((k ^^^ 92).toNat : Int)] 5)) := (Chg.refl _ _).alloc _
        have g6 : Chg none w1 w6 := own_chg (g5.trans gA) (HO51.out.alloc _) (by rw [HB1.out]; exact Nat.le_refl _) hgr6
        have ho10 : w6.ownsRow B1 5 1 (.slice A5 (i + 1) c5) (i + 1) (byteVals (turnB (K.take (i + 1)) 54)) := (HO5.out.alloc _).kept hgr6 (by
          cases h : (Value.slice A5 (i + 1) c5).ownBlock with
          | none => exact .inl rfl
          | some z => exact .inr fun e => HAP5.out z h e.symm)
        have hap6 : apart (.slice A5 (i + 1) c5) v6 := fun z hz hz2 => by
          have hlz := (HO5.out.lt z hz).2
          rcases hob6 with h | h
          · rw [h] at hz2; exact HAP5.out z hz hz2
          · rw [h] at hz2; injection hz2 with hz2; (try simp at hz2); omega
        obtain ⟨A6, c6, rfl⟩ := own_slice hown6
        have HO6 := Lib.hid hown6
        have HO60 := Lib.hid ho10
        have HAP6 := Lib.hid hap6
        clear hown6 hgr6 hob6 gA ho10 hap6 HRB HOB HO5 HO51 HAP5 c5' hx92 H92
        go_wp2_with fail
        go_roundw
        case rel => exact ⟨i + 1, A5, A6, c5, c6, by omega, by go_num, rfl, rfl, HO60, HO6, HAP6, g6⟩
        case measure => first | (simp [intOf]; done) | (simp [intOf]; omega)
      · have hie : i = 64 := by omega
        have dI : decide ((i : Int) < 64) = false := by simp <;> omega
        have ho10 := HO10.out
        have ho11 := HO11.out
        have hap := HAP.out
        rw [hie, List.take_of_length_le (by rw [HKL.out]; exact Nat.le_refl _)] at ho10 ho11
        rw [hie] at hap
        obtain ⟨pX, hA10, hpX, _, _⟩ := own_bytes_cell ho10 (by decide)
        obtain ⟨pY, hA11, hpY, _, _⟩ := own_bytes_cell ho11 (by decide)
        subst hA10 hA11
        have hl10 := (ho10.lt pX rfl).1
        have hl11 := (ho11.lt pY rfl).1
        have hne : pX ≠ pY := fun e => hap pX rfl (by rw [e]; rfl)
        have HP10 := Lib.hid ho10
        have HP11 := Lib.hid ho11
        have HIE := Lib.hid hie
        clear ho10 ho11 hap hie HO10 HO11 HAP
        go_wp2_with fail
        go_meet
        exact ⟨pX, c10, pY, c11, by rw [HIE.out], by rw [HIE.out], HP10, HP11, hpX, hpY, hl10, hl11, hne, gi⟩
  case rest =>
  obtain ⟨pX, c10, pY, c11, rfl, rfl, HP10, HP11, hpX, hpY, hl10, hl11, hne, g12⟩ := hcut
  obtain ⟨w2, rfl⟩ : ∃ w2 : World, w2 = wc := ⟨_, rfl⟩
  obtain ⟨X10, hX10⟩ : ∃ X10, X10 = turnB K 54 := ⟨_, rfl⟩
  obtain ⟨X11, hX11⟩ : ∃ X11, X11 = turnB K 92 := ⟨_, rfl⟩
  have hXl0 : X10.length = 64 := by rw [hX10, turnB_len, HKL.out]
  have hXl1 : X11.length = 64 := by rw [hX11, turnB_len, HKL.out]
  rw [← hX10] at HP10 HT
  rw [← hX11] at HP11 HT
  obtain ⟨D1, hD1⟩ : ∃ D1, D1 = dig (X10 ++ y) := ⟨_, rfl⟩
  rw [← hD1] at HT
  have hDl : D1.length = 32 := by rw [hD1, dig_len]
  have HXL0 := Lib.hid hXl0
  have HXL1 := Lib.hid hXl1
  have HD1 := Lib.hid hD1
  have HDL := Lib.hid hDl
  obtain ⟨hds, hdo⟩ := row_facts D1 32 hDl
  have HI := Lib.hid (show (Tryd.prog.info? 30).map (·.size) = some (byteVals D1).toArray.size by rw [hds]; kernel_rfl)
  have HZ := Lib.hid (show zero32.size = (byteVals D1).toArray.size by rw [hds]; rfl)
  have HO := Lib.hid hdo
  have HOY := Lib.hid (byteVals_one y)
  have HOD := Lib.hid (byteVals_one D1)
  clear HKL HR9 hc9 hg9 hX10 hX11 hXl0 hXl1 hD1 hDl hds hdo
  have bH2 := Blk.chg bH1 g12 (by simp)
  have bK2 := Blk.chg bK1 g12 (by simp)
  have bR2 := Blk.chg bR1 g12 (by simp)
  go_upto_region 8 with fail
  go_cut [13] (fun s13 wx => ∃ pD, s13 = .pointer (some ⟨pD, 0, none⟩) ∧ BlkL wx pD (byteVals D1) 30 ∧ Hid (wx.ownsRow B1 5 1 (.slice (some ⟨pY, 0, none⟩) 64 c11) 64 (byteVals X11)) ∧ pY < wx.heap.size ∧ pD ≠ pY ∧ Chg none w1 wx)
  case first =>
    have E0 : Chg none w1 w2.drew := g12.drew
    have hS0 : w2.drew.rangeAt pH 0 (H0.map u32v) ∧ w2.drew.rangeAt pK 0 (K0.map u32v) := ⟨Blk.range (w := w2.drew) (T := 25) bH2, Blk.range (w := w2.drew) (T := 26) bK2⟩
    have OA : Hid (w2.drew.ownsRow B1 5 1 (.slice (some ⟨pX, 0, none⟩) 64 c10) 64 (byteVals X10)) := by show World.ownsRow _ _ _ _ _ _ _; exact HP10.out.kept ((Chg.refl none w2).drew) (.inr (by simp [Value.ownBlock]))
    have OB0 : Hid (w2.drew.ownsRow B1 5 1 (.slice (some ⟨pY, 0, none⟩) 64 c11) 64 (byteVals X11)) := by show World.ownsRow _ _ _ _ _ _ _; exact HP11.out.kept ((Chg.refl none w2).drew) (.inr (by simp [Value.ownBlock]))
    have a0 : pX < w2.drew.heap.size := hpX
    have b0 : pY < w2.drew.heap.size := hpY
    have hmm : m ≤ 900000 := hm
    refine wp_region_held_drew (S := fun w' => w'.rangeAt pH 0 (H0.map u32v) ∧ w'.rangeAt pK 0 (K0.map u32v)) (by kernel_rfl) hS0 (fun _ => ?_)
    clear bH2 bK2 bR2 HP10 HP11 hpX hpY
    generalize w2.drew = v0 at *
    refine wpAnyH_take (i := 0) (oi := ⟨some 38, _, _, _, _, _⟩) (v := .agg HA) rfl (by kernel_rfl) (by kernel_rfl) (by kernel_rfl) (fun _ _ _ h => h) (by rw [HHA.out]; exact yieldsIf_load_mid (by rfl) 25 _ rfl pH 0 rfl (H0.map u32v) _ (fun _ h => h.1) Tryd.underlying25 rfl HL25.out) (by assumption) ?_
    try simp only [Act.put, List.setIfInBounds_toArray, List.set_cons_zero, List.set_cons_succ]
    refine wpAnyH_take (i := 1) (oi := ⟨some 39, _, _, _, _, _⟩) (v := .agg KA) rfl (by kernel_rfl) (by kernel_rfl) (by kernel_rfl) (fun _ _ _ h => h) (by rw [HKA.out]; exact yieldsIf_load_mid (by rfl) 26 _ rfl pK 0 rfl (K0.map u32v) _ (fun _ h => h.2) Tryd.underlying26 rfl HL26.out) (by assumption) ?_
    try simp only [Act.put, List.setIfInBounds_toArray, List.set_cons_zero, List.set_cons_succ]
    refine wpAnyH_take (i := 2) (oi := ⟨some 40, _, _, _, _, _⟩) (v := ?_) rfl (by kernel_rfl) (by kernel_rfl) (by kernel_rfl) (fun _ _ _ h => h) (Or.inl ⟨by rfl, ?_⟩) (by assumption) ?_
    rotate_left
    · intro w hSw; (try dsimp only at hSw); go_simp; (try with_reducible rfl)
    try simp only [Act.put, List.setIfInBounds_toArray, List.set_cons_zero, List.set_cons_succ]
    refine wpAnyH_take (i := 3) (oi := ⟨some 41, _, _, _, _, _⟩) (v := ?_) rfl (by kernel_rfl) (by kernel_rfl) (by kernel_rfl) (fun _ _ _ h => h) (Or.inl ⟨by rfl, ?_⟩) (by assumption) ?_
    rotate_left
    · intro w hSw; (try dsimp only at hSw); go_simp; (try with_reducible rfl)
    try simp only [Act.put, List.setIfInBounds_toArray, List.set_cons_zero, List.set_cons_succ]
    refine wpAnyH_ready (rs := [4, 6]) (by kernel_rfl) (by simp) ?_
    refine AllReadyH.cons (o := ⟨some 42, _, _, _, _, _⟩) rfl (fun K hK => ?_) (AllReadyH.cons (o := ⟨some 13, _, _, _, _, _⟩) rfl (fun K hK => ?_) (AllReadyH.nil))
    · as_aux_lemma =>
        have HRY4 := Lib.hid (txt_reads (HQ1.out _ E0))
        rw [← HM.out] at HRY4
        have hBs4 : B1 ≤ v0.heap.size := by rw [HB1.out]; exact E0.size
        refine step_append_any _ (by rfl) (.tmp 40) (.tmp 41) 22 (by rfl) B1 5 i0 (.int .u8 0) 1 1 Tryd.underlying22 hi hz0 hz1 hz2 rfl (by decide) _ 64 (byteVals X10) (by rfl) OA.out _ q.A m q.c (byteVals y) (by rfl) HRY4.out HOY.out (by unfold maxLen; omega) (by omega) hBs4 ?_
        intro u4 v4 hown4 hgr4 _
        rw [byteVals_append] at hown4
        have g4 : Chg (some pX) v0 v4 := hgr4
        have E4 := own_chg E0 OA.out (by rw [HB1.out]; exact Nat.le_refl _) hgr4
        have hS4 := two_chg hS0 g4 (by simp; omega) (by simp; omega)
        have OB4 := Lib.hid (OB0.out.kept g4 (.inr (by simp [Value.ownBlock]; omega)))
        have b4 : pY < v4.heap.size := Nat.lt_of_lt_of_le b0 g4.size
        have a4 : pX < v4.heap.size := Nat.lt_of_lt_of_le a0 g4.size
        obtain ⟨A4, c4, rfl⟩ := own_slice hown4
        obtain ⟨hTX4, hnl4, hcc4⟩ := own_txt hown4
        have TX4 := Lib.hid hTX4
        clear hown4 hgr4 hTX4 hnl4 HRY4
        refine hK.out _ _ hS4 (fun _ => ?_)
        clear hK K
        try simp only [Act.put, List.setIfInBounds_toArray, List.set_cons_zero, List.set_cons_succ]
        refine wpAnyH_ready (rs := [5, 6]) (by kernel_rfl) (by simp) ?_
        refine AllReadyH.cons (o := ⟨some 43, _, _, _, _, _⟩) rfl (fun K hK => ?_) (AllReadyH.cons (o := ⟨some 13, _, _, _, _, _⟩) rfl (fun K hK => ?_) (AllReadyH.nil))
        · as_aux_lemma =>
            have HC5 := Lib.hid (HSUM.out v4 _ _ (64 + m) c4 TX4.out (by rw [List.length_append, HXL0.out, HM.out]) hcc4 (by omega))
            rw [← HD1.out] at HC5
            go_simp
            go_at_call 18
            refine HC5.out.mono ?_
            rintro e v5 ⟨rfl, g5⟩
            have E5 := E4.trans g5
            have hS5 := two_chg hS4 g5 (by simp) (by simp)
            have OB5 := Lib.hid (OB4.out.kept g5 (.inr (by simp [Value.ownBlock])))
            have b5 : pY < v5.heap.size := Nat.lt_of_lt_of_le b4 g5.size
            have a5 : pX < v5.heap.size := Nat.lt_of_lt_of_le a4 g5.size
            go_wp2_with fail
            refine hK.out _ _ hS5 (fun _ => ?_)
            clear hK K
            try simp only [Act.put, List.setIfInBounds_toArray, List.set_cons_zero, List.set_cons_succ]
            refine wpAnyH_ready (rs := [6]) (by kernel_rfl) (by simp) ?_
            refine AllReadyH.cons (o := ⟨some 13, _, _, _, _, _⟩) rfl (fun K hK => ?_) (AllReadyH.nil)
            have hSA6 : (World.alloc v5 (Obj.cells #[Value.int IntKind.u8 0, Value.int IntKind.u8 0, Value.int IntKind.u8 0, Value.int IntKind.u8 0, Value.int IntKind.u8 0, Value.int IntKind.u8 0, Value.int IntKind.u8 0, Value.int IntKind.u8 0, Value.int IntKind.u8 0, Value.int IntKind.u8 0, Value.int IntKind.u8 0, Value.int IntKind.u8 0, Value.int IntKind.u8 0, Value.int IntKind.u8 0, Value.int IntKind.u8 0, Value.int IntKind.u8 0, Value.int IntKind.u8 0, Value.int IntKind.u8 0, Value.int IntKind.u8 0, Value.int IntKind.u8 0, Value.int IntKind.u8 0, Value.int IntKind.u8 0, Value.int IntKind.u8 0, Value.int IntKind.u8 0, Value.int IntKind.u8 0, Value.int IntKind.u8 0, Value.int IntKind.u8 0, Value.int IntKind.u8 0, Value.int IntKind.u8 0, Value.int IntKind.u8 0, Value.int IntKind.u8 0, Value.int IntKind.u8 0] 30)).rangeAt pH 0 (H0.map u32v) ∧ (World.alloc v5 (Obj.cells #[Value.int IntKind.u8 0, Value.int IntKind.u8 0, Value.int IntKind.u8 0, Value.int IntKind.u8 0, Value.int IntKind.u8 0, Value.int IntKind.u8 0, Value.int IntKind.u8 0, Value.int IntKind.u8 0, Value.int IntKind.u8 0, Value.int IntKind.u8 0, Value.int IntKind.u8 0, Value.int IntKind.u8 0, Value.int IntKind.u8 0, Value.int IntKind.u8 0, Value.int IntKind.u8 0, Value.int IntKind.u8 0, Value.int IntKind.u8 0, Value.int IntKind.u8 0, Value.int IntKind.u8 0, Value.int IntKind.u8 0, Value.int IntKind.u8 0, Value.int IntKind.u8 0, Value.int IntKind.u8 0, Value.int IntKind.u8 0, Value.int IntKind.u8 0, Value.int IntKind.u8 0, Value.int IntKind.u8 0, Value.int IntKind.u8 0, Value.int IntKind.u8 0, Value.int IntKind.u8 0, Value.int IntKind.u8 0, Value.int IntKind.u8 0] 30)).rangeAt pK 0 (K0.map u32v) := two_chg hS5 ((Chg.refl none _).alloc _) (by simp) (by simp)
            go_simp
            refine hK.out _ _ hSA6 (fun _ => ?_)
            clear hK K
            try simp only [Act.put, List.setIfInBounds_toArray, List.set_cons_zero, List.set_cons_succ]
            generalize hx6 : World.alloc v5 (Obj.cells #[Value.int IntKind.u8 0, Value.int IntKind.u8 0, Value.int IntKind.u8 0, Value.int IntKind.u8 0, Value.int IntKind.u8 0, Value.int IntKind.u8 0, Value.int IntKind.u8 0, Value.int IntKind.u8 0, Value.int IntKind.u8 0, Value.int IntKind.u8 0, Value.int IntKind.u8 0, Value.int IntKind.u8 0, Value.int IntKind.u8 0, Value.int IntKind.u8 0, Value.int IntKind.u8 0, Value.int IntKind.u8 0, Value.int IntKind.u8 0, Value.int IntKind.u8 0, Value.int IntKind.u8 0, Value.int IntKind.u8 0, Value.int IntKind.u8 0, Value.int IntKind.u8 0, Value.int IntKind.u8 0, Value.int IntKind.u8 0, Value.int IntKind.u8 0, Value.int IntKind.u8 0, Value.int IntKind.u8 0, Value.int IntKind.u8 0, Value.int IntKind.u8 0, Value.int IntKind.u8 0, Value.int IntKind.u8 0, Value.int IntKind.u8 0] 30) = v6
            have bD6 : Blk v6 v5.heap.size zero32 30 := by rw [← hx6]; exact Blk.new _ _ _
            have g6 : Chg none v5 v6 := by rw [← hx6]; exact (Chg.refl _ _).alloc _
            have E6 := E5.trans g6
            have hS6 := two_chg hS5 g6 (by simp) (by simp)
            have a6 : pX < v6.heap.size := Nat.lt_of_lt_of_le a5 g6.size
            have b6 : pY < v6.heap.size := Nat.lt_of_lt_of_le b5 g6.size
            have OB6 := Lib.hid (OB5.out.kept g6 (.inr (by simp [Value.ownBlock])))
            have dA6 : v5.heap.size ≠ pX := by have := a5; omega
            have dB6 : v5.heap.size ≠ pY := by have := b5; omega
            clear hx6
            generalize v5.heap.size = pD at *
            refine wpAnyH_ready (rs := [7]) (by kernel_rfl) (by simp) ?_
            refine AllReadyH.cons (o := ⟨none, _, _, _, _, _⟩) rfl (fun K hK => ?_) (AllReadyH.nil)
            rw [if_pos (by rfl)]
            have gS7 : Chg (some pD) v6 (World.setRow v6 pD (byteVals D1).toArray) := chg_setRow _ _ _
            have hSZ7 := two_chg hS6 gS7 (by simp; omega) (by simp; omega)
            have OB7 := Lib.hid (OB6.out.kept gS7 (.inr (by simp [Value.ownBlock]; omega)))
            have b7 : pY < (World.setRow v6 pD (byteVals D1).toArray).heap.size := Nat.lt_of_lt_of_le b6 gS7.size
            have E7 : Chg none w1 (World.setRow v6 pD (byteVals D1).toArray) := Chg.own (b := pD) E6 gS7 (by rw [← HB1.out]; omega)
            refine wp_store_row 30 (.tmp 13) (.tmp 43) (by rfl) pD (byteVals D1).toArray (by rfl) (by rfl) 30 zero32 bD6 HI.out HZ.out HO.out ?_
            refine hK.out _ _ hSZ7 (fun _ => ?_)
            clear hK K
            refine wpAnyH_done (by kernel_rfl) ?_ _
            try simp only [Act.put]
            go_wp2_with fail
            go_meet
            exact ⟨pD, rfl, setRow_heap _ _ _ _ _ _ bD6, OB7, b7, dB6, E7⟩
        · as_aux_lemma =>
            have hSA8 : (World.alloc v4 (Obj.cells #[Value.int IntKind.u8 0, Value.int IntKind.u8 0, Value.int IntKind.u8 0, Value.int IntKind.u8 0, Value.int IntKind.u8 0, Value.int IntKind.u8 0, Value.int IntKind.u8 0, Value.int IntKind.u8 0, Value.int IntKind.u8 0, Value.int IntKind.u8 0, Value.int IntKind.u8 0, Value.int IntKind.u8 0, Value.int IntKind.u8 0, Value.int IntKind.u8 0, Value.int IntKind.u8 0, Value.int IntKind.u8 0, Value.int IntKind.u8 0, Value.int IntKind.u8 0, Value.int IntKind.u8 0, Value.int IntKind.u8 0, Value.int IntKind.u8 0, Value.int IntKind.u8 0, Value.int IntKind.u8 0, Value.int IntKind.u8 0, Value.int IntKind.u8 0, Value.int IntKind.u8 0, Value.int IntKind.u8 0, Value.int IntKind.u8 0, Value.int IntKind.u8 0, Value.int IntKind.u8 0, Value.int IntKind.u8 0, Value.int IntKind.u8 0] 30)).rangeAt pH 0 (H0.map u32v) ∧ (World.alloc v4 (Obj.cells #[Value.int IntKind.u8 0, Value.int IntKind.u8 0, Value.int IntKind.u8 0, Value.int IntKind.u8 0, Value.int IntKind.u8 0, Value.int IntKind.u8 0, Value.int IntKind.u8 0, Value.int IntKind.u8 0, Value.int IntKind.u8 0, Value.int IntKind.u8 0, Value.int IntKind.u8 0, Value.int IntKind.u8 0, Value.int IntKind.u8 0, Value.int IntKind.u8 0, Value.int IntKind.u8 0, Value.int IntKind.u8 0, Value.int IntKind.u8 0, Value.int IntKind.u8 0, Value.int IntKind.u8 0, Value.int IntKind.u8 0, Value.int IntKind.u8 0, Value.int IntKind.u8 0, Value.int IntKind.u8 0, Value.int IntKind.u8 0, Value.int IntKind.u8 0, Value.int IntKind.u8 0, Value.int IntKind.u8 0, Value.int IntKind.u8 0, Value.int IntKind.u8 0, Value.int IntKind.u8 0, Value.int IntKind.u8 0, Value.int IntKind.u8 0] 30)).rangeAt pK 0 (K0.map u32v) := two_chg hS4 ((Chg.refl none _).alloc _) (by simp) (by simp)
            go_simp
            refine hK.out _ _ hSA8 (fun _ => ?_)
            clear hK K
            try simp only [Act.put, List.setIfInBounds_toArray, List.set_cons_zero, List.set_cons_succ]
            generalize hx8 : World.alloc v4 (Obj.cells #[Value.int IntKind.u8 0, Value.int IntKind.u8 0, Value.int IntKind.u8 0, Value.int IntKind.u8 0, Value.int IntKind.u8 0, Value.int IntKind.u8 0, Value.int IntKind.u8 0, Value.int IntKind.u8 0, Value.int IntKind.u8 0, Value.int IntKind.u8 0, Value.int IntKind.u8 0, Value.int IntKind.u8 0, Value.int IntKind.u8 0, Value.int IntKind.u8 0, Value.int IntKind.u8 0, Value.int IntKind.u8 0, Value.int IntKind.u8 0, Value.int IntKind.u8 0, Value.int IntKind.u8 0, Value.int IntKind.u8 0, Value.int IntKind.u8 0, Value.int IntKind.u8 0, Value.int IntKind.u8 0, Value.int IntKind.u8 0, Value.int IntKind.u8 0, Value.int IntKind.u8 0, Value.int IntKind.u8 0, Value.int IntKind.u8 0, Value.int IntKind.u8 0, Value.int IntKind.u8 0, Value.int IntKind.u8 0, Value.int IntKind.u8 0] 30) = v8
            have bD8 : Blk v8 v4.heap.size zero32 30 := by rw [← hx8]; exact Blk.new _ _ _
            have g8 : Chg none v4 v8 := by rw [← hx8]; exact (Chg.refl _ _).alloc _
            have E8 := E4.trans g8
            have hS8 := two_chg hS4 g8 (by simp) (by simp)
            have a8 : pX < v8.heap.size := Nat.lt_of_lt_of_le a4 g8.size
            have b8 : pY < v8.heap.size := Nat.lt_of_lt_of_le b4 g8.size
            have OB8 := Lib.hid (OB4.out.kept g8 (.inr (by simp [Value.ownBlock])))
            have dA8 : v4.heap.size ≠ pX := by have := a4; omega
            have dB8 : v4.heap.size ≠ pY := by have := b4; omega
            have TX8 := Lib.hid (TX4.out.chg g8)
            clear hx8
            generalize v4.heap.size = pD at *
            refine wpAnyH_ready (rs := [5]) (by kernel_rfl) (by simp) ?_
            refine AllReadyH.cons (o := ⟨some 43, _, _, _, _, _⟩) rfl (fun K hK => ?_) (AllReadyH.nil)
            have HC9 := Lib.hid (HSUM.out v8 _ _ (64 + m) c4 TX8.out (by rw [List.length_append, HXL0.out, HM.out]) hcc4 (by omega))
            rw [← HD1.out] at HC9
            go_simp
            go_at_call 18
            refine HC9.out.mono ?_
            rintro e v9 ⟨rfl, g9⟩
            have E9 := E8.trans g9
            have hS9 := two_chg hS8 g9 (by simp) (by simp)
            have OB9 := Lib.hid (OB8.out.kept g9 (.inr (by simp [Value.ownBlock])))
            have b9 : pY < v9.heap.size := Nat.lt_of_lt_of_le b8 g9.size
            have a9 : pX < v9.heap.size := Nat.lt_of_lt_of_le a8 g9.size
            have bD9 := Blk.chg bD8 g9 (by simp)
            go_wp2_with fail
            refine hK.out _ _ hS9 (fun _ => ?_)
            clear hK K
            try simp only [Act.put, List.setIfInBounds_toArray, List.set_cons_zero, List.set_cons_succ]
            refine wpAnyH_ready (rs := [7]) (by kernel_rfl) (by simp) ?_
            refine AllReadyH.cons (o := ⟨none, _, _, _, _, _⟩) rfl (fun K hK => ?_) (AllReadyH.nil)
            rw [if_pos (by rfl)]
            have gS10 : Chg (some pD) v9 (World.setRow v9 pD (byteVals D1).toArray) := chg_setRow _ _ _
            have hSZ10 := two_chg hS9 gS10 (by simp; omega) (by simp; omega)
            have OB10 := Lib.hid (OB9.out.kept gS10 (.inr (by simp [Value.ownBlock]; omega)))
            have b10 : pY < (World.setRow v9 pD (byteVals D1).toArray).heap.size := Nat.lt_of_lt_of_le b9 gS10.size
            have E10 : Chg none w1 (World.setRow v9 pD (byteVals D1).toArray) := Chg.own (b := pD) E9 gS10 (by rw [← HB1.out]; omega)
            refine wp_store_row 30 (.tmp 13) (.tmp 43) (by rfl) pD (byteVals D1).toArray (by rfl) (by rfl) 30 zero32 bD9 HI.out HZ.out HO.out ?_
            refine hK.out _ _ hSZ10 (fun _ => ?_)
            clear hK K
            refine wpAnyH_done (by kernel_rfl) ?_ _
            try simp only [Act.put]
            go_wp2_with fail
            go_meet
            exact ⟨pD, rfl, setRow_heap _ _ _ _ _ _ bD9, OB10, b10, dB8, E10⟩
    · as_aux_lemma =>
        have hSA11 : (World.alloc v0 (Obj.cells #[Value.int IntKind.u8 0, Value.int IntKind.u8 0, Value.int IntKind.u8 0, Value.int IntKind.u8 0, Value.int IntKind.u8 0, Value.int IntKind.u8 0, Value.int IntKind.u8 0, Value.int IntKind.u8 0, Value.int IntKind.u8 0, Value.int IntKind.u8 0, Value.int IntKind.u8 0, Value.int IntKind.u8 0, Value.int IntKind.u8 0, Value.int IntKind.u8 0, Value.int IntKind.u8 0, Value.int IntKind.u8 0, Value.int IntKind.u8 0, Value.int IntKind.u8 0, Value.int IntKind.u8 0, Value.int IntKind.u8 0, Value.int IntKind.u8 0, Value.int IntKind.u8 0, Value.int IntKind.u8 0, Value.int IntKind.u8 0, Value.int IntKind.u8 0, Value.int IntKind.u8 0, Value.int IntKind.u8 0, Value.int IntKind.u8 0, Value.int IntKind.u8 0, Value.int IntKind.u8 0, Value.int IntKind.u8 0, Value.int IntKind.u8 0] 30)).rangeAt pH 0 (H0.map u32v) ∧ (World.alloc v0 (Obj.cells #[Value.int IntKind.u8 0, Value.int IntKind.u8 0, Value.int IntKind.u8 0, Value.int IntKind.u8 0, Value.int IntKind.u8 0, Value.int IntKind.u8 0, Value.int IntKind.u8 0, Value.int IntKind.u8 0, Value.int IntKind.u8 0, Value.int IntKind.u8 0, Value.int IntKind.u8 0, Value.int IntKind.u8 0, Value.int IntKind.u8 0, Value.int IntKind.u8 0, Value.int IntKind.u8 0, Value.int IntKind.u8 0, Value.int IntKind.u8 0, Value.int IntKind.u8 0, Value.int IntKind.u8 0, Value.int IntKind.u8 0, Value.int IntKind.u8 0, Value.int IntKind.u8 0, Value.int IntKind.u8 0, Value.int IntKind.u8 0, Value.int IntKind.u8 0, Value.int IntKind.u8 0, Value.int IntKind.u8 0, Value.int IntKind.u8 0, Value.int IntKind.u8 0, Value.int IntKind.u8 0, Value.int IntKind.u8 0, Value.int IntKind.u8 0] 30)).rangeAt pK 0 (K0.map u32v) := two_chg hS0 ((Chg.refl none _).alloc _) (by simp) (by simp)
        go_simp
        refine hK.out _ _ hSA11 (fun _ => ?_)
        clear hK K
        try simp only [Act.put, List.setIfInBounds_toArray, List.set_cons_zero, List.set_cons_succ]
        generalize hx11 : World.alloc v0 (Obj.cells #[Value.int IntKind.u8 0, Value.int IntKind.u8 0, Value.int IntKind.u8 0, Value.int IntKind.u8 0, Value.int IntKind.u8 0, Value.int IntKind.u8 0, Value.int IntKind.u8 0, Value.int IntKind.u8 0, Value.int IntKind.u8 0, Value.int IntKind.u8 0, Value.int IntKind.u8 0, Value.int IntKind.u8 0, Value.int IntKind.u8 0, Value.int IntKind.u8 0, Value.int IntKind.u8 0, Value.int IntKind.u8 0, Value.int IntKind.u8 0, Value.int IntKind.u8 0, Value.int IntKind.u8 0, Value.int IntKind.u8 0, Value.int IntKind.u8 0, Value.int IntKind.u8 0, Value.int IntKind.u8 0, Value.int IntKind.u8 0, Value.int IntKind.u8 0, Value.int IntKind.u8 0, Value.int IntKind.u8 0, Value.int IntKind.u8 0, Value.int IntKind.u8 0, Value.int IntKind.u8 0, Value.int IntKind.u8 0, Value.int IntKind.u8 0] 30) = v11
        have bD11 : Blk v11 v0.heap.size zero32 30 := by rw [← hx11]; exact Blk.new _ _ _
        have g11 : Chg none v0 v11 := by rw [← hx11]; exact (Chg.refl _ _).alloc _
        have E11 := E0.trans g11
        have hS11 := two_chg hS0 g11 (by simp) (by simp)
        have a11 : pX < v11.heap.size := Nat.lt_of_lt_of_le a0 g11.size
        have b11 : pY < v11.heap.size := Nat.lt_of_lt_of_le b0 g11.size
        have OB11 := Lib.hid (OB0.out.kept g11 (.inr (by simp [Value.ownBlock])))
        have dA11 : v0.heap.size ≠ pX := by have := a0; omega
        have dB11 : v0.heap.size ≠ pY := by have := b0; omega
        have OA11 := Lib.hid (OA.out.kept g11 (.inr (by simp [Value.ownBlock])))
        clear hx11
        generalize v0.heap.size = pD at *
        refine wpAnyH_ready (rs := [4]) (by kernel_rfl) (by simp) ?_
        refine AllReadyH.cons (o := ⟨some 42, _, _, _, _, _⟩) rfl (fun K hK => ?_) (AllReadyH.nil)
        have HRY12 := Lib.hid (txt_reads (HQ1.out _ E11))
        rw [← HM.out] at HRY12
        have hBs12 : B1 ≤ v11.heap.size := by rw [HB1.out]; exact E11.size
        refine step_append_any _ (by rfl) (.tmp 40) (.tmp 41) 22 (by rfl) B1 5 i0 (.int .u8 0) 1 1 Tryd.underlying22 hi hz0 hz1 hz2 rfl (by decide) _ 64 (byteVals X10) (by rfl) OA11.out _ q.A m q.c (byteVals y) (by rfl) HRY12.out HOY.out (by unfold maxLen; omega) (by omega) hBs12 ?_
        intro u12 v12 hown12 hgr12 _
        rw [byteVals_append] at hown12
        have g12 : Chg (some pX) v11 v12 := hgr12
        have E12 := own_chg E11 OA11.out (by rw [HB1.out]; exact Nat.le_refl _) hgr12
        have hS12 := two_chg hS11 g12 (by simp; omega) (by simp; omega)
        have OB12 := Lib.hid (OB11.out.kept g12 (.inr (by simp [Value.ownBlock]; omega)))
        have b12 : pY < v12.heap.size := Nat.lt_of_lt_of_le b11 g12.size
        have a12 : pX < v12.heap.size := Nat.lt_of_lt_of_le a11 g12.size
        obtain ⟨A12, c12, rfl⟩ := own_slice hown12
        obtain ⟨hTX12, hnl12, hcc12⟩ := own_txt hown12
        have TX12 := Lib.hid hTX12
        have bD12 := Blk.chg bD11 g12 (by simp; omega)
        clear hown12 hgr12 hTX12 hnl12 HRY12
        refine hK.out _ _ hS12 (fun _ => ?_)
        clear hK K
        try simp only [Act.put, List.setIfInBounds_toArray, List.set_cons_zero, List.set_cons_succ]
        refine wpAnyH_ready (rs := [5]) (by kernel_rfl) (by simp) ?_
        refine AllReadyH.cons (o := ⟨some 43, _, _, _, _, _⟩) rfl (fun K hK => ?_) (AllReadyH.nil)
        have HC13 := Lib.hid (HSUM.out v12 _ _ (64 + m) c12 TX12.out (by rw [List.length_append, HXL0.out, HM.out]) hcc12 (by omega))
        rw [← HD1.out] at HC13
        go_simp
        go_at_call 18
        refine HC13.out.mono ?_
        rintro e v13 ⟨rfl, g13⟩
        have E13 := E12.trans g13
        have hS13 := two_chg hS12 g13 (by simp) (by simp)
        have OB13 := Lib.hid (OB12.out.kept g13 (.inr (by simp [Value.ownBlock])))
        have b13 : pY < v13.heap.size := Nat.lt_of_lt_of_le b12 g13.size
        have a13 : pX < v13.heap.size := Nat.lt_of_lt_of_le a12 g13.size
        have bD13 := Blk.chg bD12 g13 (by simp)
        go_wp2_with fail
        refine hK.out _ _ hS13 (fun _ => ?_)
        clear hK K
        try simp only [Act.put, List.setIfInBounds_toArray, List.set_cons_zero, List.set_cons_succ]
        refine wpAnyH_ready (rs := [7]) (by kernel_rfl) (by simp) ?_
        refine AllReadyH.cons (o := ⟨none, _, _, _, _, _⟩) rfl (fun K hK => ?_) (AllReadyH.nil)
        rw [if_pos (by rfl)]
        have gS14 : Chg (some pD) v13 (World.setRow v13 pD (byteVals D1).toArray) := chg_setRow _ _ _
        have hSZ14 := two_chg hS13 gS14 (by simp; omega) (by simp; omega)
        have OB14 := Lib.hid (OB13.out.kept gS14 (.inr (by simp [Value.ownBlock]; omega)))
        have b14 : pY < (World.setRow v13 pD (byteVals D1).toArray).heap.size := Nat.lt_of_lt_of_le b13 gS14.size
        have E14 : Chg none w1 (World.setRow v13 pD (byteVals D1).toArray) := Chg.own (b := pD) E13 gS14 (by rw [← HB1.out]; omega)
        refine wp_store_row 30 (.tmp 13) (.tmp 43) (by rfl) pD (byteVals D1).toArray (by rfl) (by rfl) 30 zero32 bD13 HI.out HZ.out HO.out ?_
        refine hK.out _ _ hSZ14 (fun _ => ?_)
        clear hK K
        refine wpAnyH_done (by kernel_rfl) ?_ _
        try simp only [Act.put]
        go_wp2_with fail
        go_meet
        exact ⟨pD, rfl, setRow_heap _ _ _ _ _ _ bD13, OB14, b14, dB11, E14⟩
  case rest =>
  obtain ⟨pD, rfl, bD, HP3, hpY3, hneD, g13⟩ := hcut
  obtain ⟨w3, rfl⟩ : ∃ w3 : World, w3 = wc := ⟨_, rfl⟩
  have E0 : Chg none w1 w3.drew := g13.drew
  have bH3 := Blk.chg bH1 g13 (by simp)
  have bK3 := Blk.chg bK1 g13 (by simp)
  have bR3 := Blk.chg bR1 g13 (by simp)
  have hS0 : w3.drew.rangeAt pH 0 (H0.map u32v) ∧ w3.drew.rangeAt pK 0 (K0.map u32v) := ⟨Blk.range (w := w3.drew) (T := 25) bH3, Blk.range (w := w3.drew) (T := 26) bK3⟩
  have OB0 : Hid (w3.drew.ownsRow B1 5 1 (.slice (some ⟨pY, 0, none⟩) 64 c11) 64 (byteVals X11)) := by show World.ownsRow _ _ _ _ _ _ _; exact HP3.out.kept ((Chg.refl none w3).drew) (.inr (by simp [Value.ownBlock]))
  have hRd : Blk w3.drew pR zero32 30 := bR3
  have bD0 : BlkL w3.drew pD (byteVals D1) 30 := bD
  obtain ⟨hts, hto⟩ := row_facts T 32 HTL.out
  have HIT := Lib.hid (show (Tryd.prog.info? 30).map (·.size) = some (byteVals T).toArray.size by rw [hts]; kernel_rfl)
  have HZT := Lib.hid (show zero32.size = (byteVals T).toArray.size by rw [hts]; rfl)
  have HOT := Lib.hid hto
  have HRD : Hid (Reads w3.drew w3.drew.heap.size 1 (some ⟨pD, 0, none⟩) 32 (byteVals D1)) := by
    have := txt_reads (prt_of_row (n := 32) bD0 (by rw [HDL.out]; exact Nat.le_refl _)).1
    rw [HDL.out] at this
    exact this
  go_upto_region 9 with fail
  refine wp_region_held_drew (S := fun w' => w'.rangeAt pH 0 (H0.map u32v) ∧ w'.rangeAt pK 0 (K0.map u32v)) (by kernel_rfl) hS0 (fun _ => ?_)
  clear bH2 bK2 bR2 bH3 bK3 bR3 HP10 HP11 HP3 hts hto bD bD0 hpX hpY hpY3 HI HZ HO HOY
  generalize w3.drew = v0 at *
  refine wpAnyH_take (i := 0) (oi := ⟨some 44, _, _, _, _, _⟩) (v := .agg HA) rfl (by kernel_rfl) (by kernel_rfl) (by kernel_rfl) (fun _ _ _ h => h) (by rw [HHA.out]; exact yieldsIf_load_mid (by rfl) 25 _ rfl pH 0 rfl (H0.map u32v) _ (fun _ h => h.1) Tryd.underlying25 rfl HL25.out) (by assumption) ?_
  try simp only [Act.put, List.setIfInBounds_toArray, List.set_cons_zero, List.set_cons_succ]
  refine wpAnyH_take (i := 1) (oi := ⟨some 45, _, _, _, _, _⟩) (v := .agg KA) rfl (by kernel_rfl) (by kernel_rfl) (by kernel_rfl) (fun _ _ _ h => h) (by rw [HKA.out]; exact yieldsIf_load_mid (by rfl) 26 _ rfl pK 0 rfl (K0.map u32v) _ (fun _ h => h.2) Tryd.underlying26 rfl HL26.out) (by assumption) ?_
  try simp only [Act.put, List.setIfInBounds_toArray, List.set_cons_zero, List.set_cons_succ]
  refine wpAnyH_take (i := 2) (oi := ⟨some 46, _, _, _, _, _⟩) (v := ?_) rfl (by kernel_rfl) (by kernel_rfl) (by kernel_rfl) (fun _ _ _ h => h) (Or.inl ⟨by rfl, ?_⟩) (by assumption) ?_
  rotate_left
  · intro w hSw; (try dsimp only at hSw); go_simp; (try with_reducible rfl)
  try simp only [Act.put, List.setIfInBounds_toArray, List.set_cons_zero, List.set_cons_succ]
  refine wpAnyH_take (i := 3) (oi := ⟨some 47, _, _, _, _, _⟩) (v := ?_) rfl (by kernel_rfl) (by kernel_rfl) (by kernel_rfl) (fun _ _ _ h => h) (Or.inl ⟨by rfl, ?_⟩) (by assumption) ?_
  rotate_left
  · intro w hSw; (try dsimp only at hSw); go_simp; (try with_reducible rfl)
  try simp only [Act.put, List.setIfInBounds_toArray, List.set_cons_zero, List.set_cons_succ]
  refine wpAnyH_ready (rs := [4]) (by kernel_rfl) (by simp) ?_
  refine AllReadyH.cons (o := ⟨some 48, _, _, _, _, _⟩) rfl (fun K hK => ?_) (AllReadyH.nil)
  have hBs1 : B1 ≤ v0.heap.size := by rw [HB1.out]; exact E0.size
  refine step_append_any _ (by rfl) (.tmp 46) (.tmp 47) 22 (by rfl) B1 5 i0 (.int .u8 0) 1 1 Tryd.underlying22 hi hz0 hz1 hz2 rfl (by decide) _ 64 (byteVals X11) (by rfl) OB0.out _ (some ⟨pD, 0, none⟩) 32 32 (byteVals D1) (by rfl) HRD.out HOD.out (by unfold maxLen; decide) (by decide) hBs1 ?_
  intro u1 v1 hown1 hgr1 _
  rw [byteVals_append] at hown1
  simp only [Nat.reduceAdd] at hown1
  have g1 : Chg (some pY) v0 v1 := hgr1
  have E1 := own_chg E0 OB0.out (by rw [HB1.out]; exact Nat.le_refl _) hgr1
  have hS1 := two_chg hS0 g1 (by simp; omega) (by simp; omega)
  have bR1 := Blk.chg hRd g1 (by simp; omega)
  obtain ⟨A1, c1, rfl⟩ := own_slice hown1
  obtain ⟨hTX1, hnl1, hcc1⟩ := own_txt hown1
  have HC1 := Lib.hid (HSUM.out v1 _ _ 96 c1 hTX1 (by rw [List.length_append, HXL1.out, HDL.out]) hcc1 (by decide))
  rw [← HT.out] at HC1
  clear hown1 hgr1 hTX1 hnl1 hcc1
  refine hK.out _ _ hS1 (fun _ => ?_)
  clear hK K
  try simp only [Act.put, List.setIfInBounds_toArray, List.set_cons_zero, List.set_cons_succ]
  refine wpAnyH_ready (rs := [5]) (by kernel_rfl) (by simp) ?_
  refine AllReadyH.cons (o := ⟨some 49, _, _, _, _, _⟩) rfl (fun K hK => ?_) (AllReadyH.nil)
  go_simp
  go_at_call 18
  refine HC1.out.mono ?_
  rintro e v2 ⟨rfl, g2⟩
  have E2 := E1.trans g2
  have hS2 := two_chg hS1 g2 (by simp) (by simp)
  have bR2 := Blk.chg bR1 g2 (by simp)
  go_wp2_with fail
  refine hK.out _ _ hS2 (fun _ => ?_)
  clear hK K
  try simp only [Act.put, List.setIfInBounds_toArray, List.set_cons_zero, List.set_cons_succ]
  refine wpAnyH_ready (rs := [6]) (by kernel_rfl) (by simp) ?_
  refine AllReadyH.cons (o := ⟨none, _, _, _, _, _⟩) rfl (fun K hK => ?_) (AllReadyH.nil)
  rw [if_pos (by rfl)]
  have gS3 : Chg (some pR) v2 (World.setRow v2 pR (byteVals T).toArray) := chg_setRow _ _ _
  have hSZ3 := two_chg hS2 gS3 (by simp; omega) (by simp; omega)
  refine wp_store_row 30 (.tmp 8) (.tmp 49) (by rfl) pR (byteVals T).toArray (by rfl) (by rfl) 30 zero32 bR2 HIT.out HZT.out HOT.out ?_
  refine hK.out _ _ hSZ3 (fun _ => ?_)
  clear hK K
  refine wpAnyH_done (by kernel_rfl) ?_ _
  try simp only [Act.put]
  go_wp2_with fail
  refine bodyPost_ret (results_cell_row (p := 8) (ty := 30) Tryd.results44 _ _ pR 30 (byteVals T).toArray (0, 0) _ rfl (setRow_heap _ _ _ _ _ _ bR2) Tryd.underlying30 rfl HIT.out) rfl ⟨rfl, ?_⟩
  exact Chg.own (b := pR) (g01.trans E2) (chg_setRow _ _ _) (by rw [HPH.out]; omega)

end Go.Proofs.YtehpigmcmgfkoaaDoor
