/-
  The document's Bytes.
-/
import Derived.Test.YtglfakglcoffkaaTRM
import Derived.Test.YtglfakglcoffkaaTR
namespace Go.Proofs.Ytglfakglcoffkaa
open Go.RowKit

set_option maxHeartbeats 32000000 in
set_option maxRecDepth 100000 in
theorem refbytes37 (L : List Fil) (A : Option Addr) (c : Nat) (w : World) (hT : TreeAt w A L) (hm : mayT L = true) :
    Calls Try.prog 37 #[.slice A L.length c] w fun e w' => ∃ A' n c', e = .returned (.slice A' n c') ∧ ByAt w w' A' n c' (treeB L) := by
  obtain ⟨i0, hi, hz0, hz1, hz2⟩ := info_parts Try.info5
  obtain ⟨hl, hsm, -, -⟩ := mayT_parts hm
  have HSM := Lib.hid hsm
  have HT : Hid (∀ v, Chg none w v → TreeAt v A L) := fun v g => hT.chg g
  have HPL : Hid (∀ k, (partT L k).length ≤ 33000) := partT_len hm
  have HFO : Hid (∀ (m : Nat) (v : World), m < 18446744073709551616 → Calls Try.prog 55 #[.int .u64 m] v fun e w' => ∃ A n c, e = .returned (.slice A n c) ∧ n = (form m).length ∧ Reads w' w'.heap.size 1 A n (byteVals (form m)) ∧ Chg none v w') :=
    fun m v h => (refForm_any m v h).mono fun e w' hp => post_chg hp
  have HOB : Hid (∀ x : List UInt8, ∀ u ∈ byteVals x, u.oneCell' = true) := fun x => byteVals_one x
  have HL16 := Lib.hid hl
  have hwl : IntKind.u64.wrap (L.length : Int) = (L.length : Int) := by rw [IntKind.wrap_u64]; omega
  have HF1 := Lib.hid (refForm_any L.length w (by omega))
  clear hT hm hsm hl
  go_enter Try.func37, Try.ntmps37
  go_wp2_with fail
  refine HF1.out.mono ?_
  rintro e w2 hp2
  obtain ⟨A2, n2, c2, rfl, hb2, -⟩ := ByAt.of_post hp2 (Chg.refl none w)
  have B2 : Hid (ByAt w w2 A2 n2 c2 (partT L 0)) := by
    show ByAt _ _ _ _ _ _
    have e : partT L 0 = form L.length := by unfold partT; simp
    rw [e]; exact hb2
  clear hb2 hp2 HF1 hwl
  go_wp2_with fail
  go_loopw [3, 4] (fun s3 s4 wr => ∃ (k : Nat) (A1 : Option Addr) (n1 c1 : Nat), s4 = .int .i64 k ∧ s3 = .slice A1 n1 c1 ∧ Hid (k ≤ L.length) ∧ Hid (ByAt w wr A1 n1 c1 (partT L k))) (fun _ s4 _ => L.length - (intOf s4).toNat)
  case atStart => exact ⟨0, A2, n2, c2, rfl, rfl, Lib.hid (Nat.zero_le _), B2⟩
  case round =>
    obtain ⟨k, A1, n1, c1, rfl, rfl, H1, H2⟩ := hrel
    by_cases hlt : k < L.length
    · have hd : decide ((k : Int) < (L.length : Int)) = true := by rw [decide_eq_true_eq]; omega
      obtain ⟨x, hkx⟩ : ∃ x, L[k]? = some x := ⟨_, List.getElem?_eq_getElem hlt⟩
      have hne : L ≠ [] := by intro e; subst e; simp at hlt
      have HRW := Lib.hid (HT.out wr H2.out.2.2)
      obtain ⟨b, off, rfl, -, -⟩ := HRW.out.1 hne
      have HTW : Hid (∀ v, Chg none w v → v.cell? ⟨b, off + k * 2, none⟩ = some (.string ⟨x.p.toArray⟩) ∧ v.cell? ⟨b, off + k * 2 + 1, none⟩ = some (.slice x.A x.x.length x.c)) := fun v g => ((HT.out v g).1.two hkx).2
      have hblt := (HRW.out.1.two hkx).1
      have HTX : Hid (∀ v, Chg none w v → Reads v v.heap.size 1 x.A x.x.length (byteVals x.x)) := fun v g => txt_reads ((HT.out v g).2 x (List.mem_of_getElem? hkx)).t
      have HLT := Lib.hid hlt
      have HFP : Hid (x.p.length ≤ 40) := (path_len (HSM.out x (List.mem_of_getElem? hkx)).1).2
      have HFX : Hid (x.x.length ≤ 2000) := (HSM.out x (List.mem_of_getElem? hkx)).2
      have HPS := Lib.hid (partT_succ hkx)
      unfold fileF row at HPS
      have HPK : Hid ((partT L k).length ≤ 33000) := HPL.out k
      have hwk : wrap64 ((k : Int) + 1) = ((k + 1 : Nat) : Int) := by have h1 := HL16.out; unfold wrap64; omega
      have HWK := Lib.hid hwk
      obtain ⟨x0, x1⟩ := HTW.out wr H2.out.2.2
      clear hkx hne HRW HT hlt HSM B2 HPL hwk hblt
      obtain ⟨fp, fA, fx, fc⟩ := x
      dsimp only at x0 x1 HTW HTX HFP HFX HPS
      obtain ⟨B0, HB0⟩ : ∃ B0, Hid (B0 = partT L k) := ⟨_, Lib.hid rfl⟩
      rw [← HB0.out] at H2 HPS HPK
      have HN1 : Hid (n1 ≤ 33000) := by show _ ≤ _; rw [H2.out.1]; exact HPK.out
      have hwp : IntKind.u64.wrap (fp.length : Int) = (fp.length : Int) := by have := HFP.out; rw [IntKind.wrap_u64]; omega
      have hwx : IntKind.u64.wrap (fx.length : Int) = (fx.length : Int) := by have := HFX.out; rw [IntKind.wrap_u64]; omega
      have HFm := Lib.hid (HFO.out fp.length wr (by have := HFP.out; omega))
      have HFn : Hid (∀ v, Calls Try.prog 55 #[.int .u64 fx.length] v fun e w' => ∃ A n c, e = .returned (.slice A n c) ∧ n = (form fx.length).length ∧ Reads w' w'.heap.size 1 A n (byteVals (form fx.length)) ∧ Chg none v w') := fun v => HFO.out fx.length v (by have := HFX.out; omega)
      go_wp2_with fail
      refine HFm.out.mono ?_
      rintro e v3 ⟨Af, nf, cf, rfl, hnf, hrf, hgf⟩
      have HBf := Lib.hid (H2.out.chg hgf)
      have HRf := Lib.hid hrf
      have HOf := Lib.hid (HOB.out (form fp.length))
      have hfs := form_small fp.length (by have := HFP.out; omega)
      have HNf : Hid (nf ≤ 9) := by show _ ≤ _; rw [hnf]; exact hfs
      have HSf : Hid (w.heap.size ≤ v3.heap.size) := HBf.out.2.2.size
      have HEf := Lib.hid hnf
      clear hnf hrf hgf hfs HFm H2 hwp x0 x1
      go_wp2_with (at_builtin; refine wpList_append_any _ rfl (.tmp 15) (.tmp 23) 22 rfl w.heap.size 5 i0 (.int .u8 0) 1 1 Try.underlying22 hi hz0 hz1 hz2 rfl (by decide) _ n1 (byteVals (B0)) rfl HBf.out.2.1 _ Af nf cf (byteVals (form fp.length)) rfl HRf.out HOf.out (by have := HNf.out; have := HN1.out; unfold maxLen; omega) (by have := HNf.out; have := HN1.out; omega) HSf.out ?_)
      intro vv w3 hown hgr _
      obtain ⟨A3, c3, rfl⟩ := own_slice hown
      have B3 := Lib.hid (HBf.out.app HEf.out hown hgr)
      clear HBf HRf HOf HSf HEf hown hgr
      have HN3 : Hid (n1 + nf ≤ 33009) := by have := HNf.out; have := HN1.out; show _ ≤ _; omega
      obtain ⟨n3, hnk⟩ : ∃ n3, n3 = n1 + nf := ⟨_, rfl⟩
      obtain ⟨B1, HB1⟩ : ∃ B1, Hid (B1 = B0 ++ form fp.length) := ⟨_, Lib.hid rfl⟩
      rw [← hnk] at B3 HN3
      rw [← HB1.out] at B3
      try rw [← hnk]
      clear hnk HNf HN1
      obtain ⟨x0, x1⟩ := HTW.out w3 B3.out.2.2
      have cs := fun v => conv_sb fp v
      have hrd := sb_reads fp w3
      have hcg := sb_chg ⟨fp.toArray⟩ w3
      have HB4 := Lib.hid (B3.out.chg hcg)
      have HR4 := Lib.hid hrd
      have HO4 := Lib.hid (HOB.out fp)
      have HS4 : Hid (w.heap.size ≤ (Lib.bytesWorld w3 5 ⟨fp.toArray⟩).heap.size) := HB4.out.2.2.size
      clear hrd hcg
      go_wp2_with (at_builtin; refine wpList_append_any _ rfl (.tmp 25) (.tmp 31) 22 rfl w.heap.size 5 i0 (.int .u8 0) 1 1 Try.underlying22 hi hz0 hz1 hz2 rfl (by decide) _ n3 (byteVals (B1)) rfl HB4.out.2.1 _ (some ⟨w3.heap.size, 0, none⟩) fp.length _ (byteVals (fp)) rfl HR4.out HO4.out (by have := HFP.out; have := HN3.out; unfold maxLen; omega) (by have := HFP.out; have := HN3.out; omega) HS4.out ?_)
      intro vv w5 hown hgr _
      obtain ⟨A5, c5, rfl⟩ := own_slice hown
      have B5 := Lib.hid (HB4.out.app (y := fp) rfl hown hgr)
      clear HB4 HR4 HO4 HS4 hown hgr cs B3 x0 x1
      have HN5 : Hid (n3 + fp.length ≤ 33049) := by have := HFP.out; have := HN3.out; show _ ≤ _; omega
      obtain ⟨n5, hnk⟩ : ∃ n5, n5 = n3 + fp.length := ⟨_, rfl⟩
      obtain ⟨B2, HB2⟩ : ∃ B2, Hid (B2 = B1 ++ fp) := ⟨_, Lib.hid rfl⟩
      rw [← hnk] at B5 HN5
      rw [← HB2.out] at B5
      try rw [← hnk]
      clear hnk HN3
      obtain ⟨x0, x1⟩ := HTW.out w5 B5.out.2.2
      go_wp2_with fail
      refine (HFn.out _).mono ?_
      rintro e v6 ⟨Af, nf, cf, rfl, hnf, hrf, hgf⟩
      have HBf := Lib.hid (B5.out.chg hgf)
      have HRf := Lib.hid hrf
      have HOf := Lib.hid (HOB.out (form fx.length))
      have hfs := form_small fx.length (by have := HFX.out; omega)
      have HNf : Hid (nf ≤ 9) := by show _ ≤ _; rw [hnf]; exact hfs
      have HSf : Hid (w.heap.size ≤ v6.heap.size) := HBf.out.2.2.size
      have HEf := Lib.hid hnf
      clear hnf hrf hgf hfs HFn B5 hwx x0 x1
      go_wp2_with (at_builtin; refine wpList_append_any _ rfl (.tmp 33) (.tmp 41) 22 rfl w.heap.size 5 i0 (.int .u8 0) 1 1 Try.underlying22 hi hz0 hz1 hz2 rfl (by decide) _ n5 (byteVals (B2)) rfl HBf.out.2.1 _ Af nf cf (byteVals (form fx.length)) rfl HRf.out HOf.out (by have := HNf.out; have := HN5.out; unfold maxLen; omega) (by have := HNf.out; have := HN5.out; omega) HSf.out ?_)
      intro vv w7 hown hgr _
      obtain ⟨A7, c7, rfl⟩ := own_slice hown
      have B7 := Lib.hid (HBf.out.app HEf.out hown hgr)
      clear HBf HRf HOf HSf HEf hown hgr
      have HN7 : Hid (n5 + nf ≤ 33058) := by have := HNf.out; have := HN5.out; show _ ≤ _; omega
      obtain ⟨n7, hnk⟩ : ∃ n7, n7 = n5 + nf := ⟨_, rfl⟩
      obtain ⟨B3, HB3⟩ : ∃ B3, Hid (B3 = B2 ++ form fx.length) := ⟨_, Lib.hid rfl⟩
      rw [← hnk] at B7 HN7
      rw [← HB3.out] at B7
      try rw [← hnk]
      clear hnk HNf HN5
      obtain ⟨x0, x1⟩ := HTW.out w7 B7.out.2.2
      have HR8 := Lib.hid (HTX.out w7 B7.out.2.2)
      have HO8 := Lib.hid (HOB.out fx)
      have HS8 : Hid (w.heap.size ≤ w7.heap.size) := B7.out.2.2.size
      go_wp2_with (at_builtin; refine wpList_append_any _ rfl (.tmp 43) (.tmp 48) 22 rfl w.heap.size 5 i0 (.int .u8 0) 1 1 Try.underlying22 hi hz0 hz1 hz2 rfl (by decide) _ n7 (byteVals (B3)) rfl B7.out.2.1 _ fA fx.length fc (byteVals (fx)) rfl HR8.out HO8.out (by have := HFX.out; have := HN7.out; unfold maxLen; omega) (by have := HFX.out; have := HN7.out; omega) HS8.out ?_)
      intro vv w9 hown hgr _
      obtain ⟨A9, c9, rfl⟩ := own_slice hown
      have B9 := Lib.hid (B7.out.app (y := fx) rfl hown hgr)
      clear B7 HR8 HO8 HS8 hown hgr x0 x1
      have HFIN : Hid (ByAt w w9 A9 (n7 + fx.length) c9 (partT L (k + 1))) := by
        show ByAt _ _ _ _ _ _
        have e : partT L (k + 1) = B3 ++ fx := by
          rw [HPS.out, HB3.out, HB2.out, HB1.out]
          simp only [List.append_assoc]
        rw [e]; exact B9.out
      clear B9 HB0 HB1 HB2 HB3 HPS HPK
      go_wp2_with fail
      go_roundw
      case rel => exact ⟨k + 1, A9, n7 + fx.length, c9, by first | (rw [HWK.out]; done) | rfl | (simp; done), by first | rfl | (simp; done), Lib.hid HLT.out, HFIN⟩
      case measure =>
        have := HLT.out
        first | (rw [HWK.out]; simp only [intOf]; omega) | omega | (simp only [intOf]; omega) | (simp [intOf]; omega)
    · have hd : decide (k < L.length) = false := by rw [decide_eq_false_iff_not]; exact hlt
      have hd2 : decide ((k : Int) < (L.length : Int)) = false := by rw [decide_eq_false_iff_not]; omega
      have I2' : Hid (ByAt w wr A1 n1 c1 (treeB L)) := by
        show ByAt _ _ _ _ _ _
        rw [← partT_all (k := k) (by omega)]; exact H2.out
      clear hlt H2
      go_wp2_with fail
      go_ret
      exact ⟨A1, n1, c1, rfl, I2'.out⟩

end Go.Proofs.Ytglfakglcoffkaa
