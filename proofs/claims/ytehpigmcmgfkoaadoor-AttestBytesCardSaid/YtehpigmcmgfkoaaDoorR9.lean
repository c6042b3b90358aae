/-
  The document's tag: the words of a key.
-/
import Derived.Test.YtehpigmcmgfkoaaDoorRS
import Derived.Test.YtehpigmcmgfkoaaDoorH4
namespace Go.Proofs.YtehpigmcmgfkoaaDoor
open Go.RowKit

theorem info25_H0 : (Tryd.prog.info? 25).map (·.size) = some (H0.map u32v).toArray.size := by kernel_rfl
theorem info26_K0 : (Tryd.prog.info? 26).map (·.size) = some (K0.map u32v).toArray.size := by kernel_rfl

set_option maxRecDepth 100000 in
set_option maxHeartbeats 8000000 in
theorem keyr_any (p : Prt) (w : World) (hp : p.ok w) (hn : p.x.length ≤ 1000000) :
    Calls Tryd.prog 56 #[.agg (H0.map u32v).toArray, .agg (K0.map u32v).toArray, .slice p.A p.x.length p.c] w (OwnPost w (keyB p.x)) := by
  obtain ⟨i0, hi, hz0, hz1, hz2⟩ := info_parts Tryd.info5
  obtain ⟨M, hM⟩ : ∃ M, M = if 64 < p.x.length then dig p.x else p.x := ⟨_, rfl⟩
  have hk : keyB p.x = M ++ zeros (64 - M.length) := by
    rw [hM]; unfold keyB zeros
    by_cases h : 64 < p.x.length
    · rw [if_pos h, if_pos h, dig_len]
    · rw [if_neg h, if_neg h]
  have hMl : M.length ≤ 64 := by
    rw [hM]
    by_cases h : 64 < p.x.length
    · rw [if_pos h, dig_len]; omega
    · rw [if_neg h]; omega
  obtain ⟨HA, hHA⟩ : ∃ HA, HA = (H0.map u32v).toArray := ⟨_, rfl⟩
  obtain ⟨KA, hKA⟩ : ∃ KA, KA = (K0.map u32v).toArray := ⟨_, rfl⟩
  have HSR : Hid (∀ v, Chg none w v → Calls Tryd.prog 18 #[.agg HA, .agg KA, .slice p.A p.x.length p.c] v fun e w' => e = .returned (.agg (byteVals (dig p.x)).toArray) ∧ Chg none v w') := by
    rw [hHA, hKA]; exact fun v g => sumr_any p v (hp.chg g) hn
  have HI25 : Hid ((Tryd.prog.info? 25).map (·.size) = some HA.size) := by rw [hHA]; exact info25_H0
  have HI26 : Hid ((Tryd.prog.info? 26).map (·.size) = some KA.size) := by rw [hKA]; exact info26_K0
  obtain ⟨W2, hW2⟩ : ∃ W2, W2 = (w.alloc (.cells HA 25)).alloc (.cells KA 26) := ⟨_, rfl⟩
  have HW2 : Hid ((w.alloc (.cells HA 25)).alloc (.cells KA 26) = W2) := hW2.symm
  have g0 : Chg none w W2 := by rw [hW2]; exact ((Chg.refl _ _).alloc _).alloc _
  have bH : Blk W2 w.heap.size HA 25 := by rw [hW2]; exact Blk.alloc (Blk.new _ _ _) _
  have bK : Blk W2 (w.heap.size + 1) KA 26 := by rw [hW2]; exact Blk.newAt _ _ (by simp)
  rw [← hHA, ← hKA]
  obtain ⟨s, hs⟩ : ∃ s, s = p.x := ⟨_, rfl⟩
  obtain ⟨n, hn'⟩ : ∃ n, n = s.length := ⟨_, rfl⟩
  obtain ⟨D, hD⟩ : ∃ D, D = dig s := ⟨_, rfl⟩
  have hDl : D.length = 32 := by rw [hD, dig_len]
  obtain ⟨hds, hdo⟩ := row_facts D 32 hDl
  have HI30 : Hid ((Tryd.prog.info? 30).map (·.size) = some (byteVals D).toArray.size) := by rw [hds]; show _ = _; kernel_rfl
  have HZ30 : Hid (zero32.size = (byteVals D).toArray.size) := by rw [hds]; rfl
  have HO30 := Lib.hid hdo
  have HNW := Lib.hid (fun (W : World) => heap_alloc_new W (.cells zero32 30))
  have HT : Hid (Txt W2 p.A s) := by rw [hs]; exact hp.1.chg g0
  have hcp : n ≤ p.c := by rw [hn', hs]; exact hp.2
  rw [← hs, ← hD] at HSR
  rw [← hs] at hM hk hn ⊢
  rw [← hn'] at HSR hM hn ⊢
  rw [← hD] at hM
  have HM := Lib.hid hM
  have HK := Lib.hid hk
  have HN := Lib.hid hn'
  have HDL := Lib.hid hDl
  obtain ⟨ML, hML⟩ : ∃ ML, ML = M.length := ⟨_, rfl⟩
  rw [← hML] at HK hMl
  have HML := Lib.hid hML
  have hle : w.heap.size ≤ w.heap.size := Nat.le_refl _
  clear hHA hKA hW2 hs hn' hD hDl hds hdo hM hk hML hp
  go_enter Tryd.func56, Tryd.ntmps56
  go_upto_region 1 with fail
  rw [HW2.out]
  clear HW2
  generalize w.heap.size + 1 = pK at *
  generalize hpH : w.heap.size = pH at *
  have HPH := Lib.hid hpH
  clear hpH
  have hrH : W2.heap[pH]? = some (.cells HA 25 (0, 0)) := bH
  have hrK : W2.heap[pK]? = some (.cells KA 26 (0, 0)) := bK
  have HRH := Lib.hid hrH
  have HRK := Lib.hid hrK
  clear hrH hrK bH bK
  go_upto_if 11 with fail
  go_cut [2, 7] (fun s2 _ wx => ∃ A c, s2 = .slice A ML c ∧ Hid (Txt wx A M) ∧ ML ≤ c ∧ Chg none w wx)
  case first =>
    by_cases h64 : 64 < n
    · have hMD : M = D := by rw [HM.out, if_pos h64]
      have hM32 : ML = 32 := by rw [HML.out, hMD, HDL.out]
      have d64 : decide ((64 : Int) < (n : Int)) = true := by simp <;> omega
      have HMD := Lib.hid hMD
      clear hMD
      go_wp2_with (first
        | (refine wpList_load_row rfl 25 _ rfl pH rfl 25 _ (0, 0) _ HRH.out Tryd.underlying25 rfl HI25.out ?_)
        | (refine wpList_load_row rfl 26 _ rfl pK rfl 26 _ (0, 0) _ HRK.out Tryd.underlying26 rfl HI26.out ?_))
      refine (HSR.out W2 g0).mono ?_
      rintro e w1 ⟨rfl, g1⟩
      have hNW1 := HNW.out w1
      have HN1 := Lib.hid hNW1
      obtain ⟨W3, hW3⟩ : ∃ W3, W3 = (w1.alloc (.cells zero32 30)).setRow w1.heap.size (byteVals D).toArray := ⟨_, rfl⟩
      have HW3 : Hid ((w1.alloc (.cells #[Value.int IntKind.u8 0, Value.int IntKind.u8 0, Value.int IntKind.u8 0, Value.int IntKind.u8 0, Value.int IntKind.u8 0, Value.int IntKind.u8 0, Value.int IntKind.u8 0, Value.int IntKind.u8 0, Value.int IntKind.u8 0, Value.int IntKind.u8 0, Value.int IntKind.u8 0, Value.int IntKind.u8 0, Value.int IntKind.u8 0, Value.int IntKind.u8 0, Value.int IntKind.u8 0, Value.int IntKind.u8 0, Value.int IntKind.u8 0, Value.int IntKind.u8 0, Value.int IntKind.u8 0, Value.int IntKind.u8 0, Value.int IntKind.u8 0, Value.int IntKind.u8 0, Value.int IntKind.u8 0, Value.int IntKind.u8 0, Value.int IntKind.u8 0, Value.int IntKind.u8 0, Value.int IntKind.u8 0, Value.int IntKind.u8 0, Value.int IntKind.u8 0, Value.int IntKind.u8 0, Value.int IntKind.u8 0, Value.int IntKind.u8 0] 30)).setRow w1.heap.size (byteVals D).toArray = W3) := hW3.symm
      have hnr := new_row w1 (byteVals D).toArray
      rw [← hW3] at hnr
      have g3 : Chg none w W3 := (g0.trans g1).trans hnr.1
      have hT3 : Txt W3 (some ⟨w1.heap.size, 0, none⟩) M := by rw [HMD.out]; exact (prt_of_row (n := 32) hnr.2 (by rw [HDL.out]; omega)).1
      have HT3 := Lib.hid hT3
      clear hNW1 hW3 hnr hT3
      go_wp2_with (refine wpList_store_row rfl 30 _ _ rfl w1.heap.size (byteVals D).toArray rfl rfl 30 _ HN1.out HI30.out HZ30.out HO30.out ?_)
      rw [HW3.out]
      clear HW3 HN1
      generalize w1.heap.size = pD at *
      go_wp2_with fail
      go_meet
      exact ⟨_, _, by rw [hM32], HT3, by rw [hM32]; exact Nat.le_refl _, g3⟩
    · have hMD : M = s := by rw [HM.out, if_neg h64]
      have hMn : ML = n := by rw [HML.out, hMD, HN.out]
      have d64 : decide ((64 : Int) < (n : Int)) = false := by simp <;> omega
      have HMD : Hid (Txt W2 p.A M) := by rw [hMD]; exact HT.out
      clear hMD
      go_wp2_with fail
      go_meet
      exact ⟨_, _, by rw [hMn], HMD, by rw [hMn]; exact hcp, g0⟩
  case rest =>
  obtain ⟨A2, c2, rfl, HT2, hc2, g2⟩ := hcut
  obtain ⟨wA, rfl⟩ : ∃ wA : World, wA = wc := ⟨_, rfl⟩
  have hne : pH ≤ wA.heap.size := by have := g2.size; rw [HPH.out] at this; exact this
  have gE : Chg none w (wA.alloc (.cells #[] 5 (0, 0))) := g2.alloc _
  have hrd := txt_reads (HT2.out.chg ((Chg.refl none wA).alloc (.cells #[] 5 (0, 0))))
  rw [← HML.out] at hrd
  have HR := Lib.hid hrd
  have HOWN : Hid ((wA.alloc (.cells #[] 5 (0, 0))).ownsRow pH 5 1 (.slice (some ⟨wA.heap.size, 0, none⟩) 0 0) 0 (byteVals [])) :=
    ⟨rfl, .inr ⟨wA.heap.size, 0, #[], rfl, hne, heap_alloc_new wA _, Nat.le_refl _, by unfold maxLen; decide, rfl, rfl⟩⟩
  have HO := Lib.hid (byteVals_one M)
  have hsz : pH ≤ (wA.alloc (.cells #[] 5 (0, 0))).heap.size := by rw [← HPH.out]; exact gE.size
  have HSZ := Lib.hid hsz
  clear HT2 hrd HSR HT HRH HRK HI25 HI26 HI30 HZ30 HO30 HNW g0 HM HN HDL hc2 hsz
  go_wp2_with (at_builtin; refine wpList_append_any _ rfl (.tmp 17) (.tmp 18) 22 rfl pH 5 i0 (.int .u8 0) 1 1 Tryd.underlying22 hi hz0 hz1 hz2 rfl (by decide) _ 0 (byteVals []) rfl HOWN.out _ A2 ML c2 (byteVals M) rfl HR.out HO.out (by unfold maxLen; omega) (by omega) HSZ.out ?_)
  intro v1 w1 hown1 hgr1 _
  have g1 := own_chg gE HOWN.out (by rw [HPH.out]; exact Nat.le_refl _) hgr1
  have e1 : byteVals [] ++ byteVals M = byteVals (M ++ zeros 0) := by rw [byteVals_append]; simp [zeros]
  rw [e1] at hown1
  obtain ⟨A1, c1, rfl⟩ := own_slice hown1
  have HOWN1 := Lib.hid hown1
  clear e1 hown1 hgr1 HOWN HR HO HSZ gE g2 hne
  go_wp2_with fail
  go_loopw [8] (fun s8 wr => ∃ (z J c : Nat) (A : Option Addr), z ≤ 64 - ML ∧ Hid (J = ML + z) ∧ s8 = .slice A J c ∧ wr.ownsRow pH 5 1 (.slice A J c) J (byteVals (M ++ zeros z)) ∧ Chg none w wr) (fun s8 _ => 64 - sliceLen s8)
  case atStart => exact ⟨0, ML, c1, A1, by omega, rfl, rfl, HOWN1.out, g1⟩
  case round =>
    obtain ⟨z, J, c3, A3, hz, HJ, rfl, hown, gz⟩ := hrel
    clear HOWN1 g1
    have hJ := HJ.out
    have hJm : J ≤ 64 := by omega
    have hbase : pH ≤ wr.heap.size := by rw [← HPH.out]; exact gz.size
    by_cases hlt : J < 64
    · have HR3 := Lib.hid (reads_one wr 0)
      have HO3 := Lib.hid (byteVals_one [0])
      have HOWN := Lib.hid hown
      have HSU : Hid (byteVals (M ++ zeros z) ++ byteVals [0] = byteVals (M ++ zeros (z + 1))) := by
        show _ = _; rw [byteVals_append, List.append_assoc]; congr 2; unfold zeros; rw [List.replicate_succ']
      have HJ6 : Hid (J + 1 = ML + (z + 1)) := by show _ = _; omega
      have hz2' : z + 1 ≤ 64 - ML := by omega
      clear hown hJ
      go_wp2_with (at_builtin; refine wpList_append_any _ rfl (.tmp 23) (.tmp 24) 22 rfl pH 5 i0 (.int .u8 0) 1 1 Tryd.underlying22 hi hz0 hz1 hz2 rfl (by decide) _ J (byteVals (M ++ zeros z)) rfl (HOWN.out.alloc _) _ (some ⟨wr.heap.size, 0, none⟩) 1 1 (byteVals [0]) rfl HR3.out HO3.out (by unfold maxLen; omega) (by omega) (by simp; omega) ?_)
      intro v6 w6 hown6 hgr6 _
      rw [HSU.out] at hown6
      have g6 : Chg none w w6 := own_chg (gz.alloc (.cells #[.int .u8 0] 5)) (HOWN.out.alloc _) (by rw [HPH.out]; exact Nat.le_refl _) hgr6
      obtain ⟨A6, c6, rfl⟩ := own_slice hown6
      have HOWN6 := Lib.hid hown6
      clear hown6 hgr6 HOWN HR3
      go_wp2_with fail
      go_roundw
      case rel => exact ⟨z + 1, J + 1, c6, A6, hz2', HJ6, rfl, HOWN6.out, g6⟩
      case measure => simp only [sliceLen]; omega
    · have hJ64 : J = 64 := by omega
      have hzz : z = 64 - ML := by omega
      rw [hzz, ← HK.out] at hown
      have dJ : decide (J < 64) = false := by simp <;> omega
      have HFN := Lib.hid hown
      have HJ64 : Hid (J = (keyB s).length) := by show _ = _; rw [keyB_len]; exact hJ64
      clear hown hJ hzz hJ64
      go_wp2_with fail
      go_ret
      exact ⟨A3, c3, by rw [← HJ64.out]; rfl, by rw [← HJ64.out, HPH.out]; exact HFN.out, gz⟩

end Go.Proofs.YtehpigmcmgfkoaaDoor
