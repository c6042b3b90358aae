/-
  MerkleJoins: the walk.
-/
import Derived.Test.YtdkgecphkppglaaDoorM9
import Derived.Laws.IdiomStrings
import Derived.Laws.BytesArg
namespace Go.Proofs.YtdkgecphkppglaaDoor
open Go.RowKit


theorem take_chunk (x : List UInt8) (k : Nat) : x.take (64 * (k + 1)) = x.take (64 * k) ++ chunkB x k := by
  rw [show 64 * (k + 1) = 64 * k + 64 by omega, List.take_add]
  unfold chunkB chunkN
  congr 1
  rw [List.take_eq_take_min, List.length_drop]

def ChunkPost2 (w : World) (bs : List UInt8) (n : Nat) (e : Ending) (w' : World) : Prop :=
  ∃ A c, e = .returned (.tuple #[.slice A n c, .int .i64 0]) ∧ w'.ownsRow w.heap.size 5 1 (.slice A n c) n (byteVals bs) ∧ Chg none w w'
theorem chunk_post2 {w w' : World} {bs : List UInt8} {n : Nat} {e : Ending} (h : ChunkPost w bs e w') (hn : bs.length = n) : ChunkPost2 w bs n e w' := by subst hn; exact h

set_option maxRecDepth 100000 in
set_option maxHeartbeats 8000000 in
theorem joins_law (p : Prt) (w : World) (hp : p.ok w) (hpm : p.c ≤ 9223372036854775807) (hT : Tabs w) : Calls Tryd.prog 14 #[.slice p.A p.x.length p.c] w fun e w' => e = .returned (.bool true) ∧ Chg none w w' := by
  obtain ⟨i0, hi, hz0, hz1, hz2⟩ := info_parts Tryd.info5
  have hpl := hp.2
  have hpl2 : p.x.length ≤ 9223372036854775807 := by omega
  by_cases h5 : 5000 < p.x.length
  · have HK := Lib.hid (known4_any w hT)
    go_enter Tryd.func14, Tryd.ntmps14
    go_wp2_with fail
    refine HK.out.mono ?_
    rintro e w1 ⟨rfl, g1⟩
    go_wp2_with fail
    go_ret
    exact ⟨rfl, g1⟩
  have d5 : decide ((5000 : Int) < (p.x.length : Int)) = false := by simp; omega
  have HCN := Lib.hid (count_nat p.x.length (by omega) w)
  obtain ⟨n, hn⟩ : ∃ n, n = cntN p.x.length := ⟨_, rfl⟩
  rw [← hn] at HCN
  have hn80 : n ≤ 80 := by rw [hn]; unfold cntN; omega
  have HN := Lib.hid hn
  clear hn
  go_enter Tryd.func14, Tryd.ntmps14
  go_wp2_with fail
  refine HCN.out.mono ?_
  rintro e w' ⟨rfl, rfl⟩
  go_wp2_with fail
  have hown0 : w.ownsRow w.heap.size 5 1 (.slice none 0 0) (p.x.take (64 * 0)).length (byteVals (p.x.take (64 * 0))) := World.ownsRow_nil _ _ _ _
  have HOWN := Lib.hid hown0
  clear hown0
  go_loopw [4, 20] (fun s4 s20 wr => ∃ k J : Nat, k ≤ n ∧ s20 = .int .i64 k ∧ wr.ownsRow w.heap.size 5 1 s4 J (byteVals (p.x.take (64 * k))) ∧ J ≤ 5000 ∧ Chg none w wr) (fun _ s20 _ => n - (intOf s20).toNat)
  case atStart => exact ⟨0, 0, by omega, rfl, HOWN.out, by omega, Chg.refl _ _⟩
  case round =>
    obtain ⟨k, J, hk, rfl, hown, hJ, hgk⟩ := hrel
    obtain ⟨A4, c4, rfl⟩ := own_slice hown
    clear HOWN
    by_cases hlt : k < n
    · have hkc : k < cntN p.x.length := by rw [← HN.out]; exact hlt
      have HCH := Lib.hid (chunk_yes p k wr (hp.chg hgk) hkc (by omega))
      have hcl := chunkB_len p.x k (cnt_lo hkc)
      have htk := take_chunk p.x k
      have hcn : chunkN p.x.length k ≤ 64 := by unfold chunkN; omega
      have hc1 : (k : Int) < (n : Int) - 1 → chunkN p.x.length k = 64 := fun h => by
        have h2 : k + 1 < cntN p.x.length := by rw [← HN.out]; omega
        have := cnt_lo h2
        unfold chunkN; omega
      have hc2 : 1 < n → 0 < chunkN p.x.length k := fun h => by
        have h3 := HN.out
        unfold cntN at h3 hkc
        unfold chunkN; omega
      have hJn : J + chunkN p.x.length k ≤ 5000 := by
        have h4 := hown.1
        rw [byteVals_len, List.length_take] at h4
        unfold chunkN; omega
      generalize hcb : chunkB p.x k = cb at *
      generalize chunkN p.x.length k = cn at *
      have HTK := Lib.hid htk
      have HOWN := Lib.hid hown
      have HCL := Lib.hid hcl
      have HO1 := Lib.hid (byteVals_one cb)
      have HCH := Lib.hid (HCH.out.mono fun e w' h => chunk_post2 h HCL.out)
      have d64 : decide ((64 : Int) < (cn : Int)) = false := by simp; omega
      have hc1' : ∀ h : (k : Int) < (n : Int) - 1, ((cn : Int) != 64) = false := fun h => by have := hc1 h; simp; omega
      have hc2' : ∀ h : 1 < n, ((cn : Int) == 0) = false := fun h => by have := hc2 h; simp; omega
      have HC1 := Lib.hid hc1'
      have HC2 := Lib.hid hc2'
      clear hkc hcl htk hc1 hc2 hown hcb hc1' hc2'
      by_cases hk1 : (k : Int) < (n : Int) - 1
      all_goals by_cases hn1 : 1 < n
      all_goals
        first
          | (have t1 := HC1.out hk1; have t2 : decide ((k : Int) < (n : Int) - 1) = true := by simp; omega)
          | (have t2 : decide ((k : Int) < (n : Int) - 1) = false := by simp; omega)
      all_goals
        first
          | (have t3 := HC2.out hn1; have t4 : decide ((1 : Int) < (n : Int)) = true := by simp; omega)
          | (have t4 : decide ((1 : Int) < (n : Int)) = false := by simp; omega)
      all_goals clear HC1 HC2
      all_goals go_wp2_with fail
      all_goals
        refine HCH.out.mono ?_
        rintro e w3 ⟨A6, c6, rfl, hown6, g3⟩
        have hown3 := HOWN.out.kept g3 (by cases (Value.slice A4 J c4).ownBlock <;> simp)
        obtain ⟨ht6, hl6, _⟩ := own_txt hown6
        have hrd := txt_reads ht6
        rw [← hl6] at hrd
        have HRD := Lib.hid hrd
        have HOWN3 := Lib.hid hown3
        have g03 := hgk.trans g3
        clear hown6 hown3 ht6 hl6 hrd g3 HCH HOWN
      all_goals go_wp2_with (at_builtin; refine wpList_append_any _ rfl (.tmp 56) (.tmp 57) 22 rfl w.heap.size 5 i0 (.int .u8 0) 1 1 Tryd.underlying22 hi hz0 hz1 hz2 rfl (by decide) _ J (byteVals (p.x.take (64 * k))) rfl HOWN3.out _ A6 cn c6 (byteVals cb) rfl HRD.out HO1.out (by unfold maxLen; omega) (by omega) g03.size ?_)
      all_goals
        intro v7 w7 hown7 hgr7 _
        rw [byteVals_append, ← HTK.out] at hown7
        have g7 := own_chg g03 HOWN3.out (Nat.le_refl _) hgr7
        have HOWN7 := Lib.hid hown7
        clear hown7 hgr7 HRD
        go_wp2_with fail
        go_roundw
        case rel => exact ⟨k + 1, J + cn, by omega, by go_num, HOWN7.out, by omega, g7⟩
        case measure => first | (simp [intOf]; done) | (simp [intOf]; omega)
    · have hkn : k = n := by omega
      have hnl : decide ((k : Int) < (n : Int)) = false := by simp; omega
      have hall : p.x.take (64 * k) = p.x := by
        have h3 := HN.out
        unfold cntN at h3
        exact List.take_of_length_le (by omega)
      rw [hall] at hown
      have HNO := Lib.hid (chunk_no p (n : Int) wr (Or.inr (by have := HN.out; omega)) (by omega))
      have HNE := Lib.hid (chunk_no p (-1) wr (Or.inl (by decide)) (by omega))
      obtain ⟨ht4, _, _⟩ := own_txt hown
      have hl4 : J = p.x.length := by have := hown.1; rw [byteVals_len] at this; omega
      subst hl4
      have hv1 : (convert 22 9 (.slice A4 p.x.length c4)).run Tryd.prog wr = .ok (.string ⟨p.x.toArray⟩) wr := conv_reads wr (txt_reads ht4)
      have hv2 : (convert 22 9 (.slice p.A p.x.length p.c)).run Tryd.prog wr = .ok (.string ⟨p.x.toArray⟩) wr := conv_reads wr (txt_reads (hp.1.chg hgk))
      have HK := Lib.hid (known4_any wr (hT.chg hgk (by simp)))
      clear hown hall ht4 hkn
      go_wp2_with fail
      refine HNO.out.mono ?_
      rintro e w' ⟨rfl, rfl⟩
      go_wp2_with fail
      refine HNE.out.mono ?_
      rintro e w' ⟨rfl, rfl⟩
      go_wp2_with fail
      refine HK.out.mono ?_
      rintro e w5 ⟨rfl, g5⟩
      go_wp2_with fail
      go_ret
      exact ⟨rfl, hgk.trans g5⟩

end Go.Proofs.YtdkgecphkppglaaDoor
