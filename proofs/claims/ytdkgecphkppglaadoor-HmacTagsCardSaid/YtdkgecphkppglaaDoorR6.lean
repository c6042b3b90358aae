/-
  The document's digest: the padded text.
-/
import Derived.Test.YtdkgecphkppglaaDoorRC
namespace Go.Proofs.YtdkgecphkppglaaDoor
open Go.RowKit

theorem own_emptyB (w : World) : (w.alloc (.cells #[] 5 (0, 0))).ownsRow w.heap.size 5 1 (.slice (some ⟨w.heap.size, 0, none⟩) 0 0) 0 (byteVals []) :=
  ⟨rfl, .inr ⟨w.heap.size, 0, #[], rfl, Nat.le_refl _, heap_alloc_new w _, Nat.le_refl _, by unfold maxLen; decide, rfl, rfl⟩⟩

/-- The text, its one, and so many noughts. -/
def padUp (m : List UInt8) (z : Nat) : List UInt8 := m ++ (128 :: List.replicate z 0)
theorem padUp_len (m : List UInt8) (z : Nat) : (padUp m z).length = m.length + 1 + z := by simp [padUp]; omega
theorem padUp_succ (m : List UInt8) (z : Nat) : padUp m z ++ [0] = padUp m (z + 1) := by
  unfold padUp
  rw [List.append_assoc, List.cons_append, List.replicate_succ']
theorem padUp_all (m : List UInt8) : padUp m (noughts m.length) ++ be 8 (m.length * 8) = padded m := by
  unfold padUp padded padOf padHead
  rw [List.append_assoc]

set_option maxRecDepth 100000 in
set_option maxHeartbeats 4000000 in
theorem padded_any (p : Prt) (w : World) (hp : p.ok w) (hn : p.x.length ≤ 1000000) : Calls Tryd.prog 42 #[.slice p.A p.x.length p.c] w (OwnPost w (padded p.x)) := by
  obtain ⟨i0, hi, hz0, hz1, hz2⟩ := info_parts Tryd.info5
  obtain ⟨m, hm⟩ : ∃ m, m = p.x := ⟨_, rfl⟩
  obtain ⟨n, hn'⟩ : ∃ n, n = m.length := ⟨_, rfl⟩
  have gE : Chg none w (w.alloc (.cells #[] 5 (0, 0))) := (Chg.refl _ _).alloc _
  have HR := Lib.hid (txt_reads (hp.1.chg gE))
  have HOWN := Lib.hid (own_emptyB w)
  have HO := Lib.hid (byteVals_one p.x)
  rw [← hm] at HR HO hn
  rw [← hm]
  rw [← hn'] at HR hn ⊢
  have HN := Lib.hid hn'
  clear hn' hm hp
  go_enter Tryd.func42, Tryd.ntmps42
  go_wp2_with (at_builtin; refine wpList_append_any _ rfl (.tmp 6) (.tmp 7) 22 rfl w.heap.size 5 i0 (.int .u8 0) 1 1 Tryd.underlying22 hi hz0 hz1 hz2 rfl (by decide) _ 0 (byteVals []) rfl HOWN.out _ p.A n p.c (byteVals m) rfl HR.out HO.out (by unfold maxLen; omega) (by omega) gE.size ?_)
  intro v1 w1 hown1 hgr1 _
  have g1 := own_chg gE HOWN.out (Nat.le_refl _) hgr1
  have e1 : byteVals [] ++ byteVals m = byteVals m := rfl
  rw [e1] at hown1
  obtain ⟨A1, c1, rfl⟩ := own_slice hown1
  have HOWN1 := Lib.hid hown1
  have HR1 := Lib.hid (reads_one w1 128)
  have HO1 := Lib.hid (byteVals_one [128])
  clear hown1 hgr1 HOWN HR e1
  go_wp2_with (at_builtin; refine wpList_append_any _ rfl (.tmp 9) (.tmp 10) 22 rfl w.heap.size 5 i0 (.int .u8 0) 1 1 Tryd.underlying22 hi hz0 hz1 hz2 rfl (by decide) _ n (byteVals m) rfl (HOWN1.out.alloc _) _ (some ⟨w1.heap.size, 0, none⟩) 1 1 (byteVals [128]) rfl HR1.out HO1.out (by unfold maxLen; omega) (by omega) (by have := g1.size; simp; omega) ?_)
  intro v2 w2 hown2 hgr2 _
  have g2 : Chg none w w2 := own_chg (g1.alloc (.cells #[.int .u8 128] 5)) (HOWN1.out.alloc _) (Nat.le_refl _) hgr2
  have e2 : byteVals m ++ byteVals [128] = byteVals (padUp m 0) := by rw [byteVals_append]; rfl
  rw [e2] at hown2
  obtain ⟨A2, c2, rfl⟩ := own_slice hown2
  have HOWN2 := Lib.hid hown2
  clear hown2 hgr2 HOWN1 HR1 g1 e2
  go_wp2_with fail
  have HN1 : Hid (noughts n ≤ 63 ∧ (n + 1 + noughts n) % 64 = 56 ∧ ∀ z, z < noughts n → (n + 1 + z) % 64 ≠ 56) := by
    refine ⟨?_, ?_, fun z hz => ?_⟩ <;> unfold noughts at * <;> omega
  go_loopw [3] (fun s3 wr => ∃ (z J c : Nat) (A : Option Addr), z ≤ noughts n ∧ Hid (J = n + 1 + z) ∧ s3 = .slice A J c ∧ wr.ownsRow w.heap.size 5 1 (.slice A J c) J (byteVals (padUp m z)) ∧ Chg none w wr) (fun s3 _ => 2000000 - sliceLen s3)
  case atStart => exact ⟨0, n + 1, c2, A2, by omega, rfl, rfl, HOWN2.out, g2⟩
  case round =>
    obtain ⟨z, J, c3, A3, hz, HJ, rfl, hown, gz⟩ := hrel
    clear HOWN2 g2
    have hz63 := HN1.out.1
    have hJ := HJ.out
    have hJm : J ≤ 1000064 := by omega
    by_cases hlt : z < noughts n
    · have hne := HN1.out.2.2 z hlt
      rw [← hJ] at hne
      have t1 : (((J : Int) % 64) != 56) = true := by simp; omega
      have t2 : (((J : Int) % 64) == 56) = false := by simp; omega
      have HR3 := Lib.hid (reads_one wr 0)
      have HO3 := Lib.hid (byteVals_one [0])
      have HOWN := Lib.hid hown
      have HSU : Hid (byteVals (padUp m z) ++ byteVals [0] = byteVals (padUp m (z + 1))) := by show _ = _; rw [byteVals_append, padUp_succ]
      clear hne hown hJ hz63
      go_wp2_with (at_builtin; refine wpList_append_any _ rfl (.tmp 16) (.tmp 17) 22 rfl w.heap.size 5 i0 (.int .u8 0) 1 1 Tryd.underlying22 hi hz0 hz1 hz2 rfl (by decide) _ J (byteVals (padUp m z)) rfl (HOWN.out.alloc _) _ (some ⟨wr.heap.size, 0, none⟩) 1 1 (byteVals [0]) rfl HR3.out HO3.out (by unfold maxLen; omega) (by omega) (by have := gz.size; simp; omega) ?_)
      intro v6 w6 hown6 hgr6 _
      rw [HSU.out] at hown6
      have g6 : Chg none w w6 := own_chg (gz.alloc (.cells #[.int .u8 0] 5)) (HOWN.out.alloc _) (Nat.le_refl _) hgr6
      obtain ⟨A6, c6, rfl⟩ := own_slice hown6
      have HOWN6 := Lib.hid hown6
      have HJ6 : Hid (J + 1 = n + 1 + (z + 1)) := by have := HJ.out; show _ = _; omega
      clear hown6 hgr6 HOWN HR3
      go_wp2_with fail
      go_roundw
      case rel => exact ⟨z + 1, J + 1, c6, A6, by omega, HJ6, rfl, HOWN6.out, g6⟩
      case measure => simp only [sliceLen]; omega
    · have hze : z = noughts n := by omega
      have hmd := HN1.out.2.1
      rw [← hze, ← hJ] at hmd
      have t1 : (((J : Int) % 64) != 56) = false := by simp; omega
      have t2 : (((J : Int) % 64) == 56) = true := by simp; omega
      have hn8 : IntKind.u64.wrap ((n : Int) * 8) = (n : Int) * 8 := IntWalk.u64_in _ (by omega)
      have HOWN := Lib.hid hown
      have HZE := Lib.hid hze
      clear hmd hown hJ hz63 hze
      go_wp2_with fail
      go_loopw [3, 5] (fun s3 s5 wq => ∃ (j L c : Nat) (A : Option Addr), j ≤ 8 ∧ Hid (L = J + j) ∧ s5 = .int .i64 (7 - (j : Int)) ∧ s3 = .slice A L c ∧ wq.ownsRow w.heap.size 5 1 (.slice A L c) L (byteVals (padUp m z ++ (be 8 (n * 8)).take j)) ∧ Chg none w wq) (fun _ s5 _ => (intOf s5 + 1).toNat)
      case atStart => exact ⟨0, J, c3, A3, by omega, rfl, rfl, rfl, by rw [List.take_zero, List.append_nil]; exact HOWN.out, gz⟩
      case round =>
        obtain ⟨j, L, c4, A4, hj, HL, rfl, rfl, hown, gj⟩ := hrel
        clear HOWN gz
        by_cases hlt8 : j < 8
        · obtain ⟨k, hk⟩ : ∃ k, k = 7 - j := ⟨_, rfl⟩
          have e0 : (7 : Int) - (j : Int) = (k : Int) := by omega
          rw [e0]
          have hk7 : k ≤ 7 := by omega
          have hts := be_take_succ 8 (n * 8) j hlt8
          rw [show 8 - 1 - j = k by omega] at hts
          obtain ⟨y, hy⟩ : ∃ y, y = UInt8.ofNat (n * 8 / 2 ^ (8 * k)) := ⟨_, rfl⟩
          rw [← hy] at hts
          have hv : (y.toNat : Int) = (n : Int) * 8 / 2 ^ (8 * k) % 256 := by rw [hy, byte_shr]; simp
          have HV := Lib.hid hv
          have HTS := Lib.hid hts
          have hr1 := reads_one wr y
          rw [hv] at hr1
          have HRY := Lib.hid hr1
          have HOY := Lib.hid (byteVals_one [y])
          have HOWN := Lib.hid hown
          have HLL := HL.out
          have hL64 : L ≤ 1000072 := by omega
          have HS : Hid (byteVals (padUp m z ++ (be 8 (n * 8)).take j) ++ byteVals [y] = byteVals (padUp m z ++ (be 8 (n * 8)).take (j + 1))) := by
            show _ = _
            rw [byteVals_append, hts, List.append_assoc]
          have hk2 : (7 : Int) - ((j + 1 : Nat) : Int) = (k : Int) - 1 := by omega
          have HK2 := Lib.hid hk2
          clear e0 hts hy hv hr1 hown HLL hk2 hk
          go_wp2_with (at_builtin; refine wpList_append_any _ rfl (.tmp 27) (.tmp 34) 22 rfl w.heap.size 5 i0 (.int .u8 0) 1 1 Tryd.underlying22 hi hz0 hz1 hz2 rfl (by decide) _ L (byteVals (padUp m z ++ (be 8 (n * 8)).take j)) rfl (HOWN.out.alloc _) _ (some ⟨wr.heap.size, 0, none⟩) 1 1 (byteVals [y]) rfl HRY.out HOY.out (by unfold maxLen; omega) (by omega) (by have := gj.size; simp; omega) ?_)
          intro v6 w6 hown6 hgr6 _
          rw [HS.out] at hown6
          have g6 : Chg none w w6 := own_chg (gj.alloc (.cells #[.int .u8 ((n : Int) * 8 / 2 ^ (8 * k) % 256)] 5)) (HOWN.out.alloc _) (Nat.le_refl _) hgr6
          obtain ⟨A6, c6, rfl⟩ := own_slice hown6
          have HOWN6 := Lib.hid hown6
          have HL6 : Hid (L + 1 = J + (j + 1)) := by have := HL.out; show _ = _; omega
          clear hown6 hgr6 HOWN HRY
          go_wp2_with fail
          go_roundw
          case rel => exact ⟨j + 1, L + 1, c6, A6, by omega, HL6, by rw [HK2.out], rfl, HOWN6.out, g6⟩
          case measure => simp only [intOf]; omega
        · obtain rfl : j = 8 := by omega
          have hle : (8 : Nat) ≤ 8 := Nat.le_refl _
          rw [List.take_of_length_le (by rw [be_len]; exact hle), HZE.out, HN.out, padUp_all] at hown
          have hll := hown.1
          rw [byteVals_len, Nat.mul_one] at hll
          have HFN := Lib.hid hown
          have HLL := Lib.hid hll
          clear hown hll hJm
          go_wp2_with fail
          go_ret
          exact ⟨A4, c4, by rw [HLL.out]; rfl, by rw [HLL.out]; exact HFN.out, gj⟩

end Go.Proofs.YtdkgecphkppglaaDoor
