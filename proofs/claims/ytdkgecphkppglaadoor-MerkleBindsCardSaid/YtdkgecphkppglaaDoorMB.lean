/-
  MerkleBinds: the walk.
-/
import Derived.Test.YtdkgecphkppglaaDoorRQ
import Derived.Test.YtdkgecphkppglaaDoorM9
namespace Go.Proofs.YtdkgecphkppglaaDoor
open Go.RowKit

/-- What a chunk that is taken says. -/
theorem taken_pair (x y : List UInt8) (k : Nat) (P : List Dg) (hk : k < cntN x.length) (h : checkB (rootB x) x.length k y P = true) :
    needN (cntN x.length) k = P.length ∧ ∃ l1 t1 l2 t2, pathN (cntN x.length) k (digDg (0 :: (be 8 k ++ chunkB x k))) (proofB (leavesB x) k) = some (l1, t1) ∧ pathN (cntN x.length) k (digDg (0 :: (be 8 k ++ y))) P = some (l2, t2) ∧
      dig (rootBytes x.length t1) = dig (rootBytes x.length t2) := by
  have hn : P.length = needN (cntN x.length) k := by
    rcases Nat.decEq P.length (needN (cntN x.length) k) with h1 | h1
    · rw [check_wrong _ _ _ _ _ h1] at h; cases h
    · exact h1
  obtain ⟨l2, t2, h2, h3⟩ := pathN_some _ (cntN x.length) k (digDg (0 :: (be 8 k ++ y))) P (Nat.le_refl _) (by omega)
  rw [← hn, List.take_length] at h3
  obtain ⟨l1, t1, h4, h5⟩ := pathN_some _ (cntN x.length) k (digDg (0 :: (be 8 k ++ chunkB x k))) (proofB (leavesB x) k) (Nat.le_refl _) (by rw [proof_len]; exact Nat.le_refl _)
  rw [← proof_len, List.take_length] at h5
  have h6 := climb_proof _ (leavesB x) k (Nat.le_refl _) (by rw [leavesB_len]; exact hk)
  rw [leavesB_len, leaves_getD x k hk] at h6
  have h7 : leafDg x k = digDg (0 :: (be 8 k ++ chunkB x k)) := rfl
  rw [h7, h5] at h6
  injection h6 with h6
  refine ⟨hn.symm, l1, t1, l2, t2, h4, h2, ?_⟩
  have h8 : checkB (rootB x) x.length k y P = checkR (rootB x) x.length (climb (cntN x.length) k (digDg (0 :: (be 8 k ++ y))) P) := rfl
  rw [h8, h3] at h
  have h9 : rootOfB x.length t2.1 = rootB x := by simpa [checkR] using h
  show rootOfB x.length t1.1 = rootOfB x.length t2.1
  rw [h9, h6]; rfl

set_option maxRecDepth 100000 in
set_option maxHeartbeats 16000000 in
theorem binds_law (p q : Prt) (i : Int) (A : Option Addr) (P : List Dg) (c : Nat) (w : World) (hp : p.ok w) (hpm : p.c ≤ 9223372036854775807) (hq : q.ok w) (hqm : q.c ≤ 9223372036854775807) (hP : DgsAt w w.heap.size A P) (hc : P.length ≤ c) (hcm : c ≤ 9223372036854775807)
    (hi0 : -9223372036854775808 ≤ i) (hi1 : i ≤ 9223372036854775807) (hT : Tabs w) :
    Calls Tryd.prog 12 #[.slice p.A p.x.length p.c, .int .i64 i, .slice q.A q.x.length q.c, .slice A P.length c] w fun e w' => e = .returned (.bool true) ∧ Chg none w w' := by
  have hpl : p.x.length ≤ 9223372036854775807 := by have := hp.2; omega
  have hql : q.x.length ≤ 9223372036854775807 := by have := hq.2; omega
  have hPl : P.length ≤ 9223372036854775807 := by omega
  have HKN : Hid (∀ v, Chg none w v → Calls Tryd.prog 24 #[] v fun e w' => e = .returned (.bool true) ∧ Chg none v w') := fun v g => known4_any v (hT.chg g (by simp))
  have HK0 := Lib.hid (HKN.out w (Chg.refl _ _))
  by_cases h1 : 1200 < p.x.length
  · have d1 : decide ((1200 : Int) < (p.x.length : Int)) = true := by simp <;> omega
    go_enter Tryd.func12, Tryd.ntmps12
    go_wp2_with fail
    refine HK0.out.mono ?_
    rintro e w1 ⟨rfl, g1⟩
    go_wp2_with fail
    go_ret
    exact ⟨rfl, g1⟩
  have d1 : decide ((1200 : Int) < (p.x.length : Int)) = false := by simp <;> omega
  by_cases h2 : 200 < q.x.length
  · have d2 : decide ((200 : Int) < (q.x.length : Int)) = true := by simp <;> omega
    go_enter Tryd.func12, Tryd.ntmps12
    go_wp2_with fail
    refine HK0.out.mono ?_
    rintro e w1 ⟨rfl, g1⟩
    go_wp2_with fail
    go_ret
    exact ⟨rfl, g1⟩
  have d2 : decide ((200 : Int) < (q.x.length : Int)) = false := by simp <;> omega
  by_cases h3 : 100 < P.length
  · have d3 : decide ((100 : Int) < (P.length : Int)) = true := by simp <;> omega
    go_enter Tryd.func12, Tryd.ntmps12
    go_wp2_with fail
    refine HK0.out.mono ?_
    rintro e w1 ⟨rfl, g1⟩
    go_wp2_with fail
    go_ret
    exact ⟨rfl, g1⟩
  have d3 : decide ((100 : Int) < (P.length : Int)) = false := by simp <;> omega
  obtain ⟨A0, x, c0⟩ := p
  obtain ⟨B0, y, k0⟩ := q
  dsimp only at *
  obtain ⟨n, hn⟩ : ∃ n, n = x.length := ⟨_, rfl⟩
  obtain ⟨m, hm⟩ : ∃ m, m = y.length := ⟨_, rfl⟩
  obtain ⟨pl, hpl'⟩ : ∃ pl, pl = P.length := ⟨_, rfl⟩
  have hcp : n ≤ c0 := by rw [hn]; exact hp.2
  have hcq : m ≤ k0 := by rw [hm]; exact hq.2
  have hA : Txt w A0 x := hp.1
  have hB : Txt w B0 y := hq.1
  rw [← hn] at h1 d1 hpl ⊢
  rw [← hm] at h2 d2 hql ⊢
  rw [← hpl'] at h3 d3 hPl hc ⊢
  have hn3 : n ≤ 1200 := by omega
  have hm3 : m ≤ 200 := by omega
  have hp3 : pl ≤ 100 := by omega
  obtain ⟨T, hTT⟩ : ∃ T : Dg, T.1 = rootB x := ⟨⟨rootB x, rootB_len x⟩, rfl⟩
  have HRA : Hid (Calls Tryd.prog 28 #[.slice A0 n c0] w fun e w' => e = .returned (.agg (byteVals T.1).toArray) ∧ Chg none w w') := by
    have := rootf_any ⟨A0, x, c0⟩ w hp (by show x.length ≤ 1000000; omega) hT
    dsimp only at this
    rw [← hn, ← hTT] at this
    exact this
  have HB : ∃ CB : Bool, (∀ v, Chg none w v → Calls Tryd.prog 35 #[.agg (byteVals T.1).toArray, .int .i64 n, .int .i64 i, .slice B0 m k0, .slice A pl c] v fun e w' => e = .returned (.bool CB) ∧ Chg none v w') ∧
      (CB = true → ∃ k : Nat, i = k ∧ k < cntN x.length ∧ m ≤ 64 ∧ checkB (rootB x) x.length k y P = true) := by
    by_cases hin : i < 0 ∨ (cntN n : Int) ≤ i
    · refine ⟨false, fun v g => ?_, fun h => by cases h⟩
      have := check_no1 T n i ⟨B0, y, k0⟩ A pl c v (by
        rcases hin with h | h
        · exact .inl h
        · exact .inr (.inr ⟨n, i.toNat, rfl, by omega, by omega, by omega⟩))
      dsimp only at this
      rwa [← hm] at this
    obtain ⟨k, rfl⟩ : ∃ k : Nat, i = k := ⟨i.toNat, by omega⟩
    by_cases hl : y.length = chunkN n k
    · refine ⟨checkB T.1 n k y P, fun v g => ?_, fun h => ⟨k, rfl, by rw [← hn]; omega, by unfold chunkN at hl; omega, by rw [← hTT, ← hn]; exact h⟩⟩
      have := check_any T n k ⟨B0, y, k0⟩ A P c v (hq.chg g) (by omega) (by omega) hl ((hP.chg g (by simp)).more g.size) (by omega) (by omega) (hT.chg g (by simp))
      dsimp only at this
      rwa [← hm, ← hpl'] at this
    · refine ⟨false, fun v g => ?_, fun h => by cases h⟩
      have := check_no2 T n k ⟨B0, y, k0⟩ A pl c v (by omega) (by omega) hl
      dsimp only at this
      rwa [← hm] at this
  obtain ⟨CB, hcb, hct⟩ := HB
  have HCB := Lib.hid hcb
  have HCV : Hid (∀ v A k c (z : List UInt8), Txt v A z → k = z.length → (convert 22 9 (.slice A k c)).run Tryd.prog v = .ok (.string ⟨z.toArray⟩) v) := fun v A k c z h e => by subst e; exact conv_reads v (txt_reads h)
  have HCC : Hid (∀ v (k : Nat), Chg none w v → k < cntN x.length → ∃ cl, cl = (chunkB x k).length ∧ Calls Tryd.prog 30 #[.slice A0 n c0, .int .i64 k] v fun e w' => ∃ A2 c2, e = .returned (.tuple #[.slice A2 cl c2, .int .i64 0]) ∧ w'.ownsRow v.heap.size 5 1 (.slice A2 cl c2) cl (byteVals (chunkB x k)) ∧ Chg none v w') := fun v k g hk => by
    refine ⟨_, rfl, ?_⟩
    have := chunk_yes ⟨A0, x, c0⟩ k v (hp.chg g) hk (by show x.length ≤ 1000000; omega)
    dsimp only at this
    rwa [← hn] at this
  have HNW := Lib.hid (fun v : World => newr_any v)
  have HPA : Hid (∀ v px (k : Nat), Chg none w v → HashAt v px → k < cntN x.length → m ≤ 64 → checkB (rootB x) x.length k y P = true → chunkB x k ≠ y → Calls Tryd.prog 37 #[.pointer (some ⟨px, 0, none⟩), .slice A0 n c0, .int .i64 k, .slice B0 m k0, .slice A pl c] v (PairPost v)) := fun v px k g hh hk hm64 hck hne => by
    obtain ⟨e1, l1, t1, l2, t2, e2, e3, e4⟩ := taken_pair x y k P hk hck
    have e5 : needN (cntN n) k = (proofB (leavesB x) k).length := by rw [proof_len, hn]
    rw [← hn] at hk e1 e2 e3 e4
    have := shown_any px k ⟨A0, x, c0⟩ ⟨B0, y, k0⟩ A P n pl c v hh (hp.chg g) hn (by omega) hk (hq.chg g) (by show y.length ≤ 64; omega) hpl' ((hP.chg g (by simp)).more g.size) (by omega) l1 l2 t1 t2 e2 e3 e5 (by rw [e1, hpl']) e4 hne
    dsimp only at this
    rwa [← hm] at this
  have HSM : Hid (∀ v A (z : List UInt8) l c, Chg none w v → Txt v A z → l ≤ c → l = z.length → l ≤ 1100 → Calls Tryd.prog 17 #[.slice A l c] v fun e w' => e = .returned (.agg (byteVals (dig z)).toArray) ∧ Chg none v w') := fun v A z l c g h1 h2 h3 h4 => by
    subst h3
    exact sum_any A z c v h1 h2 (by omega) (hT.chg g (by simp))
  have HA := Lib.hid hA
  have HBT := Lib.hid hB
  have HN := Lib.hid hn
  have HM := Lib.hid hm
  have hg30 := guard30
  clear hA hB hn hm hpl' hTT hcb hp hq hP hT h1 h2 h3 hi0 hi1 HK0
  by_cases hcbt : CB = true
  · obtain ⟨k, rfl, hk, hm64, hck⟩ := hct hcbt
    subst hcbt
    clear hct
    obtain ⟨cb, hcbe⟩ : ∃ cb, cb = chunkB x k := ⟨_, rfl⟩
    have HCK := Lib.hid hck
    have HK := Lib.hid hk
    have HCE := Lib.hid hcbe
    clear hck hk hcbe
    go_enter Tryd.func12, Tryd.ntmps12
    go_wp2_with fail
    refine HRA.out.mono ?_
    rintro e w1 ⟨rfl, g1⟩
    have HCB1 := Lib.hid (HCB.out w1 g1)
    go_wp2_with fail
    refine HCB1.out.mono ?_
    rintro e w2 ⟨rfl, g2⟩
    have g02 := g1.trans g2
    obtain ⟨cl, hcl, hcc⟩ := HCC.out w2 k g02 HK.out
    rw [← HCE.out] at hcl hcc
    have HC1 := Lib.hid hcc
    have HCL := Lib.hid hcl
    clear hcc hcl HCB1 HCB HRA
    go_wp2_with fail
    refine HC1.out.mono ?_
    rintro e w3 ⟨A2, c2, rfl, hown3, g3⟩
    obtain ⟨hT3, -, hc3⟩ := own_txt hown3
    have g03 := g02.trans g3
    have hv1 := HCV.out w3 A2 cl c2 cb hT3 HCL.out
    have hv2 := HCV.out w3 B0 m k0 y (HBT.out.chg g03) HM.out
    have HK3 := Lib.hid (HKN.out w3 g03)
    clear hown3 hT3 HC1
    by_cases hcy : cb = y
    · subst hcy
      go_wp2_with fail
      refine HK3.out.mono ?_
      rintro e w4 ⟨rfl, g4⟩
      go_wp2_with fail
      go_ret
      exact ⟨rfl, g03.trans g4⟩
    · have hbe : (cb == y) = false := by simpa using hcy
      have HNE : Hid (chunkB x k ≠ y) := by rw [← HCE.out]; exact hcy
      clear hcy HK3
      go_wp2_with fail
      refine (HNW.out _).mono ?_
      rintro e w4 ⟨px, rfl, hpx, g4⟩
      have g04 := g03.trans g4
      have HPA4 := Lib.hid (HPA.out w4 px k g04 hpx HK.out hm64 HCK.out HNE.out)
      clear hpx hv1 hv2 hbe HPA
      go_wp2_with fail
      refine HPA4.out.mono ?_
      rintro e w5 ⟨Ax, xa, lx, cx, Ay, ya, ly, cy, rfl, hlx, hly, hox, hoy, hxy, hdg, hx9, hy9, g5⟩
      have g05 := g04.trans g5
      have hv3 := HCV.out w5 Ax lx cx xa hox.1 hlx
      have hv4 := HCV.out w5 Ay ly cy ya hoy.1 hly
      have hbe : (xa == ya) = false := by simpa using hxy
      obtain ⟨D, hD⟩ : ∃ D : Dg, D = digDg xa := ⟨_, rfl⟩
      have hDx : dig xa = D.1 := by rw [hD]; rfl
      have hDy : dig ya = D.1 := by rw [← hdg]; exact hDx
      have HS1 := Lib.hid (HSM.out w5 Ax xa lx cx g05 hox.1 (by have := hox.2; dsimp only at this; omega) hlx hx9)
      rw [hDx] at HS1
      have HS2 : Hid (∀ v, Chg none w5 v → Calls Tryd.prog 17 #[.slice Ay ly cy] v fun e w' => e = .returned (.agg (byteVals D.1).toArray) ∧ Chg none v w') := fun v g => by
        have := HSM.out v Ay ya ly cy (g05.trans g) (hoy.1.chg g) (by have := hoy.2; dsimp only at this; omega) hly hy9
        rwa [hDy] at this
      have hqq : ∀ v : World, (binOp .eql 30 (.agg (byteVals D.1).toArray) (.agg (byteVals D.1).toArray)).run Tryd.prog v = .ok (.bool true) v := fun v => by rw [eql30 D.1 D.1 D.2 D.2 v]; simp
      have HKE : Hid (∀ v, Chg none w5 v → Calls Tryd.prog 24 #[] v fun e w' => e = .returned (.bool true) ∧ Chg none v w') := fun v g => HKN.out v (g05.trans g)
      clear hlx hly hox hoy hxy hdg hx9 hy9 hD hDx hDy HPA4
      go_wp2_with fail
      refine HS1.out.mono ?_
      rintro e w6 ⟨rfl, g6⟩
      have HS26 := Lib.hid (HS2.out w6 g6)
      go_wp2_with fail
      refine HS26.out.mono ?_
      rintro e w7 ⟨rfl, g7⟩
      have HKE7 := Lib.hid (HKE.out w7 (g6.trans g7))
      go_wp2_with fail
      refine HKE7.out.mono ?_
      rintro e w8 ⟨rfl, g8⟩
      go_wp2_with fail
      go_ret
      exact ⟨rfl, g05.trans ((g6.trans g7).trans g8)⟩
  · have hcf : CB = false := by simpa using hcbt
    subst hcf
    clear hct hcbt
    go_enter Tryd.func12, Tryd.ntmps12
    go_wp2_with fail
    refine HRA.out.mono ?_
    rintro e w1 ⟨rfl, g1⟩
    have HCB1 := Lib.hid (HCB.out w1 g1)
    go_wp2_with fail
    refine HCB1.out.mono ?_
    rintro e w2 ⟨rfl, g2⟩
    have HK2 := Lib.hid (HKN.out w2 (g1.trans g2))
    go_wp2_with fail
    refine HK2.out.mono ?_
    rintro e w3 ⟨rfl, g3⟩
    go_wp2_with fail
    go_ret
    exact ⟨rfl, (g1.trans g2).trans g3⟩

end Go.Proofs.YtdkgecphkppglaaDoor
