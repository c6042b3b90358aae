/-
  HmacTags: the walk.
-/
import Derived.Test.YtdkgecphkppglaaDoorR11
import Derived.Test.YtdkgecphkppglaaDoorKn2
namespace Go.Proofs.YtdkgecphkppglaaDoor
open Go.RowKit

theorem own_emptyR (w : World) (B : Nat) (hB : B ≤ w.heap.size) : (w.alloc (.cells #[] 5 (0, 0))).ownsRow B 5 1 (.slice (some ⟨w.heap.size, 0, none⟩) 0 0) 0 (byteVals []) :=
  ⟨rfl, .inr ⟨w.heap.size, 0, #[], rfl, hB, heap_alloc_new w _, Nat.le_refl _, by unfold maxLen; decide, rfl, rfl⟩⟩

set_option maxRecDepth 100000 in
set_option maxHeartbeats 16000000 in
theorem tags_law (p q : Prt) (w : World) (hp : p.ok w) (hpm : p.c ≤ 9223372036854775807) (hq : q.ok w) (hqm : q.c ≤ 9223372036854775807) (hT : Tabs w) :
    Calls Tryd.prog 6 #[.slice p.A p.x.length p.c, .slice q.A q.x.length q.c] w fun e w' => e = .returned (.bool true) ∧ Chg none w w' := by
  obtain ⟨i0, hi, hz0, hz1, hz2⟩ := info_parts Tryd.info5
  have hpl : p.x.length ≤ 9223372036854775807 := by have := hp.2; omega
  have hql : q.x.length ≤ 9223372036854775807 := by have := hq.2; omega
  by_cases h1 : 300 < p.x.length
  · have HK := Lib.hid (known2_any w hT)
    have d1 : decide ((300 : Int) < (p.x.length : Int)) = true := by simp <;> omega
    go_enter Tryd.func6, Tryd.ntmps6
    go_wp2_with fail
    refine HK.out.mono ?_
    rintro e w1 ⟨rfl, g1⟩
    go_wp2_with fail
    go_ret
    exact ⟨rfl, g1⟩
  have d1 : decide ((300 : Int) < (p.x.length : Int)) = false := by simp <;> omega
  by_cases h2 : 300 < q.x.length
  · have HK := Lib.hid (known2_any w hT)
    have d2 : decide ((300 : Int) < (q.x.length : Int)) = true := by simp <;> omega
    go_enter Tryd.func6, Tryd.ntmps6
    go_wp2_with fail
    refine HK.out.mono ?_
    rintro e w1 ⟨rfl, g1⟩
    go_wp2_with fail
    go_ret
    exact ⟨rfl, g1⟩
  have d2 : decide ((300 : Int) < (q.x.length : Int)) = false := by simp <;> omega
  obtain ⟨A0, x, c0⟩ := p
  obtain ⟨B0, y, k0⟩ := q
  dsimp only at *
  obtain ⟨n, hn⟩ : ∃ n, n = x.length := ⟨_, rfl⟩
  obtain ⟨m, hm⟩ : ∃ m, m = y.length := ⟨_, rfl⟩
  have hA := hp.1
  have hB := hq.1
  have hcp : n ≤ c0 := by rw [hn]; exact hp.2
  have hcq : m ≤ k0 := by rw [hm]; exact hq.2
  dsimp only at hA hB
  rw [← hn] at h1 d1 hpl ⊢
  rw [← hm] at h2 d2 hql ⊢
  have hn3 : n ≤ 300 := by omega
  have hm3 : m ≤ 300 := by omega
  obtain ⟨T, hTT⟩ : ∃ T, T = tagB x y := ⟨_, rfl⟩
  have hTl : T.length = 32 := by rw [hTT, tagB_len]
  have hqe : ∀ v : World, (binOp .eql 30 (.agg (byteVals T).toArray) (.agg (byteVals T).toArray)).run Tryd.prog v = .ok (.bool true) v := fun v => by rw [eql30 T T hTl hTl v]; simp
  have HQE := Lib.hid hqe
  have HTAG : Hid (∀ (v : World) (A1 : Option Addr) (c1 : Nat) (A2 : Option Addr) (c2 Q : Nat), Chg none w v → Txt v A1 x → n ≤ c1 → Txt v A2 y → m ≤ c2 → Blk v Q #[.slice A2 m c2] 22 →
      Calls Tryd.prog 21 #[.slice A1 n c1, .slice (some ⟨Q, 0, none⟩) 1 1] v fun e w' => e = .returned (.agg (byteVals T).toArray) ∧ Chg none v w') := fun v A1 c1 A2 c2 Q g t1 l1 t2 l2 hQ => by
    have hok : (⟨A2, y, c2⟩ : Prt).ok v := ⟨t2, by show y.length ≤ c2; omega⟩
    have hQ' : Blk v Q #[(⟨A2, y, c2⟩ : Prt).val] 22 := by
      show Blk v Q #[.slice A2 y.length c2] 22
      rw [← hm]; exact hQ
    have hj : joined [(⟨A2, y, c2⟩ : Prt)] = y := List.append_nil y
    have := tag_any A1 x c1 (some ⟨Q, 0, none⟩) [⟨A2, y, c2⟩] 1 v t1 (by omega) (by omega) (parts_one hQ' hok) (by rw [hj]; omega) (by simp) (hT.chg g (by simp))
    rw [hj, ← hTT, ← hn] at this
    exact this
  have HTR : Hid (∀ v, Chg none w v → Calls Tryd.prog 22 #[.slice A0 n c0, .slice B0 m k0] v fun e w' => e = .returned (.agg (byteVals T).toArray) ∧ Chg none v w') := fun v g => by
    have := tagr_any ⟨A0, x, c0⟩ ⟨B0, y, k0⟩ v (hp.chg g) (hq.chg g) (by show x.length ≤ 900000; omega) (by show y.length ≤ 900000; omega)
    dsimp only at this
    rw [← hTT, ← hn, ← hm] at this
    exact this
  have HKN : Hid (∀ v, Chg none w v → Calls Tryd.prog 20 #[] v fun e w' => e = .returned (.bool true) ∧ Chg none v w') := fun v g => known2_any v (hT.chg g (by simp))
  have HCV : Hid (∀ v A k c (z : List UInt8), Txt v A z → k = z.length → (convert 22 9 (.slice A k c)).run Tryd.prog v = .ok (.string ⟨z.toArray⟩) v) := fun v A k c z h e => by subst e; exact conv_reads v (txt_reads h)
  have HA := Lib.hid hA
  have HB := Lib.hid hB
  have HN := Lib.hid hn
  have HM := Lib.hid hm
  have HOX := Lib.hid (byteVals_one x)
  have HOY := Lib.hid (byteVals_one y)
  have gE : Chg none w (w.alloc (.cells #[] 5 (0, 0))) := (Chg.refl _ _).alloc _
  have hrx := txt_reads (hA.chg gE)
  rw [← hn] at hrx
  have HRX := Lib.hid hrx
  have HOWN := Lib.hid (own_emptyB w)
  clear hn hm hA hB hTT hTl hqe hp hq hT hrx h1 h2
  go_enter Tryd.func6, Tryd.ntmps6
  go_wp2_with (at_builtin; refine wpList_append_any _ rfl (.tmp 16) (.tmp 17) 22 rfl w.heap.size 5 i0 (.int .u8 0) 1 1 Tryd.underlying22 hi hz0 hz1 hz2 rfl (by decide) _ 0 (byteVals []) rfl HOWN.out _ A0 n c0 (byteVals x) rfl HRX.out HOX.out (by unfold maxLen; omega) (by omega) gE.size ?_)
  intro v1 w1 hown1 hgr1 _
  have g1 := own_chg gE HOWN.out (Nat.le_refl _) hgr1
  have e1 : byteVals [] ++ byteVals x = byteVals x := rfl
  rw [e1] at hown1
  obtain ⟨A1, c1, rfl⟩ := own_slice hown1
  obtain ⟨hA1, hnl, hc1⟩ := own_txt hown1
  have HA1 := Lib.hid hA1
  have gF : Chg none w (w1.alloc (.cells #[] 5 (0, 0))) := g1.alloc _
  have hry := txt_reads (HB.out.chg gF)
  rw [← HM.out] at hry
  have HRY := Lib.hid hry
  have HOWN1 := Lib.hid (own_emptyR w1 w.heap.size g1.size)
  clear e1 hnl hown1 hgr1 HOWN HRX HOX hA1 hry
  go_wp2_with (at_builtin; refine wpList_append_any _ rfl (.tmp 19) (.tmp 20) 22 rfl w.heap.size 5 i0 (.int .u8 0) 1 1 Tryd.underlying22 hi hz0 hz1 hz2 rfl (by decide) _ 0 (byteVals []) rfl HOWN1.out _ B0 m k0 (byteVals y) rfl HRY.out HOY.out (by unfold maxLen; omega) (by omega) gF.size ?_)
  intro v2 w2 hown2 hgr2 _
  have gG : Chg none w1 (w1.alloc (.cells #[] 5 (0, 0))) := (Chg.refl _ _).alloc _
  have g12 := own_chg gG (own_emptyR w1 w1.heap.size (Nat.le_refl _)) (Nat.le_refl _) hgr2
  have g2 := g1.trans g12
  have e2 : byteVals [] ++ byteVals y = byteVals y := rfl
  rw [e2] at hown2
  obtain ⟨A2, c2, rfl⟩ := own_slice hown2
  obtain ⟨hA2, hml, hc2⟩ := own_txt hown2
  have HA2 := Lib.hid hA2
  have HA12 := Lib.hid (HA1.out.chg g12)
  have gQ : Chg none w2 (w2.alloc (.cells #[.slice A2 m c2] 22)) := (Chg.refl _ _).alloc _
  have HTAG2 := Lib.hid (HTAG.out _ A1 c1 A2 c2 w2.heap.size (g2.trans gQ) (HA12.out.chg gQ) hc1 (HA2.out.chg gQ) hc2 (Blk.new _ _ _))
  clear e2 hml hown2 hgr2 HOWN1 HRY HOY hA2 HTAG HA1 g1 g12 gE gF gG
  go_wp2_with fail
  refine HTAG2.out.mono ?_
  rintro e w3 ⟨rfl, g3⟩
  have g23 := gQ.trans g3
  have g03 := g2.trans g23
  have HA13 := Lib.hid (HA12.out.chg g23)
  have HA23 := Lib.hid (HA2.out.chg g23)
  have HTR3 := Lib.hid (HTR.out w3 g03)
  clear HTAG2 HA12 HA2 HTR g3 gQ
  go_wp2_with fail
  refine HTR3.out.mono ?_
  rintro e w4 ⟨rfl, g4⟩
  have g04 := g03.trans g4
  have hqe := HQE.out
  have hg30 := guard30
  have hc1' := HCV.out w4 A1 n c1 x (HA13.out.chg g4) HN.out
  have hc2' := HCV.out w4 A0 n c0 x (HA.out.chg g04) HN.out
  have hc3' := HCV.out w4 A2 m c2 y (HA23.out.chg g4) HM.out
  have hc4' := HCV.out w4 B0 m k0 y (HB.out.chg g04) HM.out
  have HKN4 := Lib.hid (HKN.out w4 g04)
  clear HTR3 HKN HQE HA HB HN HM HCV HA13 HA23
  go_wp2_with fail
  refine HKN4.out.mono ?_
  rintro e w5 ⟨rfl, g5⟩
  go_wp2_with fail
  go_ret
  exact ⟨rfl, g04.trans g5⟩

end Go.Proofs.YtdkgecphkppglaaDoor
