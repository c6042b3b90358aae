/-
  AttestSecrets: the walk.
-/
import Derived.Test.YtehpigmcmgfkoaaDoorA7
import Derived.Test.YtehpigmcmgfkoaaDoorR11
namespace Go.Proofs.YtehpigmcmgfkoaaDoor
open Go.RowKit

set_option maxRecDepth 100000 in
set_option maxHeartbeats 16000000 in
theorem secrets_law (p q : Prt) (a : Att) (w : World) (hp : p.ok w) (hpm : p.c ≤ 9223372036854775807) (hq : q.ok w) (hqm : q.c ≤ 9223372036854775807) (hT : Tabs w) :
    Calls Tryd.prog 14 #[.slice p.A p.x.length p.c, .slice q.A q.x.length q.c, .agg (attCells a).toArray] w fun e w' => e = .returned (.bool true) ∧ Chg none w w' := by
  have hpl : p.x.length ≤ 9223372036854775807 := by have := hp.2; omega
  have hql : q.x.length ≤ 9223372036854775807 := by have := hq.2; omega
  have gR : Chg none w (w.alloc (.cells (attCells a).toArray 46)) := (Chg.refl _ _).alloc _
  have bA : BlkL (w.alloc (.cells (attCells a).toArray 46)) w.heap.size (attCells a) 46 := Blk.new _ _ _
  have HKR := Lib.hid (known9_any (w.alloc (.cells (attCells a).toArray 46)) (hT.chg gR (by simp)))
  by_cases h1 : 300 < p.x.length
  · have d1 : decide ((300 : Int) < (p.x.length : Int)) = true := by simp <;> omega
    generalize (attCells a).toArray = CA at *
    go_enter Tryd.func14, Tryd.ntmps14
    go_wp2_with fail
    refine HKR.out.mono ?_
    rintro e w1 ⟨rfl, g1⟩
    go_wp2_with fail
    go_ret
    exact ⟨rfl, gR.trans g1⟩
  have d1 : decide ((300 : Int) < (p.x.length : Int)) = false := by simp <;> omega
  by_cases h2 : 300 < q.x.length
  · have d2 : decide ((300 : Int) < (q.x.length : Int)) = true := by simp <;> omega
    generalize (attCells a).toArray = CA at *
    go_enter Tryd.func14, Tryd.ntmps14
    go_wp2_with fail
    refine HKR.out.mono ?_
    rintro e w1 ⟨rfl, g1⟩
    go_wp2_with fail
    go_ret
    exact ⟨rfl, gR.trans g1⟩
  have d2 : decide ((300 : Int) < (q.x.length : Int)) = false := by simp <;> omega
  have HI46 := Lib.hid (info46 a)
  have HMY := Lib.hid (fun v => mayr_any a v)
  have HKN : Hid (∀ v, Chg none w v → Calls Tryd.prog 24 #[] v fun e w' => e = .returned (.bool true) ∧ Chg none v w') := fun v g => known9_any v (hT.chg g (by simp))
  obtain ⟨CA, hCA⟩ : ∃ CA, CA = (attCells a).toArray := ⟨_, rfl⟩
  have HCA := Lib.hid hCA
  by_cases hm : mayB a.n = true
  · have h2 : 1 ≤ a.n ∧ a.n ≤ 5000 := by unfold mayB at hm; simpa using hm
    obtain ⟨m, hma⟩ : ∃ m : Nat, a.n = m := ⟨a.n.toNat, by omega⟩
    obtain ⟨T1, hT1⟩ : ∃ T1, T1 = tagDg p.x a.k a.r m := ⟨_, rfl⟩
    obtain ⟨T2, hT2⟩ : ∃ T2, T2 = tagDg q.x a.k a.r m := ⟨_, rfl⟩
    obtain ⟨x, hx⟩ : ∃ x : Att, x = ⟨a.k, a.r, m, T1⟩ := ⟨_, rfl⟩
    obtain ⟨CX, hCX⟩ : ∃ CX, CX = (attCells x).toArray := ⟨_, rfl⟩
    have HMK : Hid (∀ v, Chg none w v → Calls Tryd.prog 25 #[.slice p.A p.x.length p.c, .agg (byteVals a.k.1).toArray, .agg (byteVals a.r.1).toArray, .int .i64 m] v fun e w' => e = .returned (.tuple #[.agg CX, .int .i64 0]) ∧ Chg none v w') := fun v g => by
      have := make_yes a.k a.r m p v (by omega) (by omega) (hp.chg g) (by omega) (hT.chg g (by simp))
      rw [← hT1, ← hx] at this
      unfold MakeYes at this
      rw [← hCX] at this
      exact this
    have HBD : Hid (∀ v, Calls Tryd.prog 34 #[.agg (byteVals a.k.1).toArray, .agg (byteVals a.r.1).toArray, .int .i64 m] v fun e w' => ∃ A c, e = .returned (.slice A 73 c) ∧ w'.ownsRow v.heap.size 5 1 (.slice A 73 c) 73 (byteVals (bodyB a.k a.r m)) ∧ Chg none v w') := fun v => bodyr_any a.k a.r m (by omega) v
    have HRT : Hid (∀ v, Chg none w v → Calls Tryd.prog 27 #[.slice q.A q.x.length q.c, .agg CX] v fun e w' => e = .returned (.bool (T1.1 == T2.1)) ∧ Chg none v w') := fun v g => by
      have := right_any x q v (hq.chg g) (by omega) (hT.chg g (by simp))
      have hr : rightB q.x x = (T1.1 == T2.1) := by
        rw [hx, hT2]
        unfold rightB
        dsimp only
        rw [show mayB ((m : Nat) : Int) = true by rw [← hma]; exact hm, Bool.true_and, Int.toNat_natCast]
      rw [hr] at this
      rw [hCX]; exact this
    have HTA : Hid (∀ v A c, Chg none w v → Txt v A (bodyB a.k a.r m) → 73 ≤ c → Calls Tryd.prog 22 #[.slice p.A p.x.length p.c, .slice A 73 c] v fun e w' => e = .returned (.agg (byteVals T1.1).toArray) ∧ Chg none v w') := fun v A c g h1 h2 => by
      have hl := body_len a.k a.r m
      have := tagr_any p ⟨A, bodyB a.k a.r m, c⟩ v (hp.chg g) ⟨h1, by show (bodyB a.k a.r m).length ≤ c; omega⟩ (by omega) (by show (bodyB a.k a.r m).length ≤ 900000; omega)
      dsimp only at this
      rw [hl] at this
      rw [hT1]; exact this
    have HTB : Hid (∀ v A c, Chg none w v → Txt v A (bodyB a.k a.r m) → 73 ≤ c → Calls Tryd.prog 22 #[.slice q.A q.x.length q.c, .slice A 73 c] v fun e w' => e = .returned (.agg (byteVals T2.1).toArray) ∧ Chg none v w') := fun v A c g h1 h2 => by
      have hl := body_len a.k a.r m
      have := tagr_any q ⟨A, bodyB a.k a.r m, c⟩ v (hq.chg g) ⟨h1, by show (bodyB a.k a.r m).length ≤ c; omega⟩ (by omega) (by show (bodyB a.k a.r m).length ≤ 900000; omega)
      dsimp only at this
      rw [hl] at this
      rw [hT2]; exact this
    have HIK : Hid ((Tryd.prog.info? 30).map (·.size) = some (byteVals a.k.1).length) := by rw [byteVals_len, a.k.2]; show _ = _; kernel_rfl
    have HIR : Hid ((Tryd.prog.info? 30).map (·.size) = some (byteVals a.r.1).length) := by rw [byteVals_len, a.r.2]; show _ = _; kernel_rfl
    have HIX : Hid ((Tryd.prog.info? 46).map (·.size) = some CX.size) := by rw [hCX]; exact info46a x
    have HIXl := Lib.hid (info46 x)
    have HOX : Hid (CX.all (·.oneCell') = true) := by rw [hCX]; exact attCells_one x
    have HZX : Hid (Tryd.zeroCells46.size = CX.size) := by rw [hCX, zero46, List.size_toArray, List.size_toArray, attCells_len, attCells_len]; rfl
    have HNA : Hid (∀ v : World, Chg none v ((v.alloc (.cells Tryd.zeroCells46 46)).setRow v.heap.size CX) ∧ BlkL ((v.alloc (.cells Tryd.zeroCells46 46)).setRow v.heap.size CX) v.heap.size (attCells x) 46) := fun v => by rw [hCX]; exact new_att v x
    have HNW : Hid (∀ v : World, (v.alloc (.cells Tryd.zeroCells46 46)).heap[v.heap.size]? = some (.cells Tryd.zeroCells46 46 (0, 0))) := fun v => heap_alloc_new v _
    have hqe : ∀ v : World, (binOp .eql 30 (.agg (byteVals T1.1).toArray) (.agg (byteVals T2.1).toArray)).run Tryd.prog v = .ok (.bool (T1.1 == T2.1)) v := fun v => eql30 T1.1 T2.1 T1.2 T2.2 v
    have HQE := Lib.hid hqe
    have hg30 := guard30
    obtain ⟨EQ, hEQ⟩ : ∃ EQ : Bool, EQ = (T1.1 == T2.1) := ⟨_, rfl⟩
    rw [← hEQ] at HRT HQE
    have HCX := Lib.hid hCX
    have HBN : Hid (∀ v, Chg none (w.alloc (.cells CA 46)) v → v.cell? ⟨w.heap.size, 64, none⟩ = some (.int .i64 m)) := fun v g => by
      rw [hCA] at g
      have := att_num (Blk.range (Blk.chg bA g (by simp)))
      rwa [hma] at this
    have HBK : Hid (∀ v, Chg none (w.alloc (.cells CA 46)) v → v.rangeAt w.heap.size 0 (byteVals a.k.1) ∧ v.rangeAt w.heap.size 32 (byteVals a.r.1)) := fun v g => by
      rw [hCA] at g
      exact ⟨att_key (Blk.range (Blk.chg bA g (by simp))), att_root (Blk.range (Blk.chg bA g (by simp)))⟩
    have HRA : Hid ((w.alloc (.cells CA 46)).rangeAt w.heap.size 0 (attCells a)) := by rw [hCA]; exact Blk.range bA
    rw [hm] at HMY
    rw [← hCA] at gR HMY ⊢
    clear hT1 hT2 hx hCX hCA hEQ hp hq hT hm h2 hma HKR bA hqe
    go_enter Tryd.func14, Tryd.ntmps14
    go_upto_region 1 with fail
    generalize hpA : w.heap.size = pA at *
    have HPA := Lib.hid hpA
    clear hpA
    go_wp2_with (refine BigFrame.wpList_want rfl fun _ hK => wp_load_mid 46 _ rfl pA 0 rfl (attCells a) _ HRA.out Tryd.underlying46 rfl HI46.out (hK _ _ ?_))
    rw [← HCA.out]
    refine (HMY.out _).mono ?_
    rintro e w1 ⟨rfl, g1⟩
    have g01 := gR.trans g1
    have hc64 := HBN.out w1 g1
    have HK1 := Lib.hid (HBK.out w1 g1).1
    have HR1 := Lib.hid (HBK.out w1 g1).2
    have HMK1 := Lib.hid (HMK.out w1 g01)
    clear HMK HRA HMY
    go_wp2_with (first
      | (refine wpList_load_mid rfl 30 _ rfl pA 0 rfl (byteVals a.k.1) _ HK1.out Tryd.underlying30 rfl HIK.out ?_)
      | (refine wpList_load_mid rfl 30 _ rfl pA 32 rfl (byteVals a.r.1) _ HR1.out Tryd.underlying30 rfl HIR.out ?_))
    refine HMK1.out.mono ?_
    rintro e w2 ⟨rfl, g2⟩
    obtain ⟨gn, bX⟩ := HNA.out w2
    obtain ⟨W3, hW3⟩ : ∃ W3, W3 = (w2.alloc (.cells Tryd.zeroCells46 46)).setRow w2.heap.size CX := ⟨_, rfl⟩
    have HW3 : Hid ((w2.alloc (.cells Tryd.zeroCells46 46)).setRow w2.heap.size CX = W3) := hW3.symm
    rw [← hW3] at gn bX
    have HNW2 := Lib.hid (HNW.out w2)
    have g13 : Chg none (w.alloc (.cells CA 46)) W3 := (g1.trans g2).trans gn
    have g03 := gR.trans g13
    clear hW3 HMK1 HK1 HR1 hc64 gn g1 g2 g01 HNA HNW
    go_upto_region 4 with (refine wpList_store_row rfl 46 _ _ rfl w2.heap.size CX rfl rfl 46 _ HNW2.out HIX.out HZX.out HOX.out ?_)
    rw [HW3.out]
    clear HW3 HNW2
    generalize w2.heap.size = pX at *
    have hc64 := HBN.out W3 g13
    have HK3 := Lib.hid (HBK.out W3 g13).1
    have HR3 := Lib.hid (HBK.out W3 g13).2
    go_wp2_with (first
      | (refine wpList_load_mid rfl 30 _ rfl pA 0 rfl (byteVals a.k.1) _ HK3.out Tryd.underlying30 rfl HIK.out ?_)
      | (refine wpList_load_mid rfl 30 _ rfl pA 32 rfl (byteVals a.r.1) _ HR3.out Tryd.underlying30 rfl HIR.out ?_))
    refine (HBD.out _).mono ?_
    rintro e w4 ⟨A4, c4, rfl, hown4, g4⟩
    obtain ⟨hT4, -, hc4⟩ := own_txt hown4
    have HT4 := Lib.hid hT4
    have g04 := g03.trans g4
    have HX4 := Lib.hid (Blk.range (Blk.chg bX g4 (by simp)))
    have HRT4 := Lib.hid (HRT.out w4 g04)
    clear hown4 hT4 HBD HRT HBN HBK hc64 HK3 HR3 bX g13 g03 g4
    go_wp2_with (refine wpList_load_mid rfl 46 _ rfl pX 0 rfl (attCells x) _ HX4.out Tryd.underlying46 rfl HIXl.out ?_)
    rw [← HCX.out]
    refine HRT4.out.mono ?_
    rintro e w5 ⟨rfl, g5⟩
    have g05 := g04.trans g5
    have HT5 := Lib.hid (HT4.out.chg g5)
    have HTA5 := Lib.hid (HTA.out w5 A4 c4 g05 HT5.out hc4)
    clear HRT4 HTA HX4 g04 g5
    go_wp2_with fail
    refine HTA5.out.mono ?_
    rintro e w6 ⟨rfl, g6⟩
    have g06 := g05.trans g6
    have HTB6 := Lib.hid (HTB.out w6 A4 c4 g06 (HT5.out.chg g6) hc4)
    clear HTA5 HTB g05
    go_wp2_with fail
    refine HTB6.out.mono ?_
    rintro e w7 ⟨rfl, g7⟩
    have g07 := g06.trans g7
    have HK7 := Lib.hid (HKN.out w7 g07)
    have hqe := HQE.out
    clear HTB6 HKN HQE g06 g6 g7
    go_wp2_with fail
    refine HK7.out.mono ?_
    rintro e w8 ⟨rfl, g8⟩
    go_wp2_with fail
    go_ret
    exact ⟨rfl, g07.trans g8⟩
  · have hm' : mayB a.n = false := by simpa using hm
    have HRA : Hid ((w.alloc (.cells CA 46)).rangeAt w.heap.size 0 (attCells a)) := by rw [hCA]; exact Blk.range bA
    rw [hm'] at HMY
    rw [← hCA] at gR HMY ⊢
    clear hCA hp hq hT hm hm' HKR bA
    go_enter Tryd.func14, Tryd.ntmps14
    go_upto_region 1 with fail
    generalize w.heap.size = pA at *
    go_wp2_with (refine BigFrame.wpList_want rfl fun _ hK => wp_load_mid 46 _ rfl pA 0 rfl (attCells a) _ HRA.out Tryd.underlying46 rfl HI46.out (hK _ _ ?_))
    rw [← HCA.out]
    refine (HMY.out _).mono ?_
    rintro e w1 ⟨rfl, g1⟩
    have HK1 := Lib.hid (HKN.out w1 (gR.trans g1))
    go_wp2_with fail
    refine HK1.out.mono ?_
    rintro e w2 ⟨rfl, g2⟩
    go_wp2_with fail
    go_ret
    exact ⟨rfl, (gR.trans g1).trans g2⟩

end Go.Proofs.YtehpigmcmgfkoaaDoor
