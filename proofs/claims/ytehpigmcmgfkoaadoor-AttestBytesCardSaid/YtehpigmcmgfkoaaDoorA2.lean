/-
  Package attest: tags.
-/
import Derived.Test.YtehpigmcmgfkoaaDoorA1
namespace Go.Proofs.YtehpigmcmgfkoaaDoor
open Go.RowKit

/-- What is tagged. -/
def bodyB (k r : Dg) (m : Nat) : List UInt8 := 17 :: (k.1 ++ (r.1 ++ be 8 m))
theorem attBytes_take (a : Att) (m : Nat) : (attBytes a m).take 72 = a.k.1 ++ (a.r.1 ++ be 8 m) := by
  unfold attBytes
  rw [← List.append_assoc a.r.1, ← List.append_assoc a.k.1]
  exact List.take_left' (by rw [List.length_append, List.length_append, be_len, a.k.2, a.r.2])
def tagDg (s : List UInt8) (k r : Dg) (m : Nat) : Dg := ⟨tagB s (bodyB k r m), tagB_len _ _⟩
theorem cut72 (A : Option Addr) (c : Nat) (hc : 104 ≤ c) (w : World) : (Instr.sliceAt 22 (.slice A 104 c) none (some (.int .i64 72)) (some (.int .i64 72))).run Tryd.prog w = .ok (.slice A 72 72) w := by
  have u22 := Tryd.underlying22
  have z5 := Tryd.sizeOf5
  have h5 : (72 : Int) ≤ c := by omega
  go_simp

set_option maxRecDepth 100000 in
set_option maxHeartbeats 8000000 in
theorem tagof_any (a : Att) (m : Nat) (p : Prt) (w : World) (hn : a.n = m) (hm : m < 9223372036854775808) (hp : p.ok w) (hpl : p.x.length ≤ 900000) (hT : Tabs w) :
    Calls Tryd.prog 46 #[.slice p.A p.x.length p.c, .agg (attCells a).toArray] w fun e w' => e = .returned (.agg (byteVals (tagDg p.x a.k a.r m).1).toArray) ∧ Chg none w w' := by
  obtain ⟨W2, hW2⟩ : ∃ W2, W2 = (w.alloc (.cells (attCells a).toArray 46)).alloc (.cells zero32 30) := ⟨_, rfl⟩
  have HW2 : Hid ((w.alloc (.cells (attCells a).toArray 46)).alloc (.cells #[Value.int IntKind.u8 0, Value.int IntKind.u8 0, Value.int IntKind.u8 0, Value.int IntKind.u8 0, Value.int IntKind.u8 0, Value.int IntKind.u8 0, Value.int IntKind.u8 0, Value.int IntKind.u8 0, Value.int IntKind.u8 0, Value.int IntKind.u8 0, Value.int IntKind.u8 0, Value.int IntKind.u8 0, Value.int IntKind.u8 0, Value.int IntKind.u8 0, Value.int IntKind.u8 0, Value.int IntKind.u8 0, Value.int IntKind.u8 0, Value.int IntKind.u8 0, Value.int IntKind.u8 0, Value.int IntKind.u8 0, Value.int IntKind.u8 0, Value.int IntKind.u8 0, Value.int IntKind.u8 0, Value.int IntKind.u8 0, Value.int IntKind.u8 0, Value.int IntKind.u8 0, Value.int IntKind.u8 0, Value.int IntKind.u8 0, Value.int IntKind.u8 0, Value.int IntKind.u8 0, Value.int IntKind.u8 0, Value.int IntKind.u8 0] 30) = W2) := hW2.symm
  have g0 : Chg none w W2 := by rw [hW2]; exact ((Chg.refl _ _).alloc _).alloc _
  have bA : BlkL W2 w.heap.size (attCells a) 46 := by rw [hW2]; exact Blk.alloc (Blk.new _ _ _) _
  have bR : Blk W2 (w.heap.size + 1) zero32 30 := by rw [hW2]; exact Blk.newAt _ _ (by simp)
  obtain ⟨T, hTT⟩ : ∃ T, T = tagDg p.x a.k a.r m := ⟨_, rfl⟩
  rw [← hTT]
  obtain ⟨hts, hto⟩ := row_facts T.1 32 T.2
  have HIT := Lib.hid (show (Tryd.prog.info? 30).map (·.size) = some (byteVals T.1).toArray.size by rw [hts]; kernel_rfl)
  have HZT := Lib.hid (show zero32.size = (byteVals T.1).toArray.size by rw [hts]; rfl)
  have HOT := Lib.hid hto
  have HI46 := Lib.hid (info46 a)
  have HF := Lib.hid (fun v => form_any a m hn hm v)
  have HTG : Hid (∀ v (A2 : Option Addr) (c2 b17 Q : Nat), Chg none w v → Txt v A2 (a.k.1 ++ (a.r.1 ++ be 8 m)) → BlkL v b17 (byteVals [17]) 5 → Blk v Q #[.slice (some ⟨b17, 0, none⟩) 1 1, .slice A2 72 72] 22 →
      Calls Tryd.prog 21 #[.slice p.A p.x.length p.c, .slice (some ⟨Q, 0, none⟩) 2 2] v fun e w' => e = .returned (.agg (byteVals T.1).toArray) ∧ Chg none v w') := fun v A2 c2 b17 Q g h1 h2 h3 => by
    have hl : (a.k.1 ++ (a.r.1 ++ be 8 m)).length = 72 := by rw [List.length_append, List.length_append, be_len, a.k.2, a.r.2]
    have h4 : (⟨A2, a.k.1 ++ (a.r.1 ++ be 8 m), 72⟩ : Prt).ok v := ⟨h1, by show (a.k.1 ++ (a.r.1 ++ be 8 m)).length ≤ 72; omega⟩
    have hQ : Blk v Q #[(⟨some ⟨b17, 0, none⟩, [17], 1⟩ : Prt).val, (⟨A2, a.k.1 ++ (a.r.1 ++ be 8 m), 72⟩ : Prt).val] 22 := by
      show Blk v Q #[.slice (some ⟨b17, 0, none⟩) 1 1, .slice A2 (a.k.1 ++ (a.r.1 ++ be 8 m)).length 72] 22
      rw [hl]; exact h3
    have hj : joined [(⟨some ⟨b17, 0, none⟩, [17], 1⟩ : Prt), ⟨A2, a.k.1 ++ (a.r.1 ++ be 8 m), 72⟩] = bodyB a.k a.r m := by
      show [17] ++ ((a.k.1 ++ (a.r.1 ++ be 8 m)) ++ []) = _
      rw [List.append_nil]; rfl
    have := tag_any p.A p.x p.c (some ⟨Q, 0, none⟩) [⟨some ⟨b17, 0, none⟩, [17], 1⟩, ⟨A2, a.k.1 ++ (a.r.1 ++ be 8 m), 72⟩] 2 v (hp.1.chg g) hp.2 (by omega) (parts_two hQ (prt_of_row h2 (by simp)) h4) (by rw [hj]; unfold bodyB; rw [List.length_cons, hl]; decide) (by simp) (hT.chg g (by simp))
    rw [hj] at this
    rw [hTT]; exact this
  have HTK : Hid ((attBytes a m).take 72 = a.k.1 ++ (a.r.1 ++ be 8 m)) := attBytes_take a m
  have hct := cut72
  obtain ⟨CA, hCA⟩ : ∃ CA, CA = (attCells a).toArray := ⟨_, rfl⟩
  rw [← hCA] at HW2 HF ⊢
  have HCA := Lib.hid hCA
  have hle : w.heap.size ≤ w.heap.size + 1 := by omega
  clear hW2 hTT hts hto hCA hp hT hn hm
  go_enter Tryd.func46, Tryd.ntmps46
  go_upto_region 1 with fail
  rw [HW2.out]
  clear HW2
  generalize w.heap.size + 1 = pR at *
  generalize hpA : w.heap.size = pA at *
  have HPA := Lib.hid hpA
  clear hpA
  have g17 : Chg none W2 (W2.alloc (.cells #[.int .u8 17] 5)) := (Chg.refl _ _).alloc _
  have b17 : BlkL (W2.alloc (.cells #[.int .u8 17] 5)) W2.heap.size (byteVals [17]) 5 := Blk.new _ _ _
  have HRA := Lib.hid (Blk.range (Blk.chg bA g17 (by simp)))
  have g03 := g0.trans g17
  go_wp2_with (refine wpList_load_mid rfl 46 _ rfl pA 0 rfl (attCells a) _ HRA.out Tryd.underlying46 rfl HI46.out ?_)
  rw [← HCA.out]
  refine (HF.out _).mono ?_
  rintro e w4 ⟨A4, c4, rfl, hown4, g4⟩
  have g04 := g03.trans g4
  obtain ⟨hT4, -, hc4⟩ := own_txt hown4
  have hT5 := hT4.first 72
  rw [HTK.out] at hT5
  have gQ : Chg none w4 (w4.alloc (.cells #[.slice (some ⟨W2.heap.size, 0, none⟩) 1 1, .slice A4 72 72] 22)) := (Chg.refl _ _).alloc _
  have HC := Lib.hid (HTG.out (w4.alloc (.cells #[.slice (some ⟨W2.heap.size, 0, none⟩) 1 1, .slice A4 72 72] 22)) A4 72 W2.heap.size w4.heap.size (g04.trans gQ) (hT5.chg gQ) ((Blk.chg b17 g4 (by simp)).chg gQ (by simp)) (Blk.new _ _ _))
  have bR4 := ((bR.chg g17 (by simp)).chg g4 (by simp)).chg gQ (by simp)
  have g05 := g04.trans gQ
  have hct4 := hct A4 c4 hc4 w4
  clear hown4 hT4 hT5 g4 gQ HTG HF b17 bR bA HRA g17 g03 g04 hct
  go_wp2_with fail
  refine HC.out.mono ?_
  rintro e w6 ⟨rfl, g6⟩
  have bR6 := bR4.chg g6 (by simp)
  have HRR : Hid (w6.heap[pR]? = some (.cells zero32 30 (0, 0))) := bR6
  have g06 := g05.trans g6
  clear HC bR4 bR6 hct4 g05 g6
  go_wp2_with (refine wpList_store_row rfl 30 _ _ rfl pR (byteVals T.1).toArray rfl rfl 30 _ HRR.out HIT.out HZT.out HOT.out ?_)
  refine bodyPost_ret (results_cell_row (p := 4) (ty := 30) Tryd.results46 _ _ pR 30 (byteVals T.1).toArray (0, 0) _ rfl (setRow_heap _ _ _ _ _ _ HRR.out) Tryd.underlying30 rfl HIT.out) rfl ⟨rfl, ?_⟩
  exact Chg.own (b := pR) g06 (chg_setRow _ _ _) (by rw [HPA.out]; exact hle)

theorem built46_3 (k r : Dg) (n : Int) : Tryd.prog.built 46 [(0, .agg (byteVals k.1).toArray), (1, .agg (byteVals r.1).toArray), (2, .int .i64 n)] = some (attCells ⟨k, r, n, zeroDg⟩).toArray := by
  obtain ⟨k, hk⟩ := k
  obtain ⟨r, hr⟩ := r
  match k, hk, r, hr with
  | [a0, a1, a2, a3, a4, a5, a6, a7, a8, a9, a10, a11, a12, a13, a14, a15, a16, a17, a18, a19, a20, a21, a22, a23, a24, a25, a26, a27, a28, a29, a30, a31], _, [b0, b1, b2, b3, b4, b5, b6, b7, b8, b9, b10, b11, b12, b13, b14, b15, b16, b17, b18, b19, b20, b21, b22, b23, b24, b25, b26, b27, b28, b29, b30, b31], _ => show _ = _; kernel_rfl
def zeroAtt : Att := ⟨zeroDg, zeroDg, 0, zeroDg⟩
theorem built46_0 : Tryd.prog.built 46 [] = some (attCells zeroAtt).toArray := by kernel_rfl
theorem zero46 : Tryd.zeroCells46 = (attCells zeroAtt).toArray := by kernel_rfl

end Go.Proofs.YtehpigmcmgfkoaaDoor
