/-
  The document's tag.
-/
import Derived.Test.YtehpigmcmgfkoaaDoorR10
import Derived.Test.YtehpigmcmgfkoaaDoorKP
namespace Go.Proofs.YtehpigmcmgfkoaaDoor
open Go.RowKit

set_option maxRecDepth 100000 in
set_option maxHeartbeats 16000000 in
theorem tagr_any (p q : Prt) (w : World) (hp : p.ok w) (hq : q.ok w) (hn : p.x.length ≤ 900000) (hm : q.x.length ≤ 900000) :
    Calls Tryd.prog 22 #[.slice p.A p.x.length p.c, .slice q.A q.x.length q.c] w fun e w' => e = .returned (.agg (byteVals (tagB p.x q.x)).toArray) ∧ Chg none w w' := by
  obtain ⟨W1, hW1⟩ : ∃ W1, W1 = w.alloc (.cells zero32 30) := ⟨_, rfl⟩
  have HW1 : Hid (w.alloc (.cells #[Value.int IntKind.u8 0, Value.int IntKind.u8 0, Value.int IntKind.u8 0, Value.int IntKind.u8 0, Value.int IntKind.u8 0, Value.int IntKind.u8 0, Value.int IntKind.u8 0, Value.int IntKind.u8 0, Value.int IntKind.u8 0, Value.int IntKind.u8 0, Value.int IntKind.u8 0, Value.int IntKind.u8 0, Value.int IntKind.u8 0, Value.int IntKind.u8 0, Value.int IntKind.u8 0, Value.int IntKind.u8 0, Value.int IntKind.u8 0, Value.int IntKind.u8 0, Value.int IntKind.u8 0, Value.int IntKind.u8 0, Value.int IntKind.u8 0, Value.int IntKind.u8 0, Value.int IntKind.u8 0, Value.int IntKind.u8 0, Value.int IntKind.u8 0, Value.int IntKind.u8 0, Value.int IntKind.u8 0, Value.int IntKind.u8 0, Value.int IntKind.u8 0, Value.int IntKind.u8 0, Value.int IntKind.u8 0, Value.int IntKind.u8 0] 30) = W1) := hW1.symm
  have g0 : Chg none w W1 := by rw [hW1]; exact (Chg.refl _ _).alloc _
  have bR : Blk W1 w.heap.size zero32 30 := by rw [hW1]; exact Blk.new _ _ _
  obtain ⟨T, hT⟩ : ∃ T, T = tagB p.x q.x := ⟨_, rfl⟩
  have hTl : T.length = 32 := by rw [hT, tagB_len]
  obtain ⟨hts, hto⟩ := row_facts T 32 hTl
  have HIT := Lib.hid (show (Tryd.prog.info? 30).map (·.size) = some (byteVals T).toArray.size by rw [hts]; kernel_rfl)
  have HZT := Lib.hid (show zero32.size = (byteVals T).toArray.size by rw [hts]; rfl)
  have HOT := Lib.hid hto
  obtain ⟨HH, hHH⟩ : ∃ HH, HH = (H0.map u32v).toArray := ⟨_, rfl⟩
  obtain ⟨KK, hKK⟩ : ∃ KK, KK = (K0.map u32v).toArray := ⟨_, rfl⟩
  have HTG : Hid (∀ v, Chg none w v → Calls Tryd.prog 44 #[.agg HH, .agg KK, .slice p.A p.x.length p.c, .slice q.A q.x.length q.c] v fun e w' => e = .returned (.agg (byteVals T).toArray) ∧ Chg none v w') := by
    rw [hHH, hKK, hT]; exact fun v g => tagbyr_any p q v (hp.chg g) (hq.chg g) hn hm
  have HJ25 : Hid ((Tryd.prog.info? 25).map (·.size) = some HH.size) := by rw [hHH]; show _ = _; kernel_rfl
  have HJ26 : Hid ((Tryd.prog.info? 26).map (·.size) = some KK.size) := by rw [hKK]; show _ = _; kernel_rfl
  have HO25 : Hid (HH.all (·.oneCell') = true) := by rw [hHH]; show _ = _; kernel_rfl
  have HO26 : Hid (KK.all (·.oneCell') = true) := by rw [hKK]; show _ = _; kernel_rfl
  have HZ25 : Hid (noW8.toArray.size = HH.size) := by rw [hHH]; show _ = _; kernel_rfl
  have HZ26 : Hid ((List.replicate 64 (Value.int .u32 0)).toArray.size = KK.size) := by rw [hKK]; show _ = _; kernel_rfl
  have HK4 : Hid (∀ v : World, ((v.alloc (.cells #[Value.int IntKind.u32 0, Value.int IntKind.u32 0, Value.int IntKind.u32 0, Value.int IntKind.u32 0, Value.int IntKind.u32 0, Value.int IntKind.u32 0, Value.int IntKind.u32 0, Value.int IntKind.u32 0] 25)).alloc (.cells #[Value.int IntKind.u32 0, Value.int IntKind.u32 0, Value.int IntKind.u32 0, Value.int IntKind.u32 0, Value.int IntKind.u32 0, Value.int IntKind.u32 0, Value.int IntKind.u32 0, Value.int IntKind.u32 0, Value.int IntKind.u32 0, Value.int IntKind.u32 0, Value.int IntKind.u32 0, Value.int IntKind.u32 0, Value.int IntKind.u32 0, Value.int IntKind.u32 0, Value.int IntKind.u32 0, Value.int IntKind.u32 0, Value.int IntKind.u32 0, Value.int IntKind.u32 0, Value.int IntKind.u32 0, Value.int IntKind.u32 0, Value.int IntKind.u32 0, Value.int IntKind.u32 0, Value.int IntKind.u32 0, Value.int IntKind.u32 0, Value.int IntKind.u32 0, Value.int IntKind.u32 0, Value.int IntKind.u32 0, Value.int IntKind.u32 0, Value.int IntKind.u32 0, Value.int IntKind.u32 0, Value.int IntKind.u32 0, Value.int IntKind.u32 0, Value.int IntKind.u32 0, Value.int IntKind.u32 0, Value.int IntKind.u32 0, Value.int IntKind.u32 0, Value.int IntKind.u32 0, Value.int IntKind.u32 0, Value.int IntKind.u32 0, Value.int IntKind.u32 0, Value.int IntKind.u32 0, Value.int IntKind.u32 0, Value.int IntKind.u32 0, Value.int IntKind.u32 0, Value.int IntKind.u32 0, Value.int IntKind.u32 0, Value.int IntKind.u32 0, Value.int IntKind.u32 0, Value.int IntKind.u32 0, Value.int IntKind.u32 0, Value.int IntKind.u32 0, Value.int IntKind.u32 0, Value.int IntKind.u32 0, Value.int IntKind.u32 0, Value.int IntKind.u32 0, Value.int IntKind.u32 0, Value.int IntKind.u32 0, Value.int IntKind.u32 0, Value.int IntKind.u32 0, Value.int IntKind.u32 0, Value.int IntKind.u32 0, Value.int IntKind.u32 0, Value.int IntKind.u32 0, Value.int IntKind.u32 0] 26)).heap[v.heap.size]? = some (.cells noW8.toArray 25 (0, 0))) := fun v => kept_4 v
  have HK5 : Hid (∀ v : World, (((v.alloc (.cells #[Value.int IntKind.u32 0, Value.int IntKind.u32 0, Value.int IntKind.u32 0, Value.int IntKind.u32 0, Value.int IntKind.u32 0, Value.int IntKind.u32 0, Value.int IntKind.u32 0, Value.int IntKind.u32 0] 25)).alloc (.cells #[Value.int IntKind.u32 0, Value.int IntKind.u32 0, Value.int IntKind.u32 0, Value.int IntKind.u32 0, Value.int IntKind.u32 0, Value.int IntKind.u32 0, Value.int IntKind.u32 0, Value.int IntKind.u32 0, Value.int IntKind.u32 0, Value.int IntKind.u32 0, Value.int IntKind.u32 0, Value.int IntKind.u32 0, Value.int IntKind.u32 0, Value.int IntKind.u32 0, Value.int IntKind.u32 0, Value.int IntKind.u32 0, Value.int IntKind.u32 0, Value.int IntKind.u32 0, Value.int IntKind.u32 0, Value.int IntKind.u32 0, Value.int IntKind.u32 0, Value.int IntKind.u32 0, Value.int IntKind.u32 0, Value.int IntKind.u32 0, Value.int IntKind.u32 0, Value.int IntKind.u32 0, Value.int IntKind.u32 0, Value.int IntKind.u32 0, Value.int IntKind.u32 0, Value.int IntKind.u32 0, Value.int IntKind.u32 0, Value.int IntKind.u32 0, Value.int IntKind.u32 0, Value.int IntKind.u32 0, Value.int IntKind.u32 0, Value.int IntKind.u32 0, Value.int IntKind.u32 0, Value.int IntKind.u32 0, Value.int IntKind.u32 0, Value.int IntKind.u32 0, Value.int IntKind.u32 0, Value.int IntKind.u32 0, Value.int IntKind.u32 0, Value.int IntKind.u32 0, Value.int IntKind.u32 0, Value.int IntKind.u32 0, Value.int IntKind.u32 0, Value.int IntKind.u32 0, Value.int IntKind.u32 0, Value.int IntKind.u32 0, Value.int IntKind.u32 0, Value.int IntKind.u32 0, Value.int IntKind.u32 0, Value.int IntKind.u32 0, Value.int IntKind.u32 0, Value.int IntKind.u32 0, Value.int IntKind.u32 0, Value.int IntKind.u32 0, Value.int IntKind.u32 0, Value.int IntKind.u32 0, Value.int IntKind.u32 0, Value.int IntKind.u32 0, Value.int IntKind.u32 0, Value.int IntKind.u32 0] 26)).setRow v.heap.size HH).heap[v.heap.size + 1]? = some (.cells (List.replicate 64 (Value.int .u32 0)).toArray 26 (0, 0))) := by rw [hHH]; exact fun v => kept_5 v
  have HKB : Hid (∀ v : World, ((((v.alloc (.cells #[Value.int IntKind.u32 0, Value.int IntKind.u32 0, Value.int IntKind.u32 0, Value.int IntKind.u32 0, Value.int IntKind.u32 0, Value.int IntKind.u32 0, Value.int IntKind.u32 0, Value.int IntKind.u32 0] 25)).alloc (.cells #[Value.int IntKind.u32 0, Value.int IntKind.u32 0, Value.int IntKind.u32 0, Value.int IntKind.u32 0, Value.int IntKind.u32 0, Value.int IntKind.u32 0, Value.int IntKind.u32 0, Value.int IntKind.u32 0, Value.int IntKind.u32 0, Value.int IntKind.u32 0, Value.int IntKind.u32 0, Value.int IntKind.u32 0, Value.int IntKind.u32 0, Value.int IntKind.u32 0, Value.int IntKind.u32 0, Value.int IntKind.u32 0, Value.int IntKind.u32 0, Value.int IntKind.u32 0, Value.int IntKind.u32 0, Value.int IntKind.u32 0, Value.int IntKind.u32 0, Value.int IntKind.u32 0, Value.int IntKind.u32 0, Value.int IntKind.u32 0, Value.int IntKind.u32 0, Value.int IntKind.u32 0, Value.int IntKind.u32 0, Value.int IntKind.u32 0, Value.int IntKind.u32 0, Value.int IntKind.u32 0, Value.int IntKind.u32 0, Value.int IntKind.u32 0, Value.int IntKind.u32 0, Value.int IntKind.u32 0, Value.int IntKind.u32 0, Value.int IntKind.u32 0, Value.int IntKind.u32 0, Value.int IntKind.u32 0, Value.int IntKind.u32 0, Value.int IntKind.u32 0, Value.int IntKind.u32 0, Value.int IntKind.u32 0, Value.int IntKind.u32 0, Value.int IntKind.u32 0, Value.int IntKind.u32 0, Value.int IntKind.u32 0, Value.int IntKind.u32 0, Value.int IntKind.u32 0, Value.int IntKind.u32 0, Value.int IntKind.u32 0, Value.int IntKind.u32 0, Value.int IntKind.u32 0, Value.int IntKind.u32 0, Value.int IntKind.u32 0, Value.int IntKind.u32 0, Value.int IntKind.u32 0, Value.int IntKind.u32 0, Value.int IntKind.u32 0, Value.int IntKind.u32 0, Value.int IntKind.u32 0, Value.int IntKind.u32 0, Value.int IntKind.u32 0, Value.int IntKind.u32 0, Value.int IntKind.u32 0] 26)).setRow v.heap.size HH).setRow (v.heap.size + 1) KK) = keptB v) := by rw [hHH, hKK]; exact fun v => rfl
  have HWD : Hid (∀ v : World, Calls Tryd.prog 16 #[] v fun e w' => e = .returned (.tuple #[.agg HH, .agg KK]) ∧ Chg none v w') := by rw [hHH, hKK]; exact fun v => words_any v
  have HHH := Lib.hid hHH
  have HKK := Lib.hid hKK
  have HTT := Lib.hid hT
  clear hHH hKK hT hTl hts hto hW1 hp hq
  go_enter Tryd.func22, Tryd.ntmps22
  go_upto_region 1 with fail
  rw [HW1.out]
  clear HW1
  generalize hpR : w.heap.size = pR at *
  have HPR := Lib.hid hpR
  clear hpR
  go_wp2_with fail
  refine (HWD.out W1).mono ?_
  rintro e w2 ⟨rfl, g2⟩
  have g02 := g0.trans g2
  have bR2 := Blk.chg bR g2 (by simp)
  clear HWD g2 bR g0
  go_upto_region 2 with (first
    | (refine wpList_store_row rfl 25 _ _ rfl w2.heap.size HH rfl rfl 25 _ (HK4.out w2) HJ25.out HZ25.out HO25.out ?_)
    | (refine wpList_store_row rfl 26 _ _ rfl (w2.heap.size + 1) KK rfl rfl 26 _ (HK5.out w2) HJ26.out HZ26.out HO26.out ?_))
  rw [HKB.out w2]
  have b4 : Blk (keptB w2) w2.heap.size HH 25 := by rw [HHH.out]; exact kept_H w2
  have b5 : Blk (keptB w2) (w2.heap.size + 1) KK 26 := by rw [HKK.out]; exact kept_K w2
  have gk := kept_chg w2
  have g03 := g02.trans gk
  have bR3 := Blk.chg bR2 gk (by simp)
  clear HK4 HK5 HKB HO25 HO26 HZ25 HZ26 bR2 g02 gk
  generalize keptB w2 = w3 at *
  generalize w2.heap.size + 1 = q5 at *
  generalize w2.heap.size = q4 at *
  have HR4 : Hid (w3.heap[q4]? = some (.cells HH 25 (0, 0))) := b4
  have HR5 : Hid (w3.heap[q5]? = some (.cells KK 26 (0, 0))) := b5
  clear b4 b5
  go_wp2_with (first
    | (refine wpList_load_row rfl 25 _ rfl q4 rfl 25 _ (0, 0) _ HR4.out Tryd.underlying25 rfl HJ25.out ?_)
    | (refine wpList_load_row rfl 26 _ rfl q5 rfl 26 _ (0, 0) _ HR5.out Tryd.underlying26 rfl HJ26.out ?_))
  refine (HTG.out w3 g03).mono ?_
  rintro e w4 ⟨rfl, g4⟩
  have bR4 := Blk.chg bR3 g4 (by simp)
  have HRR : Hid (w4.heap[pR]? = some (.cells zero32 30 (0, 0))) := bR4
  have g04 := g03.trans g4
  clear HR4 HR5 bR3 bR4 g03 g4
  go_wp2_with (refine wpList_store_row rfl 30 _ _ rfl pR (byteVals T).toArray rfl rfl 30 _ HRR.out HIT.out HZT.out HOT.out ?_)
  refine bodyPost_ret (results_cell_row (p := 4) (ty := 30) Tryd.results22 _ _ pR 30 (byteVals T).toArray (0, 0) _ rfl (setRow_heap _ _ _ _ _ _ HRR.out) Tryd.underlying30 rfl HIT.out) rfl ⟨by rw [HTT.out], ?_⟩
  exact Chg.own (b := pR) g04 (chg_setRow _ _ _) (by rw [HPR.out]; exact Nat.le_refl _)

end Go.Proofs.YtehpigmcmgfkoaaDoor
