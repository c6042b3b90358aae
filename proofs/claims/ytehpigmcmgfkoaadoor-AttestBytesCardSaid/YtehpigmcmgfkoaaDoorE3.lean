/-
  Package sha: Parts.
-/
import Derived.Test.YtehpigmcmgfkoaaDoorE2
namespace Go.Proofs.YtehpigmcmgfkoaaDoor
open Go.RowKit

/-- A part: a slice of bytes. -/
structure Prt where
  A : Option Addr
  x : List UInt8
  c : Nat
instance : Inhabited Prt := ⟨⟨none, [], 0⟩⟩
def Prt.val (p : Prt) : Value := .slice p.A p.x.length p.c
def Prt.ok (w : World) (p : Prt) : Prop := Txt w p.A p.x ∧ p.x.length ≤ p.c
def joined (L : List Prt) : List UInt8 := L.flatMap (·.x)

/-- Parts, as a slice of slices. -/
structure PartsAt (w : World) (A : Option Addr) (L : List Prt) : Prop where
  at_ : 0 < L.length → ∃ b off, A = some ⟨b, off, none⟩ ∧ b < w.heap.size ∧ ∀ i p, L[i]? = some p → w.cell? ⟨b, off + i, none⟩ = some p.val
  all : ∀ p ∈ L, p.ok w
theorem PartsAt.chg {w w' : World} {A : Option Addr} {L : List Prt} (h : PartsAt w A L) (g : Chg none w w') : PartsAt w' A L :=
  ⟨fun h0 => by
    obtain ⟨b, off, e, hlt, hc⟩ := h.at_ h0
    exact ⟨b, off, e, Nat.lt_of_lt_of_le hlt g.size, fun i p hp => World.grownBy.cell g (hc i p hp) (by simp)⟩,
   fun p hp => ⟨(h.all p hp).1.chg g, (h.all p hp).2⟩⟩
theorem joined_take (L : List Prt) (k : Nat) (h : k < L.length) : joined (L.take (k + 1)) = joined (L.take k) ++ (L[k]).x := by
  rw [List.take_succ_eq_append_getElem h]
  unfold joined
  rw [List.flatMap_append, List.flatMap_cons, List.flatMap_nil, List.append_nil]
theorem joined_take_le (L : List Prt) (k : Nat) : (joined (L.take k)).length ≤ (joined L).length := by
  have h : joined L = joined (L.take k) ++ joined (L.drop k) := by
    unfold joined
    rw [← List.flatMap_append, List.take_append_drop]
  rw [h, List.length_append]; omega

set_option maxRecDepth 100000 in
set_option maxHeartbeats 4000000 in
theorem parts_any (tag : UInt8) (A : Option Addr) (L : List Prt) (c : Nat) (w : World) (hA : PartsAt w A L) (hx : (joined L).length < 1000000000) (hL : L.length ≤ 1000000000) (hT : Tabs w) :
    Calls Tryd.prog 19 #[.int .u8 tag.toNat, .slice A L.length c] w fun e w' => e = .returned (.agg (byteVals (dig (tag :: joined L))).toArray) ∧ Chg none w w' := by
  have hlt2 := hT.lt
  go_enter Tryd.func19, Tryd.ntmps19
  go_upto_region 1 with (fail)
  obtain ⟨W1, hW1⟩ : ∃ W1, W1 = w.alloc (.cells zero32 30) := ⟨_, rfl⟩
  have hsr : w.alloc (.cells #[Value.int IntKind.u8 0, Value.int IntKind.u8 0, Value.int IntKind.u8 0, Value.int IntKind.u8 0, Value.int IntKind.u8 0, Value.int IntKind.u8 0, Value.int IntKind.u8 0, Value.int IntKind.u8 0, Value.int IntKind.u8 0, Value.int IntKind.u8 0, Value.int IntKind.u8 0, Value.int IntKind.u8 0, Value.int IntKind.u8 0, Value.int IntKind.u8 0, Value.int IntKind.u8 0, Value.int IntKind.u8 0, Value.int IntKind.u8 0, Value.int IntKind.u8 0, Value.int IntKind.u8 0, Value.int IntKind.u8 0, Value.int IntKind.u8 0, Value.int IntKind.u8 0, Value.int IntKind.u8 0, Value.int IntKind.u8 0, Value.int IntKind.u8 0, Value.int IntKind.u8 0, Value.int IntKind.u8 0, Value.int IntKind.u8 0, Value.int IntKind.u8 0, Value.int IntKind.u8 0, Value.int IntKind.u8 0, Value.int IntKind.u8 0] 30) = W1 := hW1.symm
  rw [hsr]
  have g1 : Chg none w W1 := by rw [hW1]; exact (Chg.refl _ _).alloc _
  have hR : Blk W1 w.heap.size zero32 30 := by rw [hW1]; exact Blk.new _ _ _
  have hs1 : W1.heap.size = w.heap.size + 1 := by rw [hW1]; simp
  have hT1 := hT.chg g1 (by simp)
  have HRG := Lib.hid hT1.first
  have HI25 : Hid ((Tryd.prog.info? 25).map (·.size) = some h0Cells.length) := by show _ = _; kernel_rfl
  have HI68 : Hid ((Tryd.prog.info? 69).map (·.size) = some newCells.size) := by show _ = _; kernel_rfl
  have HB := Lib.hid built68
  have HO : Hid (newCells.all (·.oneCell') = true) := by show _ = _; kernel_rfl
  have HZ : Hid (Tryd.zeroCells69.size = newCells.size) := by show _ = _; kernel_rfl
  have HS1 := Lib.hid hs1
  have hZ68 : ∀ W : World, (W.alloc (.cells Tryd.zeroCells69 69)).heap[W.heap.size]? = some (.cells Tryd.zeroCells69 69 (0, 0)) := fun W => heap_alloc_new W _
  have HZ68 := Lib.hid hZ68
  clear hsr hW1 hs1 hZ68
  go_upto_region 2 with (first
    | (refine wpList_load_mid rfl 25 _ rfl 0 0 rfl h0Cells _ HRG.out Tryd.underlying25 rfl HI25.out ?_)
    | (refine wpList_buildTo rfl 69 _ rfl (some 9) rfl newCells (by simp only [List.map_toArray, List.map_cons, List.map_nil]; exact HB.out) ?_)
    | (refine wpList_store_row rfl 69 _ _ rfl W1.heap.size newCells rfl rfl 69 _ (HZ68.out W1) HI68.out HZ.out HO.out ?_))
  obtain ⟨W2, hW2⟩ : ∃ W2, W2 = (W1.alloc (.cells Tryd.zeroCells69 69)).setRow W1.heap.size newCells := ⟨_, rfl⟩
  rw [← hW2]
  have hN2 : Blk W2 W1.heap.size newCells 69 := by rw [hW2]; exact setRow_heap _ _ _ _ _ _ (HZ68.out W1)
  have g12 : Chg none W1 W2 := by
    rw [hW2]
    exact Chg.own (b := W1.heap.size) ((Chg.refl none W1).alloc _) (chg_setRow _ _ _) (Nat.le_refl _)
  have hR2 := hR.chg g12 (by simp)
  have g2 := g1.trans g12
  have hT2 := hT1.chg g12 (by simp)
  have hlt1 : w.heap.size < W1.heap.size := by rw [HS1.out]; omega
  have hb1 : 2 ≤ W1.heap.size := by omega
  have hH2 := new_hs hN2
  clear hW2 hN2 g12 hR HRG HB HO HZ HZ68 hT1 hT g1
  generalize W1.heap.size = b at *
  go_wp2_with fail
  have hlt2b := hH2.lt
  have gA : Chg none W2 (W2.alloc (.cells #[.int .u8 tag.toNat] 5)) := (Chg.refl _ _).alloc _
  have hS1 : Src (W2.alloc (.cells #[.int .u8 tag.toNat] 5)) b (some ⟨W2.heap.size, 0, none⟩) [tag] := fun _ => ⟨W2.heap.size, 0, rfl, by omega, by simp, fun j x hj => by
    match j, hj with
    | 0, hj =>
      simp only [List.getElem?_cons_zero, Option.some.injEq] at hj
      subst hj
      rw [(Blk.new W2 _ 5).cell]; rfl⟩
  have hTA := hT2.chg gA (by simp)
  have HTK := Lib.hid (take_any b [] [tag] (some ⟨W2.heap.size, 0, none⟩) 1 _ (hH2.chg gA (by simp)) (by simp) hS1 (Nat.le_refl _) hTA hb1)
  have hRA := hR2.chg gA (by simp)
  have g2A := g2.trans gA
  clear hS1 hH2 hR2 hT2 gA g2
  refine HTK.out.mono ?_
  rintro e w3 ⟨rfl, hH3, g3⟩
  have hT3 := hTA.chg g3 (by simp; omega)
  have hR3 := hRA.chg g3 (by simp; omega)
  have g3' : Chg none w w3 := Chg.own (b := b) g2A g3 (by omega)
  clear hTA hRA g2A g3 HTK
  go_wp2_with fail
  go_loopw [15] (fun s15 wr => ∃ k : Nat, k ≤ L.length ∧ s15 = .int .i64 k ∧ HsAt wr b (tag :: joined (L.take k)) ∧ Blk wr w.heap.size zero32 30 ∧ Tabs wr ∧ Chg none w wr) (fun s15 _ => L.length - (intOf s15).toNat)
  case atStart => exact ⟨0, by omega, rfl, hH3, hR3, hT3, g3'⟩
  case round =>
    obtain ⟨k, hk, rfl, hHk, hRk, hTk, hgk⟩ := hrel
    clear hH3 hR3 hT3 g3'
    by_cases hlt : k < L.length
    · have hAk := hA.chg hgk
      obtain ⟨pb, off, rfl, hpb, hcell⟩ := hAk.at_ (by omega)
      have hck := hcell k L[k] (List.getElem?_eq_getElem hlt)
      unfold Prt.val at hck
      have hjt := joined_take L k hlt
      have hjl := joined_take_le L (k + 1)
      rw [hjt, List.length_append] at hjl
      have hsrc := Txt.src (hA.all L[k] (List.getElem_mem hlt)).1 hgk (b := b) (by omega)
      have hcap := (hA.all L[k] (List.getElem_mem hlt)).2
      generalize L[k] = p at *
      have htk := take_any b (tag :: joined (L.take k)) p.x p.A p.c wr hHk (by rw [List.length_cons]; omega) hsrc hcap hTk hb1
      rw [List.cons_append, ← hjt] at htk
      have HTK := Lib.hid htk
      clear htk hjt hjl hsrc hAk hcell
      go_wp2_with fail
      refine HTK.out.mono ?_
      rintro e w4 ⟨rfl, hH4, g4⟩
      have hT4 := hTk.chg g4 (by simp; omega)
      have hR4 := hRk.chg g4 (by simp; omega)
      have g4' : Chg none w w4 := Chg.own (b := b) hgk g4 (by omega)
      clear HTK
      go_wp2_with fail
      go_roundw
      case rel => exact ⟨k + 1, by omega, by go_num, hH4, hR4, hT4, g4'⟩
      case measure => first | (simp [intOf]; done) | (simp [intOf]; omega)
    · have hkl : k = L.length := by omega
      have hnl : decide ((k : Int) < (L.length : Int)) = false := by simp; omega
      rw [hkl, List.take_length] at hHk
      clear hkl
      have HDG := Lib.hid (digest_any b _ wr hHk (by rw [List.length_cons]; omega) hTk hb1)
      clear hHk
      go_wp2_with fail
      refine HDG.out.mono ?_
      rintro e w4 ⟨rfl, g4⟩
      have hR4 := hRk.chg g4 (by simp; omega)
      have hcs : (byteVals (dig (tag :: joined L))).toArray.size = 32 := by rw [List.size_toArray, byteVals_len, dig_len]
      have hone : (byteVals (dig (tag :: joined L))).toArray.all (·.oneCell') = true := Array.all_eq_true_iff_forall_mem.2 (fun v hv => byteVals_one _ v (by simpa using hv))
      have hinf : (Tryd.prog.info? 30).map (·.size) = some (byteVals (dig (tag :: joined L))).toArray.size := by rw [hcs]; kernel_rfl
      have HI := Lib.hid hinf
      have HO := Lib.hid hone
      have HC := Lib.hid hcs
      have g5 : Chg none w w4 := Chg.own (b := b) hgk g4 (by omega)
      clear hinf hone hcs hRk hTk g4 HDG hgk
      go_wp2_with (refine wpList_store_row rfl 30 _ _ rfl w.heap.size (byteVals (dig (tag :: joined L))).toArray rfl rfl 30 _ hR4 HI.out (by rw [HC.out]; rfl) HO.out ?_)
      refine bodyPost_ret (results_cell_row (p := 4) (ty := 30) Tryd.results19 _ _ w.heap.size 30 (byteVals (dig (tag :: joined L))).toArray (0, 0) _ rfl (setRow_heap _ _ _ _ _ _ hR4) Tryd.underlying30 rfl HI.out) rfl ⟨rfl, ?_⟩
      exact Chg.own (b := w.heap.size) g5 (chg_setRow _ _ _) (Nat.le_refl _)

end Go.Proofs.YtehpigmcmgfkoaaDoor
