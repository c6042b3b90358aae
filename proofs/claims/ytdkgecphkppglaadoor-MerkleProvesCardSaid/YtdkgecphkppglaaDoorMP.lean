/-
  MerkleProves: the walk.
-/
import Derived.Test.YtdkgecphkppglaaDoorMP0
namespace Go.Proofs.YtdkgecphkppglaaDoor
open Go.RowKit

theorem own_empty {e : TypeId} {size : Nat} (w : World) (B : Nat) (hB : B ≤ w.heap.size) : (w.alloc (.cells #[] e (0, 0))).ownsRow B e size (.slice (some ⟨w.heap.size, 0, none⟩) 0 0) 0 [] :=
  ⟨by simp, .inr ⟨w.heap.size, 0, #[], rfl, hB, heap_alloc_new w _, Nat.le_refl _, by unfold maxLen; decide, by simp, by simp⟩⟩
theorem own_emptyAt {e : TypeId} {size : Nat} (w : World) (B n : Nat) (hn : n = w.heap.size) (hB : B ≤ w.heap.size) : (w.alloc (.cells #[] e (0, 0))).ownsRow B e size (.slice (some ⟨n, 0, none⟩) 0 0) 0 [] := by
  rw [hn]; exact own_empty w B hB
theorem reads_dg {w : World} {b : Nat} {d : List UInt8} {T : TypeId} (h : Blk w b (byteVals d).toArray T) (hd : d.length = 32) : Reads w w.heap.size 32 (some ⟨b, 0, none⟩) 1 (byteVals d) :=
  ⟨by rw [byteVals_len, hd], fun _ => ⟨_, rfl, h.lt, fun q u hu => by
    rw [Go.WideShapes.add_plain, Nat.zero_add, BlkL.cell (show BlkL w b (byteVals d) T from h)]; exact hu⟩⟩
theorem reads_byte {w : World} {b : Nat} {T : TypeId} (h : Blk w b #[.int .u8 7] T) : Reads w w.heap.size 1 (some ⟨b, 0, none⟩) 1 (byteVals [7]) :=
  ⟨rfl, fun _ => ⟨_, rfl, h.lt, fun q u hu => by
    rw [Go.WideShapes.add_plain, Nat.zero_add, BlkL.cell (show BlkL w b (byteVals [7]) T from h)]; exact hu⟩⟩
theorem sfact_chg {v w : World} {a b : Nat} {x y : List Value} (h : v.rangeAt a 0 x ∧ v.rangeAt b 0 y) (g : Chg none v w) : w.rangeAt a 0 x ∧ w.rangeAt b 0 y := ⟨rangeAt_chg h.1 g (by simp), rangeAt_chg h.2 g (by simp)⟩
theorem wpList_load_want {P : Program} {ops : Array Oper} {rest : List Oper} {op : Oper} {a : Act} {w : World} {Q : Exit → Act → World → Prop} (hw : Region.wanted op (yielded ops a.tmps) = true) (ty : TypeId) (x : Operand) (ho : op.op = .load ty x)
    (b o : Nat) (hx : a.eval x = .pointer (some ⟨b, o, none⟩)) (cs : List Value) (d : TypeDesc) (hc : w.rangeAt b o cs)
    (hu : P.underlying ty = some d) (hd : d.isRow = true) (hi : (P.info? ty).map (·.size) = some cs.length)
    (h : wpList P ops Q rest (a.put op.dst (.agg cs.toArray)) w) : wpList P ops Q (op :: rest) a w :=
  BigFrame.wpList_want hw fun _ hK => wp_load_mid ty x ho b o hx cs d hc hu hd hi (hK _ _ h)

/-- What Proof tells, its length by name. -/
def ProofPost2 (w : World) (L : List Dg) (n : Nat) (e : Ending) (w' : World) : Prop :=
  ∃ A c, e = .returned (.tuple #[.slice A n c, .int .i64 0]) ∧ w'.ownsRow w.heap.size 30 32 (.slice A n c) n (flat L) ∧ Chg none w w'
theorem proof_post2 {w w' : World} {L : List Dg} {n : Nat} {e : Ending} (h : ProofPost w L e w') (hn : L.length = n) : ProofPost2 w L n e w' := by subst hn; exact h

set_option maxRecDepth 100000 in
set_option maxHeartbeats 16000000 in
theorem proves_law (p : Prt) (more : Dg) (w : World) (hp : p.ok w) (hpm : p.c ≤ 9223372036854775807) (hT : Tabs w) : Calls Tryd.prog 11 #[.slice p.A p.x.length p.c, .agg (byteVals more.1).toArray] w fun e w' => e = .returned (.bool true) ∧ Chg none w w' := by
  obtain ⟨i0, hi0, hz0, hz1, hz2⟩ := info_parts Tryd.info30
  obtain ⟨j0, hj0, hy0, hy1, hy2⟩ := info_parts Tryd.info5
  have hpl := hp.2
  have hpl2 : p.x.length ≤ 9223372036854775807 := by omega
  have gM : Chg none w (w.alloc (.cells (byteVals more.1).toArray 30)) := (Chg.refl _ _).alloc _
  by_cases h12 : 1200 < p.x.length
  · have HK := Lib.hid (known4_any _ (hT.chg gM (by simp)))
    go_enter Tryd.func11, Tryd.ntmps11
    go_wp2_with fail
    refine HK.out.mono ?_
    rintro e w1 ⟨rfl, g1⟩
    go_wp2_with fail
    go_ret
    exact ⟨rfl, gM.trans g1⟩
  have d12 : decide ((1200 : Int) < (p.x.length : Int)) = false := by simp; omega
  have bM : BlkL (w.alloc (.cells (byteVals more.1).toArray 30)) w.heap.size (byteVals more.1) 30 := Blk.new _ _ _
  have HCN := Lib.hid (fun v => count_nat p.x.length (by omega) v)
  obtain ⟨n, hn⟩ : ∃ n, n = cntN p.x.length := ⟨_, rfl⟩
  rw [← hn] at HCN
  have hn20 : n ≤ 20 := by rw [hn]; unfold cntN; omega
  have hn1 : 1 ≤ n := by rw [hn]; unfold cntN; omega
  have HN := Lib.hid hn
  have d1 : decide ((n : Int) < 1) = false := by simp; omega
  have d2 : decide ((20 : Int) < (n : Int)) = false := by simp; omega
  have HRF := Lib.hid (rootf_any p _ (hp.chg gM) (by omega) (hT.chg gM (by simp)))
  obtain ⟨RT, hRT⟩ : ∃ RT, RT = rootB p.x := ⟨_, rfl⟩
  have hRl : RT.length = 32 := by rw [hRT, rootB_len]
  rw [← hRT] at HRF
  have HRT := Lib.hid hRT
  obtain ⟨hds, hdo⟩ := row_facts RT 32 hRl
  have HI0 : Hid ((Tryd.prog.info? 30).map (·.size) = some (byteVals RT).toArray.size) := by rw [hds]; show _ = _; kernel_rfl
  have HZ0 : Hid (zero32.size = (byteVals RT).toArray.size) := by rw [hds]; rfl
  have HO0 := Lib.hid hdo
  have HIR : Hid ((Tryd.prog.info? 30).map (·.size) = some (byteVals RT).length) := by rw [byteVals_len, hRl]; show _ = _; kernel_rfl
  have HIM : Hid ((Tryd.prog.info? 30).map (·.size) = some (byteVals more.1).length) := by rw [byteVals_len, more.2]; show _ = _; kernel_rfl
  have HFD := Lib.hid (fill_dg more.1 more.2 i0 hz1)
  have HOM := Lib.hid (byteVals_one more.1)
  have hle0 : w.heap.size < (w.alloc (.cells (byteVals more.1).toArray 30)).heap.size := by simp
  have hx1 : p.x.take (64 * 0) = [] := by simp
  clear hn hRT hds hdo
  go_enter Tryd.func11, Tryd.ntmps11
  go_wp2_with fail
  generalize w.alloc (.cells (byteVals more.1).toArray 30) = v1 at *
  generalize hpM : w.heap.size = pM at *
  have HPM := Lib.hid hpM
  clear hpM
  refine HRF.out.mono ?_
  rintro e w2 ⟨rfl, g2⟩
  have g02 := gM.trans g2
  have bM2 := Blk.chg bM g2 (by simp)
  have HNW := Lib.hid (heap_alloc_new w2 (.cells zero32 30))
  obtain ⟨gN, hN2⟩ := new_row w2 (byteVals RT).toArray
  obtain ⟨W3, hW3⟩ : ∃ W3, W3 = (w2.alloc (.cells zero32 30)).setRow w2.heap.size (byteVals RT).toArray := ⟨_, rfl⟩
  have HW3 : Hid ((w2.alloc (.cells #[Value.int IntKind.u8 0, Value.int IntKind.u8 0, Value.int IntKind.u8 0, Value.int IntKind.u8 0, Value.int IntKind.u8 0, Value.int IntKind.u8 0, Value.int IntKind.u8 0, Value.int IntKind.u8 0, Value.int IntKind.u8 0, Value.int IntKind.u8 0, Value.int IntKind.u8 0, Value.int IntKind.u8 0, Value.int IntKind.u8 0, Value.int IntKind.u8 0, Value.int IntKind.u8 0, Value.int IntKind.u8 0, Value.int IntKind.u8 0, Value.int IntKind.u8 0, Value.int IntKind.u8 0, Value.int IntKind.u8 0, Value.int IntKind.u8 0, Value.int IntKind.u8 0, Value.int IntKind.u8 0, Value.int IntKind.u8 0, Value.int IntKind.u8 0, Value.int IntKind.u8 0, Value.int IntKind.u8 0, Value.int IntKind.u8 0, Value.int IntKind.u8 0, Value.int IntKind.u8 0, Value.int IntKind.u8 0, Value.int IntKind.u8 0] 30)).setRow w2.heap.size (byteVals RT).toArray = W3) := hW3.symm
  rw [← hW3] at gN hN2
  clear hW3 HRF
  go_wp2_with (refine wpList_store_row rfl 30 _ _ rfl w2.heap.size (byteVals RT).toArray rfl rfl 30 _ HNW.out HI0.out HZ0.out HO0.out ?_)
  rw [HW3.out]
  clear HW3 HNW HI0 HZ0 HO0
  have hne : w2.heap.size ≠ pM := by have := Blk.lt bM2; omega
  have hpR2 : pM ≤ w2.heap.size := by have := Blk.lt bM2; omega
  have bM3 := Blk.chg bM2 gN (by simp)
  have g03 := g02.trans gN
  generalize w2.heap.size = pRt at *
  refine (HCN.out _).mono ?_
  rintro e w' ⟨rfl, rfl⟩
  go_wp2_with fail
  have hown0 : W3.ownsRow pM 5 1 (.slice none 0 0) 0 (byteVals (p.x.take (64 * 0))) := by rw [hx1]; exact World.ownsRow_nil _ _ _ _
  have HOWN0 := Lib.hid hown0
  clear hown0 bM bM2 g02 g2 gM gN hle0
  go_loopw [6, 29] (fun s6 s29 wr => ∃ k J : Nat, k ≤ n ∧ s29 = .int .i64 k ∧ wr.ownsRow pM 5 1 s6 J (byteVals (p.x.take (64 * k))) ∧ J ≤ 1200 ∧ (∀ g, s6.ownBlock = some g → g ≠ pM ∧ g ≠ pRt) ∧ BlkL wr pM (byteVals more.1) 30 ∧ BlkL wr pRt (byteVals RT) 30 ∧ Chg none w wr) (fun _ s29 _ => n - (intOf s29).toNat)
  case atStart => exact ⟨0, 0, by omega, rfl, HOWN0.out, by omega, by simp [Value.ownBlock], bM3, hN2, g03⟩
  case round =>
    obtain ⟨k, J, hk, rfl, hown, hJ, hob, bMk, bRk, gk⟩ := hrel
    obtain ⟨A6, c6, rfl⟩ := own_slice hown
    clear HOWN0 bM3 hN2 g03
    by_cases hlt : k < n
    · have hkc : k < cntN p.x.length := by rw [← HN.out]; exact hlt
      have hTk := hT.chg gk (by simp)
      obtain ⟨CB, hCB⟩ : ∃ CB, CB = chunkB p.x k := ⟨_, rfl⟩
      obtain ⟨PB, hPB⟩ : ∃ PB, PB = proofB (leavesB p.x) k := ⟨_, rfl⟩
      obtain ⟨cn, hcn⟩ : ∃ cn, cn = chunkN p.x.length k := ⟨_, rfl⟩
      obtain ⟨pn, hpn⟩ : ∃ pn, pn = needN n k := ⟨_, rfl⟩
      have hcl : CB.length = cn := by rw [hCB, hcn]; exact chunkB_len p.x k (cnt_lo hkc)
      have hpnl : PB.length = pn := by rw [hPB, hpn, proof_len, ← HN.out]
      have hcn64 : cn ≤ 64 := by rw [hcn]; unfold chunkN; omega
      have hpn20 : pn ≤ 20 := by have := need_le n n k (Nat.le_refl _); omega
      have HCH := Lib.hid (chunk_yes p k wr (hp.chg gk) hkc (by omega))
      rw [← hCB] at HCH
      have HPF : Hid (∀ v, Chg none wr v → Calls Tryd.prog 31 #[.slice p.A p.x.length p.c, .int .i64 k] v (ProofPost v PB)) := fun v g => by
        rw [hPB]; exact proof_yes p k v (hp.chg (gk.trans g)) hkc (by omega) (hTk.chg g (by simp))
      have htk := take_chunk p.x k
      rw [← hCB] at htk
      have HTK := Lib.hid htk
      have HR1 : Hid (checkB RT p.x.length k CB PB = true) := by
        show checkB _ _ _ _ _ = true
        rw [HRT.out, hCB, hPB]; exact check_right p.x k hkc
      have HW : Hid (∀ P : List Dg, P.length ≠ pn → checkB RT p.x.length k CB P = false) := fun P h => check_wrong _ _ _ _ _ (by rw [← HN.out, ← hpn]; exact h)
      have HCL := Lib.hid hcl
      have HPN := Lib.hid hpnl
      have HCNK := Lib.hid hcn
      have HKC := Lib.hid hkc
      have HO5 := Lib.hid (byteVals_one CB)
      have HO30 := Lib.hid (dg_one PB)
      have hik : (k : Int) ≤ 20 := by omega
      clear hcl hpnl hcn hkc htk hCB hPB hpn hik
      go_wp2_with fail
      refine HCH.out.mono ?_
      rintro e w5 hch
      have hch2 := chunk_post2 hch HCL.out
      clear hch
      obtain ⟨A9, c9, rfl, own9, g5⟩ := hch2
      have HPF5 := Lib.hid (HPF.out _ g5)
      clear HPF HCH
      go_wp2_with fail
      refine HPF5.out.mono ?_
      rintro e w6 hpf
      have hpf2 := proof_post2 hpf HPN.out
      clear hpf
      obtain ⟨A11, c11, rfl, own11, g6⟩ := hpf2
      clear HPF5
      have own9' := own9.kept g6 (by cases (Value.slice A9 cn c9).ownBlock <;> simp)
      obtain ⟨tx9, hxx9, hc9⟩ := own_txt own9'
      clear hxx9
      obtain ⟨dg11, hxx11, hc11⟩ := dgs_of_own own11
      clear hxx11
      have g56 := g5.trans g6
      have gw6 := gk.trans g56
      have hown6 := hown.kept g56 (by cases (Value.slice A6 J c6).ownBlock <;> simp)
      have bM6 := Blk.chg bMk g56 (by simp)
      have bR6 := Blk.chg bRk g56 (by simp)
      have OWN6 := Lib.hid hown6
      have RT6 := Lib.hid (show w6.rangeAt pRt 0 (byteVals RT) from Blk.range bR6)
      have hT6 := hT.chg gw6 (by simp)
      have HC1 : Hid (Calls Tryd.prog 35 #[.agg (byteVals RT).toArray, .int .i64 p.x.length, .int .i64 k, .slice A9 cn c9, .slice A11 pn c11] w6 fun e w' => e = .returned (.bool true) ∧ Chg none w6 w') := by
        have h := check_any ⟨RT, hRl⟩ p.x.length k ⟨A9, CB, c9⟩ A11 PB c11 w6 ⟨tx9, by show CB.length ≤ c9; rw [HCL.out]; exact hc9⟩ (by omega) HKC.out (by show CB.length = _; rw [HCL.out, HCNK.out]) dg11 (by rw [HPN.out]; exact hc11) (by rw [HPN.out]; omega) hT6
        have e1 : (⟨A9, CB, c9⟩ : Prt).x.length = cn := HCL.out
        rw [e1, HPN.out] at h
        have e2 : checkB (⟨RT, hRl⟩ : Dg).1 p.x.length k (⟨A9, CB, c9⟩ : Prt).x PB = true := HR1.out
        rw [e2] at h
        exact h
      have HC2 : Hid (∀ (v : World) (A : Option Addr) (c : Nat) {b : Nat}, Chg none w6 v → v.ownsRow b 30 32 (.slice A (pn + 1) c) (pn + 1) (flat PB ++ byteVals more.1) →
          Calls Tryd.prog 35 #[.agg (byteVals RT).toArray, .int .i64 p.x.length, .int .i64 k, .slice A9 cn c9, .slice A (pn + 1) c] v fun e w' => e = .returned (.bool false) ∧ Chg none v w') := fun v A c {b} g ho => by
        have gg : Chg none w6 v := g
        have hfl : flat PB ++ byteVals more.1 = flat (PB ++ [more]) := by rw [flat_append]; simp [flat, dgCells]
        rw [hfl] at ho
        obtain ⟨d1, d2, d3⟩ := dgs_of_own ho
        have h := check_any ⟨RT, hRl⟩ p.x.length k ⟨A9, CB, c9⟩ A (PB ++ [more]) c v ⟨tx9.chg gg, by show CB.length ≤ c9; rw [HCL.out]; exact hc9⟩ (by omega) HKC.out (by show CB.length = _; rw [HCL.out, HCNK.out]) d1 (by rw [← d2]; exact d3) (by rw [← d2]; omega) (hT6.chg gg (by simp))
        have e1 : (⟨A9, CB, c9⟩ : Prt).x.length = cn := HCL.out
        rw [e1, ← d2] at h
        have e2 : checkB (⟨RT, hRl⟩ : Dg).1 p.x.length k (⟨A9, CB, c9⟩ : Prt).x (PB ++ [more]) = false := HW.out _ (by rw [← d2]; omega)
        rw [e2] at h
        exact h
      have HC3 : Hid (∀ (v : World) (A : Option Addr) (c : Nat), Chg none w6 v →
          Calls Tryd.prog 35 #[.agg (byteVals RT).toArray, .int .i64 p.x.length, .int .i64 k, .slice A (cn + 1) c, .slice A11 pn c11] v fun e w' => e = .returned (.bool false) ∧ Chg none v w') := fun v A c _ => by
        have h := check_no2 ⟨RT, hRl⟩ p.x.length k ⟨A, List.replicate (cn + 1) 0, c⟩ A11 pn c11 v (by omega) HKC.out (by show (List.replicate (cn + 1) (0 : UInt8)).length ≠ _; rw [List.length_replicate, ← HCNK.out]; omega)
        have e1 : (⟨A, List.replicate (cn + 1) 0, c⟩ : Prt).x.length = cn + 1 := List.length_replicate
        rw [e1] at h
        exact h
      have e9 : (⟨A9, CB, c9⟩ : Prt).x.length = cn := HCL.out
      have HC4 : Hid (∀ v : World, Calls Tryd.prog 35 #[.agg (byteVals RT).toArray, .int .i64 p.x.length, .int .i64 n, .slice A9 cn c9, .slice A11 pn c11] v fun e w' => e = .returned (.bool false) ∧ Chg none v w') := fun v => by
        have h := check_no1 ⟨RT, hRl⟩ p.x.length n ⟨A9, CB, c9⟩ A11 pn c11 v (Or.inr (Or.inr ⟨p.x.length, n, rfl, rfl, by omega, by rw [← HN.out]; exact Nat.le_refl _⟩))
        rw [e9] at h; exact h
      have HC5 : Hid (∀ v : World, Calls Tryd.prog 35 #[.agg (byteVals RT).toArray, .int .i64 p.x.length, .int .i64 (-1), .slice A9 cn c9, .slice A11 pn c11] v fun e w' => e = .returned (.bool false) ∧ Chg none v w') := fun v => by
        have h := check_no1 ⟨RT, hRl⟩ p.x.length (-1) ⟨A9, CB, c9⟩ A11 pn c11 v (Or.inl (by decide))
        rw [e9] at h; exact h
      have HC6 : Hid (∀ v : World, Calls Tryd.prog 35 #[.agg (byteVals RT).toArray, .int .i64 (-1), .int .i64 k, .slice A9 cn c9, .slice A11 pn c11] v fun e w' => e = .returned (.bool false) ∧ Chg none v w') := fun v => by
        have h := check_no1 ⟨RT, hRl⟩ (-1) k ⟨A9, CB, c9⟩ A11 pn c11 v (Or.inr (Or.inl (by decide)))
        rw [e9] at h; exact h
      have HC7 : Hid (∀ (v : World) (_ : 0 < pn), Chg none w6 v →
          Calls Tryd.prog 35 #[.agg (byteVals RT).toArray, .int .i64 p.x.length, .int .i64 k, .slice A9 cn c9, .slice A11 (pn - 1) c11] v fun e w' => e = .returned (.bool false) ∧ Chg none v w') := fun v hp0 g => by
        have gg : Chg none w6 v := g
        have hl : (PB.take (pn - 1)).length = pn - 1 := by rw [List.length_take, HPN.out]; omega
        have h := check_any ⟨RT, hRl⟩ p.x.length k ⟨A9, CB, c9⟩ A11 (PB.take (pn - 1)) c11 v ⟨tx9.chg gg, by show CB.length ≤ c9; rw [HCL.out]; exact hc9⟩ (by omega) HKC.out (by show CB.length = _; rw [HCL.out, HCNK.out]) (((dg11.chg gg (by simp)).more gg.size).first _) (by rw [hl]; omega) (by rw [hl]; omega) (hT6.chg gg (by simp))
        rw [e9, hl] at h
        have e2 : checkB (⟨RT, hRl⟩ : Dg).1 p.x.length k (⟨A9, CB, c9⟩ : Prt).x (PB.take (pn - 1)) = false := HW.out _ (by rw [hl]; omega)
        rw [e2] at h
        exact h
      have HC8 : Hid (∀ (v : World) (_ : 0 < cn), Calls Tryd.prog 35 #[.agg (byteVals RT).toArray, .int .i64 p.x.length, .int .i64 k, .slice A9 (cn - 1) c9, .slice A11 pn c11] v fun e w' => e = .returned (.bool false) ∧ Chg none v w') := fun v h0 => by
        have h := check_no2 ⟨RT, hRl⟩ p.x.length k ⟨A9, List.replicate (cn - 1) 0, c9⟩ A11 pn c11 v (by omega) HKC.out (by show (List.replicate (cn - 1) (0 : UInt8)).length ≠ _; rw [List.length_replicate, ← HCNK.out]; omega)
        have e1 : (⟨A9, List.replicate (cn - 1) 0, c9⟩ : Prt).x.length = cn - 1 := List.length_replicate
        rw [e1] at h
        exact h
      have HRP0 := Lib.hid (fun (v : World) (g : Chg none w6 v) => (by
        have h := (dg11.chg g (by simp)).reads
        rw [HPN.out] at h
        exact h : Reads v w6.heap.size 32 A11 pn (flat PB)))
      have HRC0 := Lib.hid (fun (v : World) (g : Chg none w6 v) => (by
        have h := txt_reads (tx9.chg g)
        rw [HCL.out] at h
        exact h : Reads v v.heap.size 1 A9 cn (byteVals CB)))
      have HOB := Lib.hid hob
      clear hown own9 own9' own11 hown6 tx9 dg11 bMk bRk HR1 HW hTk e9 hob
      go_upto_region 13 with (fail)
      go_wp2_with (refine wpList_load_want (by rfl) 30 _ rfl pRt 0 rfl (byteVals RT) _ RT6.out Tryd.underlying30 rfl HIR.out ?_)
      refine HC1.out.mono ?_
      rintro e w7 ⟨rfl, g7⟩
      have gg7 := g56.trans g7
      have OWN7 := Lib.hid (OWN6.out.kept g7 (by cases (Value.slice A6 J c6).ownBlock <;> simp))
      have bM7 := Blk.chg bM6 g7 (by simp)
      have bR7 := Blk.chg bR6 g7 (by simp)
      have gw7 := gw6.trans g7
      have hz67 : w6.heap.size ≤ w7.heap.size := g7.size
      have HC2 : Hid (∀ (v : World) (A : Option Addr) (c : Nat) {b : Nat}, Chg none w7.drew v → v.ownsRow b 30 32 (.slice A (pn + 1) c) (pn + 1) (flat PB ++ byteVals more.1) →
          Calls Tryd.prog 35 #[.agg (byteVals RT).toArray, .int .i64 p.x.length, .int .i64 k, .slice A9 cn c9, .slice A (pn + 1) c] v fun e w' => e = .returned (.bool false) ∧ Chg none v w') := fun v A c {b} g ho => HC2.out v A c ((g7.drew).trans g) ho
      have HC3 : Hid (∀ (v : World) (A : Option Addr) (c : Nat), Chg none w7.drew v →
          Calls Tryd.prog 35 #[.agg (byteVals RT).toArray, .int .i64 p.x.length, .int .i64 k, .slice A (cn + 1) c, .slice A11 pn c11] v fun e w' => e = .returned (.bool false) ∧ Chg none v w') := fun v A c g => HC3.out v A c ((g7.drew).trans g)
      have HRP := Lib.hid (fun (v : World) (g : Chg none w7.drew v) => HRP0.out v ((g7.drew).trans g))
      have HRC := Lib.hid (fun (v : World) (g : Chg none w7.drew v) => HRC0.out v ((g7.drew).trans g))
      have hS0 : w7.drew.rangeAt pRt 0 (byteVals RT) ∧ w7.drew.rangeAt pM 0 (byteVals more.1) := ⟨Blk.range bR7, Blk.range bM7⟩
      have E0 : Chg none w7.drew w7.drew := Chg.refl _ _
      clear HC1 HRP0 HRC0 OWN6 RT6 bM6 bR6 g56 gw6 g5 g6
      go_upto_region 15 with (fail)
      go_cut [108] (fun s108 wx => s108 = .bool false ∧ Chg none w7.drew wx)
      case first =>
        refine wp_region_held_drew (S := fun w' => w'.rangeAt pRt 0 (byteVals RT) ∧ w'.rangeAt pM 0 (byteVals more.1)) (by kernel_rfl) hS0 (fun _ => ?_)
        generalize w7.drew = v0 at *
        refine wpAnyH_meet 36 #[true, true, true, true, true, true, true, true, true, true, true, true, true, false, false, false, false, false, false, false, false, false, false, false, false, false, false, false, false, false, false, false, false, false, false, false, false, false, false, false, false, false, false, false, false, false, false, false, false] (fun a a' w' => ∃ y0 y1 y2 y3 : Value, a' = (((((((((((((a.put (some 60) (.agg (byteVals RT).toArray)).put (some 61) (.slice p.A p.x.length p.c)).put (some 62) (.int .i64 (p.x.length : Int))).put (some 63) (.int .i64 (k : Int))).put (some 64) (.slice A9 cn c9)).put (some 65) (y0)).put (some 66) (.slice A11 pn c11)).put (some 67) (y1)).put (some 68) (.agg (byteVals more.1).toArray)).put (some 69) (y2)).put (some 70) (y3)).put (some 71) (.bool false)).put (some 72) (.bool false)) ∧ Chg none v0 w') ?_ ?_
        · rintro a' w' ⟨y0, y1, y2, y3, rfl, E913⟩
          have S913 := sfact_chg hS0 E913
          simp only [Act.put, List.setIfInBounds_toArray, List.set_cons_zero, List.set_cons_succ]
          refine wpAnyH_meet 23 #[true, true, true, true, true, true, true, true, true, true, true, true, true, true, true, true, true, true, true, true, true, true, true, true, true, true, false, false, false, false, false, false, false, false, false, false, false, false, false, false, false, false, false, false, false, false, false, false, false] (fun a a' w' => ∃ y0 y1 y2 y3 : Value, a' = (((((((((((((a.put (some 73) (.agg (byteVals RT).toArray)).put (some 74) (.slice p.A p.x.length p.c)).put (some 75) (.int .i64 (p.x.length : Int))).put (some 76) (.int .i64 (k : Int))).put (some 77) (y0)).put (some 78) (.slice A9 cn c9)).put (some 79) (y1)).put (some 80) (y2)).put (some 81) (y3)).put (some 82) (.slice A11 pn c11)).put (some 83) (.bool false)).put (some 84) (.bool false)).put (some 85) (.bool false)) ∧ Chg none v0 w') ?_ ?_
          · rintro a' w' ⟨y0, y1, y2, y3, rfl, E926⟩
            have S926 := sfact_chg hS0 E926
            simp only [Act.put, List.setIfInBounds_toArray, List.set_cons_zero, List.set_cons_succ]
            refine wpAnyH_take (i := 26) (oi := ⟨some 86, _, _, _, _, _⟩) (v := .agg (byteVals RT).toArray) rfl (by kernel_rfl) (by kernel_rfl) (by kernel_rfl) (fun _ _ _ h => h) (yieldsIf_load_mid (by rfl) 30 _ rfl pRt 0 rfl (byteVals RT) _ (fun _ h => h.1) Tryd.underlying30 rfl HIR.out) (by assumption) ?_
            try simp only [Act.put, List.setIfInBounds_toArray, List.set_cons_zero, List.set_cons_succ]
            refine wpAnyH_take (i := 27) (oi := ⟨some 87, _, _, _, _, _⟩) (v := ?_) rfl (by kernel_rfl) (by kernel_rfl) (by kernel_rfl) (fun _ _ _ h => h) (Or.inl ⟨by rfl, ?_⟩) (by assumption) ?_
            rotate_left
            · intro w hSw; (try dsimp only at hSw); go_simp; (try with_reducible rfl)
            try simp only [Act.put, List.setIfInBounds_toArray, List.set_cons_zero, List.set_cons_succ]
            refine wpAnyH_take (i := 28) (oi := ⟨some 88, _, _, _, _, _⟩) (v := ?_) rfl (by kernel_rfl) (by kernel_rfl) (by kernel_rfl) (fun _ _ _ h => h) (Or.inl ⟨by rfl, ?_⟩) (by assumption) ?_
            rotate_left
            · intro w hSw; (try dsimp only at hSw); go_simp; (try with_reducible rfl)
            try simp only [Act.put, List.setIfInBounds_toArray, List.set_cons_zero, List.set_cons_succ]
            refine wpAnyH_take (i := 29) (oi := ⟨some 89, _, _, _, _, _⟩) (v := ?_) rfl (by kernel_rfl) (by kernel_rfl) (by kernel_rfl) (fun _ _ _ h => h) (Or.inl ⟨by rfl, ?_⟩) (by assumption) ?_
            rotate_left
            · intro w hSw; (try dsimp only at hSw); go_simp; (try with_reducible rfl)
            try simp only [Act.put, List.setIfInBounds_toArray, List.set_cons_zero, List.set_cons_succ]
            refine wpAnyH_take (i := 30) (oi := ⟨some 90, _, _, _, _, _⟩) (v := ?_) rfl (by kernel_rfl) (by kernel_rfl) (by kernel_rfl) (fun _ _ _ h => h) (Or.inl ⟨by rfl, ?_⟩) (by assumption) ?_
            rotate_left
            · intro w hSw; (try dsimp only at hSw); go_simp; (try with_reducible rfl)
            try simp only [Act.put, List.setIfInBounds_toArray, List.set_cons_zero, List.set_cons_succ]
            refine wpAnyH_take (i := 31) (oi := ⟨some 91, _, _, _, _, _⟩) (v := ?_) rfl (by kernel_rfl) (by kernel_rfl) (by kernel_rfl) (fun _ _ _ h => h) (Or.inl ⟨by rfl, ?_⟩) (by assumption) ?_
            rotate_left
            · intro w hSw; (try dsimp only at hSw); go_simp; (try with_reducible rfl)
            try simp only [Act.put, List.setIfInBounds_toArray, List.set_cons_zero, List.set_cons_succ]
            refine wpAnyH_ready (rs := [32]) (by kernel_rfl) (by simp) ?_
            refine AllReadyH.cons (o := ⟨some 92, _, _, _, _, _⟩) rfl (fun K hK => ?_) (AllReadyH.nil)
            go_simp
            go_at_call 35
            refine (HC4.out _).mono ?_
            rintro e w1 ⟨rfl, g1⟩
            have E1 := E926.trans g1
            have S1 := sfact_chg hS0 E1
            go_wp2_with fail
            refine hK.out _ _ S1 (fun _ => ?_)
            clear hK K
            try simp only [List.setIfInBounds_toArray, List.set_cons_zero, List.set_cons_succ]
            refine wpAnyH_take (i := 33) (oi := ⟨some 93, _, _, _, _, _⟩) (v := ?_) rfl (by kernel_rfl) (by kernel_rfl) (by kernel_rfl) (fun _ _ _ h => h) (Or.inl ⟨by rfl, ?_⟩) (by assumption) ?_
            rotate_left
            · intro w hSw; (try dsimp only at hSw); go_simp; (try with_reducible rfl)
            try simp only [Act.put, List.setIfInBounds_toArray, List.set_cons_zero, List.set_cons_succ]
            refine wpAnyH_take (i := 34) (oi := ⟨some 94, _, _, _, _, _⟩) (v := ?_) rfl (by kernel_rfl) (by kernel_rfl) (by kernel_rfl) (fun _ _ _ h => h) (Or.inl ⟨by rfl, ?_⟩) (by assumption) ?_
            rotate_left
            · intro w hSw; (try dsimp only at hSw); go_simp; (try with_reducible rfl)
            try simp only [Act.put, List.setIfInBounds_toArray, List.set_cons_zero, List.set_cons_succ]
            refine wpAnyH_take (i := 35) (oi := ⟨some 95, _, _, _, _, _⟩) (v := .agg (byteVals RT).toArray) rfl (by kernel_rfl) (by kernel_rfl) (by kernel_rfl) (fun _ _ _ h => h) (yieldsIf_load_mid (by rfl) 30 _ rfl pRt 0 rfl (byteVals RT) _ (fun _ h => h.1) Tryd.underlying30 rfl HIR.out) (by assumption) ?_
            try simp only [Act.put, List.setIfInBounds_toArray, List.set_cons_zero, List.set_cons_succ]
            refine wpAnyH_take (i := 36) (oi := ⟨some 96, _, _, _, _, _⟩) (v := ?_) rfl (by kernel_rfl) (by kernel_rfl) (by kernel_rfl) (fun _ _ _ h => h) (Or.inl ⟨by rfl, ?_⟩) (by assumption) ?_
            rotate_left
            · intro w hSw; (try dsimp only at hSw); go_simp; (try with_reducible rfl)
            try simp only [Act.put, List.setIfInBounds_toArray, List.set_cons_zero, List.set_cons_succ]
            refine wpAnyH_take (i := 37) (oi := ⟨some 97, _, _, _, _, _⟩) (v := ?_) rfl (by kernel_rfl) (by kernel_rfl) (by kernel_rfl) (fun _ _ _ h => h) (Or.inl ⟨by rfl, ?_⟩) (by assumption) ?_
            rotate_left
            · intro w hSw; (try dsimp only at hSw); go_simp; (try with_reducible rfl)
            try simp only [Act.put, List.setIfInBounds_toArray, List.set_cons_zero, List.set_cons_succ]
            refine wpAnyH_take (i := 38) (oi := ⟨some 98, _, _, _, _, _⟩) (v := ?_) rfl (by kernel_rfl) (by kernel_rfl) (by kernel_rfl) (fun _ _ _ h => h) (Or.inl ⟨by rfl, ?_⟩) (by assumption) ?_
            rotate_left
            · intro w hSw; (try dsimp only at hSw); go_simp; (try with_reducible rfl)
            try simp only [Act.put, List.setIfInBounds_toArray, List.set_cons_zero, List.set_cons_succ]
            refine wpAnyH_take (i := 39) (oi := ⟨some 99, _, _, _, _, _⟩) (v := ?_) rfl (by kernel_rfl) (by kernel_rfl) (by kernel_rfl) (fun _ _ _ h => h) (Or.inl ⟨by rfl, ?_⟩) (by assumption) ?_
            rotate_left
            · intro w hSw; (try dsimp only at hSw); go_simp; (try with_reducible rfl)
            try simp only [Act.put, List.setIfInBounds_toArray, List.set_cons_zero, List.set_cons_succ]
            refine wpAnyH_ready (rs := [40]) (by kernel_rfl) (by simp) ?_
            refine AllReadyH.cons (o := ⟨some 100, _, _, _, _, _⟩) rfl (fun K hK => ?_) (AllReadyH.nil)
            go_simp
            go_at_call 35
            refine (HC5.out _).mono ?_
            rintro e w2 ⟨rfl, g2⟩
            have E2 := E1.trans g2
            have S2 := sfact_chg hS0 E2
            go_wp2_with fail
            refine hK.out _ _ S2 (fun _ => ?_)
            clear hK K
            try simp only [List.setIfInBounds_toArray, List.set_cons_zero, List.set_cons_succ]
            refine wpAnyH_take (i := 41) (oi := ⟨some 101, _, _, _, _, _⟩) (v := ?_) rfl (by kernel_rfl) (by kernel_rfl) (by kernel_rfl) (fun _ _ _ h => h) (Or.inl ⟨by rfl, ?_⟩) (by assumption) ?_
            rotate_left
            · intro w hSw; (try dsimp only at hSw); go_simp; (try with_reducible rfl)
            try simp only [Act.put, List.setIfInBounds_toArray, List.set_cons_zero, List.set_cons_succ]
            refine wpAnyH_take (i := 42) (oi := ⟨some 102, _, _, _, _, _⟩) (v := ?_) rfl (by kernel_rfl) (by kernel_rfl) (by kernel_rfl) (fun _ _ _ h => h) (Or.inl ⟨by rfl, ?_⟩) (by assumption) ?_
            rotate_left
            · intro w hSw; (try dsimp only at hSw); go_simp; (try with_reducible rfl)
            try simp only [Act.put, List.setIfInBounds_toArray, List.set_cons_zero, List.set_cons_succ]
            refine wpAnyH_take (i := 43) (oi := ⟨some 103, _, _, _, _, _⟩) (v := .agg (byteVals RT).toArray) rfl (by kernel_rfl) (by kernel_rfl) (by kernel_rfl) (fun _ _ _ h => h) (yieldsIf_load_mid (by rfl) 30 _ rfl pRt 0 rfl (byteVals RT) _ (fun _ h => h.1) Tryd.underlying30 rfl HIR.out) (by assumption) ?_
            try simp only [Act.put, List.setIfInBounds_toArray, List.set_cons_zero, List.set_cons_succ]
            refine wpAnyH_take (i := 44) (oi := ⟨some 104, _, _, _, _, _⟩) (v := ?_) rfl (by kernel_rfl) (by kernel_rfl) (by kernel_rfl) (fun _ _ _ h => h) (Or.inl ⟨by rfl, ?_⟩) (by assumption) ?_
            rotate_left
            · intro w hSw; (try dsimp only at hSw); go_simp; (try with_reducible rfl)
            try simp only [Act.put, List.setIfInBounds_toArray, List.set_cons_zero, List.set_cons_succ]
            refine wpAnyH_take (i := 45) (oi := ⟨some 105, _, _, _, _, _⟩) (v := ?_) rfl (by kernel_rfl) (by kernel_rfl) (by kernel_rfl) (fun _ _ _ h => h) (Or.inl ⟨by rfl, ?_⟩) (by assumption) ?_
            rotate_left
            · intro w hSw; (try dsimp only at hSw); go_simp; (try with_reducible rfl)
            try simp only [Act.put, List.setIfInBounds_toArray, List.set_cons_zero, List.set_cons_succ]
            refine wpAnyH_take (i := 46) (oi := ⟨some 106, _, _, _, _, _⟩) (v := ?_) rfl (by kernel_rfl) (by kernel_rfl) (by kernel_rfl) (fun _ _ _ h => h) (Or.inl ⟨by rfl, ?_⟩) (by assumption) ?_
            rotate_left
            · intro w hSw; (try dsimp only at hSw); go_simp; (try with_reducible rfl)
            try simp only [Act.put, List.setIfInBounds_toArray, List.set_cons_zero, List.set_cons_succ]
            refine wpAnyH_ready (rs := [47]) (by kernel_rfl) (by simp) ?_
            refine AllReadyH.cons (o := ⟨some 107, _, _, _, _, _⟩) rfl (fun K hK => ?_) (AllReadyH.nil)
            go_simp
            go_at_call 35
            refine (HC6.out _).mono ?_
            rintro e w3 ⟨rfl, g3⟩
            have E3 := E2.trans g3
            have S3 := sfact_chg hS0 E3
            go_wp2_with fail
            refine hK.out _ _ S3 (fun _ => ?_)
            clear hK K
            try simp only [List.setIfInBounds_toArray, List.set_cons_zero, List.set_cons_succ]
            refine wpAnyH_take (i := 48) (oi := ⟨some 108, _, _, _, _, _⟩) (v := ?_) rfl (by kernel_rfl) (by kernel_rfl) (by kernel_rfl) (fun _ _ _ h => h) (Or.inl ⟨by rfl, ?_⟩) (by assumption) ?_
            rotate_left
            · intro w hSw; (try dsimp only at hSw); go_simp; (try with_reducible rfl)
            try simp only [Act.put, List.setIfInBounds_toArray, List.set_cons_zero, List.set_cons_succ]
            refine wpAnyH_done (by kernel_rfl) ?_ _
            go_wp2_with fail
            go_meet
            exact ⟨rfl, E3⟩
          · intro HMEET
            refine wpAnyH_take (i := 13) (oi := ⟨some 73, _, _, _, _, _⟩) (v := .agg (byteVals RT).toArray) rfl (by kernel_rfl) (by kernel_rfl) (by kernel_rfl) (fun _ _ _ h => h) (yieldsIf_load_mid (by rfl) 30 _ rfl pRt 0 rfl (byteVals RT) _ (fun _ h => h.1) Tryd.underlying30 rfl HIR.out) (by assumption) ?_
            try simp only [Act.put, List.setIfInBounds_toArray, List.set_cons_zero, List.set_cons_succ]
            refine wpAnyH_take (i := 14) (oi := ⟨some 74, _, _, _, _, _⟩) (v := ?_) rfl (by kernel_rfl) (by kernel_rfl) (by kernel_rfl) (fun _ _ _ h => h) (Or.inl ⟨by rfl, ?_⟩) (by assumption) ?_
            rotate_left
            · intro w hSw; (try dsimp only at hSw); go_simp; (try with_reducible rfl)
            try simp only [Act.put, List.setIfInBounds_toArray, List.set_cons_zero, List.set_cons_succ]
            refine wpAnyH_take (i := 15) (oi := ⟨some 75, _, _, _, _, _⟩) (v := ?_) rfl (by kernel_rfl) (by kernel_rfl) (by kernel_rfl) (fun _ _ _ h => h) (Or.inl ⟨by rfl, ?_⟩) (by assumption) ?_
            rotate_left
            · intro w hSw; (try dsimp only at hSw); go_simp; (try with_reducible rfl)
            try simp only [Act.put, List.setIfInBounds_toArray, List.set_cons_zero, List.set_cons_succ]
            refine wpAnyH_take (i := 16) (oi := ⟨some 76, _, _, _, _, _⟩) (v := ?_) rfl (by kernel_rfl) (by kernel_rfl) (by kernel_rfl) (fun _ _ _ h => h) (Or.inl ⟨by rfl, ?_⟩) (by assumption) ?_
            rotate_left
            · intro w hSw; (try dsimp only at hSw); go_simp; (try with_reducible rfl)
            try simp only [Act.put, List.setIfInBounds_toArray, List.set_cons_zero, List.set_cons_succ]
            refine wpAnyH_take (i := 18) (oi := ⟨some 78, _, _, _, _, _⟩) (v := ?_) rfl (by kernel_rfl) (by kernel_rfl) (by kernel_rfl) (fun _ _ _ h => h) (Or.inl ⟨by rfl, ?_⟩) (by assumption) ?_
            rotate_left
            · intro w hSw; (try dsimp only at hSw); go_simp; (try with_reducible rfl)
            try simp only [Act.put, List.setIfInBounds_toArray, List.set_cons_zero, List.set_cons_succ]
            refine wpAnyH_take (i := 22) (oi := ⟨some 82, _, _, _, _, _⟩) (v := ?_) rfl (by kernel_rfl) (by kernel_rfl) (by kernel_rfl) (fun _ _ _ h => h) (Or.inl ⟨by rfl, ?_⟩) (by assumption) ?_
            rotate_left
            · intro w hSw; (try dsimp only at hSw); go_simp; (try with_reducible rfl)
            try simp only [Act.put, List.setIfInBounds_toArray, List.set_cons_zero, List.set_cons_succ]
            refine wpAnyH_ready (rs := [17, 20]) (by kernel_rfl) (by simp) ?_
            refine AllReadyH.cons (o := ⟨some 77, _, _, _, _, _⟩) rfl (fun K hK => ?_) (AllReadyH.cons (o := ⟨some 80, _, _, _, _, _⟩) rfl (fun K hK => ?_) (AllReadyH.nil))
            · as_aux_lemma =>
                have gA4 : Chg none w' (World.alloc w' (Obj.cells #[] 5)) := (Chg.refl _ _).alloc _
                have E4 := E913.trans gA4
                have S4 := sfact_chg hS0 E4
                have O4 := own_emptyAt (e := 5) (size := 1) w' v0.heap.size (w'.heap.size) (by simp) E913.size
                go_simp
                refine hK.out _ _ S4 (fun _ => ?_)
                clear hK K
                try simp only [List.setIfInBounds_toArray, List.set_cons_zero, List.set_cons_succ]
                refine wpAnyH_ready (rs := [19, 20]) (by kernel_rfl) (by simp) ?_
                refine AllReadyH.cons (o := ⟨some 79, _, _, _, _, _⟩) rfl (fun K hK => ?_) (AllReadyH.cons (o := ⟨some 80, _, _, _, _, _⟩) rfl (fun K hK => ?_) (AllReadyH.nil))
                · as_aux_lemma =>
                    rw [if_pos (by rfl)]
                    refine wp_append_any _ (.tmp 77) (.tmp 78) 22 (by rfl) v0.heap.size 5 j0 (.int .u8 0) 1 1 Tryd.underlying22 hj0 hy0 hy1 hy2 (by rfl) (by decide) _ 0 [] (by rfl) O4 _ A9 cn c9 (byteVals CB) (by rfl) (HRC.out _ E4) HO5.out (by unfold maxLen; omega) (by omega) E4.size ?_
                    intro u5 w5 O5 gr5 ob5
                    have E5 := own_chg E4 O4 (Nat.le_refl _) gr5
                    have S5 := sfact_chg hS0 E5
                    simp only [Nat.zero_add, List.nil_append] at O5
                    obtain ⟨B5, d5, rfl⟩ := own_slice O5
                    clear gr5 ob5
                    refine hK.out _ _ S5 (fun _ => ?_)
                    clear hK K
                    try simp only [Act.put, List.setIfInBounds_toArray, List.set_cons_zero, List.set_cons_succ]
                    refine wpAnyH_ready (rs := [20]) (by kernel_rfl) (by simp) ?_
                    refine AllReadyH.cons (o := ⟨some 80, _, _, _, _, _⟩) rfl (fun K hK => ?_) (AllReadyH.nil)
                    have gA6 : Chg none w5 (World.alloc w5 (Obj.cells #[Value.int IntKind.u8 7] 5)) := (Chg.refl _ _).alloc _
                    have E6 := E5.trans gA6
                    have S6 := sfact_chg hS0 E6
                    have O6 := O5.alloc ((Obj.cells #[Value.int IntKind.u8 7] 5))
                    have M6 : Blk (World.alloc w5 (Obj.cells #[Value.int IntKind.u8 7] 5)) (w5.heap.size) #[Value.int IntKind.u8 7] 5 := Blk.newAt _ _ (by simp)
                    go_simp
                    refine hK.out _ _ S6 (fun _ => ?_)
                    clear hK K
                    try simp only [List.setIfInBounds_toArray, List.set_cons_zero, List.set_cons_succ]
                    refine wpAnyH_ready (rs := [21]) (by kernel_rfl) (by simp) ?_
                    refine AllReadyH.cons (o := ⟨some 81, _, _, _, _, _⟩) rfl (fun K hK => ?_) (AllReadyH.nil)
                    rw [if_pos (by rfl)]
                    refine wp_append_any _ (.tmp 79) (.tmp 80) 22 (by rfl) v0.heap.size 5 j0 (.int .u8 0) 1 1 Tryd.underlying22 hj0 hy0 hy1 hy2 (by rfl) (by decide) _ cn (byteVals CB) (by rfl) O6 _ _ 1 1 (byteVals [7]) (by rfl) (reads_byte M6) (byteVals_one [7]) (by unfold maxLen; omega) (by omega) E6.size ?_
                    intro u7 w7 O7 gr7 ob7
                    have E7 := own_chg E6 O6 (Nat.le_refl _) gr7
                    have S7 := sfact_chg hS0 E7
                    obtain ⟨B7, d7, rfl⟩ := own_slice O7
                    clear gr7 ob7
                    refine hK.out _ _ S7 (fun _ => ?_)
                    clear hK K
                    try simp only [Act.put, List.setIfInBounds_toArray, List.set_cons_zero, List.set_cons_succ]
                    refine wpAnyH_ready (rs := [23]) (by kernel_rfl) (by simp) ?_
                    refine AllReadyH.cons (o := ⟨some 83, _, _, _, _, _⟩) rfl (fun K hK => ?_) (AllReadyH.nil)
                    go_simp
                    go_at_call 35
                    refine (HC3.out _ _ _ E7).mono ?_
                    rintro e w8 ⟨rfl, g8⟩
                    have E8 := E7.trans g8
                    have S8 := sfact_chg hS0 E8
                    go_wp2_with fail
                    refine hK.out _ _ S8 (fun _ => ?_)
                    clear hK K
                    try simp only [List.setIfInBounds_toArray, List.set_cons_zero, List.set_cons_succ]
                    refine wpAnyH_take (i := 24) (oi := ⟨some 84, _, _, _, _, _⟩) (v := ?_) rfl (by kernel_rfl) (by kernel_rfl) (by kernel_rfl) (fun _ _ _ h => h) (Or.inl ⟨by rfl, ?_⟩) (by assumption) ?_
                    rotate_left
                    · intro w hSw; (try dsimp only at hSw); go_simp; (try with_reducible rfl)
                    try simp only [Act.put, List.setIfInBounds_toArray, List.set_cons_zero, List.set_cons_succ]
                    refine wpAnyH_take (i := 25) (oi := ⟨some 85, _, _, _, _, _⟩) (v := ?_) rfl (by kernel_rfl) (by kernel_rfl) (by kernel_rfl) (fun _ _ _ h => h) (Or.inl ⟨by rfl, ?_⟩) (by assumption) ?_
                    rotate_left
                    · intro w hSw; (try dsimp only at hSw); go_simp; (try with_reducible rfl)
                    try simp only [Act.put, List.setIfInBounds_toArray, List.set_cons_zero, List.set_cons_succ]
                    refine wpAnyH_listed #[true, true, true, true, true, true, true, true, true, true, true, true, true, true, true, true, true, true, true, true, true, true, true, true, true, true, false, false, false, false, false, false, false, false, false, false, false, false, false, false, false, false, false, false, false, false, false, false, false] (by kernel_rfl) ?_
                    exact HMEET.out _ _ ⟨.slice (some ⟨w'.heap.size, 0, none⟩) 0 0, .slice B5 cn d5, .slice (some ⟨w5.heap.size, 0, none⟩) 1 1, .slice B7 (cn + 1) d7, by simp only [Act.put, List.setIfInBounds_toArray, List.set_cons_zero, List.set_cons_succ], E8⟩
                · as_aux_lemma =>
                    have gA9 : Chg none (World.alloc w' (Obj.cells #[] 5)) (World.alloc (World.alloc w' (Obj.cells #[] 5)) (Obj.cells #[Value.int IntKind.u8 7] 5)) := (Chg.refl _ _).alloc _
                    have E9 := E4.trans gA9
                    have S9 := sfact_chg hS0 E9
                    have O9 := O4.alloc ((Obj.cells #[Value.int IntKind.u8 7] 5))
                    have M9 : Blk (World.alloc (World.alloc w' (Obj.cells #[] 5)) (Obj.cells #[Value.int IntKind.u8 7] 5)) (w'.heap.size + 1) #[Value.int IntKind.u8 7] 5 := Blk.newAt _ _ (by simp)
                    have ne9 : w'.heap.size ≠ w'.heap.size + 1 := by omega
                    go_simp
                    refine hK.out _ _ S9 (fun _ => ?_)
                    clear hK K
                    try simp only [List.setIfInBounds_toArray, List.set_cons_zero, List.set_cons_succ]
                    refine wpAnyH_ready (rs := [19]) (by kernel_rfl) (by simp) ?_
                    refine AllReadyH.cons (o := ⟨some 79, _, _, _, _, _⟩) rfl (fun K hK => ?_) (AllReadyH.nil)
                    rw [if_pos (by rfl)]
                    refine wp_append_any _ (.tmp 77) (.tmp 78) 22 (by rfl) v0.heap.size 5 j0 (.int .u8 0) 1 1 Tryd.underlying22 hj0 hy0 hy1 hy2 (by rfl) (by decide) _ 0 [] (by rfl) O9 _ A9 cn c9 (byteVals CB) (by rfl) (HRC.out _ E9) HO5.out (by unfold maxLen; omega) (by omega) E9.size ?_
                    intro u10 w10 O10 gr10 ob10
                    have E10 := own_chg E9 O9 (Nat.le_refl _) gr10
                    have S10 := sfact_chg hS0 E10
                    have M10 := Blk.chg M9 gr10 (by simp [Value.ownBlock] <;> omega)
                    simp only [Nat.zero_add, List.nil_append] at O10
                    obtain ⟨B10, d10, rfl⟩ := own_slice O10
                    clear gr10 ob10
                    refine hK.out _ _ S10 (fun _ => ?_)
                    clear hK K
                    try simp only [Act.put, List.setIfInBounds_toArray, List.set_cons_zero, List.set_cons_succ]
                    refine wpAnyH_ready (rs := [21]) (by kernel_rfl) (by simp) ?_
                    refine AllReadyH.cons (o := ⟨some 81, _, _, _, _, _⟩) rfl (fun K hK => ?_) (AllReadyH.nil)
                    rw [if_pos (by rfl)]
                    refine wp_append_any _ (.tmp 79) (.tmp 80) 22 (by rfl) v0.heap.size 5 j0 (.int .u8 0) 1 1 Tryd.underlying22 hj0 hy0 hy1 hy2 (by rfl) (by decide) _ cn (byteVals CB) (by rfl) O10 _ _ 1 1 (byteVals [7]) (by rfl) (reads_byte M10) (byteVals_one [7]) (by unfold maxLen; omega) (by omega) E10.size ?_
                    intro u11 w11 O11 gr11 ob11
                    have E11 := own_chg E10 O10 (Nat.le_refl _) gr11
                    have S11 := sfact_chg hS0 E11
                    obtain ⟨B11, d11, rfl⟩ := own_slice O11
                    clear gr11 ob11
                    refine hK.out _ _ S11 (fun _ => ?_)
                    clear hK K
                    try simp only [Act.put, List.setIfInBounds_toArray, List.set_cons_zero, List.set_cons_succ]
                    refine wpAnyH_ready (rs := [23]) (by kernel_rfl) (by simp) ?_
                    refine AllReadyH.cons (o := ⟨some 83, _, _, _, _, _⟩) rfl (fun K hK => ?_) (AllReadyH.nil)
                    go_simp
                    go_at_call 35
                    refine (HC3.out _ _ _ E11).mono ?_
                    rintro e w12 ⟨rfl, g12⟩
                    have E12 := E11.trans g12
                    have S12 := sfact_chg hS0 E12
                    go_wp2_with fail
                    refine hK.out _ _ S12 (fun _ => ?_)
                    clear hK K
                    try simp only [List.setIfInBounds_toArray, List.set_cons_zero, List.set_cons_succ]
                    refine wpAnyH_take (i := 24) (oi := ⟨some 84, _, _, _, _, _⟩) (v := ?_) rfl (by kernel_rfl) (by kernel_rfl) (by kernel_rfl) (fun _ _ _ h => h) (Or.inl ⟨by rfl, ?_⟩) (by assumption) ?_
                    rotate_left
                    · intro w hSw; (try dsimp only at hSw); go_simp; (try with_reducible rfl)
                    try simp only [Act.put, List.setIfInBounds_toArray, List.set_cons_zero, List.set_cons_succ]
                    refine wpAnyH_take (i := 25) (oi := ⟨some 85, _, _, _, _, _⟩) (v := ?_) rfl (by kernel_rfl) (by kernel_rfl) (by kernel_rfl) (fun _ _ _ h => h) (Or.inl ⟨by rfl, ?_⟩) (by assumption) ?_
                    rotate_left
                    · intro w hSw; (try dsimp only at hSw); go_simp; (try with_reducible rfl)
                    try simp only [Act.put, List.setIfInBounds_toArray, List.set_cons_zero, List.set_cons_succ]
                    refine wpAnyH_listed #[true, true, true, true, true, true, true, true, true, true, true, true, true, true, true, true, true, true, true, true, true, true, true, true, true, true, false, false, false, false, false, false, false, false, false, false, false, false, false, false, false, false, false, false, false, false, false, false, false] (by kernel_rfl) ?_
                    exact HMEET.out _ _ ⟨.slice (some ⟨w'.heap.size, 0, none⟩) 0 0, .slice B10 cn d10, .slice (some ⟨w'.heap.size + 1, 0, none⟩) 1 1, .slice B11 (cn + 1) d11, by simp only [Act.put, List.setIfInBounds_toArray, List.set_cons_zero, List.set_cons_succ], E12⟩
            · as_aux_lemma =>
                have gA13 : Chg none w' (World.alloc w' (Obj.cells #[Value.int IntKind.u8 7] 5)) := (Chg.refl _ _).alloc _
                have E13 := E913.trans gA13
                have S13 := sfact_chg hS0 E13
                have M13 : Blk (World.alloc w' (Obj.cells #[Value.int IntKind.u8 7] 5)) (w'.heap.size) #[Value.int IntKind.u8 7] 5 := Blk.newAt _ _ (by simp)
                go_simp
                refine hK.out _ _ S13 (fun _ => ?_)
                clear hK K
                try simp only [List.setIfInBounds_toArray, List.set_cons_zero, List.set_cons_succ]
                refine wpAnyH_ready (rs := [17]) (by kernel_rfl) (by simp) ?_
                refine AllReadyH.cons (o := ⟨some 77, _, _, _, _, _⟩) rfl (fun K hK => ?_) (AllReadyH.nil)
                have gA14 : Chg none (World.alloc w' (Obj.cells #[Value.int IntKind.u8 7] 5)) (World.alloc (World.alloc w' (Obj.cells #[Value.int IntKind.u8 7] 5)) (Obj.cells #[] 5)) := (Chg.refl _ _).alloc _
                have E14 := E13.trans gA14
                have S14 := sfact_chg hS0 E14
                have M14 := Blk.chg M13 gA14 (by simp)
                have O14 := own_emptyAt (e := 5) (size := 1) (World.alloc w' (Obj.cells #[Value.int IntKind.u8 7] 5)) v0.heap.size (w'.heap.size + 1) (by simp) E13.size
                have ne14 : w'.heap.size + 1 ≠ w'.heap.size := by omega
                go_simp
                refine hK.out _ _ S14 (fun _ => ?_)
                clear hK K
                try simp only [List.setIfInBounds_toArray, List.set_cons_zero, List.set_cons_succ]
                refine wpAnyH_ready (rs := [19]) (by kernel_rfl) (by simp) ?_
                refine AllReadyH.cons (o := ⟨some 79, _, _, _, _, _⟩) rfl (fun K hK => ?_) (AllReadyH.nil)
                rw [if_pos (by rfl)]
                refine wp_append_any _ (.tmp 77) (.tmp 78) 22 (by rfl) v0.heap.size 5 j0 (.int .u8 0) 1 1 Tryd.underlying22 hj0 hy0 hy1 hy2 (by rfl) (by decide) _ 0 [] (by rfl) O14 _ A9 cn c9 (byteVals CB) (by rfl) (HRC.out _ E14) HO5.out (by unfold maxLen; omega) (by omega) E14.size ?_
                intro u15 w15 O15 gr15 ob15
                have E15 := own_chg E14 O14 (Nat.le_refl _) gr15
                have S15 := sfact_chg hS0 E15
                have M15 := Blk.chg M14 gr15 (by simp [Value.ownBlock] <;> omega)
                simp only [Nat.zero_add, List.nil_append] at O15
                obtain ⟨B15, d15, rfl⟩ := own_slice O15
                clear gr15 ob15
                refine hK.out _ _ S15 (fun _ => ?_)
                clear hK K
                try simp only [Act.put, List.setIfInBounds_toArray, List.set_cons_zero, List.set_cons_succ]
                refine wpAnyH_ready (rs := [21]) (by kernel_rfl) (by simp) ?_
                refine AllReadyH.cons (o := ⟨some 81, _, _, _, _, _⟩) rfl (fun K hK => ?_) (AllReadyH.nil)
                rw [if_pos (by rfl)]
                refine wp_append_any _ (.tmp 79) (.tmp 80) 22 (by rfl) v0.heap.size 5 j0 (.int .u8 0) 1 1 Tryd.underlying22 hj0 hy0 hy1 hy2 (by rfl) (by decide) _ cn (byteVals CB) (by rfl) O15 _ _ 1 1 (byteVals [7]) (by rfl) (reads_byte M15) (byteVals_one [7]) (by unfold maxLen; omega) (by omega) E15.size ?_
                intro u16 w16 O16 gr16 ob16
                have E16 := own_chg E15 O15 (Nat.le_refl _) gr16
                have S16 := sfact_chg hS0 E16
                obtain ⟨B16, d16, rfl⟩ := own_slice O16
                clear gr16 ob16
                refine hK.out _ _ S16 (fun _ => ?_)
                clear hK K
                try simp only [Act.put, List.setIfInBounds_toArray, List.set_cons_zero, List.set_cons_succ]
                refine wpAnyH_ready (rs := [23]) (by kernel_rfl) (by simp) ?_
                refine AllReadyH.cons (o := ⟨some 83, _, _, _, _, _⟩) rfl (fun K hK => ?_) (AllReadyH.nil)
                go_simp
                go_at_call 35
                refine (HC3.out _ _ _ E16).mono ?_
                rintro e w17 ⟨rfl, g17⟩
                have E17 := E16.trans g17
                have S17 := sfact_chg hS0 E17
                go_wp2_with fail
                refine hK.out _ _ S17 (fun _ => ?_)
                clear hK K
                try simp only [List.setIfInBounds_toArray, List.set_cons_zero, List.set_cons_succ]
                refine wpAnyH_take (i := 24) (oi := ⟨some 84, _, _, _, _, _⟩) (v := ?_) rfl (by kernel_rfl) (by kernel_rfl) (by kernel_rfl) (fun _ _ _ h => h) (Or.inl ⟨by rfl, ?_⟩) (by assumption) ?_
                rotate_left
                · intro w hSw; (try dsimp only at hSw); go_simp; (try with_reducible rfl)
                try simp only [Act.put, List.setIfInBounds_toArray, List.set_cons_zero, List.set_cons_succ]
                refine wpAnyH_take (i := 25) (oi := ⟨some 85, _, _, _, _, _⟩) (v := ?_) rfl (by kernel_rfl) (by kernel_rfl) (by kernel_rfl) (fun _ _ _ h => h) (Or.inl ⟨by rfl, ?_⟩) (by assumption) ?_
                rotate_left
                · intro w hSw; (try dsimp only at hSw); go_simp; (try with_reducible rfl)
                try simp only [Act.put, List.setIfInBounds_toArray, List.set_cons_zero, List.set_cons_succ]
                refine wpAnyH_listed #[true, true, true, true, true, true, true, true, true, true, true, true, true, true, true, true, true, true, true, true, true, true, true, true, true, true, false, false, false, false, false, false, false, false, false, false, false, false, false, false, false, false, false, false, false, false, false, false, false] (by kernel_rfl) ?_
                exact HMEET.out _ _ ⟨.slice (some ⟨w'.heap.size + 1, 0, none⟩) 0 0, .slice B15 cn d15, .slice (some ⟨w'.heap.size, 0, none⟩) 1 1, .slice B16 (cn + 1) d16, by simp only [Act.put, List.setIfInBounds_toArray, List.set_cons_zero, List.set_cons_succ], E17⟩
        · intro HMEET
          refine wpAnyH_take (i := 0) (oi := ⟨some 60, _, _, _, _, _⟩) (v := .agg (byteVals RT).toArray) rfl (by kernel_rfl) (by kernel_rfl) (by kernel_rfl) (fun _ _ _ h => h) (yieldsIf_load_mid (by rfl) 30 _ rfl pRt 0 rfl (byteVals RT) _ (fun _ h => h.1) Tryd.underlying30 rfl HIR.out) (by assumption) ?_
          try simp only [Act.put, List.setIfInBounds_toArray, List.set_cons_zero, List.set_cons_succ]
          refine wpAnyH_take (i := 1) (oi := ⟨some 61, _, _, _, _, _⟩) (v := ?_) rfl (by kernel_rfl) (by kernel_rfl) (by kernel_rfl) (fun _ _ _ h => h) (Or.inl ⟨by rfl, ?_⟩) (by assumption) ?_
          rotate_left
          · intro w hSw; (try dsimp only at hSw); go_simp; (try with_reducible rfl)
          try simp only [Act.put, List.setIfInBounds_toArray, List.set_cons_zero, List.set_cons_succ]
          refine wpAnyH_take (i := 2) (oi := ⟨some 62, _, _, _, _, _⟩) (v := ?_) rfl (by kernel_rfl) (by kernel_rfl) (by kernel_rfl) (fun _ _ _ h => h) (Or.inl ⟨by rfl, ?_⟩) (by assumption) ?_
          rotate_left
          · intro w hSw; (try dsimp only at hSw); go_simp; (try with_reducible rfl)
          try simp only [Act.put, List.setIfInBounds_toArray, List.set_cons_zero, List.set_cons_succ]
          refine wpAnyH_take (i := 3) (oi := ⟨some 63, _, _, _, _, _⟩) (v := ?_) rfl (by kernel_rfl) (by kernel_rfl) (by kernel_rfl) (fun _ _ _ h => h) (Or.inl ⟨by rfl, ?_⟩) (by assumption) ?_
          rotate_left
          · intro w hSw; (try dsimp only at hSw); go_simp; (try with_reducible rfl)
          try simp only [Act.put, List.setIfInBounds_toArray, List.set_cons_zero, List.set_cons_succ]
          refine wpAnyH_take (i := 4) (oi := ⟨some 64, _, _, _, _, _⟩) (v := ?_) rfl (by kernel_rfl) (by kernel_rfl) (by kernel_rfl) (fun _ _ _ h => h) (Or.inl ⟨by rfl, ?_⟩) (by assumption) ?_
          rotate_left
          · intro w hSw; (try dsimp only at hSw); go_simp; (try with_reducible rfl)
          try simp only [Act.put, List.setIfInBounds_toArray, List.set_cons_zero, List.set_cons_succ]
          refine wpAnyH_take (i := 6) (oi := ⟨some 66, _, _, _, _, _⟩) (v := ?_) rfl (by kernel_rfl) (by kernel_rfl) (by kernel_rfl) (fun _ _ _ h => h) (Or.inl ⟨by rfl, ?_⟩) (by assumption) ?_
          rotate_left
          · intro w hSw; (try dsimp only at hSw); go_simp; (try with_reducible rfl)
          try simp only [Act.put, List.setIfInBounds_toArray, List.set_cons_zero, List.set_cons_succ]
          refine wpAnyH_take (i := 8) (oi := ⟨some 68, _, _, _, _, _⟩) (v := .agg (byteVals more.1).toArray) rfl (by kernel_rfl) (by kernel_rfl) (by kernel_rfl) (fun _ _ _ h => h) (yieldsIf_load_mid (by rfl) 30 _ rfl pM 0 rfl (byteVals more.1) _ (fun _ h => h.2) Tryd.underlying30 rfl HIM.out) (by assumption) ?_
          try simp only [Act.put, List.setIfInBounds_toArray, List.set_cons_zero, List.set_cons_succ]
          refine wpAnyH_ready (rs := [5, 9]) (by kernel_rfl) (by simp) ?_
          refine AllReadyH.cons (o := ⟨some 65, _, _, _, _, _⟩) rfl (fun K hK => ?_) (AllReadyH.cons (o := ⟨some 69, _, _, _, _, _⟩) rfl (fun K hK => ?_) (AllReadyH.nil))
          · as_aux_lemma =>
              have gA18 : Chg none v0 (World.alloc v0 (Obj.cells #[] 30)) := (Chg.refl _ _).alloc _
              have E18 := E0.trans gA18
              have S18 := sfact_chg hS0 E18
              have O18 := own_emptyAt (e := 30) (size := 32) v0 v0.heap.size (v0.heap.size) (by simp) E0.size
              go_simp
              refine hK.out _ _ S18 (fun _ => ?_)
              clear hK K
              try simp only [Act.put, List.setIfInBounds_toArray, List.set_cons_zero, List.set_cons_succ]
              refine wpAnyH_ready (rs := [7, 9]) (by kernel_rfl) (by simp) ?_
              refine AllReadyH.cons (o := ⟨some 67, _, _, _, _, _⟩) rfl (fun K hK => ?_) (AllReadyH.cons (o := ⟨some 69, _, _, _, _, _⟩) rfl (fun K hK => ?_) (AllReadyH.nil))
              · as_aux_lemma =>
                  rw [if_pos (by rfl)]
                  refine wp_append_any _ (.tmp 65) (.tmp 66) 51 (by rfl) v0.heap.size 30 i0 (.agg zero32) 32 32 Tryd.underlying51 hi0 hz0 hz1 hz2 (by rfl) (by decide) _ 0 [] (by rfl) O18 _ A11 pn c11 (flat PB) (by rfl) (HRP.out _ E18) HO30.out (by unfold maxLen; omega) (by omega) E18.size ?_
                  intro u19 w19 O19 gr19 ob19
                  have E19 := own_chg E18 O18 (Nat.le_refl _) gr19
                  have S19 := sfact_chg hS0 E19
                  simp only [Nat.zero_add, List.nil_append] at O19
                  obtain ⟨B19, d19, rfl⟩ := own_slice O19
                  clear gr19 ob19
                  refine hK.out _ _ S19 (fun _ => ?_)
                  clear hK K
                  try simp only [Act.put, List.setIfInBounds_toArray, List.set_cons_zero, List.set_cons_succ]
                  refine wpAnyH_ready (rs := [9]) (by kernel_rfl) (by simp) ?_
                  refine AllReadyH.cons (o := ⟨some 69, _, _, _, _, _⟩) rfl (fun K hK => ?_) (AllReadyH.nil)
                  have gA20 : Chg none w19 (World.alloc w19 (Obj.cells (byteVals more.1).toArray 30)) := (Chg.refl _ _).alloc _
                  have E20 := E19.trans gA20
                  have S20 := sfact_chg hS0 E20
                  have O20 := O19.alloc ((Obj.cells (byteVals more.1).toArray 30))
                  have M20 : Blk (World.alloc w19 (Obj.cells (byteVals more.1).toArray 30)) (w19.heap.size) (byteVals more.1).toArray 30 := Blk.newAt _ _ (by simp)
                  rw [if_pos (by rfl)]
                  refine wp_buildSlice 51 30 1 _ (by rfl) (byteVals more.1).toArray i0 (.agg zero32) Tryd.underlying51 hi0 hz0 (by rw [hz1]; decide) (by rw [hz1]; decide) (by simp only [List.map_toArray, List.map_cons, List.map_nil]; exact HFD.out) ?_
                  refine hK.out _ _ S20 (fun _ => ?_)
                  clear hK K
                  try simp only [Act.put, List.setIfInBounds_toArray, List.set_cons_zero, List.set_cons_succ]
                  refine wpAnyH_ready (rs := [10]) (by kernel_rfl) (by simp) ?_
                  refine AllReadyH.cons (o := ⟨some 70, _, _, _, _, _⟩) rfl (fun K hK => ?_) (AllReadyH.nil)
                  rw [if_pos (by rfl)]
                  refine wp_append_any _ (.tmp 67) (.tmp 69) 51 (by rfl) v0.heap.size 30 i0 (.agg zero32) 32 32 Tryd.underlying51 hi0 hz0 hz1 hz2 (by rfl) (by decide) _ pn (flat PB) (by rfl) O20 _ _ 1 1 (byteVals more.1) (by rfl) (reads_dg M20 more.2) HOM.out (by unfold maxLen; omega) (by omega) E20.size ?_
                  intro u21 w21 O21 gr21 ob21
                  have E21 := own_chg E20 O20 (Nat.le_refl _) gr21
                  have S21 := sfact_chg hS0 E21
                  obtain ⟨B21, d21, rfl⟩ := own_slice O21
                  clear gr21 ob21
                  refine hK.out _ _ S21 (fun _ => ?_)
                  clear hK K
                  try simp only [Act.put, List.setIfInBounds_toArray, List.set_cons_zero, List.set_cons_succ]
                  refine wpAnyH_ready (rs := [11]) (by kernel_rfl) (by simp) ?_
                  refine AllReadyH.cons (o := ⟨some 71, _, _, _, _, _⟩) rfl (fun K hK => ?_) (AllReadyH.nil)
                  go_simp
                  go_at_call 35
                  refine (HC2.out _ _ _ E21 O21).mono ?_
                  rintro e w22 ⟨rfl, g22⟩
                  have E22 := E21.trans g22
                  have S22 := sfact_chg hS0 E22
                  go_wp2_with fail
                  refine hK.out _ _ S22 (fun _ => ?_)
                  clear hK K
                  try simp only [Act.put, List.setIfInBounds_toArray, List.set_cons_zero, List.set_cons_succ]
                  refine wpAnyH_take (i := 12) (oi := ⟨some 72, _, _, _, _, _⟩) (v := ?_) rfl (by kernel_rfl) (by kernel_rfl) (by kernel_rfl) (fun _ _ _ h => h) (Or.inl ⟨by rfl, ?_⟩) (by assumption) ?_
                  rotate_left
                  · intro w hSw; (try dsimp only at hSw); go_simp; (try with_reducible rfl)
                  try simp only [Act.put, List.setIfInBounds_toArray, List.set_cons_zero, List.set_cons_succ]
                  refine wpAnyH_listed #[true, true, true, true, true, true, true, true, true, true, true, true, true, false, false, false, false, false, false, false, false, false, false, false, false, false, false, false, false, false, false, false, false, false, false, false, false, false, false, false, false, false, false, false, false, false, false, false, false] (by kernel_rfl) ?_
                  exact HMEET.out _ _ ⟨.slice (some ⟨v0.heap.size, 0, none⟩) 0 0, .slice B19 pn d19, .slice (some ⟨w19.heap.size, 0, none⟩) 1 1, .slice B21 (pn + 1) d21, by simp only [Act.put, List.setIfInBounds_toArray, List.set_cons_zero, List.set_cons_succ], E22⟩
              · as_aux_lemma =>
                  have gA23 : Chg none (World.alloc v0 (Obj.cells #[] 30)) (World.alloc (World.alloc v0 (Obj.cells #[] 30)) (Obj.cells (byteVals more.1).toArray 30)) := (Chg.refl _ _).alloc _
                  have E23 := E18.trans gA23
                  have S23 := sfact_chg hS0 E23
                  have O23 := O18.alloc ((Obj.cells (byteVals more.1).toArray 30))
                  have M23 : Blk (World.alloc (World.alloc v0 (Obj.cells #[] 30)) (Obj.cells (byteVals more.1).toArray 30)) (v0.heap.size + 1) (byteVals more.1).toArray 30 := Blk.newAt _ _ (by simp)
                  have ne23 : v0.heap.size ≠ v0.heap.size + 1 := by omega
                  rw [if_pos (by rfl)]
                  refine wp_buildSlice 51 30 1 _ (by rfl) (byteVals more.1).toArray i0 (.agg zero32) Tryd.underlying51 hi0 hz0 (by rw [hz1]; decide) (by rw [hz1]; decide) (by simp only [List.map_toArray, List.map_cons, List.map_nil]; exact HFD.out) ?_
                  refine hK.out _ _ S23 (fun _ => ?_)
                  clear hK K
                  try simp only [Act.put, List.setIfInBounds_toArray, List.set_cons_zero, List.set_cons_succ]
                  rw [show ((World.alloc v0 (Obj.cells #[] 30))).heap.size = v0.heap.size + 1 from by simp]
                  refine wpAnyH_ready (rs := [7]) (by kernel_rfl) (by simp) ?_
                  refine AllReadyH.cons (o := ⟨some 67, _, _, _, _, _⟩) rfl (fun K hK => ?_) (AllReadyH.nil)
                  rw [if_pos (by rfl)]
                  refine wp_append_any _ (.tmp 65) (.tmp 66) 51 (by rfl) v0.heap.size 30 i0 (.agg zero32) 32 32 Tryd.underlying51 hi0 hz0 hz1 hz2 (by rfl) (by decide) _ 0 [] (by rfl) O23 _ A11 pn c11 (flat PB) (by rfl) (HRP.out _ E23) HO30.out (by unfold maxLen; omega) (by omega) E23.size ?_
                  intro u24 w24 O24 gr24 ob24
                  have E24 := own_chg E23 O23 (Nat.le_refl _) gr24
                  have S24 := sfact_chg hS0 E24
                  have M24 := Blk.chg M23 gr24 (by simp [Value.ownBlock] <;> omega)
                  simp only [Nat.zero_add, List.nil_append] at O24
                  obtain ⟨B24, d24, rfl⟩ := own_slice O24
                  clear gr24 ob24
                  refine hK.out _ _ S24 (fun _ => ?_)
                  clear hK K
                  try simp only [Act.put, List.setIfInBounds_toArray, List.set_cons_zero, List.set_cons_succ]
                  refine wpAnyH_ready (rs := [10]) (by kernel_rfl) (by simp) ?_
                  refine AllReadyH.cons (o := ⟨some 70, _, _, _, _, _⟩) rfl (fun K hK => ?_) (AllReadyH.nil)
                  rw [if_pos (by rfl)]
                  refine wp_append_any _ (.tmp 67) (.tmp 69) 51 (by rfl) v0.heap.size 30 i0 (.agg zero32) 32 32 Tryd.underlying51 hi0 hz0 hz1 hz2 (by rfl) (by decide) _ pn (flat PB) (by rfl) O24 _ _ 1 1 (byteVals more.1) (by rfl) (reads_dg M24 more.2) HOM.out (by unfold maxLen; omega) (by omega) E24.size ?_
                  intro u25 w25 O25 gr25 ob25
                  have E25 := own_chg E24 O24 (Nat.le_refl _) gr25
                  have S25 := sfact_chg hS0 E25
                  obtain ⟨B25, d25, rfl⟩ := own_slice O25
                  clear gr25 ob25
                  refine hK.out _ _ S25 (fun _ => ?_)
                  clear hK K
                  try simp only [Act.put, List.setIfInBounds_toArray, List.set_cons_zero, List.set_cons_succ]
                  refine wpAnyH_ready (rs := [11]) (by kernel_rfl) (by simp) ?_
                  refine AllReadyH.cons (o := ⟨some 71, _, _, _, _, _⟩) rfl (fun K hK => ?_) (AllReadyH.nil)
                  go_simp
                  go_at_call 35
                  refine (HC2.out _ _ _ E25 O25).mono ?_
                  rintro e w26 ⟨rfl, g26⟩
                  have E26 := E25.trans g26
                  have S26 := sfact_chg hS0 E26
                  go_wp2_with fail
                  refine hK.out _ _ S26 (fun _ => ?_)
                  clear hK K
                  try simp only [Act.put, List.setIfInBounds_toArray, List.set_cons_zero, List.set_cons_succ]
                  refine wpAnyH_take (i := 12) (oi := ⟨some 72, _, _, _, _, _⟩) (v := ?_) rfl (by kernel_rfl) (by kernel_rfl) (by kernel_rfl) (fun _ _ _ h => h) (Or.inl ⟨by rfl, ?_⟩) (by assumption) ?_
                  rotate_left
                  · intro w hSw; (try dsimp only at hSw); go_simp; (try with_reducible rfl)
                  try simp only [Act.put, List.setIfInBounds_toArray, List.set_cons_zero, List.set_cons_succ]
                  refine wpAnyH_listed #[true, true, true, true, true, true, true, true, true, true, true, true, true, false, false, false, false, false, false, false, false, false, false, false, false, false, false, false, false, false, false, false, false, false, false, false, false, false, false, false, false, false, false, false, false, false, false, false, false] (by kernel_rfl) ?_
                  exact HMEET.out _ _ ⟨.slice (some ⟨v0.heap.size, 0, none⟩) 0 0, .slice B24 pn d24, .slice (some ⟨v0.heap.size + 1, 0, none⟩) 1 1, .slice B25 (pn + 1) d25, by simp only [Act.put, List.setIfInBounds_toArray, List.set_cons_zero, List.set_cons_succ], E26⟩
          · as_aux_lemma =>
              have gA27 : Chg none v0 (World.alloc v0 (Obj.cells (byteVals more.1).toArray 30)) := (Chg.refl _ _).alloc _
              have E27 := E0.trans gA27
              have S27 := sfact_chg hS0 E27
              have M27 : Blk (World.alloc v0 (Obj.cells (byteVals more.1).toArray 30)) (v0.heap.size) (byteVals more.1).toArray 30 := Blk.newAt _ _ (by simp)
              rw [if_pos (by rfl)]
              refine wp_buildSlice 51 30 1 _ (by rfl) (byteVals more.1).toArray i0 (.agg zero32) Tryd.underlying51 hi0 hz0 (by rw [hz1]; decide) (by rw [hz1]; decide) (by simp only [List.map_toArray, List.map_cons, List.map_nil]; exact HFD.out) ?_
              refine hK.out _ _ S27 (fun _ => ?_)
              clear hK K
              try simp only [Act.put, List.setIfInBounds_toArray, List.set_cons_zero, List.set_cons_succ]
              refine wpAnyH_ready (rs := [5]) (by kernel_rfl) (by simp) ?_
              refine AllReadyH.cons (o := ⟨some 65, _, _, _, _, _⟩) rfl (fun K hK => ?_) (AllReadyH.nil)
              have gA28 : Chg none (World.alloc v0 (Obj.cells (byteVals more.1).toArray 30)) (World.alloc (World.alloc v0 (Obj.cells (byteVals more.1).toArray 30)) (Obj.cells #[] 30)) := (Chg.refl _ _).alloc _
              have E28 := E27.trans gA28
              have S28 := sfact_chg hS0 E28
              have M28 := Blk.chg M27 gA28 (by simp)
              have O28 := own_emptyAt (e := 30) (size := 32) (World.alloc v0 (Obj.cells (byteVals more.1).toArray 30)) v0.heap.size (v0.heap.size + 1) (by simp) E27.size
              have ne28 : v0.heap.size + 1 ≠ v0.heap.size := by omega
              go_simp
              refine hK.out _ _ S28 (fun _ => ?_)
              clear hK K
              try simp only [Act.put, List.setIfInBounds_toArray, List.set_cons_zero, List.set_cons_succ]
              refine wpAnyH_ready (rs := [7]) (by kernel_rfl) (by simp) ?_
              refine AllReadyH.cons (o := ⟨some 67, _, _, _, _, _⟩) rfl (fun K hK => ?_) (AllReadyH.nil)
              rw [if_pos (by rfl)]
              refine wp_append_any _ (.tmp 65) (.tmp 66) 51 (by rfl) v0.heap.size 30 i0 (.agg zero32) 32 32 Tryd.underlying51 hi0 hz0 hz1 hz2 (by rfl) (by decide) _ 0 [] (by rfl) O28 _ A11 pn c11 (flat PB) (by rfl) (HRP.out _ E28) HO30.out (by unfold maxLen; omega) (by omega) E28.size ?_
              intro u29 w29 O29 gr29 ob29
              have E29 := own_chg E28 O28 (Nat.le_refl _) gr29
              have S29 := sfact_chg hS0 E29
              have M29 := Blk.chg M28 gr29 (by simp [Value.ownBlock] <;> omega)
              simp only [Nat.zero_add, List.nil_append] at O29
              obtain ⟨B29, d29, rfl⟩ := own_slice O29
              clear gr29 ob29
              refine hK.out _ _ S29 (fun _ => ?_)
              clear hK K
              try simp only [Act.put, List.setIfInBounds_toArray, List.set_cons_zero, List.set_cons_succ]
              refine wpAnyH_ready (rs := [10]) (by kernel_rfl) (by simp) ?_
              refine AllReadyH.cons (o := ⟨some 70, _, _, _, _, _⟩) rfl (fun K hK => ?_) (AllReadyH.nil)
              rw [if_pos (by rfl)]
              refine wp_append_any _ (.tmp 67) (.tmp 69) 51 (by rfl) v0.heap.size 30 i0 (.agg zero32) 32 32 Tryd.underlying51 hi0 hz0 hz1 hz2 (by rfl) (by decide) _ pn (flat PB) (by rfl) O29 _ _ 1 1 (byteVals more.1) (by rfl) (reads_dg M29 more.2) HOM.out (by unfold maxLen; omega) (by omega) E29.size ?_
              intro u30 w30 O30 gr30 ob30
              have E30 := own_chg E29 O29 (Nat.le_refl _) gr30
              have S30 := sfact_chg hS0 E30
              obtain ⟨B30, d30, rfl⟩ := own_slice O30
              clear gr30 ob30
              refine hK.out _ _ S30 (fun _ => ?_)
              clear hK K
              try simp only [Act.put, List.setIfInBounds_toArray, List.set_cons_zero, List.set_cons_succ]
              refine wpAnyH_ready (rs := [11]) (by kernel_rfl) (by simp) ?_
              refine AllReadyH.cons (o := ⟨some 71, _, _, _, _, _⟩) rfl (fun K hK => ?_) (AllReadyH.nil)
              go_simp
              go_at_call 35
              refine (HC2.out _ _ _ E30 O30).mono ?_
              rintro e w31 ⟨rfl, g31⟩
              have E31 := E30.trans g31
              have S31 := sfact_chg hS0 E31
              go_wp2_with fail
              refine hK.out _ _ S31 (fun _ => ?_)
              clear hK K
              try simp only [Act.put, List.setIfInBounds_toArray, List.set_cons_zero, List.set_cons_succ]
              refine wpAnyH_take (i := 12) (oi := ⟨some 72, _, _, _, _, _⟩) (v := ?_) rfl (by kernel_rfl) (by kernel_rfl) (by kernel_rfl) (fun _ _ _ h => h) (Or.inl ⟨by rfl, ?_⟩) (by assumption) ?_
              rotate_left
              · intro w hSw; (try dsimp only at hSw); go_simp; (try with_reducible rfl)
              try simp only [Act.put, List.setIfInBounds_toArray, List.set_cons_zero, List.set_cons_succ]
              refine wpAnyH_listed #[true, true, true, true, true, true, true, true, true, true, true, true, true, false, false, false, false, false, false, false, false, false, false, false, false, false, false, false, false, false, false, false, false, false, false, false, false, false, false, false, false, false, false, false, false, false, false, false, false] (by kernel_rfl) ?_
              exact HMEET.out _ _ ⟨.slice (some ⟨v0.heap.size + 1, 0, none⟩) 0 0, .slice B29 pn d29, .slice (some ⟨v0.heap.size, 0, none⟩) 1 1, .slice B30 (pn + 1) d30, by simp only [Act.put, List.setIfInBounds_toArray, List.set_cons_zero, List.set_cons_succ], E31⟩
      case rest =>
        obtain ⟨rfl, E8⟩ := hcut
        obtain ⟨w8, rfl⟩ : ∃ w8 : World, w8 = wc := ⟨_, rfl⟩
        have E78 : Chg none w7 w8 := ((Chg.refl none w7).drew).trans E8
        have hS8 := sfact_chg hS0 E8
        have OWN8 := Lib.hid (OWN7.out.kept E78 (by cases (Value.slice A6 J c6).ownBlock <;> simp))
        have bM8 := Blk.chg bM7 E78 (by simp)
        have bR8 := Blk.chg bR7 E78 (by simp)
        have gw8 := gw7.trans E78
        have HC7 : Hid (∀ (v : World) (_ : 0 < pn), Chg none w8.drew v →
          Calls Tryd.prog 35 #[.agg (byteVals RT).toArray, .int .i64 p.x.length, .int .i64 k, .slice A9 cn c9, .slice A11 (pn - 1) c11] v fun e w' => e = .returned (.bool false) ∧ Chg none v w') := fun v h g => HC7.out v h ((g7.trans E78.drew).trans g)
        have HRC8 := Lib.hid (fun (v : World) (g : Chg none w8 v) => HRC.out v (E8.trans g))
        clear HC2 HC3 HC4 HC5 HC6 HRP hS0 E0 OWN7 bM7 bR7 gw7 E8 E78 HFD HOM HRC g7 gg7
        go_wp2_with fail
        go_upto_region 17 with (fail)
        go_cut [142] (fun s142 wx => s142 = .bool false ∧ Chg none w8.drew wx)
        case first =>
          have hS9 : w8.drew.rangeAt pRt 0 (byteVals RT) ∧ w8.drew.rangeAt pM 0 (byteVals more.1) := hS8
          have E0 : Chg none w8.drew w8.drew := Chg.refl _ _
          have hcu : 0 < pn → ∀ v, (Instr.sliceAt 51 (.slice A11 pn c11) none (some (.int .i64 ((pn : Int) - 1))) none).run Tryd.prog v = .ok (.slice A11 (pn - 1) c11) v := fun h v => by
            have h1 := cut_hi51 A11 pn c11 (pn - 1) (by omega) v
            rwa [show ((pn - 1 : Nat) : Int) = (pn : Int) - 1 by omega] at h1
          have hcv : 0 < cn → ∀ v, (Instr.sliceAt 22 (.slice A9 cn c9) none (some (.int .i64 ((cn : Int) - 1))) none).run Tryd.prog v = .ok (.slice A9 (cn - 1) c9) v := fun h v => by
            have h1 := cut_hi22 A9 cn c9 (cn - 1) (by omega) v
            rwa [show ((cn - 1 : Nat) : Int) = (cn : Int) - 1 by omega] at h1
          have HCU := Lib.hid hcu
          have HCV := Lib.hid hcv
          clear hcu hcv hS8
          by_cases hp0 : 0 < pn
          · by_cases hc0 : 0 < cn
            · have t1 : decide ((0 : Int) < (pn : Int)) = true := by simp; omega
              have t2 : decide ((0 : Int) < (cn : Int)) = true := by simp; omega
              have hcu := HCU.out hp0
              have hw1 : IntKind.i64.wrap ((pn : Int) - 1) = (pn : Int) - 1 := IntWalk.i64_in _ (by omega)
              have hcv := HCV.out hc0
              have hw2 : IntKind.i64.wrap ((cn : Int) - 1) = (cn : Int) - 1 := IntWalk.i64_in _ (by omega)
              refine wp_region_held_drew (S := fun w' => w'.rangeAt pRt 0 (byteVals RT) ∧ w'.rangeAt pM 0 (byteVals more.1)) (by kernel_rfl) hS9 (fun _ => ?_)
              generalize w8.drew = v0 at *
              refine wpAnyH_take (i := 0) (oi := ⟨some 109, _, _, _, _, _⟩) (v := ?_) rfl (by kernel_rfl) (by kernel_rfl) (by kernel_rfl) (fun _ _ _ h => h) (Or.inl ⟨by rfl, ?_⟩) (by assumption) ?_
              rotate_left
              · intro w hSw; (try dsimp only at hSw); go_simp; (try with_reducible rfl)
              try simp only [Act.put, List.setIfInBounds_toArray, List.set_cons_zero, List.set_cons_succ]
              refine wpAnyH_take (i := 1) (oi := ⟨some 110, _, _, _, _, _⟩) (v := ?_) rfl (by kernel_rfl) (by kernel_rfl) (by kernel_rfl) (fun _ _ _ h => h) (Or.inl ⟨by rfl, ?_⟩) (by assumption) ?_
              rotate_left
              · intro w hSw; (try dsimp only at hSw); go_simp; (try with_reducible rfl)
              try simp only [Act.put, List.setIfInBounds_toArray, List.set_cons_zero, List.set_cons_succ]
              refine wpAnyH_take (i := 2) (oi := ⟨some 111, _, _, _, _, _⟩) (v := ?_) rfl (by kernel_rfl) (by kernel_rfl) (by kernel_rfl) (fun _ _ _ h => h) (Or.inl ⟨by rfl, ?_⟩) (by assumption) ?_
              rotate_left
              · intro w hSw; (try dsimp only at hSw); go_simp; (try with_reducible rfl)
              try simp only [Act.put, List.setIfInBounds_toArray, List.set_cons_zero, List.set_cons_succ]
              refine wpAnyH_take (i := 3) (oi := ⟨some 112, _, _, _, _, _⟩) (v := ?_) rfl (by kernel_rfl) (by kernel_rfl) (by kernel_rfl) (fun _ _ _ h => h) (Or.inl ⟨by rfl, ?_⟩) (by assumption) ?_
              rotate_left
              · intro w hSw; (try dsimp only at hSw); go_simp; (try with_reducible rfl)
              try simp only [Act.put, List.setIfInBounds_toArray, List.set_cons_zero, List.set_cons_succ]
              refine wpAnyH_take (i := 4) (oi := ⟨some 113, _, _, _, _, _⟩) (v := .agg (byteVals RT).toArray) rfl (by kernel_rfl) (by kernel_rfl) (by kernel_rfl) (fun _ _ _ h => h) (yieldsIf_load_mid (by rfl) 30 _ rfl pRt 0 rfl (byteVals RT) _ (fun _ h => h.1) Tryd.underlying30 rfl HIR.out) (by assumption) ?_
              try simp only [Act.put, List.setIfInBounds_toArray, List.set_cons_zero, List.set_cons_succ]
              refine wpAnyH_take (i := 5) (oi := ⟨some 114, _, _, _, _, _⟩) (v := ?_) rfl (by kernel_rfl) (by kernel_rfl) (by kernel_rfl) (fun _ _ _ h => h) (Or.inl ⟨by rfl, ?_⟩) (by assumption) ?_
              rotate_left
              · intro w hSw; (try dsimp only at hSw); go_simp; (try with_reducible rfl)
              try simp only [Act.put, List.setIfInBounds_toArray, List.set_cons_zero, List.set_cons_succ]
              refine wpAnyH_take (i := 6) (oi := ⟨some 115, _, _, _, _, _⟩) (v := ?_) rfl (by kernel_rfl) (by kernel_rfl) (by kernel_rfl) (fun _ _ _ h => h) (Or.inl ⟨by rfl, ?_⟩) (by assumption) ?_
              rotate_left
              · intro w hSw; (try dsimp only at hSw); go_simp; (try with_reducible rfl)
              try simp only [Act.put, List.setIfInBounds_toArray, List.set_cons_zero, List.set_cons_succ]
              refine wpAnyH_take (i := 7) (oi := ⟨some 116, _, _, _, _, _⟩) (v := ?_) rfl (by kernel_rfl) (by kernel_rfl) (by kernel_rfl) (fun _ _ _ h => h) (Or.inl ⟨by rfl, ?_⟩) (by assumption) ?_
              rotate_left
              · intro w hSw; (try dsimp only at hSw); go_simp; (try with_reducible rfl)
              try simp only [Act.put, List.setIfInBounds_toArray, List.set_cons_zero, List.set_cons_succ]
              refine wpAnyH_take (i := 8) (oi := ⟨some 117, _, _, _, _, _⟩) (v := ?_) rfl (by kernel_rfl) (by kernel_rfl) (by kernel_rfl) (fun _ _ _ h => h) (Or.inl ⟨by rfl, ?_⟩) (by assumption) ?_
              rotate_left
              · intro w hSw; (try dsimp only at hSw); go_simp; (try with_reducible rfl)
              try simp only [Act.put, List.setIfInBounds_toArray, List.set_cons_zero, List.set_cons_succ]
              refine wpAnyH_take (i := 9) (oi := ⟨some 118, _, _, _, _, _⟩) (v := ?_) rfl (by kernel_rfl) (by kernel_rfl) (by kernel_rfl) (fun _ _ _ h => h) (Or.inl ⟨by rfl, ?_⟩) (by assumption) ?_
              rotate_left
              · intro w hSw; (try dsimp only at hSw); go_simp; (try with_reducible rfl)
              try simp only [Act.put, List.setIfInBounds_toArray, List.set_cons_zero, List.set_cons_succ]
              refine wpAnyH_take (i := 10) (oi := ⟨some 119, _, _, _, _, _⟩) (v := ?_) rfl (by kernel_rfl) (by kernel_rfl) (by kernel_rfl) (fun _ _ _ h => h) (Or.inl ⟨by rfl, ?_⟩) (by assumption) ?_
              rotate_left
              · intro w hSw; (try dsimp only at hSw); go_simp; (try with_reducible rfl)
              try simp only [Act.put, List.setIfInBounds_toArray, List.set_cons_zero, List.set_cons_succ]
              refine wpAnyH_take (i := 11) (oi := ⟨some 120, _, _, _, _, _⟩) (v := ?_) rfl (by kernel_rfl) (by kernel_rfl) (by kernel_rfl) (fun _ _ _ h => h) (Or.inl ⟨by rfl, ?_⟩) (by assumption) ?_
              rotate_left
              · intro w hSw; (try dsimp only at hSw); go_simp; (try with_reducible rfl)
              try simp only [Act.put, List.setIfInBounds_toArray, List.set_cons_zero, List.set_cons_succ]
              refine wpAnyH_take (i := 12) (oi := ⟨some 121, _, _, _, _, _⟩) (v := ?_) rfl (by kernel_rfl) (by kernel_rfl) (by kernel_rfl) (fun _ _ _ h => h) (Or.inl ⟨by rfl, ?_⟩) (by assumption) ?_
              rotate_left
              · intro w hSw; (try dsimp only at hSw); go_simp; (try with_reducible rfl)
              try simp only [Act.put, List.setIfInBounds_toArray, List.set_cons_zero, List.set_cons_succ]
              refine wpAnyH_take (i := 13) (oi := ⟨some 122, _, _, _, _, _⟩) (v := ?_) rfl (by kernel_rfl) (by kernel_rfl) (by kernel_rfl) (fun _ _ _ h => h) (Or.inl ⟨by rfl, ?_⟩) (by assumption) ?_
              rotate_left
              · intro w hSw; (try dsimp only at hSw); go_simp; (try with_reducible rfl)
              try simp only [Act.put, List.setIfInBounds_toArray, List.set_cons_zero, List.set_cons_succ]
              refine wpAnyH_ready (rs := [14]) (by kernel_rfl) (by simp) ?_
              refine AllReadyH.cons (o := ⟨some 123, _, _, _, _, _⟩) rfl (fun K hK => ?_) (AllReadyH.nil)
              go_simp
              go_at_call 35
              refine (HC7.out _ hp0 E0).mono ?_
              rintro e w34 ⟨rfl, g34⟩
              have E34 := E0.trans g34
              have S34 := sfact_chg hS9 E34
              go_wp2_with fail
              refine hK.out _ _ S34 (fun _ => ?_)
              clear hK K
              try simp only [Act.put, List.setIfInBounds_toArray, List.set_cons_zero, List.set_cons_succ]
              refine wpAnyH_take (i := 15) (oi := ⟨some 124, _, _, _, _, _⟩) (v := ?_) rfl (by kernel_rfl) (by kernel_rfl) (by kernel_rfl) (fun _ _ _ h => h) (Or.inl ⟨by rfl, ?_⟩) (by assumption) ?_
              rotate_left
              · intro w hSw; (try dsimp only at hSw); go_simp; (try with_reducible rfl)
              try simp only [Act.put, List.setIfInBounds_toArray, List.set_cons_zero, List.set_cons_succ]
              refine wpAnyH_take (i := 16) (oi := ⟨some 125, _, _, _, _, _⟩) (v := ?_) rfl (by kernel_rfl) (by kernel_rfl) (by kernel_rfl) (fun _ _ _ h => h) (Or.inl ⟨by rfl, ?_⟩) (by assumption) ?_
              rotate_left
              · intro w hSw; (try dsimp only at hSw); go_simp; (try with_reducible rfl)
              try simp only [Act.put, List.setIfInBounds_toArray, List.set_cons_zero, List.set_cons_succ]
              refine wpAnyH_take (i := 17) (oi := ⟨some 126, _, _, _, _, _⟩) (v := ?_) rfl (by kernel_rfl) (by kernel_rfl) (by kernel_rfl) (fun _ _ _ h => h) (Or.inl ⟨by rfl, ?_⟩) (by assumption) ?_
              rotate_left
              · intro w hSw; (try dsimp only at hSw); go_simp; (try with_reducible rfl)
              try simp only [Act.put, List.setIfInBounds_toArray, List.set_cons_zero, List.set_cons_succ]
              refine wpAnyH_take (i := 18) (oi := ⟨some 127, _, _, _, _, _⟩) (v := ?_) rfl (by kernel_rfl) (by kernel_rfl) (by kernel_rfl) (fun _ _ _ h => h) (Or.inl ⟨by rfl, ?_⟩) (by assumption) ?_
              rotate_left
              · intro w hSw; (try dsimp only at hSw); go_simp; (try with_reducible rfl)
              try simp only [Act.put, List.setIfInBounds_toArray, List.set_cons_zero, List.set_cons_succ]
              refine wpAnyH_take (i := 19) (oi := ⟨some 128, _, _, _, _, _⟩) (v := ?_) rfl (by kernel_rfl) (by kernel_rfl) (by kernel_rfl) (fun _ _ _ h => h) (Or.inl ⟨by rfl, ?_⟩) (by assumption) ?_
              rotate_left
              · intro w hSw; (try dsimp only at hSw); go_simp; (try with_reducible rfl)
              try simp only [Act.put, List.setIfInBounds_toArray, List.set_cons_zero, List.set_cons_succ]
              refine wpAnyH_take (i := 20) (oi := ⟨some 129, _, _, _, _, _⟩) (v := ?_) rfl (by kernel_rfl) (by kernel_rfl) (by kernel_rfl) (fun _ _ _ h => h) (Or.inl ⟨by rfl, ?_⟩) (by assumption) ?_
              rotate_left
              · intro w hSw; (try dsimp only at hSw); go_simp; (try with_reducible rfl)
              try simp only [Act.put, List.setIfInBounds_toArray, List.set_cons_zero, List.set_cons_succ]
              refine wpAnyH_take (i := 21) (oi := ⟨some 130, _, _, _, _, _⟩) (v := .agg (byteVals RT).toArray) rfl (by kernel_rfl) (by kernel_rfl) (by kernel_rfl) (fun _ _ _ h => h) (yieldsIf_load_mid (by rfl) 30 _ rfl pRt 0 rfl (byteVals RT) _ (fun _ h => h.1) Tryd.underlying30 rfl HIR.out) (by assumption) ?_
              try simp only [Act.put, List.setIfInBounds_toArray, List.set_cons_zero, List.set_cons_succ]
              refine wpAnyH_take (i := 22) (oi := ⟨some 131, _, _, _, _, _⟩) (v := ?_) rfl (by kernel_rfl) (by kernel_rfl) (by kernel_rfl) (fun _ _ _ h => h) (Or.inl ⟨by rfl, ?_⟩) (by assumption) ?_
              rotate_left
              · intro w hSw; (try dsimp only at hSw); go_simp; (try with_reducible rfl)
              try simp only [Act.put, List.setIfInBounds_toArray, List.set_cons_zero, List.set_cons_succ]
              refine wpAnyH_take (i := 23) (oi := ⟨some 132, _, _, _, _, _⟩) (v := ?_) rfl (by kernel_rfl) (by kernel_rfl) (by kernel_rfl) (fun _ _ _ h => h) (Or.inl ⟨by rfl, ?_⟩) (by assumption) ?_
              rotate_left
              · intro w hSw; (try dsimp only at hSw); go_simp; (try with_reducible rfl)
              try simp only [Act.put, List.setIfInBounds_toArray, List.set_cons_zero, List.set_cons_succ]
              refine wpAnyH_take (i := 24) (oi := ⟨some 133, _, _, _, _, _⟩) (v := ?_) rfl (by kernel_rfl) (by kernel_rfl) (by kernel_rfl) (fun _ _ _ h => h) (Or.inl ⟨by rfl, ?_⟩) (by assumption) ?_
              rotate_left
              · intro w hSw; (try dsimp only at hSw); go_simp; (try with_reducible rfl)
              try simp only [Act.put, List.setIfInBounds_toArray, List.set_cons_zero, List.set_cons_succ]
              refine wpAnyH_take (i := 25) (oi := ⟨some 134, _, _, _, _, _⟩) (v := ?_) rfl (by kernel_rfl) (by kernel_rfl) (by kernel_rfl) (fun _ _ _ h => h) (Or.inl ⟨by rfl, ?_⟩) (by assumption) ?_
              rotate_left
              · intro w hSw; (try dsimp only at hSw); go_simp; (try with_reducible rfl)
              try simp only [Act.put, List.setIfInBounds_toArray, List.set_cons_zero, List.set_cons_succ]
              refine wpAnyH_take (i := 26) (oi := ⟨some 135, _, _, _, _, _⟩) (v := ?_) rfl (by kernel_rfl) (by kernel_rfl) (by kernel_rfl) (fun _ _ _ h => h) (Or.inl ⟨by rfl, ?_⟩) (by assumption) ?_
              rotate_left
              · intro w hSw; (try dsimp only at hSw); go_simp; (try with_reducible rfl)
              try simp only [Act.put, List.setIfInBounds_toArray, List.set_cons_zero, List.set_cons_succ]
              refine wpAnyH_take (i := 27) (oi := ⟨some 136, _, _, _, _, _⟩) (v := ?_) rfl (by kernel_rfl) (by kernel_rfl) (by kernel_rfl) (fun _ _ _ h => h) (Or.inl ⟨by rfl, ?_⟩) (by assumption) ?_
              rotate_left
              · intro w hSw; (try dsimp only at hSw); go_simp; (try with_reducible rfl)
              try simp only [Act.put, List.setIfInBounds_toArray, List.set_cons_zero, List.set_cons_succ]
              refine wpAnyH_take (i := 28) (oi := ⟨some 137, _, _, _, _, _⟩) (v := ?_) rfl (by kernel_rfl) (by kernel_rfl) (by kernel_rfl) (fun _ _ _ h => h) (Or.inl ⟨by rfl, ?_⟩) (by assumption) ?_
              rotate_left
              · intro w hSw; (try dsimp only at hSw); go_simp; (try with_reducible rfl)
              try simp only [Act.put, List.setIfInBounds_toArray, List.set_cons_zero, List.set_cons_succ]
              refine wpAnyH_take (i := 29) (oi := ⟨some 138, _, _, _, _, _⟩) (v := ?_) rfl (by kernel_rfl) (by kernel_rfl) (by kernel_rfl) (fun _ _ _ h => h) (Or.inl ⟨by rfl, ?_⟩) (by assumption) ?_
              rotate_left
              · intro w hSw; (try dsimp only at hSw); go_simp; (try with_reducible rfl)
              try simp only [Act.put, List.setIfInBounds_toArray, List.set_cons_zero, List.set_cons_succ]
              refine wpAnyH_take (i := 30) (oi := ⟨some 139, _, _, _, _, _⟩) (v := ?_) rfl (by kernel_rfl) (by kernel_rfl) (by kernel_rfl) (fun _ _ _ h => h) (Or.inl ⟨by rfl, ?_⟩) (by assumption) ?_
              rotate_left
              · intro w hSw; (try dsimp only at hSw); go_simp; (try with_reducible rfl)
              try simp only [Act.put, List.setIfInBounds_toArray, List.set_cons_zero, List.set_cons_succ]
              refine wpAnyH_ready (rs := [31]) (by kernel_rfl) (by simp) ?_
              refine AllReadyH.cons (o := ⟨some 140, _, _, _, _, _⟩) rfl (fun K hK => ?_) (AllReadyH.nil)
              go_simp
              go_at_call 35
              refine (HC8.out _ hc0).mono ?_
              rintro e w35 ⟨rfl, g35⟩
              have E35 := E34.trans g35
              have S35 := sfact_chg hS9 E35
              go_wp2_with fail
              refine hK.out _ _ S35 (fun _ => ?_)
              clear hK K
              try simp only [Act.put, List.setIfInBounds_toArray, List.set_cons_zero, List.set_cons_succ]
              refine wpAnyH_take (i := 32) (oi := ⟨some 141, _, _, _, _, _⟩) (v := ?_) rfl (by kernel_rfl) (by kernel_rfl) (by kernel_rfl) (fun _ _ _ h => h) (Or.inl ⟨by rfl, ?_⟩) (by assumption) ?_
              rotate_left
              · intro w hSw; (try dsimp only at hSw); go_simp; (try with_reducible rfl)
              try simp only [Act.put, List.setIfInBounds_toArray, List.set_cons_zero, List.set_cons_succ]
              refine wpAnyH_take (i := 33) (oi := ⟨some 142, _, _, _, _, _⟩) (v := ?_) rfl (by kernel_rfl) (by kernel_rfl) (by kernel_rfl) (fun _ _ _ h => h) (Or.inl ⟨by rfl, ?_⟩) (by assumption) ?_
              rotate_left
              · intro w hSw; (try dsimp only at hSw); go_simp; (try with_reducible rfl)
              try simp only [Act.put, List.setIfInBounds_toArray, List.set_cons_zero, List.set_cons_succ]
              refine wpAnyH_done (by kernel_rfl) ?_ _
              go_wp2_with fail
              go_meet
              exact ⟨rfl, E35⟩
            · have t1 : decide ((0 : Int) < (pn : Int)) = true := by simp; omega
              have t2 : decide ((0 : Int) < (cn : Int)) = false := by simp; omega
              have hcu := HCU.out hp0
              have hw1 : IntKind.i64.wrap ((pn : Int) - 1) = (pn : Int) - 1 := IntWalk.i64_in _ (by omega)
              refine wp_region_held_drew (S := fun w' => w'.rangeAt pRt 0 (byteVals RT) ∧ w'.rangeAt pM 0 (byteVals more.1)) (by kernel_rfl) hS9 (fun _ => ?_)
              generalize w8.drew = v0 at *
              refine wpAnyH_take (i := 0) (oi := ⟨some 109, _, _, _, _, _⟩) (v := ?_) rfl (by kernel_rfl) (by kernel_rfl) (by kernel_rfl) (fun _ _ _ h => h) (Or.inl ⟨by rfl, ?_⟩) (by assumption) ?_
              rotate_left
              · intro w hSw; (try dsimp only at hSw); go_simp; (try with_reducible rfl)
              try simp only [Act.put, List.setIfInBounds_toArray, List.set_cons_zero, List.set_cons_succ]
              refine wpAnyH_take (i := 1) (oi := ⟨some 110, _, _, _, _, _⟩) (v := ?_) rfl (by kernel_rfl) (by kernel_rfl) (by kernel_rfl) (fun _ _ _ h => h) (Or.inl ⟨by rfl, ?_⟩) (by assumption) ?_
              rotate_left
              · intro w hSw; (try dsimp only at hSw); go_simp; (try with_reducible rfl)
              try simp only [Act.put, List.setIfInBounds_toArray, List.set_cons_zero, List.set_cons_succ]
              refine wpAnyH_take (i := 2) (oi := ⟨some 111, _, _, _, _, _⟩) (v := ?_) rfl (by kernel_rfl) (by kernel_rfl) (by kernel_rfl) (fun _ _ _ h => h) (Or.inl ⟨by rfl, ?_⟩) (by assumption) ?_
              rotate_left
              · intro w hSw; (try dsimp only at hSw); go_simp; (try with_reducible rfl)
              try simp only [Act.put, List.setIfInBounds_toArray, List.set_cons_zero, List.set_cons_succ]
              refine wpAnyH_take (i := 3) (oi := ⟨some 112, _, _, _, _, _⟩) (v := ?_) rfl (by kernel_rfl) (by kernel_rfl) (by kernel_rfl) (fun _ _ _ h => h) (Or.inl ⟨by rfl, ?_⟩) (by assumption) ?_
              rotate_left
              · intro w hSw; (try dsimp only at hSw); go_simp; (try with_reducible rfl)
              try simp only [Act.put, List.setIfInBounds_toArray, List.set_cons_zero, List.set_cons_succ]
              refine wpAnyH_take (i := 4) (oi := ⟨some 113, _, _, _, _, _⟩) (v := .agg (byteVals RT).toArray) rfl (by kernel_rfl) (by kernel_rfl) (by kernel_rfl) (fun _ _ _ h => h) (yieldsIf_load_mid (by rfl) 30 _ rfl pRt 0 rfl (byteVals RT) _ (fun _ h => h.1) Tryd.underlying30 rfl HIR.out) (by assumption) ?_
              try simp only [Act.put, List.setIfInBounds_toArray, List.set_cons_zero, List.set_cons_succ]
              refine wpAnyH_take (i := 5) (oi := ⟨some 114, _, _, _, _, _⟩) (v := ?_) rfl (by kernel_rfl) (by kernel_rfl) (by kernel_rfl) (fun _ _ _ h => h) (Or.inl ⟨by rfl, ?_⟩) (by assumption) ?_
              rotate_left
              · intro w hSw; (try dsimp only at hSw); go_simp; (try with_reducible rfl)
              try simp only [Act.put, List.setIfInBounds_toArray, List.set_cons_zero, List.set_cons_succ]
              refine wpAnyH_take (i := 6) (oi := ⟨some 115, _, _, _, _, _⟩) (v := ?_) rfl (by kernel_rfl) (by kernel_rfl) (by kernel_rfl) (fun _ _ _ h => h) (Or.inl ⟨by rfl, ?_⟩) (by assumption) ?_
              rotate_left
              · intro w hSw; (try dsimp only at hSw); go_simp; (try with_reducible rfl)
              try simp only [Act.put, List.setIfInBounds_toArray, List.set_cons_zero, List.set_cons_succ]
              refine wpAnyH_take (i := 7) (oi := ⟨some 116, _, _, _, _, _⟩) (v := ?_) rfl (by kernel_rfl) (by kernel_rfl) (by kernel_rfl) (fun _ _ _ h => h) (Or.inl ⟨by rfl, ?_⟩) (by assumption) ?_
              rotate_left
              · intro w hSw; (try dsimp only at hSw); go_simp; (try with_reducible rfl)
              try simp only [Act.put, List.setIfInBounds_toArray, List.set_cons_zero, List.set_cons_succ]
              refine wpAnyH_take (i := 8) (oi := ⟨some 117, _, _, _, _, _⟩) (v := ?_) rfl (by kernel_rfl) (by kernel_rfl) (by kernel_rfl) (fun _ _ _ h => h) (Or.inl ⟨by rfl, ?_⟩) (by assumption) ?_
              rotate_left
              · intro w hSw; (try dsimp only at hSw); go_simp; (try with_reducible rfl)
              try simp only [Act.put, List.setIfInBounds_toArray, List.set_cons_zero, List.set_cons_succ]
              refine wpAnyH_take (i := 9) (oi := ⟨some 118, _, _, _, _, _⟩) (v := ?_) rfl (by kernel_rfl) (by kernel_rfl) (by kernel_rfl) (fun _ _ _ h => h) (Or.inl ⟨by rfl, ?_⟩) (by assumption) ?_
              rotate_left
              · intro w hSw; (try dsimp only at hSw); go_simp; (try with_reducible rfl)
              try simp only [Act.put, List.setIfInBounds_toArray, List.set_cons_zero, List.set_cons_succ]
              refine wpAnyH_take (i := 10) (oi := ⟨some 119, _, _, _, _, _⟩) (v := ?_) rfl (by kernel_rfl) (by kernel_rfl) (by kernel_rfl) (fun _ _ _ h => h) (Or.inl ⟨by rfl, ?_⟩) (by assumption) ?_
              rotate_left
              · intro w hSw; (try dsimp only at hSw); go_simp; (try with_reducible rfl)
              try simp only [Act.put, List.setIfInBounds_toArray, List.set_cons_zero, List.set_cons_succ]
              refine wpAnyH_take (i := 11) (oi := ⟨some 120, _, _, _, _, _⟩) (v := ?_) rfl (by kernel_rfl) (by kernel_rfl) (by kernel_rfl) (fun _ _ _ h => h) (Or.inl ⟨by rfl, ?_⟩) (by assumption) ?_
              rotate_left
              · intro w hSw; (try dsimp only at hSw); go_simp; (try with_reducible rfl)
              try simp only [Act.put, List.setIfInBounds_toArray, List.set_cons_zero, List.set_cons_succ]
              refine wpAnyH_take (i := 12) (oi := ⟨some 121, _, _, _, _, _⟩) (v := ?_) rfl (by kernel_rfl) (by kernel_rfl) (by kernel_rfl) (fun _ _ _ h => h) (Or.inl ⟨by rfl, ?_⟩) (by assumption) ?_
              rotate_left
              · intro w hSw; (try dsimp only at hSw); go_simp; (try with_reducible rfl)
              try simp only [Act.put, List.setIfInBounds_toArray, List.set_cons_zero, List.set_cons_succ]
              refine wpAnyH_take (i := 13) (oi := ⟨some 122, _, _, _, _, _⟩) (v := ?_) rfl (by kernel_rfl) (by kernel_rfl) (by kernel_rfl) (fun _ _ _ h => h) (Or.inl ⟨by rfl, ?_⟩) (by assumption) ?_
              rotate_left
              · intro w hSw; (try dsimp only at hSw); go_simp; (try with_reducible rfl)
              try simp only [Act.put, List.setIfInBounds_toArray, List.set_cons_zero, List.set_cons_succ]
              refine wpAnyH_ready (rs := [14]) (by kernel_rfl) (by simp) ?_
              refine AllReadyH.cons (o := ⟨some 123, _, _, _, _, _⟩) rfl (fun K hK => ?_) (AllReadyH.nil)
              go_simp
              go_at_call 35
              refine (HC7.out _ hp0 E0).mono ?_
              rintro e w33 ⟨rfl, g33⟩
              have E33 := E0.trans g33
              have S33 := sfact_chg hS9 E33
              go_wp2_with fail
              refine hK.out _ _ S33 (fun _ => ?_)
              clear hK K
              try simp only [Act.put, List.setIfInBounds_toArray, List.set_cons_zero, List.set_cons_succ]
              refine wpAnyH_take (i := 15) (oi := ⟨some 124, _, _, _, _, _⟩) (v := ?_) rfl (by kernel_rfl) (by kernel_rfl) (by kernel_rfl) (fun _ _ _ h => h) (Or.inl ⟨by rfl, ?_⟩) (by assumption) ?_
              rotate_left
              · intro w hSw; (try dsimp only at hSw); go_simp; (try with_reducible rfl)
              try simp only [Act.put, List.setIfInBounds_toArray, List.set_cons_zero, List.set_cons_succ]
              refine wpAnyH_take (i := 16) (oi := ⟨some 125, _, _, _, _, _⟩) (v := ?_) rfl (by kernel_rfl) (by kernel_rfl) (by kernel_rfl) (fun _ _ _ h => h) (Or.inl ⟨by rfl, ?_⟩) (by assumption) ?_
              rotate_left
              · intro w hSw; (try dsimp only at hSw); go_simp; (try with_reducible rfl)
              try simp only [Act.put, List.setIfInBounds_toArray, List.set_cons_zero, List.set_cons_succ]
              refine wpAnyH_take (i := 17) (oi := ⟨some 126, _, _, _, _, _⟩) (v := ?_) rfl (by kernel_rfl) (by kernel_rfl) (by kernel_rfl) (fun _ _ _ h => h) (Or.inl ⟨by rfl, ?_⟩) (by assumption) ?_
              rotate_left
              · intro w hSw; (try dsimp only at hSw); go_simp; (try with_reducible rfl)
              try simp only [Act.put, List.setIfInBounds_toArray, List.set_cons_zero, List.set_cons_succ]
              refine wpAnyH_take (i := 18) (oi := ⟨some 127, _, _, _, _, _⟩) (v := ?_) rfl (by kernel_rfl) (by kernel_rfl) (by kernel_rfl) (fun _ _ _ h => h) (Or.inl ⟨by rfl, ?_⟩) (by assumption) ?_
              rotate_left
              · intro w hSw; (try dsimp only at hSw); go_simp; (try with_reducible rfl)
              try simp only [Act.put, List.setIfInBounds_toArray, List.set_cons_zero, List.set_cons_succ]
              refine wpAnyH_take (i := 19) (oi := ⟨some 128, _, _, _, _, _⟩) (v := ?_) rfl (by kernel_rfl) (by kernel_rfl) (by kernel_rfl) (fun _ _ _ h => h) (Or.inl ⟨by rfl, ?_⟩) (by assumption) ?_
              rotate_left
              · intro w hSw; (try dsimp only at hSw); go_simp; (try with_reducible rfl)
              try simp only [Act.put, List.setIfInBounds_toArray, List.set_cons_zero, List.set_cons_succ]
              refine wpAnyH_take (i := 20) (oi := ⟨some 129, _, _, _, _, _⟩) (v := ?_) rfl (by kernel_rfl) (by kernel_rfl) (by kernel_rfl) (fun _ _ _ h => h) (Or.inl ⟨by rfl, ?_⟩) (by assumption) ?_
              rotate_left
              · intro w hSw; (try dsimp only at hSw); go_simp; (try with_reducible rfl)
              try simp only [Act.put, List.setIfInBounds_toArray, List.set_cons_zero, List.set_cons_succ]
              refine wpAnyH_take (i := 21) (oi := ⟨some 130, _, _, _, _, _⟩) (v := undef) rfl (by kernel_rfl) (by kernel_rfl) (by kernel_rfl) (fun _ _ _ h => h) (Or.inr ⟨by rfl, rfl⟩) (by assumption) ?_
              try simp only [Act.put, List.setIfInBounds_toArray, List.set_cons_zero, List.set_cons_succ]
              refine wpAnyH_take (i := 22) (oi := ⟨some 131, _, _, _, _, _⟩) (v := undef) rfl (by kernel_rfl) (by kernel_rfl) (by kernel_rfl) (fun _ _ _ h => h) (Or.inr ⟨by rfl, rfl⟩) (by assumption) ?_
              try simp only [Act.put, List.setIfInBounds_toArray, List.set_cons_zero, List.set_cons_succ]
              refine wpAnyH_take (i := 23) (oi := ⟨some 132, _, _, _, _, _⟩) (v := undef) rfl (by kernel_rfl) (by kernel_rfl) (by kernel_rfl) (fun _ _ _ h => h) (Or.inr ⟨by rfl, rfl⟩) (by assumption) ?_
              try simp only [Act.put, List.setIfInBounds_toArray, List.set_cons_zero, List.set_cons_succ]
              refine wpAnyH_take (i := 24) (oi := ⟨some 133, _, _, _, _, _⟩) (v := undef) rfl (by kernel_rfl) (by kernel_rfl) (by kernel_rfl) (fun _ _ _ h => h) (Or.inr ⟨by rfl, rfl⟩) (by assumption) ?_
              try simp only [Act.put, List.setIfInBounds_toArray, List.set_cons_zero, List.set_cons_succ]
              refine wpAnyH_take (i := 25) (oi := ⟨some 134, _, _, _, _, _⟩) (v := undef) rfl (by kernel_rfl) (by kernel_rfl) (by kernel_rfl) (fun _ _ _ h => h) (Or.inr ⟨by rfl, rfl⟩) (by assumption) ?_
              try simp only [Act.put, List.setIfInBounds_toArray, List.set_cons_zero, List.set_cons_succ]
              refine wpAnyH_take (i := 26) (oi := ⟨some 135, _, _, _, _, _⟩) (v := undef) rfl (by kernel_rfl) (by kernel_rfl) (by kernel_rfl) (fun _ _ _ h => h) (Or.inr ⟨by rfl, rfl⟩) (by assumption) ?_
              try simp only [Act.put, List.setIfInBounds_toArray, List.set_cons_zero, List.set_cons_succ]
              refine wpAnyH_take (i := 27) (oi := ⟨some 136, _, _, _, _, _⟩) (v := undef) rfl (by kernel_rfl) (by kernel_rfl) (by kernel_rfl) (fun _ _ _ h => h) (Or.inr ⟨by rfl, rfl⟩) (by assumption) ?_
              try simp only [Act.put, List.setIfInBounds_toArray, List.set_cons_zero, List.set_cons_succ]
              refine wpAnyH_take (i := 28) (oi := ⟨some 137, _, _, _, _, _⟩) (v := undef) rfl (by kernel_rfl) (by kernel_rfl) (by kernel_rfl) (fun _ _ _ h => h) (Or.inr ⟨by rfl, rfl⟩) (by assumption) ?_
              try simp only [Act.put, List.setIfInBounds_toArray, List.set_cons_zero, List.set_cons_succ]
              refine wpAnyH_take (i := 29) (oi := ⟨some 138, _, _, _, _, _⟩) (v := undef) rfl (by kernel_rfl) (by kernel_rfl) (by kernel_rfl) (fun _ _ _ h => h) (Or.inr ⟨by rfl, rfl⟩) (by assumption) ?_
              try simp only [Act.put, List.setIfInBounds_toArray, List.set_cons_zero, List.set_cons_succ]
              refine wpAnyH_take (i := 30) (oi := ⟨some 139, _, _, _, _, _⟩) (v := undef) rfl (by kernel_rfl) (by kernel_rfl) (by kernel_rfl) (fun _ _ _ h => h) (Or.inr ⟨by rfl, rfl⟩) (by assumption) ?_
              try simp only [Act.put, List.setIfInBounds_toArray, List.set_cons_zero, List.set_cons_succ]
              refine wpAnyH_take (i := 31) (oi := ⟨some 140, _, _, _, _, _⟩) (v := undef) rfl (by kernel_rfl) (by kernel_rfl) (by kernel_rfl) (fun _ _ _ h => h) (Or.inr ⟨by rfl, rfl⟩) (by assumption) ?_
              try simp only [Act.put, List.setIfInBounds_toArray, List.set_cons_zero, List.set_cons_succ]
              refine wpAnyH_take (i := 32) (oi := ⟨some 141, _, _, _, _, _⟩) (v := ?_) rfl (by kernel_rfl) (by kernel_rfl) (by kernel_rfl) (fun _ _ _ h => h) (Or.inl ⟨by rfl, ?_⟩) (by assumption) ?_
              rotate_left
              · intro w hSw; (try dsimp only at hSw); go_simp; (try with_reducible rfl)
              try simp only [Act.put, List.setIfInBounds_toArray, List.set_cons_zero, List.set_cons_succ]
              refine wpAnyH_take (i := 33) (oi := ⟨some 142, _, _, _, _, _⟩) (v := ?_) rfl (by kernel_rfl) (by kernel_rfl) (by kernel_rfl) (fun _ _ _ h => h) (Or.inl ⟨by rfl, ?_⟩) (by assumption) ?_
              rotate_left
              · intro w hSw; (try dsimp only at hSw); go_simp; (try with_reducible rfl)
              try simp only [Act.put, List.setIfInBounds_toArray, List.set_cons_zero, List.set_cons_succ]
              refine wpAnyH_done (by kernel_rfl) ?_ _
              go_wp2_with fail
              go_meet
              exact ⟨rfl, E33⟩
          · by_cases hc0 : 0 < cn
            · have t1 : decide ((0 : Int) < (pn : Int)) = false := by simp; omega
              have t2 : decide ((0 : Int) < (cn : Int)) = true := by simp; omega
              have hcv := HCV.out hc0
              have hw2 : IntKind.i64.wrap ((cn : Int) - 1) = (cn : Int) - 1 := IntWalk.i64_in _ (by omega)
              refine wp_region_held_drew (S := fun w' => w'.rangeAt pRt 0 (byteVals RT) ∧ w'.rangeAt pM 0 (byteVals more.1)) (by kernel_rfl) hS9 (fun _ => ?_)
              generalize w8.drew = v0 at *
              refine wpAnyH_take (i := 0) (oi := ⟨some 109, _, _, _, _, _⟩) (v := ?_) rfl (by kernel_rfl) (by kernel_rfl) (by kernel_rfl) (fun _ _ _ h => h) (Or.inl ⟨by rfl, ?_⟩) (by assumption) ?_
              rotate_left
              · intro w hSw; (try dsimp only at hSw); go_simp; (try with_reducible rfl)
              try simp only [Act.put, List.setIfInBounds_toArray, List.set_cons_zero, List.set_cons_succ]
              refine wpAnyH_take (i := 1) (oi := ⟨some 110, _, _, _, _, _⟩) (v := ?_) rfl (by kernel_rfl) (by kernel_rfl) (by kernel_rfl) (fun _ _ _ h => h) (Or.inl ⟨by rfl, ?_⟩) (by assumption) ?_
              rotate_left
              · intro w hSw; (try dsimp only at hSw); go_simp; (try with_reducible rfl)
              try simp only [Act.put, List.setIfInBounds_toArray, List.set_cons_zero, List.set_cons_succ]
              refine wpAnyH_take (i := 2) (oi := ⟨some 111, _, _, _, _, _⟩) (v := ?_) rfl (by kernel_rfl) (by kernel_rfl) (by kernel_rfl) (fun _ _ _ h => h) (Or.inl ⟨by rfl, ?_⟩) (by assumption) ?_
              rotate_left
              · intro w hSw; (try dsimp only at hSw); go_simp; (try with_reducible rfl)
              try simp only [Act.put, List.setIfInBounds_toArray, List.set_cons_zero, List.set_cons_succ]
              refine wpAnyH_take (i := 3) (oi := ⟨some 112, _, _, _, _, _⟩) (v := ?_) rfl (by kernel_rfl) (by kernel_rfl) (by kernel_rfl) (fun _ _ _ h => h) (Or.inl ⟨by rfl, ?_⟩) (by assumption) ?_
              rotate_left
              · intro w hSw; (try dsimp only at hSw); go_simp; (try with_reducible rfl)
              try simp only [Act.put, List.setIfInBounds_toArray, List.set_cons_zero, List.set_cons_succ]
              refine wpAnyH_take (i := 4) (oi := ⟨some 113, _, _, _, _, _⟩) (v := undef) rfl (by kernel_rfl) (by kernel_rfl) (by kernel_rfl) (fun _ _ _ h => h) (Or.inr ⟨by rfl, rfl⟩) (by assumption) ?_
              try simp only [Act.put, List.setIfInBounds_toArray, List.set_cons_zero, List.set_cons_succ]
              refine wpAnyH_take (i := 5) (oi := ⟨some 114, _, _, _, _, _⟩) (v := undef) rfl (by kernel_rfl) (by kernel_rfl) (by kernel_rfl) (fun _ _ _ h => h) (Or.inr ⟨by rfl, rfl⟩) (by assumption) ?_
              try simp only [Act.put, List.setIfInBounds_toArray, List.set_cons_zero, List.set_cons_succ]
              refine wpAnyH_take (i := 6) (oi := ⟨some 115, _, _, _, _, _⟩) (v := undef) rfl (by kernel_rfl) (by kernel_rfl) (by kernel_rfl) (fun _ _ _ h => h) (Or.inr ⟨by rfl, rfl⟩) (by assumption) ?_
              try simp only [Act.put, List.setIfInBounds_toArray, List.set_cons_zero, List.set_cons_succ]
              refine wpAnyH_take (i := 7) (oi := ⟨some 116, _, _, _, _, _⟩) (v := undef) rfl (by kernel_rfl) (by kernel_rfl) (by kernel_rfl) (fun _ _ _ h => h) (Or.inr ⟨by rfl, rfl⟩) (by assumption) ?_
              try simp only [Act.put, List.setIfInBounds_toArray, List.set_cons_zero, List.set_cons_succ]
              refine wpAnyH_take (i := 8) (oi := ⟨some 117, _, _, _, _, _⟩) (v := undef) rfl (by kernel_rfl) (by kernel_rfl) (by kernel_rfl) (fun _ _ _ h => h) (Or.inr ⟨by rfl, rfl⟩) (by assumption) ?_
              try simp only [Act.put, List.setIfInBounds_toArray, List.set_cons_zero, List.set_cons_succ]
              refine wpAnyH_take (i := 9) (oi := ⟨some 118, _, _, _, _, _⟩) (v := undef) rfl (by kernel_rfl) (by kernel_rfl) (by kernel_rfl) (fun _ _ _ h => h) (Or.inr ⟨by rfl, rfl⟩) (by assumption) ?_
              try simp only [Act.put, List.setIfInBounds_toArray, List.set_cons_zero, List.set_cons_succ]
              refine wpAnyH_take (i := 10) (oi := ⟨some 119, _, _, _, _, _⟩) (v := undef) rfl (by kernel_rfl) (by kernel_rfl) (by kernel_rfl) (fun _ _ _ h => h) (Or.inr ⟨by rfl, rfl⟩) (by assumption) ?_
              try simp only [Act.put, List.setIfInBounds_toArray, List.set_cons_zero, List.set_cons_succ]
              refine wpAnyH_take (i := 11) (oi := ⟨some 120, _, _, _, _, _⟩) (v := undef) rfl (by kernel_rfl) (by kernel_rfl) (by kernel_rfl) (fun _ _ _ h => h) (Or.inr ⟨by rfl, rfl⟩) (by assumption) ?_
              try simp only [Act.put, List.setIfInBounds_toArray, List.set_cons_zero, List.set_cons_succ]
              refine wpAnyH_take (i := 12) (oi := ⟨some 121, _, _, _, _, _⟩) (v := undef) rfl (by kernel_rfl) (by kernel_rfl) (by kernel_rfl) (fun _ _ _ h => h) (Or.inr ⟨by rfl, rfl⟩) (by assumption) ?_
              try simp only [Act.put, List.setIfInBounds_toArray, List.set_cons_zero, List.set_cons_succ]
              refine wpAnyH_take (i := 13) (oi := ⟨some 122, _, _, _, _, _⟩) (v := undef) rfl (by kernel_rfl) (by kernel_rfl) (by kernel_rfl) (fun _ _ _ h => h) (Or.inr ⟨by rfl, rfl⟩) (by assumption) ?_
              try simp only [Act.put, List.setIfInBounds_toArray, List.set_cons_zero, List.set_cons_succ]
              refine wpAnyH_take (i := 14) (oi := ⟨some 123, _, _, _, _, _⟩) (v := undef) rfl (by kernel_rfl) (by kernel_rfl) (by kernel_rfl) (fun _ _ _ h => h) (Or.inr ⟨by rfl, rfl⟩) (by assumption) ?_
              try simp only [Act.put, List.setIfInBounds_toArray, List.set_cons_zero, List.set_cons_succ]
              refine wpAnyH_take (i := 15) (oi := ⟨some 124, _, _, _, _, _⟩) (v := ?_) rfl (by kernel_rfl) (by kernel_rfl) (by kernel_rfl) (fun _ _ _ h => h) (Or.inl ⟨by rfl, ?_⟩) (by assumption) ?_
              rotate_left
              · intro w hSw; (try dsimp only at hSw); go_simp; (try with_reducible rfl)
              try simp only [Act.put, List.setIfInBounds_toArray, List.set_cons_zero, List.set_cons_succ]
              refine wpAnyH_take (i := 16) (oi := ⟨some 125, _, _, _, _, _⟩) (v := ?_) rfl (by kernel_rfl) (by kernel_rfl) (by kernel_rfl) (fun _ _ _ h => h) (Or.inl ⟨by rfl, ?_⟩) (by assumption) ?_
              rotate_left
              · intro w hSw; (try dsimp only at hSw); go_simp; (try with_reducible rfl)
              try simp only [Act.put, List.setIfInBounds_toArray, List.set_cons_zero, List.set_cons_succ]
              refine wpAnyH_take (i := 17) (oi := ⟨some 126, _, _, _, _, _⟩) (v := ?_) rfl (by kernel_rfl) (by kernel_rfl) (by kernel_rfl) (fun _ _ _ h => h) (Or.inl ⟨by rfl, ?_⟩) (by assumption) ?_
              rotate_left
              · intro w hSw; (try dsimp only at hSw); go_simp; (try with_reducible rfl)
              try simp only [Act.put, List.setIfInBounds_toArray, List.set_cons_zero, List.set_cons_succ]
              refine wpAnyH_take (i := 18) (oi := ⟨some 127, _, _, _, _, _⟩) (v := ?_) rfl (by kernel_rfl) (by kernel_rfl) (by kernel_rfl) (fun _ _ _ h => h) (Or.inl ⟨by rfl, ?_⟩) (by assumption) ?_
              rotate_left
              · intro w hSw; (try dsimp only at hSw); go_simp; (try with_reducible rfl)
              try simp only [Act.put, List.setIfInBounds_toArray, List.set_cons_zero, List.set_cons_succ]
              refine wpAnyH_take (i := 19) (oi := ⟨some 128, _, _, _, _, _⟩) (v := ?_) rfl (by kernel_rfl) (by kernel_rfl) (by kernel_rfl) (fun _ _ _ h => h) (Or.inl ⟨by rfl, ?_⟩) (by assumption) ?_
              rotate_left
              · intro w hSw; (try dsimp only at hSw); go_simp; (try with_reducible rfl)
              try simp only [Act.put, List.setIfInBounds_toArray, List.set_cons_zero, List.set_cons_succ]
              refine wpAnyH_take (i := 20) (oi := ⟨some 129, _, _, _, _, _⟩) (v := ?_) rfl (by kernel_rfl) (by kernel_rfl) (by kernel_rfl) (fun _ _ _ h => h) (Or.inl ⟨by rfl, ?_⟩) (by assumption) ?_
              rotate_left
              · intro w hSw; (try dsimp only at hSw); go_simp; (try with_reducible rfl)
              try simp only [Act.put, List.setIfInBounds_toArray, List.set_cons_zero, List.set_cons_succ]
              refine wpAnyH_take (i := 21) (oi := ⟨some 130, _, _, _, _, _⟩) (v := .agg (byteVals RT).toArray) rfl (by kernel_rfl) (by kernel_rfl) (by kernel_rfl) (fun _ _ _ h => h) (yieldsIf_load_mid (by rfl) 30 _ rfl pRt 0 rfl (byteVals RT) _ (fun _ h => h.1) Tryd.underlying30 rfl HIR.out) (by assumption) ?_
              try simp only [Act.put, List.setIfInBounds_toArray, List.set_cons_zero, List.set_cons_succ]
              refine wpAnyH_take (i := 22) (oi := ⟨some 131, _, _, _, _, _⟩) (v := ?_) rfl (by kernel_rfl) (by kernel_rfl) (by kernel_rfl) (fun _ _ _ h => h) (Or.inl ⟨by rfl, ?_⟩) (by assumption) ?_
              rotate_left
              · intro w hSw; (try dsimp only at hSw); go_simp; (try with_reducible rfl)
              try simp only [Act.put, List.setIfInBounds_toArray, List.set_cons_zero, List.set_cons_succ]
              refine wpAnyH_take (i := 23) (oi := ⟨some 132, _, _, _, _, _⟩) (v := ?_) rfl (by kernel_rfl) (by kernel_rfl) (by kernel_rfl) (fun _ _ _ h => h) (Or.inl ⟨by rfl, ?_⟩) (by assumption) ?_
              rotate_left
              · intro w hSw; (try dsimp only at hSw); go_simp; (try with_reducible rfl)
              try simp only [Act.put, List.setIfInBounds_toArray, List.set_cons_zero, List.set_cons_succ]
              refine wpAnyH_take (i := 24) (oi := ⟨some 133, _, _, _, _, _⟩) (v := ?_) rfl (by kernel_rfl) (by kernel_rfl) (by kernel_rfl) (fun _ _ _ h => h) (Or.inl ⟨by rfl, ?_⟩) (by assumption) ?_
              rotate_left
              · intro w hSw; (try dsimp only at hSw); go_simp; (try with_reducible rfl)
              try simp only [Act.put, List.setIfInBounds_toArray, List.set_cons_zero, List.set_cons_succ]
              refine wpAnyH_take (i := 25) (oi := ⟨some 134, _, _, _, _, _⟩) (v := ?_) rfl (by kernel_rfl) (by kernel_rfl) (by kernel_rfl) (fun _ _ _ h => h) (Or.inl ⟨by rfl, ?_⟩) (by assumption) ?_
              rotate_left
              · intro w hSw; (try dsimp only at hSw); go_simp; (try with_reducible rfl)
              try simp only [Act.put, List.setIfInBounds_toArray, List.set_cons_zero, List.set_cons_succ]
              refine wpAnyH_take (i := 26) (oi := ⟨some 135, _, _, _, _, _⟩) (v := ?_) rfl (by kernel_rfl) (by kernel_rfl) (by kernel_rfl) (fun _ _ _ h => h) (Or.inl ⟨by rfl, ?_⟩) (by assumption) ?_
              rotate_left
              · intro w hSw; (try dsimp only at hSw); go_simp; (try with_reducible rfl)
              try simp only [Act.put, List.setIfInBounds_toArray, List.set_cons_zero, List.set_cons_succ]
              refine wpAnyH_take (i := 27) (oi := ⟨some 136, _, _, _, _, _⟩) (v := ?_) rfl (by kernel_rfl) (by kernel_rfl) (by kernel_rfl) (fun _ _ _ h => h) (Or.inl ⟨by rfl, ?_⟩) (by assumption) ?_
              rotate_left
              · intro w hSw; (try dsimp only at hSw); go_simp; (try with_reducible rfl)
              try simp only [Act.put, List.setIfInBounds_toArray, List.set_cons_zero, List.set_cons_succ]
              refine wpAnyH_take (i := 28) (oi := ⟨some 137, _, _, _, _, _⟩) (v := ?_) rfl (by kernel_rfl) (by kernel_rfl) (by kernel_rfl) (fun _ _ _ h => h) (Or.inl ⟨by rfl, ?_⟩) (by assumption) ?_
              rotate_left
              · intro w hSw; (try dsimp only at hSw); go_simp; (try with_reducible rfl)
              try simp only [Act.put, List.setIfInBounds_toArray, List.set_cons_zero, List.set_cons_succ]
              refine wpAnyH_take (i := 29) (oi := ⟨some 138, _, _, _, _, _⟩) (v := ?_) rfl (by kernel_rfl) (by kernel_rfl) (by kernel_rfl) (fun _ _ _ h => h) (Or.inl ⟨by rfl, ?_⟩) (by assumption) ?_
              rotate_left
              · intro w hSw; (try dsimp only at hSw); go_simp; (try with_reducible rfl)
              try simp only [Act.put, List.setIfInBounds_toArray, List.set_cons_zero, List.set_cons_succ]
              refine wpAnyH_take (i := 30) (oi := ⟨some 139, _, _, _, _, _⟩) (v := ?_) rfl (by kernel_rfl) (by kernel_rfl) (by kernel_rfl) (fun _ _ _ h => h) (Or.inl ⟨by rfl, ?_⟩) (by assumption) ?_
              rotate_left
              · intro w hSw; (try dsimp only at hSw); go_simp; (try with_reducible rfl)
              try simp only [Act.put, List.setIfInBounds_toArray, List.set_cons_zero, List.set_cons_succ]
              refine wpAnyH_ready (rs := [31]) (by kernel_rfl) (by simp) ?_
              refine AllReadyH.cons (o := ⟨some 140, _, _, _, _, _⟩) rfl (fun K hK => ?_) (AllReadyH.nil)
              go_simp
              go_at_call 35
              refine (HC8.out _ hc0).mono ?_
              rintro e w32 ⟨rfl, g32⟩
              have E32 := E0.trans g32
              have S32 := sfact_chg hS9 E32
              go_wp2_with fail
              refine hK.out _ _ S32 (fun _ => ?_)
              clear hK K
              try simp only [Act.put, List.setIfInBounds_toArray, List.set_cons_zero, List.set_cons_succ]
              refine wpAnyH_take (i := 32) (oi := ⟨some 141, _, _, _, _, _⟩) (v := ?_) rfl (by kernel_rfl) (by kernel_rfl) (by kernel_rfl) (fun _ _ _ h => h) (Or.inl ⟨by rfl, ?_⟩) (by assumption) ?_
              rotate_left
              · intro w hSw; (try dsimp only at hSw); go_simp; (try with_reducible rfl)
              try simp only [Act.put, List.setIfInBounds_toArray, List.set_cons_zero, List.set_cons_succ]
              refine wpAnyH_take (i := 33) (oi := ⟨some 142, _, _, _, _, _⟩) (v := ?_) rfl (by kernel_rfl) (by kernel_rfl) (by kernel_rfl) (fun _ _ _ h => h) (Or.inl ⟨by rfl, ?_⟩) (by assumption) ?_
              rotate_left
              · intro w hSw; (try dsimp only at hSw); go_simp; (try with_reducible rfl)
              try simp only [Act.put, List.setIfInBounds_toArray, List.set_cons_zero, List.set_cons_succ]
              refine wpAnyH_done (by kernel_rfl) ?_ _
              go_wp2_with fail
              go_meet
              exact ⟨rfl, E32⟩
            · have t1 : decide ((0 : Int) < (pn : Int)) = false := by simp; omega
              have t2 : decide ((0 : Int) < (cn : Int)) = false := by simp; omega
              refine wp_region_held_drew (S := fun w' => w'.rangeAt pRt 0 (byteVals RT) ∧ w'.rangeAt pM 0 (byteVals more.1)) (by kernel_rfl) hS9 (fun _ => ?_)
              generalize w8.drew = v0 at *
              refine wpAnyH_take (i := 0) (oi := ⟨some 109, _, _, _, _, _⟩) (v := ?_) rfl (by kernel_rfl) (by kernel_rfl) (by kernel_rfl) (fun _ _ _ h => h) (Or.inl ⟨by rfl, ?_⟩) (by assumption) ?_
              rotate_left
              · intro w hSw; (try dsimp only at hSw); go_simp; (try with_reducible rfl)
              try simp only [Act.put, List.setIfInBounds_toArray, List.set_cons_zero, List.set_cons_succ]
              refine wpAnyH_take (i := 1) (oi := ⟨some 110, _, _, _, _, _⟩) (v := ?_) rfl (by kernel_rfl) (by kernel_rfl) (by kernel_rfl) (fun _ _ _ h => h) (Or.inl ⟨by rfl, ?_⟩) (by assumption) ?_
              rotate_left
              · intro w hSw; (try dsimp only at hSw); go_simp; (try with_reducible rfl)
              try simp only [Act.put, List.setIfInBounds_toArray, List.set_cons_zero, List.set_cons_succ]
              refine wpAnyH_take (i := 2) (oi := ⟨some 111, _, _, _, _, _⟩) (v := ?_) rfl (by kernel_rfl) (by kernel_rfl) (by kernel_rfl) (fun _ _ _ h => h) (Or.inl ⟨by rfl, ?_⟩) (by assumption) ?_
              rotate_left
              · intro w hSw; (try dsimp only at hSw); go_simp; (try with_reducible rfl)
              try simp only [Act.put, List.setIfInBounds_toArray, List.set_cons_zero, List.set_cons_succ]
              refine wpAnyH_take (i := 3) (oi := ⟨some 112, _, _, _, _, _⟩) (v := ?_) rfl (by kernel_rfl) (by kernel_rfl) (by kernel_rfl) (fun _ _ _ h => h) (Or.inl ⟨by rfl, ?_⟩) (by assumption) ?_
              rotate_left
              · intro w hSw; (try dsimp only at hSw); go_simp; (try with_reducible rfl)
              try simp only [Act.put, List.setIfInBounds_toArray, List.set_cons_zero, List.set_cons_succ]
              refine wpAnyH_take (i := 4) (oi := ⟨some 113, _, _, _, _, _⟩) (v := undef) rfl (by kernel_rfl) (by kernel_rfl) (by kernel_rfl) (fun _ _ _ h => h) (Or.inr ⟨by rfl, rfl⟩) (by assumption) ?_
              try simp only [Act.put, List.setIfInBounds_toArray, List.set_cons_zero, List.set_cons_succ]
              refine wpAnyH_take (i := 5) (oi := ⟨some 114, _, _, _, _, _⟩) (v := undef) rfl (by kernel_rfl) (by kernel_rfl) (by kernel_rfl) (fun _ _ _ h => h) (Or.inr ⟨by rfl, rfl⟩) (by assumption) ?_
              try simp only [Act.put, List.setIfInBounds_toArray, List.set_cons_zero, List.set_cons_succ]
              refine wpAnyH_take (i := 6) (oi := ⟨some 115, _, _, _, _, _⟩) (v := undef) rfl (by kernel_rfl) (by kernel_rfl) (by kernel_rfl) (fun _ _ _ h => h) (Or.inr ⟨by rfl, rfl⟩) (by assumption) ?_
              try simp only [Act.put, List.setIfInBounds_toArray, List.set_cons_zero, List.set_cons_succ]
              refine wpAnyH_take (i := 7) (oi := ⟨some 116, _, _, _, _, _⟩) (v := undef) rfl (by kernel_rfl) (by kernel_rfl) (by kernel_rfl) (fun _ _ _ h => h) (Or.inr ⟨by rfl, rfl⟩) (by assumption) ?_
              try simp only [Act.put, List.setIfInBounds_toArray, List.set_cons_zero, List.set_cons_succ]
              refine wpAnyH_take (i := 8) (oi := ⟨some 117, _, _, _, _, _⟩) (v := undef) rfl (by kernel_rfl) (by kernel_rfl) (by kernel_rfl) (fun _ _ _ h => h) (Or.inr ⟨by rfl, rfl⟩) (by assumption) ?_
              try simp only [Act.put, List.setIfInBounds_toArray, List.set_cons_zero, List.set_cons_succ]
              refine wpAnyH_take (i := 9) (oi := ⟨some 118, _, _, _, _, _⟩) (v := undef) rfl (by kernel_rfl) (by kernel_rfl) (by kernel_rfl) (fun _ _ _ h => h) (Or.inr ⟨by rfl, rfl⟩) (by assumption) ?_
              try simp only [Act.put, List.setIfInBounds_toArray, List.set_cons_zero, List.set_cons_succ]
              refine wpAnyH_take (i := 10) (oi := ⟨some 119, _, _, _, _, _⟩) (v := undef) rfl (by kernel_rfl) (by kernel_rfl) (by kernel_rfl) (fun _ _ _ h => h) (Or.inr ⟨by rfl, rfl⟩) (by assumption) ?_
              try simp only [Act.put, List.setIfInBounds_toArray, List.set_cons_zero, List.set_cons_succ]
              refine wpAnyH_take (i := 11) (oi := ⟨some 120, _, _, _, _, _⟩) (v := undef) rfl (by kernel_rfl) (by kernel_rfl) (by kernel_rfl) (fun _ _ _ h => h) (Or.inr ⟨by rfl, rfl⟩) (by assumption) ?_
              try simp only [Act.put, List.setIfInBounds_toArray, List.set_cons_zero, List.set_cons_succ]
              refine wpAnyH_take (i := 12) (oi := ⟨some 121, _, _, _, _, _⟩) (v := undef) rfl (by kernel_rfl) (by kernel_rfl) (by kernel_rfl) (fun _ _ _ h => h) (Or.inr ⟨by rfl, rfl⟩) (by assumption) ?_
              try simp only [Act.put, List.setIfInBounds_toArray, List.set_cons_zero, List.set_cons_succ]
              refine wpAnyH_take (i := 13) (oi := ⟨some 122, _, _, _, _, _⟩) (v := undef) rfl (by kernel_rfl) (by kernel_rfl) (by kernel_rfl) (fun _ _ _ h => h) (Or.inr ⟨by rfl, rfl⟩) (by assumption) ?_
              try simp only [Act.put, List.setIfInBounds_toArray, List.set_cons_zero, List.set_cons_succ]
              refine wpAnyH_take (i := 14) (oi := ⟨some 123, _, _, _, _, _⟩) (v := undef) rfl (by kernel_rfl) (by kernel_rfl) (by kernel_rfl) (fun _ _ _ h => h) (Or.inr ⟨by rfl, rfl⟩) (by assumption) ?_
              try simp only [Act.put, List.setIfInBounds_toArray, List.set_cons_zero, List.set_cons_succ]
              refine wpAnyH_take (i := 15) (oi := ⟨some 124, _, _, _, _, _⟩) (v := ?_) rfl (by kernel_rfl) (by kernel_rfl) (by kernel_rfl) (fun _ _ _ h => h) (Or.inl ⟨by rfl, ?_⟩) (by assumption) ?_
              rotate_left
              · intro w hSw; (try dsimp only at hSw); go_simp; (try with_reducible rfl)
              try simp only [Act.put, List.setIfInBounds_toArray, List.set_cons_zero, List.set_cons_succ]
              refine wpAnyH_take (i := 16) (oi := ⟨some 125, _, _, _, _, _⟩) (v := ?_) rfl (by kernel_rfl) (by kernel_rfl) (by kernel_rfl) (fun _ _ _ h => h) (Or.inl ⟨by rfl, ?_⟩) (by assumption) ?_
              rotate_left
              · intro w hSw; (try dsimp only at hSw); go_simp; (try with_reducible rfl)
              try simp only [Act.put, List.setIfInBounds_toArray, List.set_cons_zero, List.set_cons_succ]
              refine wpAnyH_take (i := 17) (oi := ⟨some 126, _, _, _, _, _⟩) (v := ?_) rfl (by kernel_rfl) (by kernel_rfl) (by kernel_rfl) (fun _ _ _ h => h) (Or.inl ⟨by rfl, ?_⟩) (by assumption) ?_
              rotate_left
              · intro w hSw; (try dsimp only at hSw); go_simp; (try with_reducible rfl)
              try simp only [Act.put, List.setIfInBounds_toArray, List.set_cons_zero, List.set_cons_succ]
              refine wpAnyH_take (i := 18) (oi := ⟨some 127, _, _, _, _, _⟩) (v := ?_) rfl (by kernel_rfl) (by kernel_rfl) (by kernel_rfl) (fun _ _ _ h => h) (Or.inl ⟨by rfl, ?_⟩) (by assumption) ?_
              rotate_left
              · intro w hSw; (try dsimp only at hSw); go_simp; (try with_reducible rfl)
              try simp only [Act.put, List.setIfInBounds_toArray, List.set_cons_zero, List.set_cons_succ]
              refine wpAnyH_take (i := 19) (oi := ⟨some 128, _, _, _, _, _⟩) (v := ?_) rfl (by kernel_rfl) (by kernel_rfl) (by kernel_rfl) (fun _ _ _ h => h) (Or.inl ⟨by rfl, ?_⟩) (by assumption) ?_
              rotate_left
              · intro w hSw; (try dsimp only at hSw); go_simp; (try with_reducible rfl)
              try simp only [Act.put, List.setIfInBounds_toArray, List.set_cons_zero, List.set_cons_succ]
              refine wpAnyH_take (i := 20) (oi := ⟨some 129, _, _, _, _, _⟩) (v := ?_) rfl (by kernel_rfl) (by kernel_rfl) (by kernel_rfl) (fun _ _ _ h => h) (Or.inl ⟨by rfl, ?_⟩) (by assumption) ?_
              rotate_left
              · intro w hSw; (try dsimp only at hSw); go_simp; (try with_reducible rfl)
              try simp only [Act.put, List.setIfInBounds_toArray, List.set_cons_zero, List.set_cons_succ]
              refine wpAnyH_take (i := 21) (oi := ⟨some 130, _, _, _, _, _⟩) (v := undef) rfl (by kernel_rfl) (by kernel_rfl) (by kernel_rfl) (fun _ _ _ h => h) (Or.inr ⟨by rfl, rfl⟩) (by assumption) ?_
              try simp only [Act.put, List.setIfInBounds_toArray, List.set_cons_zero, List.set_cons_succ]
              refine wpAnyH_take (i := 22) (oi := ⟨some 131, _, _, _, _, _⟩) (v := undef) rfl (by kernel_rfl) (by kernel_rfl) (by kernel_rfl) (fun _ _ _ h => h) (Or.inr ⟨by rfl, rfl⟩) (by assumption) ?_
              try simp only [Act.put, List.setIfInBounds_toArray, List.set_cons_zero, List.set_cons_succ]
              refine wpAnyH_take (i := 23) (oi := ⟨some 132, _, _, _, _, _⟩) (v := undef) rfl (by kernel_rfl) (by kernel_rfl) (by kernel_rfl) (fun _ _ _ h => h) (Or.inr ⟨by rfl, rfl⟩) (by assumption) ?_
              try simp only [Act.put, List.setIfInBounds_toArray, List.set_cons_zero, List.set_cons_succ]
              refine wpAnyH_take (i := 24) (oi := ⟨some 133, _, _, _, _, _⟩) (v := undef) rfl (by kernel_rfl) (by kernel_rfl) (by kernel_rfl) (fun _ _ _ h => h) (Or.inr ⟨by rfl, rfl⟩) (by assumption) ?_
              try simp only [Act.put, List.setIfInBounds_toArray, List.set_cons_zero, List.set_cons_succ]
              refine wpAnyH_take (i := 25) (oi := ⟨some 134, _, _, _, _, _⟩) (v := undef) rfl (by kernel_rfl) (by kernel_rfl) (by kernel_rfl) (fun _ _ _ h => h) (Or.inr ⟨by rfl, rfl⟩) (by assumption) ?_
              try simp only [Act.put, List.setIfInBounds_toArray, List.set_cons_zero, List.set_cons_succ]
              refine wpAnyH_take (i := 26) (oi := ⟨some 135, _, _, _, _, _⟩) (v := undef) rfl (by kernel_rfl) (by kernel_rfl) (by kernel_rfl) (fun _ _ _ h => h) (Or.inr ⟨by rfl, rfl⟩) (by assumption) ?_
              try simp only [Act.put, List.setIfInBounds_toArray, List.set_cons_zero, List.set_cons_succ]
              refine wpAnyH_take (i := 27) (oi := ⟨some 136, _, _, _, _, _⟩) (v := undef) rfl (by kernel_rfl) (by kernel_rfl) (by kernel_rfl) (fun _ _ _ h => h) (Or.inr ⟨by rfl, rfl⟩) (by assumption) ?_
              try simp only [Act.put, List.setIfInBounds_toArray, List.set_cons_zero, List.set_cons_succ]
              refine wpAnyH_take (i := 28) (oi := ⟨some 137, _, _, _, _, _⟩) (v := undef) rfl (by kernel_rfl) (by kernel_rfl) (by kernel_rfl) (fun _ _ _ h => h) (Or.inr ⟨by rfl, rfl⟩) (by assumption) ?_
              try simp only [Act.put, List.setIfInBounds_toArray, List.set_cons_zero, List.set_cons_succ]
              refine wpAnyH_take (i := 29) (oi := ⟨some 138, _, _, _, _, _⟩) (v := undef) rfl (by kernel_rfl) (by kernel_rfl) (by kernel_rfl) (fun _ _ _ h => h) (Or.inr ⟨by rfl, rfl⟩) (by assumption) ?_
              try simp only [Act.put, List.setIfInBounds_toArray, List.set_cons_zero, List.set_cons_succ]
              refine wpAnyH_take (i := 30) (oi := ⟨some 139, _, _, _, _, _⟩) (v := undef) rfl (by kernel_rfl) (by kernel_rfl) (by kernel_rfl) (fun _ _ _ h => h) (Or.inr ⟨by rfl, rfl⟩) (by assumption) ?_
              try simp only [Act.put, List.setIfInBounds_toArray, List.set_cons_zero, List.set_cons_succ]
              refine wpAnyH_take (i := 31) (oi := ⟨some 140, _, _, _, _, _⟩) (v := undef) rfl (by kernel_rfl) (by kernel_rfl) (by kernel_rfl) (fun _ _ _ h => h) (Or.inr ⟨by rfl, rfl⟩) (by assumption) ?_
              try simp only [Act.put, List.setIfInBounds_toArray, List.set_cons_zero, List.set_cons_succ]
              refine wpAnyH_take (i := 32) (oi := ⟨some 141, _, _, _, _, _⟩) (v := ?_) rfl (by kernel_rfl) (by kernel_rfl) (by kernel_rfl) (fun _ _ _ h => h) (Or.inl ⟨by rfl, ?_⟩) (by assumption) ?_
              rotate_left
              · intro w hSw; (try dsimp only at hSw); go_simp; (try with_reducible rfl)
              try simp only [Act.put, List.setIfInBounds_toArray, List.set_cons_zero, List.set_cons_succ]
              refine wpAnyH_take (i := 33) (oi := ⟨some 142, _, _, _, _, _⟩) (v := ?_) rfl (by kernel_rfl) (by kernel_rfl) (by kernel_rfl) (fun _ _ _ h => h) (Or.inl ⟨by rfl, ?_⟩) (by assumption) ?_
              rotate_left
              · intro w hSw; (try dsimp only at hSw); go_simp; (try with_reducible rfl)
              try simp only [Act.put, List.setIfInBounds_toArray, List.set_cons_zero, List.set_cons_succ]
              refine wpAnyH_done (by kernel_rfl) ?_ _
              go_wp2_with fail
              go_meet
              exact ⟨rfl, E0⟩
        case rest =>
          obtain ⟨rfl, E9⟩ := hcut
          obtain ⟨w9, rfl⟩ : ∃ w9 : World, w9 = wc := ⟨_, rfl⟩
          have E89 : Chg none w8 w9 := ((Chg.refl none w8).drew).trans E9
          have OWN9 := Lib.hid (OWN8.out.kept E89 (by cases (Value.slice A6 J c6).ownBlock <;> simp))
          have bM9 := Blk.chg bM8 E89 (by simp)
          have bR9 := Blk.chg bR8 E89 (by simp)
          have gw9 := gw8.trans E89
          have HRC9 := Lib.hid (HRC8.out _ E89)
          clear HC7 HC8 HRC8 OWN8 bM8 bR8 gw8 E89 E9 hS8
          go_wp2_with (at_builtin; refine wpList_append_any _ rfl (.tmp 143) (.tmp 144) 22 rfl pM 5 j0 (.int .u8 0) 1 1 Tryd.underlying22 hj0 hy0 hy1 hy2 rfl (by decide) _ J (byteVals (p.x.take (64 * k))) rfl OWN9.out _ A9 cn c9 (byteVals CB) rfl HRC9.out HO5.out (by unfold maxLen; omega) (by omega) (Nat.le_of_lt (Blk.lt bM9)) ?_)
          intro v10 w10 hown10 hgr10 hob10
          rw [byteVals_append, ← HTK.out] at hown10
          have hob9 := HOB.out
          have bM10 := Blk.chg bM9 hgr10 (fun e => (hob9 pM e.symm).1 rfl)
          have bR10 := Blk.chg bR9 hgr10 (fun e => (hob9 pRt e.symm).2 rfl)
          have g10 : Chg none w w10 := own_chg gw9 OWN9.out (by rw [HPM.out]; exact Nat.le_refl _) hgr10
          have hl1 := Blk.lt bM9
          have hl2 := Blk.lt bR9
          have HOB10 : Hid (∀ g, v10.ownBlock = some g → g ≠ pM ∧ g ≠ pRt) := fun g hg => by
            rcases hob10 with h | h
            · exact hob9 g (h ▸ hg)
            · rw [h] at hg
              injection hg with hg
              omega
          have HOWN10 := Lib.hid hown10
          clear hown10 hgr10 hob10 hob9 HRC9 OWN9
          go_wp2_with fail
          go_roundw
          case rel => exact ⟨k + 1, J + cn, by omega, by go_num, HOWN10.out, by have := HOWN10.out.1; rw [byteVals_len, List.length_take] at this; omega, HOB10.out, bM10, bR10, g10⟩
          case measure => first | (simp [intOf]; done) | (simp [intOf]; omega)
    · have hkn : k = n := by omega
      have hnl : decide ((k : Int) < (n : Int)) = false := by simp; omega
      have hall : p.x.take (64 * k) = p.x := by
        have h3 := HN.out
        unfold cntN at h3
        exact List.take_of_length_le (by omega)
      rw [hall] at hown
      obtain ⟨ht4, hxx, _⟩ := own_txt hown
      clear hxx
      have hl4 : J = p.x.length := by have := hown.1; rw [byteVals_len] at this; omega
      subst hl4
      have hv1 : (convert 22 9 (.slice A6 p.x.length c6)).run Tryd.prog wr = .ok (.string ⟨p.x.toArray⟩) wr := conv_reads wr (txt_reads ht4)
      have hv2 : (convert 22 9 (.slice p.A p.x.length p.c)).run Tryd.prog wr = .ok (.string ⟨p.x.toArray⟩) wr := conv_reads wr (txt_reads (hp.1.chg gk))
      have HK := Lib.hid (known4_any wr (hT.chg gk (by simp)))
      clear hown hall ht4 hkn
      go_wp2_with fail
      refine HK.out.mono ?_
      rintro e w5 ⟨rfl, g5⟩
      go_wp2_with fail
      go_ret
      exact ⟨rfl, gk.trans g5⟩

end Go.Proofs.YtdkgecphkppglaaDoor
