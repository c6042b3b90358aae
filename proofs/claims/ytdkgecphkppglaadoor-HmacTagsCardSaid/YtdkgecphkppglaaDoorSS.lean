/-
  ShaSums: the walk.
-/
import Derived.Test.YtdkgecphkppglaaDoorR8
namespace Go.Proofs.YtdkgecphkppglaaDoor
open Go.RowKit

/-- The two rows of words, kept in new blocks. -/
def keptA (w : World) : World := (w.alloc (.cells noW8.toArray 25)).alloc (.cells (List.replicate 64 (Value.int .u32 0)).toArray 26)
def keptB (w : World) : World := ((keptA w).setRow w.heap.size (H0.map u32v).toArray).setRow (w.heap.size + 1) (K0.map u32v).toArray
theorem kept_4 (w : World) : (keptA w).heap[w.heap.size]? = some (.cells noW8.toArray 25 (0, 0)) :=
  Blk.alloc (Blk.new w noW8.toArray 25) _
theorem kept_5 (w : World) : ((keptA w).setRow w.heap.size (H0.map u32v).toArray).heap[w.heap.size + 1]? = some (.cells (List.replicate 64 (Value.int .u32 0)).toArray 26 (0, 0)) := by
  have h : Blk (keptA w) (w.heap.size + 1) (List.replicate 64 (Value.int .u32 0)).toArray 26 := Blk.newAt _ _ (by simp)
  exact Blk.chg h (chg_setRow _ w.heap.size _) (by simp)
theorem kept_H (w : World) : BlkL (keptB w) w.heap.size (H0.map u32v) 25 := by
  have h : Blk ((keptA w).setRow w.heap.size (H0.map u32v).toArray) w.heap.size (H0.map u32v).toArray 25 := setRow_heap _ _ _ _ _ _ (kept_4 w)
  exact Blk.chg h (chg_setRow _ (w.heap.size + 1) _) (by simp)
theorem kept_K (w : World) : BlkL (keptB w) (w.heap.size + 1) (K0.map u32v) 26 := setRow_heap _ _ _ _ _ _ (kept_5 w)
theorem kept_chg (w : World) : Chg none w (keptB w) := by
  have h1 : Chg none w (keptA w) := ((Chg.refl _ _).alloc _).alloc _
  have h2 : Chg none w ((keptA w).setRow w.heap.size (H0.map u32v).toArray) := Chg.own h1 (chg_setRow _ _ _) (Nat.le_refl _)
  exact Chg.own h2 (chg_setRow _ _ _) (by omega)

theorem sums_chg {v w : World} {a b : Nat} {x y : List Value} {A B : Option Addr} {m : List UInt8} (h : v.rangeAt a 0 x ∧ v.rangeAt b 0 y ∧ Txt v A m ∧ Txt v B m) (g : Chg none v w) :
    w.rangeAt a 0 x ∧ w.rangeAt b 0 y ∧ Txt w A m ∧ Txt w B m := ⟨rangeAt_chg h.1 g (by simp), rangeAt_chg h.2.1 g (by simp), h.2.2.1.chg g, h.2.2.2.chg g⟩

set_option maxRecDepth 100000 in
set_option maxHeartbeats 16000000 in
theorem sums_law (p : Prt) (w : World) (hp : p.ok w) (hpm : p.c ≤ 9223372036854775807) (hT : Tabs w) :
    Calls Tryd.prog 3 #[.slice p.A p.x.length p.c] w fun e w' => e = .returned (.bool true) ∧ Chg none w w' := by
  obtain ⟨i0, hi, hz0, hz1, hz2⟩ := info_parts Tryd.info5
  have hpl : p.x.length ≤ 9223372036854775807 := by have := hp.2; omega
  by_cases h1000 : 1000 < p.x.length
  · have HK := Lib.hid (known_any w hT)
    go_enter Tryd.func3, Tryd.ntmps3
    go_wp2_with fail
    refine HK.out.mono ?_
    rintro e w1 ⟨rfl, g1⟩
    go_wp2_with fail
    go_ret
    exact ⟨rfl, g1⟩
  have d1000 : decide ((1000 : Int) < (p.x.length : Int)) = false := by simp; omega
  have gE : Chg none w (w.alloc (.cells #[] 5 (0, 0))) := (Chg.refl _ _).alloc _
  have HR := Lib.hid (txt_reads (hp.1.chg gE))
  have HOWN := Lib.hid (own_emptyB w)
  have HO := Lib.hid (byteVals_one p.x)
  obtain ⟨m, hm⟩ : ∃ m, m = p.x := ⟨_, rfl⟩
  obtain ⟨n, hn⟩ : ∃ n, n = m.length := ⟨_, rfl⟩
  have hA := hp.1
  have hcp := hp.2
  obtain ⟨A0, x0, c0⟩ := p
  dsimp only at *
  subst hm
  have hn1 : n ≤ 1000 := by omega
  rw [← hn] at HR hpl h1000 d1000 hcp ⊢
  have HA := Lib.hid hA
  have HN := Lib.hid hn
  obtain ⟨D, hD⟩ : ∃ D, D = dig m := ⟨_, rfl⟩
  have hDl : D.length = 32 := by rw [hD, dig_len]
  have hqe : ∀ v : World, (binOp .eql 30 (.agg (byteVals D).toArray) (.agg (byteVals D).toArray)).run Tryd.prog v = .ok (.bool true) v := fun v => by rw [eql30 D D hDl hDl v]; simp
  have HQE := Lib.hid hqe
  have HD := Lib.hid hD
  have HT := Lib.hid hT
  have HI25 : Hid ((Tryd.prog.info? 25).map (·.size) = some (H0.map u32v).length) := by show _ = _; kernel_rfl
  have HI26 : Hid ((Tryd.prog.info? 26).map (·.size) = some (K0.map u32v).length) := by show _ = _; kernel_rfl
  obtain ⟨HH, hHH⟩ : ∃ HH, HH = (H0.map u32v).toArray := ⟨_, rfl⟩
  obtain ⟨KK, hKK⟩ : ∃ KK, KK = (K0.map u32v).toArray := ⟨_, rfl⟩
  have HJ25 : Hid ((Tryd.prog.info? 25).map (·.size) = some HH.size) := by rw [hHH]; show _ = _; kernel_rfl
  have HJ26 : Hid ((Tryd.prog.info? 26).map (·.size) = some KK.size) := by rw [hKK]; show _ = _; kernel_rfl
  have HO25 : Hid (HH.all (·.oneCell') = true) := by rw [hHH]; show _ = _; kernel_rfl
  have HO26 : Hid (KK.all (·.oneCell') = true) := by rw [hKK]; show _ = _; kernel_rfl
  have HZ25 : Hid (noW8.toArray.size = HH.size) := by rw [hHH]; show _ = _; kernel_rfl
  have HZ26 : Hid ((List.replicate 64 (Value.int .u32 0)).toArray.size = KK.size) := by rw [hKK]; show _ = _; kernel_rfl
  have HK4 : Hid (∀ v : World, ((v.alloc (.cells #[Value.int IntKind.u32 0, Value.int IntKind.u32 0, Value.int IntKind.u32 0, Value.int IntKind.u32 0, Value.int IntKind.u32 0, Value.int IntKind.u32 0, Value.int IntKind.u32 0, Value.int IntKind.u32 0] 25)).alloc (.cells #[Value.int IntKind.u32 0, Value.int IntKind.u32 0, Value.int IntKind.u32 0, Value.int IntKind.u32 0, Value.int IntKind.u32 0, Value.int IntKind.u32 0, Value.int IntKind.u32 0, Value.int IntKind.u32 0, Value.int IntKind.u32 0, Value.int IntKind.u32 0, Value.int IntKind.u32 0, Value.int IntKind.u32 0, Value.int IntKind.u32 0, Value.int IntKind.u32 0, Value.int IntKind.u32 0, Value.int IntKind.u32 0, Value.int IntKind.u32 0, Value.int IntKind.u32 0, Value.int IntKind.u32 0, Value.int IntKind.u32 0, Value.int IntKind.u32 0, Value.int IntKind.u32 0, Value.int IntKind.u32 0, Value.int IntKind.u32 0, Value.int IntKind.u32 0, Value.int IntKind.u32 0, Value.int IntKind.u32 0, Value.int IntKind.u32 0, Value.int IntKind.u32 0, Value.int IntKind.u32 0, Value.int IntKind.u32 0, Value.int IntKind.u32 0, Value.int IntKind.u32 0, Value.int IntKind.u32 0, Value.int IntKind.u32 0, Value.int IntKind.u32 0, Value.int IntKind.u32 0, Value.int IntKind.u32 0, Value.int IntKind.u32 0, Value.int IntKind.u32 0, Value.int IntKind.u32 0, Value.int IntKind.u32 0, Value.int IntKind.u32 0, Value.int IntKind.u32 0, Value.int IntKind.u32 0, Value.int IntKind.u32 0, Value.int IntKind.u32 0, Value.int IntKind.u32 0, Value.int IntKind.u32 0, Value.int IntKind.u32 0, Value.int IntKind.u32 0, Value.int IntKind.u32 0, Value.int IntKind.u32 0, Value.int IntKind.u32 0, Value.int IntKind.u32 0, Value.int IntKind.u32 0, Value.int IntKind.u32 0, Value.int IntKind.u32 0, Value.int IntKind.u32 0, Value.int IntKind.u32 0, Value.int IntKind.u32 0, Value.int IntKind.u32 0, Value.int IntKind.u32 0, Value.int IntKind.u32 0] 26)).heap[v.heap.size]? = some (.cells noW8.toArray 25 (0, 0))) := fun v => kept_4 v
  have HK5 : Hid (∀ v : World, (((v.alloc (.cells #[Value.int IntKind.u32 0, Value.int IntKind.u32 0, Value.int IntKind.u32 0, Value.int IntKind.u32 0, Value.int IntKind.u32 0, Value.int IntKind.u32 0, Value.int IntKind.u32 0, Value.int IntKind.u32 0] 25)).alloc (.cells #[Value.int IntKind.u32 0, Value.int IntKind.u32 0, Value.int IntKind.u32 0, Value.int IntKind.u32 0, Value.int IntKind.u32 0, Value.int IntKind.u32 0, Value.int IntKind.u32 0, Value.int IntKind.u32 0, Value.int IntKind.u32 0, Value.int IntKind.u32 0, Value.int IntKind.u32 0, Value.int IntKind.u32 0, Value.int IntKind.u32 0, Value.int IntKind.u32 0, Value.int IntKind.u32 0, Value.int IntKind.u32 0, Value.int IntKind.u32 0, Value.int IntKind.u32 0, Value.int IntKind.u32 0, Value.int IntKind.u32 0, Value.int IntKind.u32 0, Value.int IntKind.u32 0, Value.int IntKind.u32 0, Value.int IntKind.u32 0, Value.int IntKind.u32 0, Value.int IntKind.u32 0, Value.int IntKind.u32 0, Value.int IntKind.u32 0, Value.int IntKind.u32 0, Value.int IntKind.u32 0, Value.int IntKind.u32 0, Value.int IntKind.u32 0, Value.int IntKind.u32 0, Value.int IntKind.u32 0, Value.int IntKind.u32 0, Value.int IntKind.u32 0, Value.int IntKind.u32 0, Value.int IntKind.u32 0, Value.int IntKind.u32 0, Value.int IntKind.u32 0, Value.int IntKind.u32 0, Value.int IntKind.u32 0, Value.int IntKind.u32 0, Value.int IntKind.u32 0, Value.int IntKind.u32 0, Value.int IntKind.u32 0, Value.int IntKind.u32 0, Value.int IntKind.u32 0, Value.int IntKind.u32 0, Value.int IntKind.u32 0, Value.int IntKind.u32 0, Value.int IntKind.u32 0, Value.int IntKind.u32 0, Value.int IntKind.u32 0, Value.int IntKind.u32 0, Value.int IntKind.u32 0, Value.int IntKind.u32 0, Value.int IntKind.u32 0, Value.int IntKind.u32 0, Value.int IntKind.u32 0, Value.int IntKind.u32 0, Value.int IntKind.u32 0, Value.int IntKind.u32 0, Value.int IntKind.u32 0] 26)).setRow v.heap.size HH).heap[v.heap.size + 1]? = some (.cells (List.replicate 64 (Value.int .u32 0)).toArray 26 (0, 0))) := by rw [hHH]; exact fun v => kept_5 v
  have HKB : Hid (∀ v : World, ((((v.alloc (.cells #[Value.int IntKind.u32 0, Value.int IntKind.u32 0, Value.int IntKind.u32 0, Value.int IntKind.u32 0, Value.int IntKind.u32 0, Value.int IntKind.u32 0, Value.int IntKind.u32 0, Value.int IntKind.u32 0] 25)).alloc (.cells #[Value.int IntKind.u32 0, Value.int IntKind.u32 0, Value.int IntKind.u32 0, Value.int IntKind.u32 0, Value.int IntKind.u32 0, Value.int IntKind.u32 0, Value.int IntKind.u32 0, Value.int IntKind.u32 0, Value.int IntKind.u32 0, Value.int IntKind.u32 0, Value.int IntKind.u32 0, Value.int IntKind.u32 0, Value.int IntKind.u32 0, Value.int IntKind.u32 0, Value.int IntKind.u32 0, Value.int IntKind.u32 0, Value.int IntKind.u32 0, Value.int IntKind.u32 0, Value.int IntKind.u32 0, Value.int IntKind.u32 0, Value.int IntKind.u32 0, Value.int IntKind.u32 0, Value.int IntKind.u32 0, Value.int IntKind.u32 0, Value.int IntKind.u32 0, Value.int IntKind.u32 0, Value.int IntKind.u32 0, Value.int IntKind.u32 0, Value.int IntKind.u32 0, Value.int IntKind.u32 0, Value.int IntKind.u32 0, Value.int IntKind.u32 0, Value.int IntKind.u32 0, Value.int IntKind.u32 0, Value.int IntKind.u32 0, Value.int IntKind.u32 0, Value.int IntKind.u32 0, Value.int IntKind.u32 0, Value.int IntKind.u32 0, Value.int IntKind.u32 0, Value.int IntKind.u32 0, Value.int IntKind.u32 0, Value.int IntKind.u32 0, Value.int IntKind.u32 0, Value.int IntKind.u32 0, Value.int IntKind.u32 0, Value.int IntKind.u32 0, Value.int IntKind.u32 0, Value.int IntKind.u32 0, Value.int IntKind.u32 0, Value.int IntKind.u32 0, Value.int IntKind.u32 0, Value.int IntKind.u32 0, Value.int IntKind.u32 0, Value.int IntKind.u32 0, Value.int IntKind.u32 0, Value.int IntKind.u32 0, Value.int IntKind.u32 0, Value.int IntKind.u32 0, Value.int IntKind.u32 0, Value.int IntKind.u32 0, Value.int IntKind.u32 0, Value.int IntKind.u32 0, Value.int IntKind.u32 0] 26)).setRow v.heap.size HH).setRow (v.heap.size + 1) KK) = keptB v) := by rw [hHH, hKK]; exact fun v => rfl
  have HWD : Hid (∀ v : World, Calls Tryd.prog 16 #[] v fun e w' => e = .returned (.tuple #[.agg HH, .agg KK]) ∧ Chg none v w') := by rw [hHH, hKK]; exact fun v => words_any v
  have HHH := Lib.hid hHH
  have HKK := Lib.hid hKK
  clear hHH hKK
  clear hn hD hDl hqe hT hp hA h1000
  go_enter Tryd.func3, Tryd.ntmps3
  go_wp2_with (at_builtin; refine wpList_append_any _ rfl (.tmp 10) (.tmp 11) 22 rfl w.heap.size 5 i0 (.int .u8 0) 1 1 Tryd.underlying22 hi hz0 hz1 hz2 rfl (by decide) _ 0 (byteVals []) rfl HOWN.out _ A0 n c0 (byteVals m) rfl HR.out HO.out (by unfold maxLen; omega) (by omega) gE.size ?_)
  intro v1 w1 hown1 hgr1 _
  have g1 := own_chg gE HOWN.out (Nat.le_refl _) hgr1
  have e1 : byteVals [] ++ byteVals m = byteVals m := rfl
  rw [e1] at hown1
  obtain ⟨A1, c1, rfl⟩ := own_slice hown1
  obtain ⟨hA1, hnl, hc1⟩ := own_txt hown1
  have HA1 := Lib.hid hA1
  clear e1 hnl hown1 hgr1 HOWN HR HO hA1
  go_wp2_with fail
  refine (HWD.out w1).mono ?_
  rintro e w2 ⟨rfl, g2⟩
  have g02 := g1.trans g2
  have HA2 := Lib.hid (HA1.out.chg g2)
  clear HWD HA1 g1 g2 gE
  go_upto_region 5 with (first
    | (refine wpList_store_row rfl 25 _ _ rfl w2.heap.size HH rfl rfl 25 _ (HK4.out w2) HJ25.out HZ25.out HO25.out ?_)
    | (refine wpList_store_row rfl 26 _ _ rfl (w2.heap.size + 1) KK rfl rfl 26 _ (HK5.out w2) HJ26.out HZ26.out HO26.out ?_))
  rw [HKB.out w2]
  have b4 := kept_H w2
  have b5 := kept_K w2
  have gk := kept_chg w2
  have g03 := g02.trans gk
  have HA3 := Lib.hid (HA2.out.chg gk)
  have HB3 := Lib.hid (HA.out.chg g03)
  clear HK4 HK5 HKB HJ25 HJ26 HO25 HO26 HZ25 HZ26 HA2 g02
  generalize keptB w2 = w3 at *
  generalize w2.heap.size + 1 = q5 at *
  generalize w2.heap.size = q4 at *
  have hS0 : w3.drew.rangeAt q4 0 (H0.map u32v) ∧ w3.drew.rangeAt q5 0 (K0.map u32v) ∧ Txt w3.drew A1 m ∧ Txt w3.drew A0 m := ⟨Blk.range (w := w3.drew) (T := 25) b4, Blk.range (w := w3.drew) (T := 26) b5, HA3.out, HB3.out⟩
  have gw : Chg none w w3.drew := g03.drew
  have HSM : Hid (∀ v, Chg none w3.drew v → Calls Tryd.prog 17 #[.slice A1 n c1] v fun e w' => e = .returned (.agg (byteVals D).toArray) ∧ Chg none v w') := fun v g => by
    have h := sum_any A1 m c1 v (hS0.2.2.1.chg g) (by rw [← HN.out]; exact hc1) (by rw [← HN.out]; omega) (HT.out.chg (gw.trans g) (by simp))
    rw [← HN.out, ← HD.out] at h
    exact h
  have HSR : Hid (∀ v, Chg none w3.drew v → Calls Tryd.prog 18 #[.agg HH, .agg KK, .slice A0 n c0] v fun e w' => e = .returned (.agg (byteVals D).toArray) ∧ Chg none v w') := fun v g => by
    have h := sumr_any ⟨A0, m, c0⟩ v ⟨hS0.2.2.2.chg g, by rw [← HN.out]; exact hcp⟩ (by show m.length ≤ 1000000; rw [← HN.out]; omega)
    rw [← HHH.out, ← HKK.out] at h
    dsimp only at h
    rw [← HN.out, ← HD.out] at h
    exact h
  have HKN : Hid (∀ v, Chg none w3.drew v → Calls Tryd.prog 15 #[] v fun e w' => e = .returned (.bool true) ∧ Chg none v w') := fun v g => known_any v (HT.out.chg (gw.trans g) (by simp))
  have E0 : Chg none w3.drew w3.drew := Chg.refl _ _
  have hqe := HQE.out
  have hg30 := guard30
  have HCA : Hid (∀ v, Txt v A1 m → (convert 22 9 (.slice A1 n c1)).run Tryd.prog v = .ok (.string ⟨m.toArray⟩) v) := fun v h => by
    have := txt_reads h
    rw [← HN.out] at this
    exact conv_reads v this
  have HCB : Hid (∀ v, Txt v A0 m → (convert 22 9 (.slice A0 n c0)).run Tryd.prog v = .ok (.string ⟨m.toArray⟩) v) := fun v h => by
    have := txt_reads h
    rw [← HN.out] at this
    exact conv_reads v this
  clear HQE HA3 HB3 HA g03 gk b4 b5 HT HD
  refine wp_region_held_drew (S := fun w' => w'.rangeAt q4 0 (H0.map u32v) ∧ w'.rangeAt q5 0 (K0.map u32v) ∧ Txt w' A1 m ∧ Txt w' A0 m) (by kernel_rfl) hS0 (fun _ => ?_)
  generalize w3.drew = v0 at *
  refine wpAnyH_take (i := 0) (oi := ⟨some 17, _, _, _, _, _⟩) (v := ?_) rfl (by kernel_rfl) (by kernel_rfl) (by kernel_rfl) (fun _ _ _ h => h) (Or.inl ⟨by rfl, ?_⟩) (by assumption) ?_
  rotate_left
  · intro w hSw; (try dsimp only at hSw); go_simp; (try with_reducible rfl)
  try simp only [Act.put, List.setIfInBounds_toArray, List.set_cons_zero, List.set_cons_succ]
  refine wpAnyH_take (i := 2) (oi := ⟨some 19, _, _, _, _, _⟩) (v := .agg HH) rfl (by kernel_rfl) (by kernel_rfl) (by kernel_rfl) (fun _ _ _ h => h) (by rw [HHH.out]; exact yieldsIf_load_mid (by rfl) 25 _ rfl q4 0 rfl (H0.map u32v) _ (fun _ h => h.1) Tryd.underlying25 rfl HI25.out) (by assumption) ?_
  try simp only [Act.put, List.setIfInBounds_toArray, List.set_cons_zero, List.set_cons_succ]
  refine wpAnyH_take (i := 3) (oi := ⟨some 20, _, _, _, _, _⟩) (v := .agg KK) rfl (by kernel_rfl) (by kernel_rfl) (by kernel_rfl) (fun _ _ _ h => h) (by rw [HKK.out]; exact yieldsIf_load_mid (by rfl) 26 _ rfl q5 0 rfl (K0.map u32v) _ (fun _ h => h.2.1) Tryd.underlying26 rfl HI26.out) (by assumption) ?_
  try simp only [Act.put, List.setIfInBounds_toArray, List.set_cons_zero, List.set_cons_succ]
  refine wpAnyH_take (i := 4) (oi := ⟨some 21, _, _, _, _, _⟩) (v := ?_) rfl (by kernel_rfl) (by kernel_rfl) (by kernel_rfl) (fun _ _ _ h => h) (Or.inl ⟨by rfl, ?_⟩) (by assumption) ?_
  rotate_left
  · intro w hSw; (try dsimp only at hSw); go_simp; (try with_reducible rfl)
  try simp only [Act.put, List.setIfInBounds_toArray, List.set_cons_zero, List.set_cons_succ]
  refine wpAnyH_ready (rs := [1]) (by kernel_rfl) (by simp) ?_
  refine AllReadyH.cons (o := ⟨some 18, _, _, _, _, _⟩) rfl (fun K hK => ?_) (AllReadyH.nil)
  go_simp
  go_at_call 17
  refine (HSM.out _ E0).mono ?_
  rintro e v1 ⟨rfl, g1⟩
  have E1 := E0.trans g1
  have hS1 := sums_chg hS0 g1
  go_wp2_with fail
  refine hK.out _ _ hS1 (fun _ => ?_)
  clear hK K
  try simp only [Act.put, List.setIfInBounds_toArray, List.set_cons_zero, List.set_cons_succ]
  refine wpAnyH_ready (rs := [5]) (by kernel_rfl) (by simp) ?_
  refine AllReadyH.cons (o := ⟨some 22, _, _, _, _, _⟩) rfl (fun K hK => ?_) (AllReadyH.nil)
  go_simp
  go_at_call 18
  refine (HSR.out _ E1).mono ?_
  rintro e v2 ⟨rfl, g2⟩
  have E2 := E1.trans g2
  have hS2 := sums_chg hS1 g2
  go_wp2_with fail
  refine hK.out _ _ hS2 (fun _ => ?_)
  clear hK K
  try simp only [Act.put, List.setIfInBounds_toArray, List.set_cons_zero, List.set_cons_succ]
  refine wpAnyH_take (i := 6) (oi := ⟨some 23, _, _, _, _, _⟩) (v := ?_) rfl (by kernel_rfl) (by kernel_rfl) (by kernel_rfl) (fun _ _ _ h => h) (Or.inl ⟨by rfl, ?_⟩) (by assumption) ?_
  rotate_left
  · intro w hSw; (try dsimp only at hSw); go_simp; (try with_reducible rfl)
  try simp only [Act.put, List.setIfInBounds_toArray, List.set_cons_zero, List.set_cons_succ]
  refine wpAnyH_take (i := 7) (oi := ⟨some 24, _, _, _, _, _⟩) (v := ?_) rfl (by kernel_rfl) (by kernel_rfl) (by kernel_rfl) (fun _ _ _ h => h) (Or.inl ⟨by rfl, ?_⟩) (by assumption) ?_
  rotate_left
  · intro w hSw; (try dsimp only at hSw); go_simp; (try with_reducible rfl)
  try simp only [Act.put, List.setIfInBounds_toArray, List.set_cons_zero, List.set_cons_succ]
  refine wpAnyH_take (i := 8) (oi := ⟨some 25, _, _, _, _, _⟩) (v := ?_) rfl (by kernel_rfl) (by kernel_rfl) (by kernel_rfl) (fun _ _ _ h => h) (Or.inl ⟨by rfl, ?_⟩) (by assumption) ?_
  rotate_left
  · intro w hSw; (try dsimp only at hSw); go_simp; (try with_reducible rfl)
  try simp only [Act.put, List.setIfInBounds_toArray, List.set_cons_zero, List.set_cons_succ]
  refine wpAnyH_take (i := 9) (oi := ⟨some 26, _, _, _, _, _⟩) (v := .string ⟨m.toArray⟩) rfl (by kernel_rfl) (by kernel_rfl) (by kernel_rfl) (fun _ _ _ h => h) (Or.inl ⟨by rfl, ?_⟩) (by assumption) ?_
  · intro w hSw; (try dsimp only at hSw); have hcv := HCA.out w hSw.2.2.1; clear hSw; go_simp; (try with_reducible rfl)
  try simp only [Act.put, List.setIfInBounds_toArray, List.set_cons_zero, List.set_cons_succ]
  refine wpAnyH_take (i := 10) (oi := ⟨some 27, _, _, _, _, _⟩) (v := ?_) rfl (by kernel_rfl) (by kernel_rfl) (by kernel_rfl) (fun _ _ _ h => h) (Or.inl ⟨by rfl, ?_⟩) (by assumption) ?_
  rotate_left
  · intro w hSw; (try dsimp only at hSw); go_simp; (try with_reducible rfl)
  try simp only [Act.put, List.setIfInBounds_toArray, List.set_cons_zero, List.set_cons_succ]
  refine wpAnyH_take (i := 11) (oi := ⟨some 28, _, _, _, _, _⟩) (v := .string ⟨m.toArray⟩) rfl (by kernel_rfl) (by kernel_rfl) (by kernel_rfl) (fun _ _ _ h => h) (Or.inl ⟨by rfl, ?_⟩) (by assumption) ?_
  · intro w hSw; (try dsimp only at hSw); have hcv := HCB.out w hSw.2.2.2; clear hSw; go_simp; (try with_reducible rfl)
  try simp only [Act.put, List.setIfInBounds_toArray, List.set_cons_zero, List.set_cons_succ]
  refine wpAnyH_take (i := 12) (oi := ⟨some 29, _, _, _, _, _⟩) (v := ?_) rfl (by kernel_rfl) (by kernel_rfl) (by kernel_rfl) (fun _ _ _ h => h) (Or.inl ⟨by rfl, ?_⟩) (by assumption) ?_
  rotate_left
  · intro w hSw; (try dsimp only at hSw); go_simp; (try with_reducible rfl)
  try simp only [Act.put, List.setIfInBounds_toArray, List.set_cons_zero, List.set_cons_succ]
  refine wpAnyH_take (i := 13) (oi := ⟨some 30, _, _, _, _, _⟩) (v := ?_) rfl (by kernel_rfl) (by kernel_rfl) (by kernel_rfl) (fun _ _ _ h => h) (Or.inl ⟨by rfl, ?_⟩) (by assumption) ?_
  rotate_left
  · intro w hSw; (try dsimp only at hSw); go_simp; (try with_reducible rfl)
  try simp only [Act.put, List.setIfInBounds_toArray, List.set_cons_zero, List.set_cons_succ]
  refine wpAnyH_take (i := 14) (oi := ⟨some 31, _, _, _, _, _⟩) (v := ?_) rfl (by kernel_rfl) (by kernel_rfl) (by kernel_rfl) (fun _ _ _ h => h) (Or.inl ⟨by rfl, ?_⟩) (by assumption) ?_
  rotate_left
  · intro w hSw; (try dsimp only at hSw); go_simp; (try with_reducible rfl)
  try simp only [Act.put, List.setIfInBounds_toArray, List.set_cons_zero, List.set_cons_succ]
  refine wpAnyH_ready (rs := [15]) (by kernel_rfl) (by simp) ?_
  refine AllReadyH.cons (o := ⟨some 32, _, _, _, _, _⟩) rfl (fun K hK => ?_) (AllReadyH.nil)
  go_simp
  go_at_call 15
  refine (HKN.out _ E2).mono ?_
  rintro e v3 ⟨rfl, g3⟩
  have E3 := E2.trans g3
  have hS3 := sums_chg hS2 g3
  go_wp2_with fail
  refine hK.out _ _ hS3 (fun _ => ?_)
  clear hK K
  try simp only [Act.put, List.setIfInBounds_toArray, List.set_cons_zero, List.set_cons_succ]
  refine wpAnyH_take (i := 16) (oi := ⟨some 33, _, _, _, _, _⟩) (v := ?_) rfl (by kernel_rfl) (by kernel_rfl) (by kernel_rfl) (fun _ _ _ h => h) (Or.inl ⟨by rfl, ?_⟩) (by assumption) ?_
  rotate_left
  · intro w hSw; (try dsimp only at hSw); go_simp; (try with_reducible rfl)
  try simp only [Act.put, List.setIfInBounds_toArray, List.set_cons_zero, List.set_cons_succ]
  refine wpAnyH_take (i := 17) (oi := ⟨some 2, _, _, _, _, _⟩) (v := ?_) rfl (by kernel_rfl) (by kernel_rfl) (by kernel_rfl) (fun _ _ _ h => h) (Or.inl ⟨by rfl, ?_⟩) (by assumption) ?_
  rotate_left
  · intro w hSw; (try dsimp only at hSw); go_simp; (try with_reducible rfl)
  try simp only [Act.put, List.setIfInBounds_toArray, List.set_cons_zero, List.set_cons_succ]
  refine wpAnyH_done (by kernel_rfl) ?_ _
  go_wp2_with fail
  go_ret
  exact ⟨rfl, gw.trans E3⟩

end Go.Proofs.YtdkgecphkppglaaDoor
