/-
  JournalReads: the walk.
-/
import Derived.Test.YthkghjkgmfjmoaaDoorJI
namespace Go.Proofs.YthkghjkgmfjmoaaDoor
open Go.RowKit

/-- The first rows may have been written to; nothing else has. -/
structure ModAt (W : World) (xs : List RecE) (i : Nat) (V : World) : Prop where
  os : V.os = W.os
  tape : V.tape = W.tape
  output : V.output = W.output
  size : W.heap.size ≤ V.heap.size
  rest : ∀ k, k < W.heap.size → (∀ r ∈ xs.take i, r.val.ownBlock ≠ some k) → V.heap[k]? = W.heap[k]?
theorem ModAt.refl (W : World) (xs : List RecE) (i : Nat) : ModAt W xs i W := ⟨rfl, rfl, rfl, Nat.le_refl _, fun _ _ _ => rfl⟩
theorem ModAt.on {W V V' : World} {xs : List RecE} {i : Nat} (h : ModAt W xs i V) (g : Chg none V V') : ModAt W xs i V' :=
  ⟨g.os.trans h.os, g.tape.trans h.tape, g.output.trans h.output, Nat.le_trans h.size g.size, fun k hk hn => (g.block k (Nat.lt_of_lt_of_le hk h.size) (by simp)).trans (h.rest k hk hn)⟩
theorem ModAt.more {W V : World} {xs : List RecE} {i j : Nat} (h : ModAt W xs i V) (hij : i ≤ j) : ModAt W xs j V :=
  ⟨h.os, h.tape, h.output, h.size, fun k hk hn => h.rest k hk fun r hr => hn r (List.take_subset_take_left xs hij hr)⟩
theorem ModAt.own {W V : World} {xs : List RecE} {i B e size n : Nat} {v : Value} {zs : List Value} (m : ModAt W xs i V) (h : W.ownsRow B e size v n zs) (hne : ∀ r ∈ xs.take i, ∀ k, r.val.ownBlock = some k → v.ownBlock ≠ some k) : V.ownsRow B e size v n zs :=
  ⟨h.1, h.2.elim .inl fun ⟨g, cap, cur, h1, h2, h3, h4⟩ => .inr ⟨g, cap, cur, h1, h2, (m.rest g (Array.getElem?_eq_some_iff.1 h3).1 fun r hr hk => hne r hr g hk (by rw [h1]; rfl)).trans h3, h4⟩⟩
theorem ModAt.old {W V U : World} {xs : List RecE} {i : Nat} (m : ModAt W xs i V) (g : Chg none U W) (hlow : ∀ r ∈ xs.take i, ∀ k, r.val.ownBlock = some k → U.heap.size ≤ k) : Chg none U V :=
  ⟨m.os.trans g.os, m.tape.trans g.tape, m.output.trans g.output, Nat.le_trans g.size m.size, fun k hk _ => (m.rest k (Nat.lt_of_lt_of_le hk g.size) fun r hr h => by have := hlow r hr k h; omega).trans (g.block k hk (by simp))⟩
theorem ModAt.set {W V : World} {xs : List RecE} {i g : Nat} (h : ModAt W xs i V) (hr : ∃ r ∈ xs.take i, r.val.ownBlock = some g) (k : Nat) (v : Value) : ModAt W xs i (V.setCell ⟨g, k, none⟩ v) := by
  obtain ⟨r, hm, hg⟩ := hr
  refine ⟨h.os, h.tape, h.output, by simp [World.setCell]; exact h.size, fun j hj hn => (Below.heap_setCell V ⟨g, k, none⟩ v j (fun e => ?_)).trans (h.rest j hj hn)⟩
  have e : j = g := e
  exact hn r hm (by rw [e]; exact hg)

/-- A row that is being written to: from k on it is as it was. -/
structure RowFrom (x : List UInt8) (g k : Nat) (V : World) : Prop where
  at_ : ∃ cs : Array Value, Blk V g cs 5 ∧ x.length ≤ cs.size ∧ ∀ j c, k ≤ j → x[j]? = some c → cs[j]? = some (.int .u8 c.toNat)

theorem RowFrom.set {x : List UInt8} {g k : Nat} {V : World} (h : RowFrom x g k V) (v : Value) : RowFrom x g (k + 1) (V.setCell ⟨g, k, none⟩ v) := by
  obtain ⟨cs, hb, hs, hc⟩ := h.at_
  refine ⟨_, hb.set k v, by rw [Array.size_setIfInBounds]; exact hs, fun j c hj hx => ?_⟩
  rw [Array.getElem?_setIfInBounds_ne (by omega)]
  exact hc j c (by omega) hx
theorem RowFrom.first {x : List UInt8} {g B n c : Nat} {A : Option Addr} {V : World} (h : V.ownsRow B 5 1 (.slice A n c) x.length (byteVals x)) (hg : (Value.slice A n c).ownBlock = some g) : RowFrom x g 0 V := by
  have hcell := h.cells (g := g) hg
  rcases h.2 with ⟨e, _⟩ | ⟨g', cap, cur, e, _, hh, _⟩
  · rw [e] at hg; cases hg
  · have e' : g' = g := by rw [e] at hg; injection hg
    subst e'
    have hb : Blk V g' cur 5 := hh
    have hat : ∀ (j : Nat) (d : UInt8), x[j]? = some d → cur[j]? = some (Value.int .u8 d.toNat) := fun j d hj => by
      have := hcell j _ (byteVals_get hj)
      rw [Go.WideShapes.add_plain, Nat.zero_add, hb.cell] at this
      exact this
    refine ⟨cur, hb, ?_, fun j d _ hj => hat j d hj⟩
    rcases Nat.eq_zero_or_pos x.length with h0 | h0
    · omega
    · have := (Array.getElem?_eq_some_iff.1 (hat (x.length - 1) (x[x.length - 1]'(by omega)) (List.getElem?_eq_getElem (by omega)))).1
      omega
theorem row_block {B : Nat} {r : RecE} {V : World} (h : V.ownsRow B 5 1 r.val r.x.length (byteVals r.x)) (h0 : 0 < r.x.length) : ∃ g, r.A = some ⟨g, 0, none⟩ ∧ r.val.ownBlock = some g := by
  rcases h.2 with ⟨_, e⟩ | ⟨g, cap, cur, e, _⟩
  · omega
  · refine ⟨g, ?_, by rw [e]; rfl⟩
    unfold RecE.val at e
    injection e

set_option maxRecDepth 100000 in
set_option maxHeartbeats 32000000 in
theorem reads_law (p : Prt) (w : World) (hp : p.ok w) (hpm : p.c ≤ 9223372036854775807) (hT : Tabs w) :
    Calls Tryd.prog 7 #[.slice p.A p.x.length p.c] w fun e w' => e = .returned (.bool true) ∧ Chg none w w' := by
  obtain ⟨i0, hi, hz0, hz1, hz2⟩ := info_parts Tryd.info5
  have hpl : p.x.length ≤ 9223372036854775807 := by have := hp.2; omega
  have HKN : Hid (∀ v, Chg none w v → Calls Tryd.prog 16 #[] v fun e w' => e = .returned (.bool true) ∧ Chg none v w') := fun v g => known11_any v (hT.chg g (by simp))
  by_cases h1 : 20000 < p.x.length
  · have d1 : decide ((20000 : Int) < (p.x.length : Int)) = true := by rw [decide_eq_true_eq]; omega
    have HK := Lib.hid (HKN.out w (Chg.refl _ _))
    clear HKN hT hp
    go_enter Tryd.func7, Tryd.ntmps7
    go_wp2_with fail
    refine HK.out.mono ?_
    rintro e w1 ⟨rfl, g1⟩
    go_wp2_with fail
    go_ret
    exact ⟨rfl, g1⟩
  have d1 : decide ((20000 : Int) < (p.x.length : Int)) = false := by rw [decide_eq_false_iff_not]; omega
  have gE : Chg none w (w.alloc (.cells #[] 5 (0, 0))) := (Chg.refl _ _).alloc _
  have HE := Lib.hid (own_emptyR w w.heap.size (Nat.le_refl _))
  have HRX := Lib.hid (txt_reads (hp.1.chg gE))
  have HOX := Lib.hid (byteVals_one p.x)
  have HTT : Hid (∀ v, Chg none w v → Tabs v) := fun v g => hT.chg g (by simp)
  have HPO : Hid (∀ v, Chg none w v → p.ok v) := fun v g => hp.chg g
  have HSE := Lib.hid gE.size
  have HGE := Lib.hid gE
  have HCZ : Hid (byteVals [] ++ byteVals p.x = byteVals p.x) := rfl
  have hfew := readJ_few p.x _ 0 (Nat.le_refl _) (Nat.zero_le _)
  have HFEW := Lib.hid hfew
  have HNE := Lib.hid (fun v : World => newr_any v)
  clear hT hp gE hfew
  go_enter Tryd.func7, Tryd.ntmps7
  go_wp2_with (at_builtin; refine wpList_append_any _ rfl (.tmp 14) (.tmp 15) 22 rfl w.heap.size 5 i0 (.int .u8 0) 1 1 Tryd.underlying22 hi hz0 hz1 hz2 rfl (by decide) _ 0 (byteVals []) rfl HE.out _ p.A p.x.length p.c (byteVals p.x) rfl HRX.out HOX.out (by unfold maxLen; omega) (by omega) HSE.out ?_)
  intro v1 w1 hown1 hgr1 _
  have g1 : Chg none w w1 := own_chg HGE.out HE.out (Nat.le_refl _) hgr1
  obtain ⟨A1, c1, rfl⟩ := own_slice hown1
  rw [HCZ.out] at hown1
  try simp only [Nat.zero_add] at hown1
  have hT1 := own_txt hown1
  have HI1 := Lib.hid hown1
  have HR1 : Hid (Calls Tryd.prog 21 #[.slice A1 p.x.length c1] w1 (ReadTold w1 p.x)) := readj_any ⟨A1, p.x, c1⟩ w1 ⟨hT1.1, hT1.2.2⟩ (by show p.x.length ≤ 400000; omega) (HTT.out w1 g1)
  clear hown1 hgr1 HE HRX HOX HSE HGE hT1 HCZ
  try simp only [Nat.zero_add]
  go_wp2_with fail
  refine HR1.out.mono ?_
  rintro e w2 ⟨xs, AL, cL, rfl, hl2, hgot2, g2⟩
  have G2 := g1.trans g2
  have HL2 := Lib.hid hl2
  have HGOT2 := Lib.hid hgot2
  clear hl2 hgot2 HR1
  generalize hKK : (readJ p.x 0).2 = KK at *
  go_wp2_with fail
  refine (HNE.out _).mono ?_
  rintro e w3 ⟨px, rfl, hh, g3⟩
  have G3 := G2.trans g3
  have HR3 := Lib.hid (refread_any px p w3 hh (HPO.out w3 G3) (by omega))
  clear hh HNE
  go_wp2_with fail
  refine HR3.out.mono ?_
  rintro e w4 ⟨ys, AM, cM, rfl, hl4, hgot4, g4⟩
  have G4 := G3.trans g4
  have hxy : xs.map (·.x) = ys.map (·.x) := by rw [HGOT2.out.all, hgot4.all]
  have hlen : ys.length = xs.length := by
    have h := congrArg List.length hxy
    rw [List.length_map, List.length_map] at h
    exact h.symm
  have hxl : xs.length ≤ 20000 := by
    have h := congrArg List.length HGOT2.out.all
    rw [List.length_map] at h
    have := HFEW.out.1
    omega
  rw [hKK]
  have hrow : ∀ r ∈ xs, ∀ k, r.val.ownBlock = some k → w1.heap.size ≤ k ∧ k < w2.heap.size := fun r hr k hk => (HGOT2.out.own r hr).lt k hk
  have hsub : ∀ i, ∀ r ∈ xs.take i, r ∈ xs := fun i r hr => List.mem_of_mem_take hr
  have HLL : Hid (∀ i v, ModAt w4 xs i v → v.ownsRow w1.heap.size 22 1 (.slice AL xs.length cL) xs.length (xs.map RecE.val)) := fun i v m => m.own (own_on (own_on HL2.out g3) g4) fun r hr k hk e => by
    rcases own_blk_ne (HGOT2.out.own r (hsub i r hr)) HL2.out (by decide) with h | h
    · rw [h] at hk; cases hk
    · exact h (hk.trans e.symm)
  have HLR : Hid (∀ i v, ModAt w4 xs i v → ∀ j, i ≤ j → ∀ (hj : j < xs.length), v.ownsRow w1.heap.size 5 1 (xs[j]).val (xs[j]).x.length (byteVals (xs[j]).x)) := fun i v m j hij hj => m.own (own_on (own_on (HGOT2.out.own _ (List.getElem_mem hj)) g3) g4) fun r hr k hk e => by
    obtain ⟨a, ha, rfl⟩ := List.mem_iff_getElem.1 hr
    rw [List.length_take] at ha
    rw [List.getElem_take] at hk
    have := List.pairwise_iff_getElem.1 HGOT2.out.rise a j (by omega) hj (by omega) k k hk e
    omega
  have HML : Hid (∀ i v, ModAt w4 xs i v → v.ownsRow w3.heap.size 22 1 (.slice AM ys.length cM) ys.length (ys.map RecE.val)) := fun i v m => m.own hl4 fun r hr k hk e => by
    have h1 := (hrow r (hsub i r hr) k hk).2
    have h2 := (hl4.lt k e).1
    have := g3.size
    omega
  have HMR : Hid (∀ i v, ModAt w4 xs i v → ∀ r ∈ ys, v.ownsRow w3.heap.size 5 1 r.val r.x.length (byteVals r.x)) := fun i v m s hs => m.own (hgot4.own s hs) fun r hr k hk e => by
    have h1 := (hrow r (hsub i r hr) k hk).2
    have h2 := ((hgot4.own s hs).lt k e).1
    have := g3.size
    omega
  have HIN : Hid (∀ i v, ModAt w4 xs i v → v.ownsRow w.heap.size 5 1 (.slice A1 p.x.length c1) p.x.length (byteVals p.x)) := fun i v m => m.own (own_on (own_on (own_on HI1.out g2) g3) g4) fun r hr k hk e => by
    have h1 := (hrow r (hsub i r hr) k hk).1
    have h2 := (HI1.out.lt k e).2
    omega
  have HCH : Hid (∀ i v, ModAt w4 xs i v → Chg none w v) := fun i v m => m.old G4 fun r hr k hk => by
    have h1 := (hrow r (hsub i r hr) k hk).1
    have := g1.size
    omega
  have HXY := Lib.hid hxy
  have HLEN := Lib.hid hlen
  clear hl4 hgot4 hxy hrow hsub HL2 HI1 HR3 g1 g2 g3 g4 G2 G3 HFEW HTT hKK
  have hlenI : ((ys.length : Nat) : Int) = (xs.length : Int) := by rw [HLEN.out]
  clear hlen
  go_wp2_with fail
  go_loopw [40] (fun s40 wr => ∃ i : Nat, i ≤ xs.length ∧ s40 = .int .i64 i ∧ ModAt w4 xs i wr) (fun s40 _ => xs.length - (intOf s40).toNat)
  case atStart => exact ⟨0, Nat.zero_le _, rfl, ModAt.refl _ _ _⟩
  case round =>
    obtain ⟨i, him, rfl, hM⟩ := hrel
    by_cases hlt : i < xs.length
    · have hd : decide ((i : Int) < (xs.length : Int)) = true := by rw [decide_eq_true_eq]; omega
      have hr : xs[i]? = some xs[i] := List.getElem?_eq_getElem hlt
      have hltm : i < ys.length := by rw [HLEN.out]; exact hlt
      have hrm : ys[i]? = some ys[i] := List.getElem?_eq_getElem hltm
      have hMd := hM.on (Chg.refl none wr).drew
      obtain ⟨gl, hAL, _⟩ := list_at (HLL.out i wr hM) hr
      have HLC : Hid (∀ i' v, ModAt w4 xs i' v → v.cell? ⟨gl, i, none⟩ = some (xs[i]).val) := fun i' v m => by
        obtain ⟨g, h1, h2⟩ := list_at (HLL.out i' v m) hr
        rw [hAL] at h1
        injection h1 with h1
        injection h1 with h1
        rw [h1]; exact h2
      obtain ⟨gm, hAM, hcm⟩ := list_at (HML.out i wr.drew hMd) hrm
      have hrowi := HLR.out i wr hM i (Nat.le_refl _) hlt
      have hcl := HLC.out i wr.drew hMd
      have hcv1 := conv_reads (c := (xs[i]).c) wr.drew (txt_reads (own_txt (HLR.out i wr.drew hMd i (Nat.le_refl _) hlt)).1)
      have hcv2 := conv_reads (c := (ys[i]).c) wr.drew (txt_reads (own_txt (HMR.out i wr.drew hMd _ (List.getElem_mem hltm))).1)
      have hx : (xs.map (·.x))[i]? = (ys.map (·.x))[i]? := by rw [HXY.out]
      rw [List.getElem?_map, List.getElem?_map, hr, hrm] at hx
      have hxe : (xs[i]).x = (ys[i]).x := by injection hx
      have hown : ∀ (k : Nat), (xs[i]).val.ownBlock = some k → ∃ r ∈ xs.take (i + 1), r.val.ownBlock = some k := fun k hk => ⟨xs[i], by rw [List.take_succ_eq_append_getElem hlt]; exact List.mem_append_right _ (List.mem_singleton.2 rfl), hk⟩
      have HRW := Lib.hid hrowi
      have HOWN := Lib.hid hown
      unfold RecE.val at hcl hcm
      have hxl2 : (xs[i]).x.length ≤ 9223372036854775807 := by
        rcases hrowi.2 with ⟨_, h0⟩ | ⟨g, cap, cur, h, _, _, h4, h5, _⟩
        · omega
        · have := h5; unfold maxLen at this; omega
      generalize xs[i] = r at *
      generalize ys[i] = s at *
      subst hAL hAM
      have hcv2' : (convert 22 9 (.slice s.A s.x.length s.c)).run Tryd.prog wr.drew = .ok (.string ⟨r.x.toArray⟩) wr.drew := by rw [hcv2, hxe]
      have HM := Lib.hid hM
      clear hr hrm hx hxe hcv2 hMd hrowi hown hM
      go_upto_region 11 with fail
      refine wp_region_held_drew (S := fun v => v = wr.drew) (by kernel_rfl) rfl (fun _ => ?_)
      refine wpAnyH_take (i := 0) (oi := ⟨some 43, _, _, _, _, _⟩) (v := ?_) rfl (by kernel_rfl) (by kernel_rfl) (by kernel_rfl) (fun _ _ _ h => h) (Or.inl ⟨by rfl, ?_⟩) (by assumption) ?_
      rotate_left
      · intro w hSw; (try dsimp only at hSw); go_simp; (try with_reducible rfl)
      try simp only [Act.put, List.setIfInBounds_toArray, List.set_cons_zero, List.set_cons_succ]
      refine wpAnyH_take (i := 1) (oi := ⟨some 44, _, _, _, _, _⟩) (v := ?_) rfl (by kernel_rfl) (by kernel_rfl) (by kernel_rfl) (fun _ _ _ h => h) (Or.inl ⟨by rfl, ?_⟩) (by assumption) ?_
      rotate_left
      · intro w hSw; (try dsimp only at hSw); go_simp; (try with_reducible rfl)
      try simp only [Act.put, List.setIfInBounds_toArray, List.set_cons_zero, List.set_cons_succ]
      refine wpAnyH_take (i := 2) (oi := ⟨some 45, _, _, _, _, _⟩) (v := .pointer (some ⟨gl, i, none⟩)) rfl (by kernel_rfl) (by kernel_rfl) (by kernel_rfl) (fun _ _ _ h => h) (Or.inl ⟨by rfl, ?_⟩) (by assumption) ?_
      · intro v hSv; subst hSv; go_simp
      try simp only [Act.put, List.setIfInBounds_toArray, List.set_cons_zero, List.set_cons_succ]
      refine wpAnyH_take (i := 3) (oi := ⟨some 46, _, _, _, _, _⟩) (v := .slice r.A r.x.length r.c) rfl (by kernel_rfl) (by kernel_rfl) (by kernel_rfl) (fun _ _ _ h => h) (Or.inl ⟨by rfl, ?_⟩) (by assumption) ?_
      · intro v hSv; subst hSv; go_simp
      try simp only [Act.put, List.setIfInBounds_toArray, List.set_cons_zero, List.set_cons_succ]
      refine wpAnyH_take (i := 4) (oi := ⟨some 47, _, _, _, _, _⟩) (v := .string ⟨r.x.toArray⟩) rfl (by kernel_rfl) (by kernel_rfl) (by kernel_rfl) (fun _ _ _ h => h) (Or.inl ⟨by rfl, ?_⟩) (by assumption) ?_
      · intro v hSv; subst hSv; go_simp
      try simp only [Act.put, List.setIfInBounds_toArray, List.set_cons_zero, List.set_cons_succ]
      refine wpAnyH_take (i := 5) (oi := ⟨some 48, _, _, _, _, _⟩) (v := ?_) rfl (by kernel_rfl) (by kernel_rfl) (by kernel_rfl) (fun _ _ _ h => h) (Or.inl ⟨by rfl, ?_⟩) (by assumption) ?_
      rotate_left
      · intro w hSw; (try dsimp only at hSw); go_simp; (try with_reducible rfl)
      try simp only [Act.put, List.setIfInBounds_toArray, List.set_cons_zero, List.set_cons_succ]
      refine wpAnyH_take (i := 6) (oi := ⟨some 49, _, _, _, _, _⟩) (v := ?_) rfl (by kernel_rfl) (by kernel_rfl) (by kernel_rfl) (fun _ _ _ h => h) (Or.inl ⟨by rfl, ?_⟩) (by assumption) ?_
      rotate_left
      · intro w hSw; (try dsimp only at hSw); go_simp; (try with_reducible rfl)
      try simp only [Act.put, List.setIfInBounds_toArray, List.set_cons_zero, List.set_cons_succ]
      refine wpAnyH_take (i := 7) (oi := ⟨some 50, _, _, _, _, _⟩) (v := .pointer (some ⟨gm, i, none⟩)) rfl (by kernel_rfl) (by kernel_rfl) (by kernel_rfl) (fun _ _ _ h => h) (Or.inl ⟨by rfl, ?_⟩) (by assumption) ?_
      · intro v hSv; subst hSv; go_simp
      try simp only [Act.put, List.setIfInBounds_toArray, List.set_cons_zero, List.set_cons_succ]
      refine wpAnyH_take (i := 8) (oi := ⟨some 51, _, _, _, _, _⟩) (v := .slice s.A s.x.length s.c) rfl (by kernel_rfl) (by kernel_rfl) (by kernel_rfl) (fun _ _ _ h => h) (Or.inl ⟨by rfl, ?_⟩) (by assumption) ?_
      · intro v hSv; subst hSv; go_simp
      try simp only [Act.put, List.setIfInBounds_toArray, List.set_cons_zero, List.set_cons_succ]
      refine wpAnyH_take (i := 9) (oi := ⟨some 52, _, _, _, _, _⟩) (v := .string ⟨r.x.toArray⟩) rfl (by kernel_rfl) (by kernel_rfl) (by kernel_rfl) (fun _ _ _ h => h) (Or.inl ⟨by rfl, ?_⟩) (by assumption) ?_
      · intro v hSv; subst hSv; go_simp
      try simp only [Act.put, List.setIfInBounds_toArray, List.set_cons_zero, List.set_cons_succ]
      refine wpAnyH_take (i := 10) (oi := ⟨some 53, _, _, _, _, _⟩) (v := .bool false) rfl (by kernel_rfl) (by kernel_rfl) (by kernel_rfl) (fun _ _ _ h => h) (Or.inl ⟨by rfl, ?_⟩) (by assumption) ?_
      · intro v hSv; subst hSv; go_simp
      try simp only [Act.put, List.setIfInBounds_toArray, List.set_cons_zero, List.set_cons_succ]
      refine wpAnyH_done (by kernel_rfl) ?_ _
      try simp only [Act.put]
      obtain ⟨wo, hwo⟩ : ∃ wo : World, wo = wr.drew := ⟨_, rfl⟩
      have hM := HM.out.on (Chg.refl none wr).drew
      have hRW : wo.ownsRow w1.heap.size 5 1 r.val r.x.length (byteVals r.x) := by rw [hwo]; exact own_on HRW.out (Chg.refl none wr).drew
      rw [← hwo] at hM hcl ⊢
      clear hwo hcm hcv1 hcv2' HRW HM
      go_wp2_with fail
      have hM1 := hM.more (Nat.le_succ i)
      have hR0 : ∀ g, r.val.ownBlock = some g → RowFrom r.x g 0 wo := fun g hg => RowFrom.first hRW hg
      have HRB := Lib.hid (fun h0 => row_block hRW h0)
      have HM1 := Lib.hid hM1
      have HR0 := Lib.hid hR0
      clear hM hM1 hR0 hRW hcl
      obtain ⟨wq, rfl⟩ : ∃ wq : World, wq = wr := ⟨_, rfl⟩
      go_loopw [59] (fun s59 wr => ∃ k : Nat, k ≤ r.x.length ∧ s59 = .int .i64 k ∧ ModAt w4 xs (i + 1) wr ∧ Hid (∀ g, r.val.ownBlock = some g → RowFrom r.x g k wr)) (fun s59 _ => r.x.length - (intOf s59).toNat)
      case atStart => exact ⟨0, Nat.zero_le _, rfl, HM1.out, HR0⟩
      case round =>
        obtain ⟨k, hk, rfl, hM, HRF⟩ := hrel
        have hcl := HLC.out (i + 1) wr hM
        unfold RecE.val at hcl
        by_cases hlk : k < r.x.length
        · have hd2 : decide ((k : Int) < (r.x.length : Int)) = true := by rw [decide_eq_true_eq]; omega
          obtain ⟨g, hA, hg⟩ := HRB.out (by omega)
          obtain ⟨cs, hb, hsz, hcs⟩ := (HRF.out g hg).at_
          have hck := hcs k (r.x[k]) (Nat.le_refl _) (List.getElem?_eq_getElem hlk)
          have hc1 : wr.cell? ⟨g, k, none⟩ = some (.int .u8 (r.x[k]).toNat) := by rw [hb.cell]; exact hck
          have hf1 := hb.frozen k
          generalize (r.x[k]).toNat = z at *
          rw [hA] at hcl
          have HM := Lib.hid hM
          have HG := Lib.hid hg
          have HK : Hid (k < r.x.length ∧ r.x.length ≤ 9223372036854775807) := ⟨hlk, hxl2⟩
          clear hb hsz hcs hck hM hg hA
          go_wp2_with fail
          go_roundw
          case rel => exact ⟨k + 1, HK.out.1, by go_num, HM.out.set (HOWN.out g HG.out) _ _, Lib.hid fun g' hg' => by
            have e : g' = g := by have := hg'.symm.trans HG.out; injection this
            subst e
            exact (HRF.out g' hg').set _⟩
          case measure =>
            have := HK.out
            simp [intOf]; omega
        · have hd2 : decide ((k : Int) < (r.x.length : Int)) = false := by rw [decide_eq_false_iff_not]; omega
          have HM := Lib.hid hM
          have HI : Hid (i < xs.length ∧ xs.length ≤ 20000) := ⟨hlt, hxl⟩
          clear hM
          go_wp2_with fail
          go_roundw
          case rel => exact ⟨i + 1, HI.out.1, by go_num, HM.out⟩
          case measure =>
            have := HI.out
            simp [intOf]; omega
    · have hd : decide ((i : Int) < (xs.length : Int)) = false := by rw [decide_eq_false_iff_not]; omega
      have G5 := HCH.out i wr hM
      have hcv1 := conv_reads (c := c1) wr (txt_reads (own_txt (HIN.out i wr hM)).1)
      have hcv2 := conv_reads (c := p.c) wr (txt_reads (HPO.out wr G5).1)
      have HK := Lib.hid (HKN.out wr G5)
      clear hM
      go_wp2_with fail
      refine HK.out.mono ?_
      rintro e w7 ⟨rfl, g7⟩
      go_wp2_with fail
      go_ret
      exact ⟨rfl, G5.trans g7⟩

end Go.Proofs.YthkghjkgmfjmoaaDoor
