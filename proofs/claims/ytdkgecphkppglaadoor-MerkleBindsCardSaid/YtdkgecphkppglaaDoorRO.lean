/-
  The document's merkle: Check.
-/
import Derived.Test.YtdkgecphkppglaaDoorRN
namespace Go.Proofs.YtdkgecphkppglaaDoor
open Go.RowKit

theorem checkr_no1 (px : Nat) (root : Dg) (n i : Int) (p : Prt) (A : Option Addr) (m c : Nat) (w : World) (h : i < 0 ∨ n < 0 ∨ ∃ N k : Nat, n = N ∧ i = k ∧ N < 9223372036854775808 ∧ cntN N ≤ k) :
    Calls Tryd.prog 36 #[.pointer (some ⟨px, 0, none⟩), .agg (byteVals root.1).toArray, .int .i64 n, .int .i64 i, .slice p.A p.x.length p.c, .slice A m c] w fun e w' => e = .returned (.bool false) ∧ Chg none w w' := by
  have gA : Chg none w (w.alloc (.cells (byteVals root.1).toArray 30)) := (Chg.refl _ _).alloc _
  by_cases h1 : n < 0
  · have d1 : decide (n < 0) = true := by simpa using h1
    clear h
    go_enter Tryd.func36, Tryd.ntmps36
    go_wp2_with fail
    go_ret
    exact ⟨rfl, gA⟩
  have d1 : decide (n < 0) = false := by simpa using h1
  by_cases h2 : i < 0
  · have d2 : decide (i < 0) = true := by simpa using h2
    clear h
    go_enter Tryd.func36, Tryd.ntmps36
    go_wp2_with fail
    go_ret
    exact ⟨rfl, gA⟩
  have d2 : decide (i < 0) = false := by simpa using h2
  obtain ⟨N, k, rfl, rfl, hN, hk⟩ : ∃ N k : Nat, n = N ∧ i = k ∧ N < 9223372036854775808 ∧ cntN N ≤ k := by
    rcases h with h | h | h
    · exact absurd h h2
    · exact absurd h h1
    · exact h
  have HC := Lib.hid (fun v => countr_nat N hN v)
  have hle : ((cntN N : Nat) : Int) ≤ (k : Int) := by omega
  have d3 : decide ((k : Int) ≥ ((cntN N : Nat) : Int)) = true := by simpa using hle
  generalize cntN N = C at *
  clear h
  go_enter Tryd.func36, Tryd.ntmps36
  go_wp2_with fail
  refine (HC.out _).mono ?_
  rintro e w' ⟨rfl, rfl⟩
  go_wp2_with fail
  go_ret
  exact ⟨rfl, gA⟩

theorem checkr_no2 (px : Nat) (root : Dg) (N i : Nat) (p : Prt) (A : Option Addr) (m c : Nat) (w : World) (hN : N < 9223372036854775808) (hi : i < cntN N) (hl : p.x.length ≠ chunkN N i) :
    Calls Tryd.prog 36 #[.pointer (some ⟨px, 0, none⟩), .agg (byteVals root.1).toArray, .int .i64 N, .int .i64 i, .slice p.A p.x.length p.c, .slice A m c] w fun e w' => e = .returned (.bool false) ∧ Chg none w w' := by
  have gA : Chg none w (w.alloc (.cells (byteVals root.1).toArray 30)) := (Chg.refl _ _).alloc _
  have HC := Lib.hid (fun v => countr_nat N hN v)
  have HS := Lib.hid (fun v => sizer_nat N i hN (cnt_lo hi) v)
  have hlt : (i : Int) < ((cntN N : Nat) : Int) := by omega
  have t1 : ((p.x.length : Int) != (chunkN N i : Nat)) = true := by simp; omega
  generalize chunkN N i = cn at *
  generalize cntN N = C at *
  clear hi hl
  go_enter Tryd.func36, Tryd.ntmps36
  go_wp2_with fail
  refine (HC.out _).mono ?_
  rintro e w' ⟨rfl, rfl⟩
  go_wp2_with fail
  refine (HS.out _).mono ?_
  rintro e w' ⟨rfl, rfl⟩
  go_wp2_with fail
  go_ret
  exact ⟨rfl, gA⟩

theorem prts_get {w : World} {base n c : Nat} {A : Option Addr} {Lp : List Prt} (h : w.ownsRow base 22 1 (.slice A n c) n (Lp.map Prt.val)) (h0 : 1 ≤ n) :
    n = Lp.length ∧ ∃ g, A = some ⟨g, 0, none⟩ ∧ g < w.heap.size ∧ ∀ j r, Lp[j]? = some r → w.cell? ⟨g, j, none⟩ = some r.val := by
  have hl := h.1
  have hn : n = Lp.length := by rw [List.length_map] at hl; omega
  obtain ⟨g, cap, hv, _, hlt⟩ := h.form (by omega)
  have hA : A = some ⟨g, 0, none⟩ := by injection hv
  subst hA
  refine ⟨hn, g, rfl, hlt, fun j r hj => ?_⟩
  have := h.cells (g := g) rfl j r.val (by rw [List.getElem?_map, hj]; rfl)
  rwa [Go.WideShapes.add_plain, Nat.zero_add] at this

theorem pathN_len : ∀ (m n i : Nat) (d : Dg) (P : List Dg) (l : List (List UInt8)) (t : Dg), n ≤ m → pathN n i d P = some (l, t) → l.length ≤ P.length := by
  intro m
  induction m with
  | zero =>
    intro n i d P l t hn h
    rw [pathN_end _ _ _ _ (by omega)] at h
    injection h with h
    injection h with h _
    rw [← h]; simp
  | succ m ih =>
    intro n i d P l t hn h
    by_cases h1 : 1 < n
    · by_cases ha : aloneB n i = true
      · rw [pathN_alone _ _ _ _ h1 ha] at h
        exact ih _ _ _ _ _ _ (by omega) h
      · have ha' : aloneB n i = false := by simpa using ha
        match P with
        | [] => rw [pathN_nil _ _ _ h1 ha'] at h; cases h
        | p :: P' =>
          rw [pathN_cons _ _ _ _ _ h1 ha'] at h
          obtain ⟨⟨l', t'⟩, h2, h3⟩ := Option.map_eq_some_iff.1 h
          injection h3 with h3 _
          rw [← h3, List.length_cons, List.length_cons]
          have := ih _ _ _ _ _ _ (by omega) h2
          show l'.length + 1 ≤ P'.length + 1
          omega
    · rw [pathN_end _ _ _ _ (by omega)] at h
      injection h with h
      injection h with h _
      rw [← h]; simp

set_option maxRecDepth 100000 in
set_option maxHeartbeats 16000000 in
theorem checkr_any (px : Nat) (root : Dg) (N i : Nat) (p : Prt) (A : Option Addr) (P : List Dg) (pl c : Nat) (w : World) (hh : HashAt w px) (hp : p.ok w) (hN : N < 9223372036854775808) (hi : i < cntN N) (hl : p.x.length = chunkN N i)
    (hpl : pl = P.length) (hP : DgsAt w w.heap.size A P) (hPl : pl ≤ 100000) :
    Calls Tryd.prog 36 #[.pointer (some ⟨px, 0, none⟩), .agg (byteVals root.1).toArray, .int .i64 N, .int .i64 i, .slice p.A p.x.length p.c, .slice A pl c] w fun e w' => e = .returned (.bool (checkB root.1 N i p.x P)) ∧ Chg none w w' := by
  have hcn : chunkN N i ≤ 64 := by unfold chunkN; omega
  have gA : Chg none w (w.alloc (.cells (byteVals root.1).toArray 30)) := (Chg.refl _ _).alloc _
  have bRt : BlkL (w.alloc (.cells (byteVals root.1).toArray 30)) w.heap.size (byteVals root.1) 30 := Blk.new _ _ _
  have HC := Lib.hid (fun v => countr_nat N hN v)
  have HS := Lib.hid (fun v => sizer_nat N i hN (cnt_lo hi) v)
  have hlt : (i : Int) < ((cntN N : Nat) : Int) := by omega
  have t1 : ((p.x.length : Int) != (chunkN N i : Nat)) = false := by simp [hl]
  have HPA := Lib.hid (path_any px N i p A P pl c (w.alloc (.cells (byteVals root.1).toArray 30)) (hh.chg gA (by simp)) (hp.chg gA) hN hi (by omega) hpl ((hP.chg gA (by simp)).more gA.size) hPl)
  have HSM : Hid (∀ (v : World) (q : Prt) (n : Nat), Chg none w v → q.ok v → n = q.x.length → n ≤ 1100 → Calls Tryd.prog 52 #[.pointer (some ⟨px, 0, none⟩), .slice q.A n q.c] v fun e w' => e = .returned (.agg (byteVals (dig q.x)).toArray) ∧ Chg none v w') := fun v q n g h1 h2 h3 => by
    subst h2
    exact hsum_any px q v (hh.chg g (by simp)) h1 (by omega)
  obtain ⟨d0, hd0⟩ : ∃ d0 : Dg, d0 = digDg (0 :: (be 8 i ++ p.x)) := ⟨_, rfl⟩
  have hck : checkB root.1 N i p.x P = checkR root.1 N (climb (cntN N) i d0 P) := by rw [hd0]; rfl
  rw [← hd0] at HPA
  rw [hck]
  obtain ⟨CB, hCB⟩ : ∃ CB, CB = checkR root.1 N (climb (cntN N) i d0 P) := ⟨_, rfl⟩
  rw [← hCB]
  have HCB := Lib.hid hCB
  have HN1 : Hid (P.length ≠ needN (cntN N) i → climb (cntN N) i d0 P = none) := fun h => climb_wrong _ _ _ _ _ (Nat.le_refl _) h
  have HN2 : Hid (P.length < needN (cntN N) i → pathN (cntN N) i d0 P = none) := fun h => pathN_none _ _ _ _ _ (Nat.le_refl _) h
  have HN3 : Hid (needN (cntN N) i ≤ P.length → ∃ l t, pathN (cntN N) i d0 P = some (l, t) ∧ climb (cntN N) i d0 (P.take (needN (cntN N) i)) = some t) := fun h => pathN_some _ _ _ _ _ (Nat.le_refl _) h
  have HPL := Lib.hid hpl
  obtain ⟨lf, hlf⟩ : ∃ lf, lf = 0 :: (be 8 i ++ p.x) := ⟨_, rfl⟩
  rw [← hlf] at HPA
  have HIR : Hid ((Tryd.prog.info? 30).map (·.size) = some (byteVals root.1).length) := by rw [byteVals_len, root.2]; show _ = _; kernel_rfl
  have HQ : Hid (∀ (d : Dg) (v : World), (binOp .eql 30 (.agg (byteVals d.1).toArray) (.agg (byteVals root.1).toArray)).run Tryd.prog v = .ok (.bool (d.1 == root.1)) v) := fun d v => eql30 d.1 root.1 d.2 root.2 v
  have hg30 := guard30
  generalize chunkN N i = cn at *
  generalize cntN N = C at *
  generalize needN C i = nd at *
  clear hd0 hck hi hl hlf hp hh hP hpl hCB
  go_enter Tryd.func36, Tryd.ntmps36
  go_wp2_with fail
  refine (HC.out _).mono ?_
  rintro e w' ⟨rfl, rfl⟩
  go_wp2_with fail
  refine (HS.out _).mono ?_
  rintro e w' ⟨rfl, rfl⟩
  go_wp2_with fail
  refine HPA.out.mono ?_
  rintro e w2 ⟨g2, ⟨hR, rfl⟩ | ⟨l, tt, A2, m2, c2, Lp, hR, rfl, hLx, h5, hown⟩⟩
  · have hne : climb C i d0 P = none := HN1.out (fun h => by
      obtain ⟨l, t, h1, _⟩ := HN3.out (by omega)
      rw [h1] at hR
      cases hR)
    have HCF : Hid (CB = false) := by show _ = _; rw [HCB.out, hne]; rfl
    have E0 : Chg none w w2.drew := (gA.trans g2).drew
    clear hne hR HPA
    go_wp2_with fail
    refine wp_region_held_drew (S := fun _ => True) (by kernel_rfl) trivial (fun _ => ?_)
    generalize w2.drew = v0 at *
    refine wpAnyH_take (i := 0) (oi := ⟨some 44, _, _, _, _, _⟩) (v := ?_) rfl (by kernel_rfl) (by kernel_rfl) (by kernel_rfl) (fun _ _ _ h => h) (Or.inl ⟨by rfl, ?_⟩) (by assumption) ?_
    rotate_left
    · intro w hSw; (try dsimp only at hSw); go_simp; (try with_reducible rfl)
    try simp only [Act.put, List.setIfInBounds_toArray, List.set_cons_zero, List.set_cons_succ]
    refine wpAnyH_take (i := 1) (oi := ⟨some 45, _, _, _, _, _⟩) (v := ?_) rfl (by kernel_rfl) (by kernel_rfl) (by kernel_rfl) (fun _ _ _ h => h) (Or.inl ⟨by rfl, ?_⟩) (by assumption) ?_
    rotate_left
    · intro w hSw; (try dsimp only at hSw); go_simp; (try with_reducible rfl)
    try simp only [Act.put, List.setIfInBounds_toArray, List.set_cons_zero, List.set_cons_succ]
    refine wpAnyH_take (i := 2) (oi := ⟨some 46, _, _, _, _, _⟩) (v := undef) rfl (by kernel_rfl) (by kernel_rfl) (by kernel_rfl) (fun _ _ _ h => h) (Or.inr ⟨by rfl, rfl⟩) (by assumption) ?_
    try simp only [Act.put, List.setIfInBounds_toArray, List.set_cons_zero, List.set_cons_succ]
    refine wpAnyH_take (i := 3) (oi := ⟨some 47, _, _, _, _, _⟩) (v := undef) rfl (by kernel_rfl) (by kernel_rfl) (by kernel_rfl) (fun _ _ _ h => h) (Or.inr ⟨by rfl, rfl⟩) (by assumption) ?_
    try simp only [Act.put, List.setIfInBounds_toArray, List.set_cons_zero, List.set_cons_succ]
    refine wpAnyH_take (i := 4) (oi := ⟨some 48, _, _, _, _, _⟩) (v := undef) rfl (by kernel_rfl) (by kernel_rfl) (by kernel_rfl) (fun _ _ _ h => h) (Or.inr ⟨by rfl, rfl⟩) (by assumption) ?_
    try simp only [Act.put, List.setIfInBounds_toArray, List.set_cons_zero, List.set_cons_succ]
    refine wpAnyH_take (i := 5) (oi := ⟨some 49, _, _, _, _, _⟩) (v := undef) rfl (by kernel_rfl) (by kernel_rfl) (by kernel_rfl) (fun _ _ _ h => h) (Or.inr ⟨by rfl, rfl⟩) (by assumption) ?_
    try simp only [Act.put, List.setIfInBounds_toArray, List.set_cons_zero, List.set_cons_succ]
    refine wpAnyH_take (i := 6) (oi := ⟨some 50, _, _, _, _, _⟩) (v := undef) rfl (by kernel_rfl) (by kernel_rfl) (by kernel_rfl) (fun _ _ _ h => h) (Or.inr ⟨by rfl, rfl⟩) (by assumption) ?_
    try simp only [Act.put, List.setIfInBounds_toArray, List.set_cons_zero, List.set_cons_succ]
    refine wpAnyH_take (i := 7) (oi := ⟨some 51, _, _, _, _, _⟩) (v := undef) rfl (by kernel_rfl) (by kernel_rfl) (by kernel_rfl) (fun _ _ _ h => h) (Or.inr ⟨by rfl, rfl⟩) (by assumption) ?_
    try simp only [Act.put, List.setIfInBounds_toArray, List.set_cons_zero, List.set_cons_succ]
    refine wpAnyH_take (i := 8) (oi := ⟨some 52, _, _, _, _, _⟩) (v := undef) rfl (by kernel_rfl) (by kernel_rfl) (by kernel_rfl) (fun _ _ _ h => h) (Or.inr ⟨by rfl, rfl⟩) (by assumption) ?_
    try simp only [Act.put, List.setIfInBounds_toArray, List.set_cons_zero, List.set_cons_succ]
    refine wpAnyH_take (i := 9) (oi := ⟨some 53, _, _, _, _, _⟩) (v := undef) rfl (by kernel_rfl) (by kernel_rfl) (by kernel_rfl) (fun _ _ _ h => h) (Or.inr ⟨by rfl, rfl⟩) (by assumption) ?_
    try simp only [Act.put, List.setIfInBounds_toArray, List.set_cons_zero, List.set_cons_succ]
    refine wpAnyH_take (i := 10) (oi := ⟨some 54, _, _, _, _, _⟩) (v := undef) rfl (by kernel_rfl) (by kernel_rfl) (by kernel_rfl) (fun _ _ _ h => h) (Or.inr ⟨by rfl, rfl⟩) (by assumption) ?_
    try simp only [Act.put, List.setIfInBounds_toArray, List.set_cons_zero, List.set_cons_succ]
    refine wpAnyH_take (i := 11) (oi := ⟨some 55, _, _, _, _, _⟩) (v := undef) rfl (by kernel_rfl) (by kernel_rfl) (by kernel_rfl) (fun _ _ _ h => h) (Or.inr ⟨by rfl, rfl⟩) (by assumption) ?_
    try simp only [Act.put, List.setIfInBounds_toArray, List.set_cons_zero, List.set_cons_succ]
    refine wpAnyH_take (i := 12) (oi := ⟨some 56, _, _, _, _, _⟩) (v := ?_) rfl (by kernel_rfl) (by kernel_rfl) (by kernel_rfl) (fun _ _ _ h => h) (Or.inl ⟨by rfl, ?_⟩) (by assumption) ?_
    rotate_left
    · intro w hSw; (try dsimp only at hSw); go_simp; (try with_reducible rfl)
    try simp only [Act.put, List.setIfInBounds_toArray, List.set_cons_zero, List.set_cons_succ]
    refine wpAnyH_take (i := 13) (oi := ⟨some 12, _, _, _, _, _⟩) (v := ?_) rfl (by kernel_rfl) (by kernel_rfl) (by kernel_rfl) (fun _ _ _ h => h) (Or.inl ⟨by rfl, ?_⟩) (by assumption) ?_
    rotate_left
    · intro w hSw; (try dsimp only at hSw); go_simp; (try with_reducible rfl)
    try simp only [Act.put, List.setIfInBounds_toArray, List.set_cons_zero, List.set_cons_succ]
    refine wpAnyH_done (by kernel_rfl) ?_ _
    try simp only [Act.put]
    go_wp2_with fail
    go_ret
    exact ⟨by rw [HCF.out]; rfl, E0⟩
  · by_cases hnd : nd = pl
    · have hnd2 : decide (nd = pl) = true := by simpa using hnd
      have hcl : climb C i d0 P = some tt := by
        obtain ⟨l', t', h1, h2⟩ := HN3.out (by rw [hnd, HPL.out]; exact Nat.le_refl _)
        rw [h1] at hR
        rw [hnd, HPL.out, List.take_length] at h2
        injection hR with hR
        injection hR with _ hR
        rw [h2, hR]
      have hcb : CB = ((digDg (rootBytes N tt)).1 == root.1) := by rw [HCB.out, hcl]; rfl
      have hlenp : Lp.length = l.length + 2 := by have := congrArg List.length hLx; simpa using this
      have hm2 : 1 ≤ m2 := by have := hown.1; rw [List.length_map] at this; omega
      obtain ⟨hmL, g, rfl, hgl, hcells⟩ := prts_get hown hm2
      obtain ⟨k, hk⟩ : ∃ k, m2 = k + 1 := ⟨m2 - 1, by omega⟩
      have hx : (Lp.map Prt.x)[k]? = some (rootBytes N tt) := by
        rw [hLx, show k = l.length + 1 by omega, List.getElem?_cons_succ, List.getElem?_append_right (Nat.le_refl _), Nat.sub_self]; rfl
      rw [List.getElem?_map] at hx
      obtain ⟨q, hq1, hq2⟩ := Option.map_eq_some_iff.1 hx
      have hqok := (h5 q (List.mem_of_getElem? hq1)).ok
      have hcell := hcells k q hq1
      have hq41 : q.x.length = 41 := by rw [hq2]; unfold rootBytes; rw [List.length_cons, List.length_append, be_len, tt.2]
      obtain ⟨qA, qx, qc⟩ := q
      dsimp only at hq2 hq41
      change w2.cell? ⟨g, k, none⟩ = some (.slice qA qx.length qc) at hcell
      rw [hq41] at hcell
      subst hk
      have hdg : dig qx = (digDg (rootBytes N tt)).1 := by rw [hq2]; rfl
      have hk9 : k ≤ 1000000000 := by
        have h1 := pathN_len _ C i d0 P l tt (Nat.le_refl _) hR
        rw [← HPL.out] at h1
        omega
      have hbr := Blk.range (Blk.chg bRt g2 (by simp))
      have hS0 : w2.drew.cell? ⟨g, k, none⟩ = some (.slice qA 41 qc) ∧ w2.drew.rangeAt w.heap.size 0 (byteVals root.1) := ⟨hcell, hbr⟩
      have E0 : Chg none w w2.drew := (gA.trans g2).drew
      have HQK : Hid (∀ v, Chg none w2.drew v → (⟨qA, qx, qc⟩ : Prt).ok v) := fun v g => Prt.ok.chg (w := w2.drew) hqok g
      have HX41 : Hid (41 = qx.length) := hq41.symm
      have HDG := Lib.hid hdg
      obtain ⟨D, hD⟩ : ∃ D, D = digDg (rootBytes N tt) := ⟨_, rfl⟩
      rw [← hD] at HDG hcb
      have HCT := Lib.hid hcb
      have hqq := HQ.out D
      clear hcl hnd hlenp hm2 hmL hcells hx hq1 hq2 hqok hcell hq41 hdg hbr hown h5 hLx hR HPA hD hcb
      go_wp2_with fail
      have i1 : (0 : Int) ≤ (k : Int) := by omega
      have i2 : (k : Int) < (k : Int) + 1 := by omega
      have i4 : IntKind.i64.wrap (k : Int) = (k : Int) := by rw [IntKind.wrap_i64]; omega
      refine wp_region_held_drew (S := fun w' => w'.cell? ⟨g, k, none⟩ = some (.slice qA 41 qc) ∧ w'.rangeAt w.heap.size 0 (byteVals root.1)) (by kernel_rfl) hS0 (fun _ => ?_)
      have E00 : Chg none w2.drew w2.drew := Chg.refl _ _
      generalize w2.drew = v0 at *
      refine wpAnyH_take (i := 0) (oi := ⟨some 44, _, _, _, _, _⟩) (v := ?_) rfl (by kernel_rfl) (by kernel_rfl) (by kernel_rfl) (fun _ _ _ h => h) (Or.inl ⟨by rfl, ?_⟩) (by assumption) ?_
      rotate_left
      · intro w hSw; (try dsimp only at hSw); go_simp; (try with_reducible rfl)
      try simp only [Act.put, List.setIfInBounds_toArray, List.set_cons_zero, List.set_cons_succ]
      refine wpAnyH_take (i := 1) (oi := ⟨some 45, _, _, _, _, _⟩) (v := ?_) rfl (by kernel_rfl) (by kernel_rfl) (by kernel_rfl) (fun _ _ _ h => h) (Or.inl ⟨by rfl, ?_⟩) (by assumption) ?_
      rotate_left
      · intro w hSw; (try dsimp only at hSw); go_simp; (try with_reducible rfl)
      try simp only [Act.put, List.setIfInBounds_toArray, List.set_cons_zero, List.set_cons_succ]
      refine wpAnyH_take (i := 2) (oi := ⟨some 46, _, _, _, _, _⟩) (v := ?_) rfl (by kernel_rfl) (by kernel_rfl) (by kernel_rfl) (fun _ _ _ h => h) (Or.inl ⟨by rfl, ?_⟩) (by assumption) ?_
      rotate_left
      · intro w hSw; (try dsimp only at hSw); go_simp; (try with_reducible rfl)
      try simp only [Act.put, List.setIfInBounds_toArray, List.set_cons_zero, List.set_cons_succ]
      refine wpAnyH_take (i := 3) (oi := ⟨some 47, _, _, _, _, _⟩) (v := ?_) rfl (by kernel_rfl) (by kernel_rfl) (by kernel_rfl) (fun _ _ _ h => h) (Or.inl ⟨by rfl, ?_⟩) (by assumption) ?_
      rotate_left
      · intro w hSw; (try dsimp only at hSw); go_simp; (try with_reducible rfl)
      try simp only [Act.put, List.setIfInBounds_toArray, List.set_cons_zero, List.set_cons_succ]
      refine wpAnyH_take (i := 4) (oi := ⟨some 48, _, _, _, _, _⟩) (v := ?_) rfl (by kernel_rfl) (by kernel_rfl) (by kernel_rfl) (fun _ _ _ h => h) (Or.inl ⟨by rfl, ?_⟩) (by assumption) ?_
      rotate_left
      · intro w hSw; (try dsimp only at hSw); go_simp; (try with_reducible rfl)
      try simp only [Act.put, List.setIfInBounds_toArray, List.set_cons_zero, List.set_cons_succ]
      refine wpAnyH_take (i := 5) (oi := ⟨some 49, _, _, _, _, _⟩) (v := ?_) rfl (by kernel_rfl) (by kernel_rfl) (by kernel_rfl) (fun _ _ _ h => h) (Or.inl ⟨by rfl, ?_⟩) (by assumption) ?_
      rotate_left
      · intro w hSw; (try dsimp only at hSw); go_simp; (try with_reducible rfl)
      try simp only [Act.put, List.setIfInBounds_toArray, List.set_cons_zero, List.set_cons_succ]
      refine wpAnyH_take (i := 6) (oi := ⟨some 50, _, _, _, _, _⟩) (v := ?_) rfl (by kernel_rfl) (by kernel_rfl) (by kernel_rfl) (fun _ _ _ h => h) (Or.inl ⟨by rfl, ?_⟩) (by assumption) ?_
      rotate_left
      · intro w hSw; (try dsimp only at hSw); go_simp; (try with_reducible rfl)
      try simp only [Act.put, List.setIfInBounds_toArray, List.set_cons_zero, List.set_cons_succ]
      refine wpAnyH_take (i := 7) (oi := ⟨some 51, _, _, _, _, _⟩) (v := ?_) rfl (by kernel_rfl) (by kernel_rfl) (by kernel_rfl) (fun _ _ _ h => h) (Or.inl ⟨by rfl, ?_⟩) (by assumption) ?_
      rotate_left
      · intro w hSw; (try dsimp only at hSw); go_simp; (try with_reducible rfl)
      try simp only [Act.put, List.setIfInBounds_toArray, List.set_cons_zero, List.set_cons_succ]
      refine wpAnyH_take (i := 8) (oi := ⟨some 52, _, _, _, _, _⟩) (v := ?_) rfl (by kernel_rfl) (by kernel_rfl) (by kernel_rfl) (fun _ _ _ h => h) (Or.inl ⟨by rfl, ?_⟩) (by assumption) ?_
      rotate_left
      · intro w hSw; (try dsimp only at hSw); have hcw := hSw.1; go_simp; (try with_reducible rfl)
      try simp only [Act.put, List.setIfInBounds_toArray, List.set_cons_zero, List.set_cons_succ]
      refine wpAnyH_take (i := 10) (oi := ⟨some 54, _, _, _, _, _⟩) (v := .agg (byteVals root.1).toArray) rfl (by kernel_rfl) (by kernel_rfl) (by kernel_rfl) (fun _ _ _ h => h) (yieldsIf_load_mid (by rfl) 30 _ rfl w.heap.size 0 rfl (byteVals root.1) _ (fun _ h => h.2) Tryd.underlying30 rfl HIR.out) (by assumption) ?_
      try simp only [Act.put, List.setIfInBounds_toArray, List.set_cons_zero, List.set_cons_succ]
      refine wpAnyH_ready (rs := [9]) (by kernel_rfl) (by simp) ?_
      refine AllReadyH.cons (o := ⟨some 53, _, _, _, _, _⟩) rfl (fun K hK => ?_) (AllReadyH.nil)
      have HC1 := Lib.hid (HSM.out v0 ⟨qA, qx, qc⟩ 41 E0 (HQK.out v0 E00) HX41.out (by decide))
      dsimp only at HC1
      rw [HDG.out] at HC1
      go_simp
      go_at_call 52
      refine HC1.out.mono ?_
      rintro e v1 ⟨rfl, g1⟩
      have E1 := E0.trans g1
      have hS1 : v1.cell? ⟨g, k, none⟩ = some (.slice qA 41 qc) ∧ v1.rangeAt w.heap.size 0 (byteVals root.1) := ⟨World.grownBy.cell g1 hS0.1 (by simp), rangeAt_chg hS0.2 g1 (by simp)⟩
      go_wp2_with fail
      refine hK.out _ _ hS1 (fun _ => ?_)
      clear hK K
      try simp only [Act.put, List.setIfInBounds_toArray, List.set_cons_zero, List.set_cons_succ]
      refine wpAnyH_take (i := 11) (oi := ⟨some 55, _, _, _, _, _⟩) (v := ?_) rfl (by kernel_rfl) (by kernel_rfl) (by kernel_rfl) (fun _ _ _ h => h) (Or.inl ⟨by rfl, ?_⟩) (by assumption) ?_
      rotate_left
      · intro w hSw; (try dsimp only at hSw); go_simp; (try with_reducible rfl)
      try simp only [Act.put, List.setIfInBounds_toArray, List.set_cons_zero, List.set_cons_succ]
      refine wpAnyH_take (i := 12) (oi := ⟨some 56, _, _, _, _, _⟩) (v := ?_) rfl (by kernel_rfl) (by kernel_rfl) (by kernel_rfl) (fun _ _ _ h => h) (Or.inl ⟨by rfl, ?_⟩) (by assumption) ?_
      rotate_left
      · intro w hSw; (try dsimp only at hSw); go_simp; (try with_reducible rfl)
      try simp only [Act.put, List.setIfInBounds_toArray, List.set_cons_zero, List.set_cons_succ]
      refine wpAnyH_take (i := 13) (oi := ⟨some 12, _, _, _, _, _⟩) (v := ?_) rfl (by kernel_rfl) (by kernel_rfl) (by kernel_rfl) (fun _ _ _ h => h) (Or.inl ⟨by rfl, ?_⟩) (by assumption) ?_
      rotate_left
      · intro w hSw; (try dsimp only at hSw); go_simp; (try with_reducible rfl)
      try simp only [Act.put, List.setIfInBounds_toArray, List.set_cons_zero, List.set_cons_succ]
      refine wpAnyH_done (by kernel_rfl) ?_ _
      try simp only [Act.put]
      go_wp2_with fail
      go_ret
      exact ⟨by rw [HCT.out]; rfl, E1⟩
    · have hnd2 : decide (nd = pl) = false := by simpa using hnd
      have hne : climb C i d0 P = none := HN1.out (fun h => hnd (by rw [HPL.out]; exact h.symm))
      have HCF : Hid (CB = false) := by show _ = _; rw [HCB.out, hne]; rfl
      have E0 : Chg none w w2.drew := (gA.trans g2).drew
      clear hne hR HPA hown h5 hLx hnd
      go_wp2_with fail
      refine wp_region_held_drew (S := fun _ => True) (by kernel_rfl) trivial (fun _ => ?_)
      generalize w2.drew = v0 at *
      refine wpAnyH_take (i := 0) (oi := ⟨some 44, _, _, _, _, _⟩) (v := ?_) rfl (by kernel_rfl) (by kernel_rfl) (by kernel_rfl) (fun _ _ _ h => h) (Or.inl ⟨by rfl, ?_⟩) (by assumption) ?_
      rotate_left
      · intro w hSw; (try dsimp only at hSw); go_simp; (try with_reducible rfl)
      try simp only [Act.put, List.setIfInBounds_toArray, List.set_cons_zero, List.set_cons_succ]
      refine wpAnyH_take (i := 1) (oi := ⟨some 45, _, _, _, _, _⟩) (v := ?_) rfl (by kernel_rfl) (by kernel_rfl) (by kernel_rfl) (fun _ _ _ h => h) (Or.inl ⟨by rfl, ?_⟩) (by assumption) ?_
      rotate_left
      · intro w hSw; (try dsimp only at hSw); go_simp; (try with_reducible rfl)
      try simp only [Act.put, List.setIfInBounds_toArray, List.set_cons_zero, List.set_cons_succ]
      refine wpAnyH_take (i := 2) (oi := ⟨some 46, _, _, _, _, _⟩) (v := undef) rfl (by kernel_rfl) (by kernel_rfl) (by kernel_rfl) (fun _ _ _ h => h) (Or.inr ⟨by rfl, rfl⟩) (by assumption) ?_
      try simp only [Act.put, List.setIfInBounds_toArray, List.set_cons_zero, List.set_cons_succ]
      refine wpAnyH_take (i := 3) (oi := ⟨some 47, _, _, _, _, _⟩) (v := undef) rfl (by kernel_rfl) (by kernel_rfl) (by kernel_rfl) (fun _ _ _ h => h) (Or.inr ⟨by rfl, rfl⟩) (by assumption) ?_
      try simp only [Act.put, List.setIfInBounds_toArray, List.set_cons_zero, List.set_cons_succ]
      refine wpAnyH_take (i := 4) (oi := ⟨some 48, _, _, _, _, _⟩) (v := undef) rfl (by kernel_rfl) (by kernel_rfl) (by kernel_rfl) (fun _ _ _ h => h) (Or.inr ⟨by rfl, rfl⟩) (by assumption) ?_
      try simp only [Act.put, List.setIfInBounds_toArray, List.set_cons_zero, List.set_cons_succ]
      refine wpAnyH_take (i := 5) (oi := ⟨some 49, _, _, _, _, _⟩) (v := undef) rfl (by kernel_rfl) (by kernel_rfl) (by kernel_rfl) (fun _ _ _ h => h) (Or.inr ⟨by rfl, rfl⟩) (by assumption) ?_
      try simp only [Act.put, List.setIfInBounds_toArray, List.set_cons_zero, List.set_cons_succ]
      refine wpAnyH_take (i := 6) (oi := ⟨some 50, _, _, _, _, _⟩) (v := undef) rfl (by kernel_rfl) (by kernel_rfl) (by kernel_rfl) (fun _ _ _ h => h) (Or.inr ⟨by rfl, rfl⟩) (by assumption) ?_
      try simp only [Act.put, List.setIfInBounds_toArray, List.set_cons_zero, List.set_cons_succ]
      refine wpAnyH_take (i := 7) (oi := ⟨some 51, _, _, _, _, _⟩) (v := undef) rfl (by kernel_rfl) (by kernel_rfl) (by kernel_rfl) (fun _ _ _ h => h) (Or.inr ⟨by rfl, rfl⟩) (by assumption) ?_
      try simp only [Act.put, List.setIfInBounds_toArray, List.set_cons_zero, List.set_cons_succ]
      refine wpAnyH_take (i := 8) (oi := ⟨some 52, _, _, _, _, _⟩) (v := undef) rfl (by kernel_rfl) (by kernel_rfl) (by kernel_rfl) (fun _ _ _ h => h) (Or.inr ⟨by rfl, rfl⟩) (by assumption) ?_
      try simp only [Act.put, List.setIfInBounds_toArray, List.set_cons_zero, List.set_cons_succ]
      refine wpAnyH_take (i := 9) (oi := ⟨some 53, _, _, _, _, _⟩) (v := undef) rfl (by kernel_rfl) (by kernel_rfl) (by kernel_rfl) (fun _ _ _ h => h) (Or.inr ⟨by rfl, rfl⟩) (by assumption) ?_
      try simp only [Act.put, List.setIfInBounds_toArray, List.set_cons_zero, List.set_cons_succ]
      refine wpAnyH_take (i := 10) (oi := ⟨some 54, _, _, _, _, _⟩) (v := undef) rfl (by kernel_rfl) (by kernel_rfl) (by kernel_rfl) (fun _ _ _ h => h) (Or.inr ⟨by rfl, rfl⟩) (by assumption) ?_
      try simp only [Act.put, List.setIfInBounds_toArray, List.set_cons_zero, List.set_cons_succ]
      refine wpAnyH_take (i := 11) (oi := ⟨some 55, _, _, _, _, _⟩) (v := undef) rfl (by kernel_rfl) (by kernel_rfl) (by kernel_rfl) (fun _ _ _ h => h) (Or.inr ⟨by rfl, rfl⟩) (by assumption) ?_
      try simp only [Act.put, List.setIfInBounds_toArray, List.set_cons_zero, List.set_cons_succ]
      refine wpAnyH_take (i := 12) (oi := ⟨some 56, _, _, _, _, _⟩) (v := ?_) rfl (by kernel_rfl) (by kernel_rfl) (by kernel_rfl) (fun _ _ _ h => h) (Or.inl ⟨by rfl, ?_⟩) (by assumption) ?_
      rotate_left
      · intro w hSw; (try dsimp only at hSw); go_simp; (try with_reducible rfl)
      try simp only [Act.put, List.setIfInBounds_toArray, List.set_cons_zero, List.set_cons_succ]
      refine wpAnyH_take (i := 13) (oi := ⟨some 12, _, _, _, _, _⟩) (v := ?_) rfl (by kernel_rfl) (by kernel_rfl) (by kernel_rfl) (fun _ _ _ h => h) (Or.inl ⟨by rfl, ?_⟩) (by assumption) ?_
      rotate_left
      · intro w hSw; (try dsimp only at hSw); go_simp; (try with_reducible rfl)
      try simp only [Act.put, List.setIfInBounds_toArray, List.set_cons_zero, List.set_cons_succ]
      refine wpAnyH_done (by kernel_rfl) ?_ _
      try simp only [Act.put]
      go_wp2_with fail
      go_ret
      exact ⟨by rw [HCF.out]; rfl, E0⟩

end Go.Proofs.YtdkgecphkppglaaDoor
