/-
  The document's book of claims: Try (11).
-/
import Derived.Test.YtnpmfigcfikdgaaCE
import Derived.Test.YtnpmfigcfikdgaaR
import Derived.Below
import Derived.Great.BuildSlice
namespace Go.Proofs.Ytnpmfigcfikdgaa
open Go.RowKit Go.Maps

theorem built33n (d : Dig) (a b c : Int) : Try.prog.built 33 [(0, .agg d.cells.toArray), (1, .int .i64 a), (2, .int .u64 b), (3, .int .u64 c)] = some (clCells d a b c false).toArray := by
  obtain ⟨L, hL, hb⟩ := d
  match L, hL with
  | [a0, a1, a2, a3, a4, a5, a6, a7, a8, a9, a10, a11, a12, a13, a14, a15, a16, a17, a18, a19, a20, a21, a22, a23, a24, a25, a26, a27, a28, a29, a30, a31], _ => show _ = _; kernel_rfl
theorem built52 (e : Ent) : Try.prog.built 52 [(0, .agg e.c.cells.toArray), (1, .int .i64 e.t)] = some (entCells e).toArray := by
  obtain ⟨⟨⟨L, hL, hb⟩, n, i, c, g⟩, t⟩ := e
  match L, hL with
  | [a0, a1, a2, a3, a4, a5, a6, a7, a8, a9, a10, a11, a12, a13, a14, a15, a16, a17, a18, a19, a20, a21, a22, a23, a24, a25, a26, a27, a28, a29, a30, a31], _ => show _ = _; kernel_rfl
theorem fill52 (e : Ent) (ie : TypeInfo) (hs : ie.size = 37) :
    Instr.fill (fun i => some (i * ie.size, ie.size)) ((Array.range (1 * ie.size)).map ((Value.agg #[.int .u8 0, .int .u8 0, .int .u8 0, .int .u8 0, .int .u8 0, .int .u8 0, .int .u8 0, .int .u8 0, .int .u8 0, .int .u8 0, .int .u8 0, .int .u8 0, .int .u8 0, .int .u8 0, .int .u8 0, .int .u8 0, .int .u8 0, .int .u8 0, .int .u8 0, .int .u8 0, .int .u8 0, .int .u8 0, .int .u8 0, .int .u8 0, .int .u8 0, .int .u8 0, .int .u8 0, .int .u8 0, .int .u8 0, .int .u8 0, .int .u8 0, .int .u8 0, .int .i64 0, .int .u64 0, .int .u64 0, .bool false, .int .i64 0]).cells[· % (Value.agg #[.int .u8 0, .int .u8 0, .int .u8 0, .int .u8 0, .int .u8 0, .int .u8 0, .int .u8 0, .int .u8 0, .int .u8 0, .int .u8 0, .int .u8 0, .int .u8 0, .int .u8 0, .int .u8 0, .int .u8 0, .int .u8 0, .int .u8 0, .int .u8 0, .int .u8 0, .int .u8 0, .int .u8 0, .int .u8 0, .int .u8 0, .int .u8 0, .int .u8 0, .int .u8 0, .int .u8 0, .int .u8 0, .int .u8 0, .int .u8 0, .int .u8 0, .int .u8 0, .int .i64 0, .int .u64 0, .int .u64 0, .bool false, .int .i64 0]).cells.size]!)) [(0, .agg (entCells e).toArray)] = some (entCells e).toArray := by
  rw [hs]
  obtain ⟨⟨⟨L, hL, hb⟩, n, i, c, g⟩, t⟩ := e
  match L, hL with
  | [a0, a1, a2, a3, a4, a5, a6, a7, a8, a9, a10, a11, a12, a13, a14, a15, a16, a17, a18, a19, a20, a21, a22, a23, a24, a25, a26, a27, a28, a29, a30, a31], _ => show _ = _; kernel_rfl
theorem zinfo52 : ∃ i0, Try.prog.info? 52 = some i0 ∧ i0.zero = some (.agg #[.int .u8 0, .int .u8 0, .int .u8 0, .int .u8 0, .int .u8 0, .int .u8 0, .int .u8 0, .int .u8 0, .int .u8 0, .int .u8 0, .int .u8 0, .int .u8 0, .int .u8 0, .int .u8 0, .int .u8 0, .int .u8 0, .int .u8 0, .int .u8 0, .int .u8 0, .int .u8 0, .int .u8 0, .int .u8 0, .int .u8 0, .int .u8 0, .int .u8 0, .int .u8 0, .int .u8 0, .int .u8 0, .int .u8 0, .int .u8 0, .int .u8 0, .int .u8 0, .int .i64 0, .int .u64 0, .int .u64 0, .bool false, .int .i64 0]) ∧ i0.size = 37 ∧ i0.bytes = 72 := by
  cases h : Try.prog.info? 52 with
  | none => exact absurd (congrArg Option.isSome h) (by rw [show (Try.prog.info? 52).isSome = true from by kernel_rfl]; simp)
  | some i0 =>
    refine ⟨i0, rfl, ?_, ?_, ?_⟩
    · have : (Try.prog.info? 52).bind (·.zero) = some (.agg #[.int .u8 0, .int .u8 0, .int .u8 0, .int .u8 0, .int .u8 0, .int .u8 0, .int .u8 0, .int .u8 0, .int .u8 0, .int .u8 0, .int .u8 0, .int .u8 0, .int .u8 0, .int .u8 0, .int .u8 0, .int .u8 0, .int .u8 0, .int .u8 0, .int .u8 0, .int .u8 0, .int .u8 0, .int .u8 0, .int .u8 0, .int .u8 0, .int .u8 0, .int .u8 0, .int .u8 0, .int .u8 0, .int .u8 0, .int .u8 0, .int .u8 0, .int .u8 0, .int .i64 0, .int .u64 0, .int .u64 0, .bool false, .int .i64 0]) := by kernel_rfl
      rw [h] at this; exact this
    · have : (Try.prog.info? 52).map (·.size) = some 37 := by kernel_rfl
      rw [h] at this; simpa using this
    · have : (Try.prog.info? 52).map (·.bytes) = some 72 := by kernel_rfl
      rw [h] at this; simpa using this
theorem sent_blk {w w' : World} {c : Cl} {b : Nat} (h : Blk w' b c.cells.toArray 33) (hb : w.heap.size ≤ b) : Sent w w' (.slice (some ⟨b, 0, none⟩) 1 1) (some c) := ⟨b, rfl, h, hb⟩
/-- A row of entries and its block. -/
theorem ent_reads (e : Ent) (W : World) : Reads (W.alloc (.cells (entCells e).toArray 52)) (W.heap.size + 1) 37 (some ⟨W.heap.size, 0, none⟩) 1 (entCells e) :=
  ⟨by rw [entCells_len], fun _ => ⟨_, rfl, Nat.lt_succ_self _, fun j u hu => by
    rw [Go.WideShapes.add_plain, Blk.cell (Blk.new W _ _)]
    simpa using hu⟩⟩
theorem ent_oneM (e : Ent) : ∀ u ∈ entCells e, u.oneCell' = true := fun u hu => by
  have h := ent_one e
  rw [Array.all_eq_true_iff_forall_mem] at h
  exact h u (by simpa using hu)
theorem Kept.setNew {S : Nat → Prop} {u v : World} (h : Kept S u v) (a : Addr) (x : Value) (ha : S a.block ∨ u.heap.size ≤ a.block) : Kept S u (v.setCell a x) := h.setCell a x ha
theorem kept_grown {S : Nat → Prop} {u v w : World} {row : Option Nat} (h : Kept S u v) (k : v.grownBy w row) (hr : ∀ g, row = some g → S g ∨ u.heap.size ≤ g) : Kept S u w :=
  h.then (Kept.of_chg k) (fun g e => hr g e)
theorem own_apartE {w : World} {B e s : Nat} {v : Value} {n : Nat} {xs : List Value} {B' e' s' : Nat} {v' : Value} {n' : Nat} {xs' : List Value} (h : w.ownsRow B e s v n xs) (k : w.ownsRow B' e' s' v' n' xs') (hne : e ≠ e') : v'.ownBlock = none ∨ v'.ownBlock ≠ v.ownBlock := by
  rcases h.2 with ⟨rfl, _⟩ | ⟨g, cap, cur, rfl, _, hg, _⟩
  · cases hv : v'.ownBlock
    · exact .inl rfl
    · exact .inr (by simp [Value.ownBlock])
  · rcases k.2 with ⟨rfl, _⟩ | ⟨g', cap', cur', rfl, _, hg', _⟩
    · exact .inl rfl
    · refine .inr fun e => ?_
      simp only [Value.ownBlock, Option.some.injEq] at e
      subst e
      rw [hg] at hg'
      cases hg'
      exact hne rfl
theorem own_form {w : World} {B e s n : Nat} {v : Value} {xs : List Value} (h : w.ownsRow B e s v n xs) : ∃ A c, v = .slice A n c := by
  rcases h.2 with ⟨rfl, rfl⟩ | ⟨g, cap, cur, rfl, _⟩
  · exact ⟨none, 0, rfl⟩
  · exact ⟨_, cap, rfl⟩
/-- What Try tells. -/
def TryP (w : World) (p : Nat) (r : Rk) (v5 v6 : Value) (d : Dig) (now : Int) (e : Ending) (w' : World) : Prop :=
  ∃ v x5, e = .returned (.tuple #[v, .bool (rTry r d now).2.2]) ∧ Sent w w' v (rTry r d now).2.1 ∧ RkAt w' p (rTry r d now).1 x5 v6 ∧ Kept (rkS p v5 v6) w w'

set_option maxRecDepth 100000 in
set_option maxHeartbeats 16000000 in
theorem rtry_any (d : Dig) (now : Int) (w : World) (p : Nat) (r : Rk) (v5 v6 : Value) (h : RkAt w p r v5 v6) (hl : r.ow.length ≤ 1000) (hl2 : r.ot.length ≤ 1000) (hc : 0 ≤ r.count ∧ r.count ≤ 1000000)
    (_ : 0 ≤ now ∧ now ≤ 1000000000000) (hw : 0 ≤ r.wait ∧ r.wait ≤ 1000000) (ht : ∀ o ∈ r.ow, 0 ≤ o.t ∧ o.t ≤ 1000000000000) :
    Calls Try.prog 11 #[.pointer (some ⟨p, 0, none⟩), .agg d.cells.toArray, .int .i64 now] w (TryP w p r v5 v6 d now) := by
  obtain ⟨W, hW⟩ : ∃ W, W = w.alloc (.cells d.cells.toArray 31) := ⟨_, rfl⟩
  have g0 : Chg none w W := by rw [hW]; exact (Chg.refl _ _).alloc _
  have hb4 : Blk W w.heap.size d.cells.toArray 31 := by rw [hW]; exact Blk.new w _ _
  have HKEY : Hid (∀ v, Chg none W v → v.rangeAt w.heap.size 0 d.cells) := Lib.hid fun v hv => rangeAt_chg (rangeAt_blk hb4) hv (by simp)
  have HAT : Hid (∀ v, Chg none W v → RkAt v p r v5 v6) := Lib.hid fun v hv => (h.chg g0).chg hv
  have HRL : Hid (∀ v, Chg none W v → Calls Try.prog 19 #[.pointer (some ⟨p, 0, none⟩), .agg d.cells.toArray, .int .i64 now] v fun e w' => e = .returned (optPair (rLive r d now)) ∧ Chg none v w') := Lib.hid fun v hv => rlive_any d now v p r v5 v6 (HAT.out v hv) hl2
  have HRO : Hid (∀ v, Chg none W v → Calls Try.prog 27 #[.pointer (some ⟨p, 0, none⟩), .agg d.cells.toArray] v fun e w' => e = .returned (.int .i64 (optI (rOwn r d))) ∧ Chg none v w') := Lib.hid fun v hv => own_any d v p r v5 v6 (HAT.out v hv) hl
  have HW := Lib.hid hW
  have HG0 := Lib.hid g0
  have HI31 := Lib.hid (info31 d)
  have HL := Lib.hid hl
  have HT := Lib.hid ht
  have HPL : Hid (p + 1 ≤ w.heap.size) := Lib.hid (Blk.lt h.hd)
  have HDI : Hid (∀ (u v : World), Chg none u v → u.heap.size ≤ v.heap.size) := Lib.hid fun u v g => g.size
  have hlow := fun g (hg : rkS p v5 v6 g) => h.lt hg
  have HLOW := Lib.hid hlow
  clear hW hb4 g0 h hl hl2 ht hlow
  unfold TryP
  cases hlv : rLive r d now with
  | some k =>
    have HE : Hid (rTry r d now = (r, none, false)) := Lib.hid (by unfold rTry; rw [hlv])
    rw [HE.out]
    rw [hlv] at HRL
    unfold optPair at HRL
    clear hlv
    go_enter Try.func11, Try.ntmps11
    go_upto_region 1 with fail
    rw [← HW.out]
    have hk2 := HKEY.out W (Chg.refl _ _)
    have HK2 := Lib.hid hk2
    clear hk2
    go_wp2_with (refine wpList_load_mid rfl 31 _ rfl w.heap.size 0 rfl d.cells _ HK2.out Try.underlying31 rfl HI31.out ?_)
    refine (HRL.out _ (Chg.refl _ _)).mono ?_
    rintro e w1 ⟨rfl, g1⟩
    have G1 := Lib.hid g1
    clear g1
    go_wp2_with fail
    go_ret2
    exact ⟨_, v5, rfl, rfl, HAT.out _ G1.out, (Kept.of_chg (HG0.out.trans G1.out)).mono fun g e => by cases e⟩
  | none =>
    rw [hlv] at HRL
    unfold optPair at HRL
    cases ho : rOwn r d with
    | some i =>
      obtain ⟨hil, hi2⟩ : i < r.ow.length ∧ r.ow[i]? = some (r.ow.getD i default) := by
        unfold rOwn at ho
        rcases findIdx_find (p := isKey d) (l := r.ow) with ⟨h1, h2⟩ | ⟨j, h1, h2, h3, h4⟩
        · rw [h1] at ho; cases ho
        · rw [h1] at ho
          cases ho
          exact ⟨h2, h4⟩
      have HE : Hid (rTry r d now = (r, none, decide ((r.ow.getD i default).t + r.wait ≤ now))) := Lib.hid (by unfold rTry; rw [hlv, ho])
      rw [HE.out]
      rw [ho] at HRO
      unfold optI at HRO
      clear hlv ho
      generalize hog : r.ow.getD i default = o at *
      have HTO := Lib.hid (HT.out o (List.mem_of_getElem? hi2))
      go_enter Try.func11, Try.ntmps11
      go_upto_region 1 with fail
      rw [← HW.out]
      have hk2 := HKEY.out W (Chg.refl _ _)
      have HK2 := Lib.hid hk2
      clear hk2
      go_wp2_with (refine wpList_load_mid rfl 31 _ rfl w.heap.size 0 rfl d.cells _ HK2.out Try.underlying31 rfl HI31.out ?_)
      refine (HRL.out _ (Chg.refl _ _)).mono ?_
      rintro e w1 ⟨rfl, g1⟩
      have G1 := Lib.hid g1
      clear g1
      have hk3 := HKEY.out w1 G1.out
      have HK3 := Lib.hid hk3
      clear hk3
      go_wp2_with (refine wpList_load_mid rfl 31 _ rfl w.heap.size 0 rfl d.cells _ HK3.out Try.underlying31 rfl HI31.out ?_)
      refine (HRO.out _ G1.out).mono ?_
      rintro e w2 ⟨rfl, g2⟩
      have G2 := Lib.hid (G1.out.trans g2)
      clear g2
      have A2 := Lib.hid (HAT.out w2 G2.out)
      obtain ⟨rb, c5, hv5, -, -, hrg⟩ := rows_at A2.out.ow hi2
      have HF2 : Hid (∀ v, Chg none w2 v → v.cell? ⟨p, 5, none⟩ = some (.slice (some ⟨rb, 0, none⟩) r.ow.length c5) ∧ v.cell? ⟨p, 2, none⟩ = some (.int .i64 r.wait) ∧ v.cell? ⟨rb, i * 37 + 36, none⟩ = some (.int .i64 o.t)) := Lib.hid fun v hv => by
        have A := (A2.out.chg hv).cells
        exact ⟨by rw [← hv5]; exact A.2.2.2.2.2.1, A.2.2.1, ent_t (rangeAt_chg hrg hv (by simp))⟩
      have HIL : Hid ((i : Int) < (r.ow.length : Int)) := Lib.hid (by omega)
      have HSUM : Hid (IntKind.i64.wrap (o.t + r.wait) = o.t + r.wait) := Lib.hid (by have := HTO.out; rw [IntKind.wrap_i64]; omega)
      have hS2 : Chg none w2 w2.drew := (Chg.refl _ _).drew
      have hil2 : (i : Int) ≤ 1000 := by have := HL.out; omega
      clear hi2 hog hrg hil
      have hneg : ¬ ((i : Int) < 0) := by omega
      go_upto_region 10 with fail
      refine wp_region_held_drew (S := fun v => Chg none w2 v) (by kernel_rfl) hS2 (fun _ => ?_)
      refine wpAnyH_take (i := 0) (oi := ⟨some 60, _, _, _, _, _⟩) (v := ?_) rfl (by kernel_rfl) (by kernel_rfl) (by kernel_rfl) (fun _ _ _ h => h) (Or.inl ⟨by rfl, ?_⟩) (by assumption) ?_
      rotate_left
      · intro v hSv; (try dsimp only at hSv); skip; go_simp; (try with_reducible rfl)
      try simp only [Act.put, List.setIfInBounds_toArray, List.set_cons_zero, List.set_cons_succ]
      refine wpAnyH_take (i := 1) (oi := ⟨some 61, _, _, _, _, _⟩) (v := ?_) rfl (by kernel_rfl) (by kernel_rfl) (by kernel_rfl) (fun _ _ _ h => h) (Or.inl ⟨by rfl, ?_⟩) (by assumption) ?_
      rotate_left
      · intro v hSv; (try dsimp only at hSv); skip; go_simp; (try with_reducible rfl)
      try simp only [Act.put, List.setIfInBounds_toArray, List.set_cons_zero, List.set_cons_succ]
      refine wpAnyH_take (i := 2) (oi := ⟨some 62, _, _, _, _, _⟩) (v := ?_) rfl (by kernel_rfl) (by kernel_rfl) (by kernel_rfl) (fun _ _ _ h => h) (Or.inl ⟨by rfl, ?_⟩) (by assumption) ?_
      rotate_left
      · intro v hSv; (try dsimp only at hSv); skip; go_simp; (try with_reducible rfl)
      try simp only [Act.put, List.setIfInBounds_toArray, List.set_cons_zero, List.set_cons_succ]
      refine wpAnyH_take (i := 3) (oi := ⟨some 63, _, _, _, _, _⟩) (v := ?_) rfl (by kernel_rfl) (by kernel_rfl) (by kernel_rfl) (fun _ _ _ h => h) (Or.inl ⟨by rfl, ?_⟩) (by assumption) ?_
      rotate_left
      · intro v hSv; (try dsimp only at hSv); skip; go_simp; (try with_reducible rfl)
      try simp only [Act.put, List.setIfInBounds_toArray, List.set_cons_zero, List.set_cons_succ]
      refine wpAnyH_take (i := 4) (oi := ⟨some 64, _, _, _, _, _⟩) (v := .slice (some ⟨rb, 0, none⟩) r.ow.length c5) rfl (by kernel_rfl) (by kernel_rfl) (by kernel_rfl) (fun _ _ _ h => h) (Or.inl ⟨by rfl, ?_⟩) (by assumption) ?_
      · intro v hSv; have z := (HF2.out v hSv).1; go_simp
      try simp only [Act.put, List.setIfInBounds_toArray, List.set_cons_zero, List.set_cons_succ]
      refine wpAnyH_take (i := 5) (oi := ⟨some 65, _, _, _, _, _⟩) (v := ?_) rfl (by kernel_rfl) (by kernel_rfl) (by kernel_rfl) (fun _ _ _ h => h) (Or.inl ⟨by rfl, ?_⟩) (by assumption) ?_
      rotate_left
      · intro v hSv; (try dsimp only at hSv); skip; go_simp; (try with_reducible rfl)
      try simp only [Act.put, List.setIfInBounds_toArray, List.set_cons_zero, List.set_cons_succ]
      refine wpAnyH_take (i := 6) (oi := ⟨some 66, _, _, _, _, _⟩) (v := .pointer (some ⟨rb, i * 37, none⟩)) rfl (by kernel_rfl) (by kernel_rfl) (by kernel_rfl) (fun _ _ _ h => h) (Or.inl ⟨by rfl, ?_⟩) (by assumption) ?_
      · intro v hSv; have hz := HIL.out; go_simp
      try simp only [Act.put, List.setIfInBounds_toArray, List.set_cons_zero, List.set_cons_succ]
      refine wpAnyH_take (i := 7) (oi := ⟨some 67, _, _, _, _, _⟩) (v := ?_) rfl (by kernel_rfl) (by kernel_rfl) (by kernel_rfl) (fun _ _ _ h => h) (Or.inl ⟨by rfl, ?_⟩) (by assumption) ?_
      rotate_left
      · intro v hSv; (try dsimp only at hSv); skip; go_simp; (try with_reducible rfl)
      try simp only [Act.put, List.setIfInBounds_toArray, List.set_cons_zero, List.set_cons_succ]
      refine wpAnyH_take (i := 8) (oi := ⟨some 68, _, _, _, _, _⟩) (v := .int .i64 o.t) rfl (by kernel_rfl) (by kernel_rfl) (by kernel_rfl) (fun _ _ _ h => h) (Or.inl ⟨by rfl, ?_⟩) (by assumption) ?_
      · intro v hSv; have z := (HF2.out v hSv).2.2; go_simp
      try simp only [Act.put, List.setIfInBounds_toArray, List.set_cons_zero, List.set_cons_succ]
      refine wpAnyH_take (i := 9) (oi := ⟨some 69, _, _, _, _, _⟩) (v := ?_) rfl (by kernel_rfl) (by kernel_rfl) (by kernel_rfl) (fun _ _ _ h => h) (Or.inl ⟨by rfl, ?_⟩) (by assumption) ?_
      rotate_left
      · intro v hSv; (try dsimp only at hSv); skip; go_simp; (try with_reducible rfl)
      try simp only [Act.put, List.setIfInBounds_toArray, List.set_cons_zero, List.set_cons_succ]
      refine wpAnyH_take (i := 10) (oi := ⟨some 70, _, _, _, _, _⟩) (v := ?_) rfl (by kernel_rfl) (by kernel_rfl) (by kernel_rfl) (fun _ _ _ h => h) (Or.inl ⟨by rfl, ?_⟩) (by assumption) ?_
      rotate_left
      · intro v hSv; (try dsimp only at hSv); skip; go_simp; (try with_reducible rfl)
      try simp only [Act.put, List.setIfInBounds_toArray, List.set_cons_zero, List.set_cons_succ]
      refine wpAnyH_take (i := 11) (oi := ⟨some 71, _, _, _, _, _⟩) (v := ?_) rfl (by kernel_rfl) (by kernel_rfl) (by kernel_rfl) (fun _ _ _ h => h) (Or.inl ⟨by rfl, ?_⟩) (by assumption) ?_
      rotate_left
      · intro v hSv; (try dsimp only at hSv); skip; go_simp; (try with_reducible rfl)
      try simp only [Act.put, List.setIfInBounds_toArray, List.set_cons_zero, List.set_cons_succ]
      refine wpAnyH_take (i := 12) (oi := ⟨some 72, _, _, _, _, _⟩) (v := .int .i64 r.wait) rfl (by kernel_rfl) (by kernel_rfl) (by kernel_rfl) (fun _ _ _ h => h) (Or.inl ⟨by rfl, ?_⟩) (by assumption) ?_
      · intro v hSv; have z := (HF2.out v hSv).2.1; go_simp
      try simp only [Act.put, List.setIfInBounds_toArray, List.set_cons_zero, List.set_cons_succ]
      refine wpAnyH_take (i := 13) (oi := ⟨some 73, _, _, _, _, _⟩) (v := .int .i64 (o.t + r.wait)) rfl (by kernel_rfl) (by kernel_rfl) (by kernel_rfl) (fun _ _ _ h => h) (Or.inl ⟨by rfl, ?_⟩) (by assumption) ?_
      · intro v hSv; have hz := HSUM.out; go_simp
      try simp only [Act.put, List.setIfInBounds_toArray, List.set_cons_zero, List.set_cons_succ]
      refine wpAnyH_take (i := 14) (oi := ⟨some 74, _, _, _, _, _⟩) (v := .bool (decide (o.t + r.wait ≤ now))) rfl (by kernel_rfl) (by kernel_rfl) (by kernel_rfl) (fun _ _ _ h => h) (Or.inl ⟨by rfl, ?_⟩) (by assumption) ?_
      · intro v hSv; skip; go_simp
      try simp only [Act.put, List.setIfInBounds_toArray, List.set_cons_zero, List.set_cons_succ]
      refine wpAnyH_take (i := 15) (oi := ⟨some 6, _, _, _, _, _⟩) (v := ?_) rfl (by kernel_rfl) (by kernel_rfl) (by kernel_rfl) (fun _ _ _ h => h) (Or.inl ⟨by rfl, ?_⟩) (by assumption) ?_
      rotate_left
      · intro v hSv; (try dsimp only at hSv); skip; go_simp; (try with_reducible rfl)
      try simp only [Act.put, List.setIfInBounds_toArray, List.set_cons_zero, List.set_cons_succ]
      refine wpAnyH_take (i := 16) (oi := ⟨some 7, _, _, _, _, _⟩) (v := ?_) rfl (by kernel_rfl) (by kernel_rfl) (by kernel_rfl) (fun _ _ _ h => h) (Or.inl ⟨by rfl, ?_⟩) (by assumption) ?_
      rotate_left
      · intro v hSv; (try dsimp only at hSv); skip; go_simp; (try with_reducible rfl)
      try simp only [Act.put, List.setIfInBounds_toArray, List.set_cons_zero, List.set_cons_succ]
      refine wpAnyH_done (by kernel_rfl) ?_ _
      go_wp2_with fail
      go_ret2
      exact ⟨_, v5, rfl, rfl, A2.out.chg hS2, (Kept.of_chg ((HG0.out.trans G2.out).trans hS2)).mono fun g e => by cases e⟩
    | none =>
      have HE : Hid (rTry r d now = ({ r with count := r.count + 1, ow := r.ow ++ [⟨⟨d, r.id, r.inc, r.count + 1, false⟩, now⟩] }, some ⟨d, r.id, r.inc, r.count + 1, false⟩, false)) := Lib.hid (by unfold rTry; rw [hlv, ho])
      rw [HE.out]
      rw [ho] at HRO
      unfold optI at HRO
      clear hlv ho
      obtain ⟨i52, hi52, hz52, hs52, hb52⟩ := zinfo52
      obtain ⟨i33, hi33, hz33, hs33⟩ := zinfo33
      go_enter Try.func11, Try.ntmps11
      go_upto_region 1 with fail
      rw [← HW.out]
      have hk2 := HKEY.out W (Chg.refl _ _)
      have HK2 := Lib.hid hk2
      clear hk2
      go_wp2_with (refine wpList_load_mid rfl 31 _ rfl w.heap.size 0 rfl d.cells _ HK2.out Try.underlying31 rfl HI31.out ?_)
      refine (HRL.out _ (Chg.refl _ _)).mono ?_
      rintro e w1 ⟨rfl, g1⟩
      have G1 := Lib.hid g1
      clear g1
      have hk3 := HKEY.out w1 G1.out
      have HK3 := Lib.hid hk3
      clear hk3
      go_wp2_with (refine wpList_load_mid rfl 31 _ rfl w.heap.size 0 rfl d.cells _ HK3.out Try.underlying31 rfl HI31.out ?_)
      refine (HRO.out _ G1.out).mono ?_
      rintro e w2 ⟨rfl, g2⟩
      have G2 := Lib.hid (G1.out.trans g2)
      clear g2
      have A2 := Lib.hid (HAT.out w2 G2.out)
      obtain ⟨-, -, -, -, c4, -, -, f4⟩ := A2.out.cells
      have f4 := f4 4
      have hc0 := hc.1
      have hc1 := hc.2
      go_upto_region 7 with fail
      obtain ⟨w3, hw3⟩ : ∃ w3, w3 = w2.setCell ⟨p, 4, none⟩ (.int .u64 (r.count + 1)) := ⟨_, rfl⟩
      rw [← hw3]
      have hE : r.ow.length + 1 = (r.ow ++ [(⟨⟨d, r.id, r.inc, r.count + 1, false⟩, now⟩ : Ent)]).length := by simp
      have A3 : RkAt w3 p { r with count := r.count + 1 } v5 v6 := by
        rw [hw3]
        exact ⟨A2.out.hd.set 4 _, ownsRow_setCell_below A2.out.ow (Nat.lt_succ_self _) _, ownsRow_setCell_below A2.out.ot (Nat.lt_succ_self _) _⟩
      have k3 : Kept (rkS p v5 v6) w w3 := by
        rw [hw3]
        exact (Kept.setCell ((Kept.of_chg (HG0.out.trans G2.out)).mono fun g e => by cases e) _ _ (.inl (.inl rfl)))
      have hne : w.heap.size ≠ p := by have := HPL.out; omega
      have HKEY3 : Hid (∀ v, Chg none w3 v → v.rangeAt w.heap.size 0 d.cells) := Lib.hid fun v hv => by
        refine rangeAt_chg (fun j x hj => ?_) hv (by simp)
        rw [hw3, World.cell?_setCell_other _ _ _ _ (by intro e; exact hne (congrArg Addr.block e).symm)]
        exact HKEY.out w2 G2.out j x hj
      have HF3 : Hid (∀ v, Chg none w3 v → v.cell? ⟨p, 0, none⟩ = some (.int .i64 r.id) ∧ v.cell? ⟨p, 1, none⟩ = some (.int .u64 r.inc) ∧ v.cell? ⟨p, 4, none⟩ = some (.int .u64 (r.count + 1))) := Lib.hid fun v hv => by
        have c := (A3.chg hv).cells
        exact ⟨c.1, c.2.1, c.2.2.2.2.1⟩
      have hS3 : Chg none w3 w3.drew := (Chg.refl _ _).drew
      obtain ⟨w4, hw4⟩ : ∃ w4, w4 = (w3.alloc (.cells #[.int .u8 0, .int .u8 0, .int .u8 0, .int .u8 0, .int .u8 0, .int .u8 0, .int .u8 0, .int .u8 0, .int .u8 0, .int .u8 0, .int .u8 0, .int .u8 0, .int .u8 0, .int .u8 0, .int .u8 0, .int .u8 0, .int .u8 0, .int .u8 0, .int .u8 0, .int .u8 0, .int .u8 0, .int .u8 0, .int .u8 0, .int .u8 0, .int .u8 0, .int .u8 0, .int .u8 0, .int .u8 0, .int .u8 0, .int .u8 0, .int .u8 0, .int .u8 0, .int .i64 0, .int .u64 0, .int .u64 0, .bool false] 33)).drew.setRow w3.heap.size (clCells d r.id r.inc (r.count + 1) false).toArray := ⟨_, rfl⟩
      have g4 : Chg none w3 w4 := by rw [hw4]; exact Chg.own (((Chg.refl _ _).alloc _).drew) (chg_setRow _ _ _) (Nat.le_refl _)
      have b4 : Blk w4 w3.heap.size (clCells d r.id r.inc (r.count + 1) false).toArray 33 := by rw [hw4]; exact setRow_heap _ _ _ _ _ _ ((Blk.new w3 _ _).drew)
      have HS4 : Hid (Chg none w3 ((w3.alloc (.cells #[.int .u8 0, .int .u8 0, .int .u8 0, .int .u8 0, .int .u8 0, .int .u8 0, .int .u8 0, .int .u8 0, .int .u8 0, .int .u8 0, .int .u8 0, .int .u8 0, .int .u8 0, .int .u8 0, .int .u8 0, .int .u8 0, .int .u8 0, .int .u8 0, .int .u8 0, .int .u8 0, .int .u8 0, .int .u8 0, .int .u8 0, .int .u8 0, .int .u8 0, .int .u8 0, .int .u8 0, .int .u8 0, .int .u8 0, .int .u8 0, .int .u8 0, .int .u8 0, .int .i64 0, .int .u64 0, .int .u64 0, .bool false] 33)).drew.setRow w3.heap.size (clCells d r.id r.inc (r.count + 1) false).toArray)) := Lib.hid (by rw [← hw4]; exact g4)
      have HW4 := Lib.hid hw4
      have HSZ : Hid ((#[.int .u8 0, .int .u8 0, .int .u8 0, .int .u8 0, .int .u8 0, .int .u8 0, .int .u8 0, .int .u8 0, .int .u8 0, .int .u8 0, .int .u8 0, .int .u8 0, .int .u8 0, .int .u8 0, .int .u8 0, .int .u8 0, .int .u8 0, .int .u8 0, .int .u8 0, .int .u8 0, .int .u8 0, .int .u8 0, .int .u8 0, .int .u8 0, .int .u8 0, .int .u8 0, .int .u8 0, .int .u8 0, .int .u8 0, .int .u8 0, .int .u8 0, .int .u8 0, .int .i64 0, .int .u64 0, .int .u64 0, .bool false] : Array Value).size = (clCells d r.id r.inc (r.count + 1) false).toArray.size) := Lib.hid (by rw [show (clCells d r.id r.inc (r.count + 1) false).toArray.size = 36 from by rw [List.size_toArray, clCells_len]]; rfl)
      have hS4 : w4.drew.rangeAt w3.heap.size 0 (clCells d r.id r.inc (r.count + 1) false) := rangeAt_blk b4
      have A4 := A3.chg g4
      have HID : Hid (∀ v : World, v.rangeAt w3.heap.size 0 (clCells d r.id r.inc (r.count + 1) false) → v.rangeAt w3.heap.size 0 (clCells d r.id r.inc (r.count + 1) false)) := Lib.hid fun _ h => h
      obtain ⟨w5, hw5⟩ : ∃ w5, w5 = w4.drew.alloc (.cells (entCells ⟨⟨d, r.id, r.inc, r.count + 1, false⟩, now⟩).toArray 52) := ⟨_, rfl⟩
      have g5 : Chg none w4 w5 := by rw [hw5]; exact ((Chg.refl _ _).drew).alloc _
      have HS5 : Hid ((w4.drew.alloc (.cells (entCells ⟨⟨d, r.id, r.inc, r.count + 1, false⟩, now⟩).toArray 52)).rangeAt w3.heap.size 0 (clCells d r.id r.inc (r.count + 1) false)) := Lib.hid (rangeAt_chg (c := none) hS4 ((Chg.refl _ _).alloc _) (by simp))
      have A5 := A4.chg g5
      have HOW5 : Hid ((w4.drew.alloc (.cells (entCells ⟨⟨d, r.id, r.inc, r.count + 1, false⟩, now⟩).toArray 52)).ownsRow (p + 1) 52 37 v5 r.ow.length (r.ow.flatMap entCells)) := Lib.hid (by rw [← hw5]; exact A5.ow)
      have HRD : Hid (∀ W : World, Reads (W.alloc (.cells (entCells ⟨⟨d, r.id, r.inc, r.count + 1, false⟩, now⟩).toArray 52)) (W.heap.size + 1) 37 (some ⟨W.heap.size, 0, none⟩) 1 (entCells ⟨⟨d, r.id, r.inc, r.count + 1, false⟩, now⟩)) := Lib.hid (ent_reads _)
      have HO1 := Lib.hid (ent_oneM ⟨⟨d, r.id, r.inc, r.count + 1, false⟩, now⟩)
      have hs1 : r.ow.length + 1 ≤ maxLen := by have := HL.out; unfold maxLen; omega
      have hs2 : (r.ow.length + 1) * 72 ≤ 140737488355328 := by have := HL.out; omega
      have HF52 := Lib.hid (fill52 ⟨⟨d, r.id, r.inc, r.count + 1, false⟩, now⟩ i52 hs52)
      have HB52 := Lib.hid (built52 ⟨⟨d, r.id, r.inc, r.count + 1, false⟩, now⟩)
      have HFD := Lib.hid (fill33 d r.id r.inc (r.count + 1) false i33 hs33)
      have HI33 : Hid ((Try.prog.info? 33).map (·.size) = some (clCells d r.id r.inc (r.count + 1) false).length) := Lib.hid (by rw [clCells_len]; kernel_rfl)
      have hp5 : w4.cell? ⟨p, 5, none⟩ = some v5 := A4.cells.2.2.2.2.2.1
      have hp5l : p < w4.heap.size := Blk.lt A4.hd
      have k5 : Kept (rkS p v5 v6) w w5 := (k3.chg g4).chg g5
      have HPW : Hid (p + 1 ≤ w5.heap.size) := Lib.hid (Blk.lt A5.hd)
      have HKS : Hid (∀ v, Kept (rkS p v5 v6) w v → w.heap.size ≤ v.heap.size) := Lib.hid fun v k => k.size
      have HAP : Hid (∀ (x5 : Value) (w6 : World), w6.ownsRow (p + 1) 52 37 x5 (r.ow.length + 1) (r.ow.flatMap entCells ++ entCells ⟨⟨d, r.id, r.inc, r.count + 1, false⟩, now⟩) → (w4.drew.alloc (.cells (entCells ⟨⟨d, r.id, r.inc, r.count + 1, false⟩, now⟩).toArray 52)).grownBy w6 v5.ownBlock →
          w6.cell? ⟨p, 5, none⟩ = some v5 ∧ w6.frozen? ⟨p, 5, none⟩ = false ∧ w6.rangeAt w3.heap.size 0 (clCells d r.id r.inc (r.count + 1) false) ∧ (w6.setCell ⟨p, 5, none⟩ x5).rangeAt w3.heap.size 0 (clCells d r.id r.inc (r.count + 1) false) ∧
          RkAt (w6.setCell ⟨p, 5, none⟩ x5) p { r with count := r.count + 1, ow := r.ow ++ [⟨⟨d, r.id, r.inc, r.count + 1, false⟩, now⟩] } x5 v6 ∧ Kept (rkS p v5 v6) w (w6.setCell ⟨p, 5, none⟩ x5) ∧ (w6.setCell ⟨p, 5, none⟩ x5).rangeAt w3.heap.size 0 (clCells d r.id r.inc (r.count + 1) false)) := Lib.hid fun x5 w6 hx5 hgr => by
        rw [← hw5] at hgr
        have hpn : some p ≠ v5.ownBlock := fun e => by have := (A5.ow.lt _ e.symm).1; omega
        have h6 : Blk w6 p _ 50 := A5.hd.chg hgr hpn
        have hcb : w3.heap.size ≠ p := by have := Blk.lt A3.hd; omega
        have hc5 : w5.rangeAt w3.heap.size 0 (clCells d r.id r.inc (r.count + 1) false) := rangeAt_chg (c := none) hS4 (by rw [hw5]; exact (Chg.refl _ _).alloc _) (by simp)
        have hc6 : w6.rangeAt w3.heap.size 0 (clCells d r.id r.inc (r.count + 1) false) := rangeAt_chg hc5 hgr (fun e => by have := (A3.ow.lt _ e.symm).2; omega)
        have hc7 : (w6.setCell ⟨p, 5, none⟩ x5).rangeAt w3.heap.size 0 (clCells d r.id r.inc (r.count + 1) false) := fun j x hj => by
          rw [World.cell?_setCell_other _ _ _ _ (by intro e; exact hcb (congrArg Addr.block e).symm)]
          exact hc6 j x hj
        have hap : v6.ownBlock = none ∨ v6.ownBlock ≠ v5.ownBlock := own_apartE A5.ow A5.ot (by decide)
        refine ⟨by rw [h6.cell]; rfl, h6.frozen 5, hc6, hc7, ⟨h6.set 5 _, ?_, ownsRow_setCell_below (A5.ot.kept hgr hap) (Nat.lt_succ_self _) _⟩, ?_, hc7⟩
        · have := ownsRow_setCell_below hx5 (a := ⟨p, 5, none⟩) (Nat.lt_succ_self _) x5
          simp only [List.flatMap_append, List.flatMap_cons, List.flatMap_nil, List.append_nil]
          rw [List.length_append]
          exact this
        · exact Kept.setCell (kept_grown k5 hgr fun g e => .inl (.inr (.inl e))) _ _ (.inl (.inl rfl))
      clear hw3 A3 k3 hne hw4 g4 b4 A4 hw5 g5 A5 k5 hE
      refine wp_region_held_drew (S := fun v => Chg none w3 v) (by kernel_rfl) hS3 (fun _ => ?_)
      refine wpAnyH_take (i := 0) (oi := ⟨some 32, _, _, _, _, _⟩) (v := .agg (d.cells).toArray) rfl (by kernel_rfl) (by kernel_rfl) (by kernel_rfl) (fun _ _ _ h => h) (yieldsIf_load_mid (by rfl) 31 _ rfl w.heap.size 0 rfl (d.cells) _ (fun v h => HKEY3.out v h) Try.underlying31 rfl HI31.out) (by assumption) ?_
      try simp only [Act.put, List.setIfInBounds_toArray, List.set_cons_zero, List.set_cons_succ]
      refine wpAnyH_take (i := 1) (oi := ⟨some 33, _, _, _, _, _⟩) (v := ?_) rfl (by kernel_rfl) (by kernel_rfl) (by kernel_rfl) (fun _ _ _ h => h) (Or.inl ⟨by rfl, ?_⟩) (by assumption) ?_
      rotate_left
      · intro v hSv; (try dsimp only at hSv); skip; go_simp; (try with_reducible rfl)
      try simp only [Act.put, List.setIfInBounds_toArray, List.set_cons_zero, List.set_cons_succ]
      refine wpAnyH_take (i := 2) (oi := ⟨some 34, _, _, _, _, _⟩) (v := ?_) rfl (by kernel_rfl) (by kernel_rfl) (by kernel_rfl) (fun _ _ _ h => h) (Or.inl ⟨by rfl, ?_⟩) (by assumption) ?_
      rotate_left
      · intro v hSv; (try dsimp only at hSv); skip; go_simp; (try with_reducible rfl)
      try simp only [Act.put, List.setIfInBounds_toArray, List.set_cons_zero, List.set_cons_succ]
      refine wpAnyH_take (i := 3) (oi := ⟨some 35, _, _, _, _, _⟩) (v := ?_) rfl (by kernel_rfl) (by kernel_rfl) (by kernel_rfl) (fun _ _ _ h => h) (Or.inl ⟨by rfl, ?_⟩) (by assumption) ?_
      rotate_left
      · intro v hSv; (try dsimp only at hSv); skip; go_simp; (try with_reducible rfl)
      try simp only [Act.put, List.setIfInBounds_toArray, List.set_cons_zero, List.set_cons_succ]
      refine wpAnyH_take (i := 4) (oi := ⟨some 36, _, _, _, _, _⟩) (v := .int .i64 r.id) rfl (by kernel_rfl) (by kernel_rfl) (by kernel_rfl) (fun _ _ _ h => h) (Or.inl ⟨by rfl, ?_⟩) (by assumption) ?_
      · intro v hSv; have z := (HF3.out v hSv).1; go_simp
      try simp only [Act.put, List.setIfInBounds_toArray, List.set_cons_zero, List.set_cons_succ]
      refine wpAnyH_take (i := 5) (oi := ⟨some 37, _, _, _, _, _⟩) (v := ?_) rfl (by kernel_rfl) (by kernel_rfl) (by kernel_rfl) (fun _ _ _ h => h) (Or.inl ⟨by rfl, ?_⟩) (by assumption) ?_
      rotate_left
      · intro v hSv; (try dsimp only at hSv); skip; go_simp; (try with_reducible rfl)
      try simp only [Act.put, List.setIfInBounds_toArray, List.set_cons_zero, List.set_cons_succ]
      refine wpAnyH_take (i := 6) (oi := ⟨some 38, _, _, _, _, _⟩) (v := ?_) rfl (by kernel_rfl) (by kernel_rfl) (by kernel_rfl) (fun _ _ _ h => h) (Or.inl ⟨by rfl, ?_⟩) (by assumption) ?_
      rotate_left
      · intro v hSv; (try dsimp only at hSv); skip; go_simp; (try with_reducible rfl)
      try simp only [Act.put, List.setIfInBounds_toArray, List.set_cons_zero, List.set_cons_succ]
      refine wpAnyH_take (i := 7) (oi := ⟨some 39, _, _, _, _, _⟩) (v := ?_) rfl (by kernel_rfl) (by kernel_rfl) (by kernel_rfl) (fun _ _ _ h => h) (Or.inl ⟨by rfl, ?_⟩) (by assumption) ?_
      rotate_left
      · intro v hSv; (try dsimp only at hSv); skip; go_simp; (try with_reducible rfl)
      try simp only [Act.put, List.setIfInBounds_toArray, List.set_cons_zero, List.set_cons_succ]
      refine wpAnyH_take (i := 8) (oi := ⟨some 40, _, _, _, _, _⟩) (v := .int .u64 r.inc) rfl (by kernel_rfl) (by kernel_rfl) (by kernel_rfl) (fun _ _ _ h => h) (Or.inl ⟨by rfl, ?_⟩) (by assumption) ?_
      · intro v hSv; have z := (HF3.out v hSv).2.1; go_simp
      try simp only [Act.put, List.setIfInBounds_toArray, List.set_cons_zero, List.set_cons_succ]
      refine wpAnyH_take (i := 9) (oi := ⟨some 41, _, _, _, _, _⟩) (v := ?_) rfl (by kernel_rfl) (by kernel_rfl) (by kernel_rfl) (fun _ _ _ h => h) (Or.inl ⟨by rfl, ?_⟩) (by assumption) ?_
      rotate_left
      · intro v hSv; (try dsimp only at hSv); skip; go_simp; (try with_reducible rfl)
      try simp only [Act.put, List.setIfInBounds_toArray, List.set_cons_zero, List.set_cons_succ]
      refine wpAnyH_take (i := 10) (oi := ⟨some 42, _, _, _, _, _⟩) (v := ?_) rfl (by kernel_rfl) (by kernel_rfl) (by kernel_rfl) (fun _ _ _ h => h) (Or.inl ⟨by rfl, ?_⟩) (by assumption) ?_
      rotate_left
      · intro v hSv; (try dsimp only at hSv); skip; go_simp; (try with_reducible rfl)
      try simp only [Act.put, List.setIfInBounds_toArray, List.set_cons_zero, List.set_cons_succ]
      refine wpAnyH_take (i := 11) (oi := ⟨some 43, _, _, _, _, _⟩) (v := ?_) rfl (by kernel_rfl) (by kernel_rfl) (by kernel_rfl) (fun _ _ _ h => h) (Or.inl ⟨by rfl, ?_⟩) (by assumption) ?_
      rotate_left
      · intro v hSv; (try dsimp only at hSv); skip; go_simp; (try with_reducible rfl)
      try simp only [Act.put, List.setIfInBounds_toArray, List.set_cons_zero, List.set_cons_succ]
      refine wpAnyH_take (i := 12) (oi := ⟨some 44, _, _, _, _, _⟩) (v := .int .u64 (r.count + 1)) rfl (by kernel_rfl) (by kernel_rfl) (by kernel_rfl) (fun _ _ _ h => h) (Or.inl ⟨by rfl, ?_⟩) (by assumption) ?_
      · intro v hSv; have z := (HF3.out v hSv).2.2; go_simp
      try simp only [Act.put, List.setIfInBounds_toArray, List.set_cons_zero, List.set_cons_succ]
      refine wpAnyH_take (i := 13) (oi := ⟨some 45, _, _, _, _, _⟩) (v := .agg (clCells d r.id r.inc (r.count + 1) false).toArray) rfl (by kernel_rfl) (by kernel_rfl) (by kernel_rfl) (fun _ _ _ h => h) (yieldsIf_build (by rfl) 33 _ rfl (clCells d r.id r.inc (r.count + 1) false).toArray (by simp only [List.map_toArray, List.map_cons, List.map_nil]; exact built33n d r.id r.inc (r.count + 1))) (by assumption) ?_
      try simp only [Act.put, List.setIfInBounds_toArray, List.set_cons_zero, List.set_cons_succ]
      refine wpAnyH_ready (rs := [14]) (by kernel_rfl) (by simp) ?_
      refine AllReadyH.cons (o := ⟨some 11, _, _, _, _, _⟩) rfl (fun K hK => ?_) (AllReadyH.nil)
      go_simp
      refine hK.out _ _ (Chg.alloc hS3 _) (fun _ => ?_)
      clear hK K
      try simp only [Act.put, List.setIfInBounds_toArray, List.set_cons_zero, List.set_cons_succ]
      refine wpAnyH_ready (rs := [15]) (by kernel_rfl) (by simp) ?_
      refine AllReadyH.cons (o := ⟨none, _, _, _, _, _⟩) rfl (fun K hK => ?_) (AllReadyH.nil)
      refine wp_store_row 33 _ _ rfl w3.heap.size (clCells d r.id r.inc (r.count + 1) false).toArray rfl rfl 33 _ ((Blk.new w3 _ _).drew) (info33 d _ _ _ _) HSZ.out (cl_one d _ _ _ _) ?_
      refine hK.out _ _ HS4.out (fun _ => ?_)
      clear hK K
      refine wpAnyH_done (by kernel_rfl) ?_ _
      try simp only [Act.put]
      rw [← HW4.out]
      clear hS3 HF3 HKEY3 HS4 HSZ
      go_upto_region 8 with fail
      refine wp_region_held_drew (S := fun v => v.rangeAt w3.heap.size 0 (clCells d r.id r.inc (r.count + 1) false)) (by kernel_rfl) hS4 (fun _ => ?_)
      refine wpAnyH_take (i := 0) (oi := ⟨some 46, _, _, _, _, _⟩) (v := ?_) rfl (by kernel_rfl) (by kernel_rfl) (by kernel_rfl) (fun _ _ _ h => h) (Or.inl ⟨by rfl, ?_⟩) (by assumption) ?_
      rotate_left
      · intro v hSv; (try dsimp only at hSv); skip; go_simp; (try with_reducible rfl)
      try simp only [Act.put, List.setIfInBounds_toArray, List.set_cons_zero, List.set_cons_succ]
      refine wpAnyH_take (i := 1) (oi := ⟨some 47, _, _, _, _, _⟩) (v := ?_) rfl (by kernel_rfl) (by kernel_rfl) (by kernel_rfl) (fun _ _ _ h => h) (Or.inl ⟨by rfl, ?_⟩) (by assumption) ?_
      rotate_left
      · intro v hSv; (try dsimp only at hSv); skip; go_simp; (try with_reducible rfl)
      try simp only [Act.put, List.setIfInBounds_toArray, List.set_cons_zero, List.set_cons_succ]
      refine wpAnyH_take (i := 2) (oi := ⟨some 48, _, _, _, _, _⟩) (v := ?_) rfl (by kernel_rfl) (by kernel_rfl) (by kernel_rfl) (fun _ _ _ h => h) (Or.inl ⟨by rfl, ?_⟩) (by assumption) ?_
      rotate_left
      · intro v hSv; (try dsimp only at hSv); skip; go_simp; (try with_reducible rfl)
      try simp only [Act.put, List.setIfInBounds_toArray, List.set_cons_zero, List.set_cons_succ]
      refine wpAnyH_take (i := 3) (oi := ⟨some 49, _, _, _, _, _⟩) (v := ?_) rfl (by kernel_rfl) (by kernel_rfl) (by kernel_rfl) (fun _ _ _ h => h) (Or.inl ⟨by rfl, ?_⟩) (by assumption) ?_
      rotate_left
      · intro v hSv; (try dsimp only at hSv); skip; go_simp; (try with_reducible rfl)
      try simp only [Act.put, List.setIfInBounds_toArray, List.set_cons_zero, List.set_cons_succ]
      refine wpAnyH_take (i := 5) (oi := ⟨some 51, _, _, _, _, _⟩) (v := .agg (clCells d r.id r.inc (r.count + 1) false).toArray) rfl (by kernel_rfl) (by kernel_rfl) (by kernel_rfl) (fun _ _ _ h => h) (yieldsIf_load_mid (by rfl) 33 _ rfl w3.heap.size 0 rfl (clCells d r.id r.inc (r.count + 1) false) _ (fun v h => HID.out v h) Try.underlying33 rfl HI33.out) (by assumption) ?_
      try simp only [Act.put, List.setIfInBounds_toArray, List.set_cons_zero, List.set_cons_succ]
      refine wpAnyH_take (i := 6) (oi := ⟨some 52, _, _, _, _, _⟩) (v := ?_) rfl (by kernel_rfl) (by kernel_rfl) (by kernel_rfl) (fun _ _ _ h => h) (Or.inl ⟨by rfl, ?_⟩) (by assumption) ?_
      rotate_left
      · intro v hSv; (try dsimp only at hSv); skip; go_simp; (try with_reducible rfl)
      try simp only [Act.put, List.setIfInBounds_toArray, List.set_cons_zero, List.set_cons_succ]
      refine wpAnyH_take (i := 7) (oi := ⟨some 53, _, _, _, _, _⟩) (v := .agg (entCells ⟨⟨d, r.id, r.inc, r.count + 1, false⟩, now⟩).toArray) rfl (by kernel_rfl) (by kernel_rfl) (by kernel_rfl) (fun _ _ _ h => h) (yieldsIf_build (by rfl) 52 _ rfl (entCells ⟨⟨d, r.id, r.inc, r.count + 1, false⟩, now⟩).toArray (by simp only [List.map_toArray, List.map_cons, List.map_nil]; exact HB52.out)) (by assumption) ?_
      try simp only [Act.put, List.setIfInBounds_toArray, List.set_cons_zero, List.set_cons_succ]
      refine wpAnyH_ready (rs := [4, 8]) (by kernel_rfl) (by simp) ?_
      refine AllReadyH.cons (o := ⟨some 50, _, _, _, _, _⟩) rfl (fun K hK => ?_) (AllReadyH.cons (o := ⟨some 54, _, _, _, _, _⟩) rfl (fun K hK => ?_) (AllReadyH.nil))
      · go_simp
        refine hK.out _ _ hS4 (fun _ => ?_)
        clear hK K
        try simp only [Act.put, List.setIfInBounds_toArray, List.set_cons_zero, List.set_cons_succ]
        refine wpAnyH_ready (rs := [8]) (by kernel_rfl) (by simp) ?_
        refine AllReadyH.cons (o := ⟨some 54, _, _, _, _, _⟩) rfl (fun K hK => ?_) (AllReadyH.nil)
        refine wp_buildSlice 47 52 1 _ (by rfl) (entCells ⟨⟨d, r.id, r.inc, r.count + 1, false⟩, now⟩).toArray i52 (.agg #[.int .u8 0, .int .u8 0, .int .u8 0, .int .u8 0, .int .u8 0, .int .u8 0, .int .u8 0, .int .u8 0, .int .u8 0, .int .u8 0, .int .u8 0, .int .u8 0, .int .u8 0, .int .u8 0, .int .u8 0, .int .u8 0, .int .u8 0, .int .u8 0, .int .u8 0, .int .u8 0, .int .u8 0, .int .u8 0, .int .u8 0, .int .u8 0, .int .u8 0, .int .u8 0, .int .u8 0, .int .u8 0, .int .u8 0, .int .u8 0, .int .u8 0, .int .u8 0, .int .i64 0, .int .u64 0, .int .u64 0, .bool false, .int .i64 0]) Try.underlying47 hi52 hz52 (by rw [hs52]; decide) (by rw [hs52]; decide) (by simp only [List.map_toArray, List.map_cons, List.map_nil]; exact HF52.out) ?_
        refine hK.out _ _ HS5.out (fun _ => ?_)
        clear hK K
        try simp only [Act.put, List.setIfInBounds_toArray, List.set_cons_zero, List.set_cons_succ]
        refine wpAnyH_ready (rs := [9]) (by kernel_rfl) (by simp) ?_
        refine AllReadyH.cons (o := ⟨some 55, _, _, _, _, _⟩) rfl (fun K hK => ?_) (AllReadyH.nil)
        refine wp_append_any _ (.tmp 50) (.tmp 54) 47 rfl (p + 1) 52 i52 (.agg #[.int .u8 0, .int .u8 0, .int .u8 0, .int .u8 0, .int .u8 0, .int .u8 0, .int .u8 0, .int .u8 0, .int .u8 0, .int .u8 0, .int .u8 0, .int .u8 0, .int .u8 0, .int .u8 0, .int .u8 0, .int .u8 0, .int .u8 0, .int .u8 0, .int .u8 0, .int .u8 0, .int .u8 0, .int .u8 0, .int .u8 0, .int .u8 0, .int .u8 0, .int .u8 0, .int .u8 0, .int .u8 0, .int .u8 0, .int .u8 0, .int .u8 0, .int .u8 0, .int .i64 0, .int .u64 0, .int .u64 0, .bool false, .int .i64 0]) 37 72 Try.underlying47 hi52 hz52 hs52 hb52 rfl (by decide) v5 r.ow.length _ rfl HOW5.out _ (some ⟨w4.heap.size, 0, none⟩) 1 1 (entCells ⟨⟨d, r.id, r.inc, r.count + 1, false⟩, now⟩) rfl (HRD.out w4.drew) HO1.out hs1 hs2 (by simp; have := HPL.out; omega) ?_
        intro x5 w6 hx5 hgr6 hor6
        obtain ⟨A5x, c5x, rfl⟩ := own_form hx5
        have HB6 := Lib.hid (HAP.out _ w6 hx5 hgr6)
        have hz6 := HB6.out.1
        have hf6 := HB6.out.2.1
        have hcl6 := HB6.out.2.2.1
        clear hx5 hgr6 hor6
        refine hK.out _ _ hcl6 (fun _ => ?_)
        clear hK K
        try simp only [Act.put, List.setIfInBounds_toArray, List.set_cons_zero, List.set_cons_succ]
        refine wpAnyH_take (i := 10) (oi := ⟨some 56, _, _, _, _, _⟩) (v := ?_) rfl (by kernel_rfl) (by kernel_rfl) (by kernel_rfl) (fun _ _ _ h => h) (Or.inl ⟨by rfl, ?_⟩) (by assumption) ?_
        rotate_left
        · intro v hSv; (try dsimp only at hSv); skip; go_simp; (try with_reducible rfl)
        try simp only [Act.put, List.setIfInBounds_toArray, List.set_cons_zero, List.set_cons_succ]
        refine wpAnyH_take (i := 11) (oi := ⟨some 57, _, _, _, _, _⟩) (v := ?_) rfl (by kernel_rfl) (by kernel_rfl) (by kernel_rfl) (fun _ _ _ h => h) (Or.inl ⟨by rfl, ?_⟩) (by assumption) ?_
        rotate_left
        · intro v hSv; (try dsimp only at hSv); skip; go_simp; (try with_reducible rfl)
        try simp only [Act.put, List.setIfInBounds_toArray, List.set_cons_zero, List.set_cons_succ]
        refine wpAnyH_ready (rs := [12]) (by kernel_rfl) (by simp) ?_
        refine AllReadyH.cons (o := ⟨none, _, _, _, _, _⟩) rfl (fun K hK => ?_) (AllReadyH.nil)
        go_simp
        refine hK.out _ _ HB6.out.2.2.2.1 (fun _ => ?_)
        clear hK K
        refine wpAnyH_done (by kernel_rfl) ?_ _
        obtain ⟨w7, hw7⟩ : ∃ w7, w7 = w6.setCell ⟨p, 5, none⟩ (.slice A5x (r.ow.length + 1) c5x) := ⟨_, rfl⟩
        rw [← hw7]
        have HE7 := Lib.hid HB6.out.2.2.2.2
        rw [← hw7] at HE7
        clear hz6 hf6 hcl6 HB6 hw7
        go_wp2_with (first
          | (refine wpList_load_mid rfl 33 _ rfl w3.heap.size 0 rfl (clCells d r.id r.inc (r.count + 1) false) _ HE7.out.2.2 Try.underlying33 rfl HI33.out ?_)
          | (refine wpList_buildSlice rfl 36 33 1 _ rfl (clCells d r.id r.inc (r.count + 1) false).toArray i33 (.agg #[.int .u8 0, .int .u8 0, .int .u8 0, .int .u8 0, .int .u8 0, .int .u8 0, .int .u8 0, .int .u8 0, .int .u8 0, .int .u8 0, .int .u8 0, .int .u8 0, .int .u8 0, .int .u8 0, .int .u8 0, .int .u8 0, .int .u8 0, .int .u8 0, .int .u8 0, .int .u8 0, .int .u8 0, .int .u8 0, .int .u8 0, .int .u8 0, .int .u8 0, .int .u8 0, .int .u8 0, .int .u8 0, .int .u8 0, .int .u8 0, .int .u8 0, .int .u8 0, .int .i64 0, .int .u64 0, .int .u64 0, .bool false]) Try.underlying36 hi33 hz33 (by rw [hs33]; decide) (by rw [hs33]; decide) (by simp only [List.map_toArray, List.map_cons, List.map_nil]; exact HFD.out) ?_))
        go_ret2
        exact ⟨_, rfl, sent_blk (c := ⟨d, r.id, r.inc, r.count + 1, false⟩) (Blk.new w7 _ _) (HKS.out w7 HE7.out.2.1), ⟨_, HE7.out.1.chg ((Chg.refl _ _).alloc _)⟩, HE7.out.2.1.alloc _⟩
      · refine wp_buildSlice 47 52 1 _ (by rfl) (entCells ⟨⟨d, r.id, r.inc, r.count + 1, false⟩, now⟩).toArray i52 (.agg #[.int .u8 0, .int .u8 0, .int .u8 0, .int .u8 0, .int .u8 0, .int .u8 0, .int .u8 0, .int .u8 0, .int .u8 0, .int .u8 0, .int .u8 0, .int .u8 0, .int .u8 0, .int .u8 0, .int .u8 0, .int .u8 0, .int .u8 0, .int .u8 0, .int .u8 0, .int .u8 0, .int .u8 0, .int .u8 0, .int .u8 0, .int .u8 0, .int .u8 0, .int .u8 0, .int .u8 0, .int .u8 0, .int .u8 0, .int .u8 0, .int .u8 0, .int .u8 0, .int .i64 0, .int .u64 0, .int .u64 0, .bool false, .int .i64 0]) Try.underlying47 hi52 hz52 (by rw [hs52]; decide) (by rw [hs52]; decide) (by simp only [List.map_toArray, List.map_cons, List.map_nil]; exact HF52.out) ?_
        refine hK.out _ _ HS5.out (fun _ => ?_)
        clear hK K
        try simp only [Act.put, List.setIfInBounds_toArray, List.set_cons_zero, List.set_cons_succ]
        refine wpAnyH_ready (rs := [4]) (by kernel_rfl) (by simp) ?_
        refine AllReadyH.cons (o := ⟨some 50, _, _, _, _, _⟩) rfl (fun K hK => ?_) (AllReadyH.nil)
        go_simp
        refine hK.out _ _ HS5.out (fun _ => ?_)
        clear hK K
        try simp only [Act.put, List.setIfInBounds_toArray, List.set_cons_zero, List.set_cons_succ]
        refine wpAnyH_ready (rs := [9]) (by kernel_rfl) (by simp) ?_
        refine AllReadyH.cons (o := ⟨some 55, _, _, _, _, _⟩) rfl (fun K hK => ?_) (AllReadyH.nil)
        refine wp_append_any _ (.tmp 50) (.tmp 54) 47 rfl (p + 1) 52 i52 (.agg #[.int .u8 0, .int .u8 0, .int .u8 0, .int .u8 0, .int .u8 0, .int .u8 0, .int .u8 0, .int .u8 0, .int .u8 0, .int .u8 0, .int .u8 0, .int .u8 0, .int .u8 0, .int .u8 0, .int .u8 0, .int .u8 0, .int .u8 0, .int .u8 0, .int .u8 0, .int .u8 0, .int .u8 0, .int .u8 0, .int .u8 0, .int .u8 0, .int .u8 0, .int .u8 0, .int .u8 0, .int .u8 0, .int .u8 0, .int .u8 0, .int .u8 0, .int .u8 0, .int .i64 0, .int .u64 0, .int .u64 0, .bool false, .int .i64 0]) 37 72 Try.underlying47 hi52 hz52 hs52 hb52 rfl (by decide) v5 r.ow.length _ rfl HOW5.out _ (some ⟨w4.heap.size, 0, none⟩) 1 1 (entCells ⟨⟨d, r.id, r.inc, r.count + 1, false⟩, now⟩) rfl (HRD.out w4.drew) HO1.out hs1 hs2 (by simp; have := HPL.out; omega) ?_
        intro x5 w6 hx5 hgr6 hor6
        obtain ⟨A5x, c5x, rfl⟩ := own_form hx5
        have HB6 := Lib.hid (HAP.out _ w6 hx5 hgr6)
        have hz6 := HB6.out.1
        have hf6 := HB6.out.2.1
        have hcl6 := HB6.out.2.2.1
        clear hx5 hgr6 hor6
        refine hK.out _ _ hcl6 (fun _ => ?_)
        clear hK K
        try simp only [Act.put, List.setIfInBounds_toArray, List.set_cons_zero, List.set_cons_succ]
        refine wpAnyH_take (i := 10) (oi := ⟨some 56, _, _, _, _, _⟩) (v := ?_) rfl (by kernel_rfl) (by kernel_rfl) (by kernel_rfl) (fun _ _ _ h => h) (Or.inl ⟨by rfl, ?_⟩) (by assumption) ?_
        rotate_left
        · intro v hSv; (try dsimp only at hSv); skip; go_simp; (try with_reducible rfl)
        try simp only [Act.put, List.setIfInBounds_toArray, List.set_cons_zero, List.set_cons_succ]
        refine wpAnyH_take (i := 11) (oi := ⟨some 57, _, _, _, _, _⟩) (v := ?_) rfl (by kernel_rfl) (by kernel_rfl) (by kernel_rfl) (fun _ _ _ h => h) (Or.inl ⟨by rfl, ?_⟩) (by assumption) ?_
        rotate_left
        · intro v hSv; (try dsimp only at hSv); skip; go_simp; (try with_reducible rfl)
        try simp only [Act.put, List.setIfInBounds_toArray, List.set_cons_zero, List.set_cons_succ]
        refine wpAnyH_ready (rs := [12]) (by kernel_rfl) (by simp) ?_
        refine AllReadyH.cons (o := ⟨none, _, _, _, _, _⟩) rfl (fun K hK => ?_) (AllReadyH.nil)
        go_simp
        refine hK.out _ _ HB6.out.2.2.2.1 (fun _ => ?_)
        clear hK K
        refine wpAnyH_done (by kernel_rfl) ?_ _
        obtain ⟨w7, hw7⟩ : ∃ w7, w7 = w6.setCell ⟨p, 5, none⟩ (.slice A5x (r.ow.length + 1) c5x) := ⟨_, rfl⟩
        rw [← hw7]
        have HE7 := Lib.hid HB6.out.2.2.2.2
        rw [← hw7] at HE7
        clear hz6 hf6 hcl6 HB6 hw7
        go_wp2_with (first
          | (refine wpList_load_mid rfl 33 _ rfl w3.heap.size 0 rfl (clCells d r.id r.inc (r.count + 1) false) _ HE7.out.2.2 Try.underlying33 rfl HI33.out ?_)
          | (refine wpList_buildSlice rfl 36 33 1 _ rfl (clCells d r.id r.inc (r.count + 1) false).toArray i33 (.agg #[.int .u8 0, .int .u8 0, .int .u8 0, .int .u8 0, .int .u8 0, .int .u8 0, .int .u8 0, .int .u8 0, .int .u8 0, .int .u8 0, .int .u8 0, .int .u8 0, .int .u8 0, .int .u8 0, .int .u8 0, .int .u8 0, .int .u8 0, .int .u8 0, .int .u8 0, .int .u8 0, .int .u8 0, .int .u8 0, .int .u8 0, .int .u8 0, .int .u8 0, .int .u8 0, .int .u8 0, .int .u8 0, .int .u8 0, .int .u8 0, .int .u8 0, .int .u8 0, .int .i64 0, .int .u64 0, .int .u64 0, .bool false]) Try.underlying36 hi33 hz33 (by rw [hs33]; decide) (by rw [hs33]; decide) (by simp only [List.map_toArray, List.map_cons, List.map_nil]; exact HFD.out) ?_))
        go_ret2
        exact ⟨_, rfl, sent_blk (c := ⟨d, r.id, r.inc, r.count + 1, false⟩) (Blk.new w7 _ _) (HKS.out w7 HE7.out.2.1), ⟨_, HE7.out.1.chg ((Chg.refl _ _).alloc _)⟩, HE7.out.2.1.alloc _⟩
end Go.Proofs.Ytnpmfigcfikdgaa

