/-
  Walks over package claims: New, Try.
-/
import Derived.Test.YtnpmfigcfikdgaaF
import Derived.Carry
import Derived.Great.BuildSlice
namespace Go.Proofs.Ytnpmfigcfikdgaa
open Go.RowKit Go.Maps

structure Cl where
  d : Dig
  node : Int
  inc : Int
  count : Int
  gone : Bool
def Cl.cells (c : Cl) : List Value := clCells c.d c.node c.inc c.count c.gone

/-- What is sent: nothing, or a row of one claim in new memory. -/
def Sent (w w' : World) (v : Value) : Option Cl → Prop
  | none => v = .slice none 0 0
  | some c => ∃ b, v = .slice (some ⟨b, 0, none⟩) 1 1 ∧ Blk w' b c.cells.toArray 33 ∧ w.heap.size ≤ b
def sentLen : Option Cl → Int
  | none => 0
  | some _ => 1

theorem fill33 (d : Dig) (a b c : Int) (g : Bool) (ie : TypeInfo) (hs : ie.size = 36) :
    Instr.fill (fun i => some (i * ie.size, ie.size)) ((Array.range (1 * ie.size)).map ((Value.agg #[.int .u8 0, .int .u8 0, .int .u8 0, .int .u8 0, .int .u8 0, .int .u8 0, .int .u8 0, .int .u8 0, .int .u8 0, .int .u8 0, .int .u8 0, .int .u8 0, .int .u8 0, .int .u8 0, .int .u8 0, .int .u8 0, .int .u8 0, .int .u8 0, .int .u8 0, .int .u8 0, .int .u8 0, .int .u8 0, .int .u8 0, .int .u8 0, .int .u8 0, .int .u8 0, .int .u8 0, .int .u8 0, .int .u8 0, .int .u8 0, .int .u8 0, .int .u8 0, .int .i64 0, .int .u64 0, .int .u64 0, .bool false]).cells[· % (Value.agg #[.int .u8 0, .int .u8 0, .int .u8 0, .int .u8 0, .int .u8 0, .int .u8 0, .int .u8 0, .int .u8 0, .int .u8 0, .int .u8 0, .int .u8 0, .int .u8 0, .int .u8 0, .int .u8 0, .int .u8 0, .int .u8 0, .int .u8 0, .int .u8 0, .int .u8 0, .int .u8 0, .int .u8 0, .int .u8 0, .int .u8 0, .int .u8 0, .int .u8 0, .int .u8 0, .int .u8 0, .int .u8 0, .int .u8 0, .int .u8 0, .int .u8 0, .int .u8 0, .int .i64 0, .int .u64 0, .int .u64 0, .bool false]).cells.size]!)) [(0, .agg (clCells d a b c g).toArray)] = some (clCells d a b c g).toArray := by
  rw [hs]
  obtain ⟨L, hL, hb⟩ := d
  match L, hL with
  | [a0, a1, a2, a3, a4, a5, a6, a7, a8, a9, a10, a11, a12, a13, a14, a15, a16, a17, a18, a19, a20, a21, a22, a23, a24, a25, a26, a27, a28, a29, a30, a31], _ => show _ = _; kernel_rfl
theorem zinfo33 : ∃ i0, Try.prog.info? 33 = some i0 ∧ i0.zero = some (.agg #[.int .u8 0, .int .u8 0, .int .u8 0, .int .u8 0, .int .u8 0, .int .u8 0, .int .u8 0, .int .u8 0, .int .u8 0, .int .u8 0, .int .u8 0, .int .u8 0, .int .u8 0, .int .u8 0, .int .u8 0, .int .u8 0, .int .u8 0, .int .u8 0, .int .u8 0, .int .u8 0, .int .u8 0, .int .u8 0, .int .u8 0, .int .u8 0, .int .u8 0, .int .u8 0, .int .u8 0, .int .u8 0, .int .u8 0, .int .u8 0, .int .u8 0, .int .u8 0, .int .i64 0, .int .u64 0, .int .u64 0, .bool false]) ∧ i0.size = 36 := by
  cases h : Try.prog.info? 33 with
  | none => exact absurd (congrArg Option.isSome h) (by rw [show (Try.prog.info? 33).isSome = true from by kernel_rfl]; simp)
  | some i0 =>
    refine ⟨i0, rfl, ?_, ?_⟩
    · have : (Try.prog.info? 33).bind (·.zero) = some (.agg #[.int .u8 0, .int .u8 0, .int .u8 0, .int .u8 0, .int .u8 0, .int .u8 0, .int .u8 0, .int .u8 0, .int .u8 0, .int .u8 0, .int .u8 0, .int .u8 0, .int .u8 0, .int .u8 0, .int .u8 0, .int .u8 0, .int .u8 0, .int .u8 0, .int .u8 0, .int .u8 0, .int .u8 0, .int .u8 0, .int .u8 0, .int .u8 0, .int .u8 0, .int .u8 0, .int .u8 0, .int .u8 0, .int .u8 0, .int .u8 0, .int .u8 0, .int .u8 0, .int .i64 0, .int .u64 0, .int .u64 0, .bool false]) := by kernel_rfl
      rw [h] at this; exact this
    · have : (Try.prog.info? 33).map (·.size) = some 36 := by kernel_rfl
      rw [h] at this; simpa using this

theorem chg_setCell (w : World) (b o : Nat) (x : Value) : Chg (some b) w (w.setCell ⟨b, o, none⟩ x) :=
  ⟨rfl, rfl, rfl, by simp [World.setCell], fun k _ hn => Below.heap_setCell _ _ _ _ (by simpa using hn)⟩

/-! ### New -/
def newOk (id inc wait ttl : Int) : Bool := decide (0 ≤ id ∧ id < 16) && decide (inc ≤ 1099511627776) && decide (0 ≤ wait ∧ wait ≤ 1000000) && decide (0 ≤ ttl ∧ ttl ≤ 1000000)
def bk0 (id inc wait ttl : Int) : Bk := ⟨id, inc, 0, wait, ttl, fun _ => none, fun _ => none, fun _ => none⟩
theorem bk0_ok {id inc wait ttl : Int} (h : newOk id inc wait ttl = true) (hi : U64 inc) : (bk0 id inc wait ttl).ok 0 := by
  unfold newOk at h
  simp only [Bool.and_eq_true, decide_eq_true_eq] at h
  obtain ⟨⟨⟨h1, h2⟩, h3⟩, h4⟩ := h
  exact ⟨by show 0 ≤ id ∧ id ≤ 15; omega, ⟨hi.1, h2⟩, by show (0 : Int) ≤ 0 ∧ (0 : Int) ≤ ((0 : Nat) : Int); omega, h3, h4, fun _ _ h => (by cases h), fun _ _ h => (by cases h)⟩

set_option maxHeartbeats 2000000 in
theorem new_bad (id inc wait ttl : Int) (w : World) (h : newOk id inc wait ttl = false) :
    Calls Try.prog 7 #[.int .i64 id, .int .u64 inc, .int .i64 wait, .int .i64 ttl] w fun e w' => e = .returned (.pointer none) ∧ w = w' := by
  have H1 := Lib.hid (fun w => isNode_any id w)
  have H2 := Lib.hid (fun w => isSpan_any wait w)
  have H3 := Lib.hid (fun w => isSpan_any ttl w)
  unfold newOk at h
  generalize decide (0 ≤ id ∧ id < 16) = b1 at *
  generalize decide (0 ≤ wait ∧ wait ≤ 1000000) = b3 at *
  generalize decide (0 ≤ ttl ∧ ttl ≤ 1000000) = b4 at *
  have hb2 : (decide (inc > 1099511627776)) = !(decide (inc ≤ 1099511627776)) := by by_cases h : inc ≤ 1099511627776 <;> simp [h] <;> omega
  generalize decide (inc ≤ 1099511627776) = b2 at *
  cases b1
  · clear h
    go_enter Try.func7, Try.ntmps7
    go_wp2_with fail
    refine (H1.out _).mono ?_
    rintro e w' ⟨rfl, rfl⟩
    go_wp2_with fail
    go_ret
    exact ⟨rfl, rfl⟩
  · cases b2
    · clear h
      have d2 : (decide (1099511627776 < inc)) = true := hb2
      go_enter Try.func7, Try.ntmps7
      go_wp2_with fail
      refine (H1.out _).mono ?_
      rintro e w' ⟨rfl, rfl⟩
      go_wp2_with fail
      go_ret
      exact ⟨rfl, rfl⟩
    · have d2 : (decide (1099511627776 < inc)) = false := hb2
      cases b3
      · clear h
        go_enter Try.func7, Try.ntmps7
        go_wp2_with fail
        refine (H1.out _).mono ?_
        rintro e w' ⟨rfl, rfl⟩
        go_wp2_with fail
        refine (H2.out _).mono ?_
        rintro e w' ⟨rfl, rfl⟩
        go_wp2_with fail
        go_ret
        exact ⟨rfl, rfl⟩
      · cases b4
        · clear h
          go_enter Try.func7, Try.ntmps7
          go_wp2_with fail
          refine (H1.out _).mono ?_
          rintro e w' ⟨rfl, rfl⟩
          go_wp2_with fail
          refine (H2.out _).mono ?_
          rintro e w' ⟨rfl, rfl⟩
          go_wp2_with fail
          refine (H3.out _).mono ?_
          rintro e w' ⟨rfl, rfl⟩
          go_wp2_with fail
          go_ret
          exact ⟨rfl, rfl⟩
        · cases h

set_option maxHeartbeats 2000000 in
theorem new_good (id inc wait ttl : Int) (w : World) (h : newOk id inc wait ttl = true) :
    Calls Try.prog 7 #[.int .i64 id, .int .u64 inc, .int .i64 wait, .int .i64 ttl] w fun e w' =>
      ∃ q : Qk, e = .returned (.pointer (some ⟨q.b, 0, none⟩)) ∧ BookAt w' q 0 (bk0 id inc wait ttl) ∧ (∀ g, q.has g → w.heap.size ≤ g) ∧ Chg none w w' := by
  have H1 := Lib.hid (fun w => isNode_any id w)
  have H2 := Lib.hid (fun w => isSpan_any wait w)
  have H3 := Lib.hid (fun w => isSpan_any ttl w)
  unfold newOk at h
  simp only [Bool.and_eq_true] at h
  obtain ⟨⟨⟨h1, h2⟩, h3⟩, h4⟩ := h
  rw [h1] at H1
  rw [h3] at H2
  rw [h4] at H3
  have d2 : (decide (1099511627776 < inc)) = false := by have := of_decide_eq_true h2; exact decide_eq_false (by omega)
  clear h1 h2 h3 h4
  obtain ⟨w1, hw1⟩ : ∃ v, v = w.alloc (.map #[] 0) := ⟨_, rfl⟩
  obtain ⟨w2, hw2⟩ : ∃ v, v = w1.alloc (.map #[] 0) := ⟨_, rfl⟩
  obtain ⟨w3, hw3⟩ : ∃ v, v = w2.alloc (.map #[] 0) := ⟨_, rfl⟩
  have HEND : Hid (BookAt (w3.alloc (.cells (bkCells ⟨w.heap.size + 3, w.heap.size, w.heap.size + 1, w.heap.size + 2⟩ (bk0 id inc wait ttl)) 59)) ⟨w.heap.size + 3, w.heap.size, w.heap.size + 1, w.heap.size + 2⟩ 0 (bk0 id inc wait ttl) ∧
      Chg none w (w3.alloc (.cells (bkCells ⟨w.heap.size + 3, w.heap.size, w.heap.size + 1, w.heap.size + 2⟩ (bk0 id inc wait ttl)) 59))) := Lib.hid (by
    have g1 : Chg none w w1 := by rw [hw1]; exact (Chg.refl _ _).alloc _
    have g2 : Chg none w1 w2 := by rw [hw2]; exact (Chg.refl _ _).alloc _
    have g3 : Chg none w2 w3 := by rw [hw3]; exact (Chg.refl _ _).alloc _
    have g4 : ∀ o, Chg none w3 (w3.alloc o) := fun o => (Chg.refl _ _).alloc _
    have m1 : MapG mineS w1 w.heap.size 0 (fun _ => none) := by rw [hw1]; exact MapG.new mineS w
    have s1 : w1.heap.size = w.heap.size + 1 := by rw [hw1]; simp
    have s2 : w2.heap.size = w.heap.size + 2 := by rw [hw2]; simp [s1]
    have s3 : w3.heap.size = w.heap.size + 3 := by rw [hw3]; simp [s2]
    have m2 : MapG lastS w2 (w.heap.size + 1) 0 (fun _ => none) := by rw [hw2, ← s1]; exact MapG.new lastS w1
    have m3 : MapG leaS w3 (w.heap.size + 2) 0 (fun _ => none) := by rw [hw3, ← s2]; exact MapG.new leaS w2
    refine ⟨⟨?_, m1.chg (g2.trans (g3.trans (g4 _))) (by simp), m2.chg (g3.trans (g4 _)) (by simp), m3.chg (g4 _) (by simp), by simp⟩, g1.trans (g2.trans (g3.trans (g4 _)))⟩
    have := Blk.new w3 (bkCells ⟨w.heap.size + 3, w.heap.size, w.heap.size + 1, w.heap.size + 2⟩ (bk0 id inc wait ttl)) 59
    rw [s3] at this
    exact this)
  have HW1 := Lib.hid hw1
  have HW2 := Lib.hid hw2
  have HW3 := Lib.hid hw3
  rw [hw3, hw2, hw1] at HEND
  clear hw1 hw2 hw3 HW1 HW2 HW3
  have hmm := @run_makeMap Try.prog
  go_enter Try.func7, Try.ntmps7
  go_wp2_with fail
  refine (H1.out _).mono ?_
  rintro e w' ⟨rfl, rfl⟩
  go_wp2_with fail
  refine (H2.out _).mono ?_
  rintro e w' ⟨rfl, rfl⟩
  go_wp2_with fail
  refine (H3.out _).mono ?_
  rintro e w' ⟨rfl, rfl⟩
  go_wp2_with fail
  go_ret
  exact ⟨⟨w.heap.size + 3, w.heap.size, w.heap.size + 1, w.heap.size + 2⟩, rfl, HEND.out.1, by rintro g (rfl | rfl | rfl | rfl) <;> dsimp only <;> omega, HEND.out.2⟩

/-! ### Try -/
noncomputable def tryM (B : Bk) (d : Dig) (now : Int) : Bk × Option Cl × Bool :=
  match liveM B d now with
  | some _ => (B, none, false)
  | none => match B.mine d with
    | some x => (B, none, readyB B x now)
    | none => ({ B with count := B.count + 1, mine := putF B.mine d (some (B.count + 1, now)) }, some ⟨d, B.id, B.inc, B.count + 1, false⟩, false)

theorem tryM_live {B : Bk} {d : Dig} {now : Int} {k : Nat} (h : liveM B d now = some k) : tryM B d now = (B, none, false) := by unfold tryM; rw [h]
theorem tryM_had {B : Bk} {d : Dig} {now : Int} {x : Int × Int} (h : liveM B d now = none) (hm : B.mine d = some x) : tryM B d now = (B, none, readyB B x now) := by unfold tryM; rw [h]; simp only; rw [hm]
theorem tryM_new {B : Bk} {d : Dig} {now : Int} (h : liveM B d now = none) (hm : B.mine d = none) :
    tryM B d now = ({ B with count := B.count + 1, mine := putF B.mine d (some (B.count + 1, now)) }, some ⟨d, B.id, B.inc, B.count + 1, false⟩, false) := by unfold tryM; rw [h]; simp only; rw [hm]

theorem tryM_ok {B : Bk} {n : Nat} (d : Dig) {now : Int} (h : B.ok n) (hn : I64 now) : (tryM B d now).1.ok (n + 1) := by
  have h' : B.ok (n + 1) := { h with count := ⟨h.count.1, by have := h.count.2; omega⟩ }
  cases hl : liveM B d now with
  | some k => rw [tryM_live hl]; exact h'
  | none =>
    cases hm : B.mine d with
    | some x => rw [tryM_had hl hm]; exact h'
    | none =>
      rw [tryM_new hl hm]
      refine ⟨h.id, h.inc, ?_, h.wait, h.ttl, fun d' x hx => ?_, h.lea⟩
      · show 0 ≤ B.count + 1 ∧ B.count + 1 ≤ ((n + 1 : Nat) : Int)
        have := h.count; omega
      · by_cases e : d' = d
        · subst e
          have : putF B.mine d' (some (B.count + 1, now)) d' = some x := hx
          rw [putF_same] at this
          cases this
          exact hn
        · have : putF B.mine d (some (B.count + 1, now)) d' = some x := hx
          rw [putF_other _ _ e] at this
          exact h.mine d' x this

set_option maxRecDepth 100000 in
set_option maxHeartbeats 8000000 in
theorem try_any (d : Dig) (now : Int) (w : World) (q : Qk) (n : Nat) (B : Bk) (h : BookAt w q n B) (ho : B.ok n) (hnow : I64 now) (hn : n < 1000000) :
    Calls Try.prog 10 #[.pointer (some ⟨q.b, 0, none⟩), .agg d.cells.toArray, .int .i64 now] w fun e w' =>
      ∃ v, e = .returned (.tuple #[v, .bool (tryM B d now).2.2]) ∧ Sent w w' v (tryM B d now).2.1 ∧ BookAt w' q (n + 1) (tryM B d now).1 ∧ Kept q.has w w' := by
  obtain ⟨W, hW⟩ : ∃ W, W = w.alloc (.cells d.cells.toArray 31) := ⟨_, rfl⟩
  have g0 : Chg none w W := by rw [hW]; exact (Chg.refl _ _).alloc _
  have hb4 : Blk W w.heap.size d.cells.toArray 31 := by rw [hW]; exact Blk.new w _ _
  have h' := h.chg g0
  have HRG : Hid (∀ v, Chg none W v → v.rangeAt w.heap.size 0 d.cells) := Lib.hid fun v hv => rangeAt_chg (rangeAt_blk hb4) hv (by simp)
  have HM := Lib.hid h'.made
  have HW := Lib.hid hW
  have HG0 := Lib.hid g0
  have HI31 := Lib.hid (info31 d)
  have HLV := Lib.hid (live_any d now W q n B h' ho hnow)
  have HH := Lib.hid h'
  have HH0 := Lib.hid h
  have HO := Lib.hid ho
  have HNOW := Lib.hid hnow
  rw [hW] at HM
  clear hW hb4 g0 h h' ho hnow
  go_enter Try.func10, Try.ntmps10
  go_wp2_with fail
  refine HM.out.mono ?_
  rintro e w' ⟨rfl, rfl⟩
  rw [← HW.out]
  go_wp2_with (refine wpList_load_mid rfl 31 _ rfl w.heap.size 0 rfl d.cells _ (HRG.out _ (Chg.refl _ _)) Try.underlying31 rfl HI31.out ?_)
  refine HLV.out.mono ?_
  rintro e w3 ⟨rfl, hg3⟩
  have HG3 := Lib.hid hg3
  have h3 := HH.out.chg hg3
  obtain ⟨-, -, -, o3, -, -, o6, -, -, fz⟩ := h3.open
  have HL3 := Lib.hid (mine_look h3 d)
  have HRG3 : Hid (∀ v, Chg none w3 v → v.rangeAt w.heap.size 0 d.cells) := Lib.hid fun v hv => HRG.out v (HG3.out.trans hv)
  have H3 := Lib.hid h3
  clear HRG
  have HRG := HRG3
  clear HRG3 hg3 h3 HLV
  cases hlv : liveM B d now with
  | some k =>
    have HE := Lib.hid (tryM_live hlv)
    clear hlv
    unfold optPair
    go_wp2
    go_ret2
    rw [HE.out]
    exact ⟨_, rfl, rfl, H3.out.mono (by omega), (Kept.of_chg (HG0.out.trans HG3.out)).mono (fun _ e => by cases e)⟩
  | none =>
    unfold optPair
    cases hm : B.mine d with
    | some x =>
      have HE := Lib.hid (tryM_had hlv hm)
      have HRD := Lib.hid (fun w' (hc : Chg none w3 w') => isReady_any x now w' q n B (H3.out.chg hc) HO.out (HO.out.mine d x hm) HNOW.out)
      rw [hm] at HL3
      clear hlv hm
      unfold optV at HL3
      rw [show (some x : Option (Int × Int)).isSome = true from rfl] at HL3
      unfold pairV at HL3 HRD
      have HL := HL3
      clear HL3
      generalize readyB B x now = z at *
      go_wp2
      have hS0 : Chg none w3 w3.drew := (Chg.refl _ _).drew
      refine wp_region_held_drew (S := fun v => Chg none w3 v) (by kernel_rfl) hS0 (fun _ => ?_)
      refine wpAnyH_take (i := 0) (oi := ⟨some 23, _, _, _, _, _⟩) (v := ?_) rfl (by kernel_rfl) (by kernel_rfl) (by kernel_rfl) (fun _ _ _ h => h) (Or.inl ⟨by rfl, ?_⟩) (by assumption) ?_
      rotate_left
      · intro v hSv; (try dsimp only at hSv); skip; go_simp; (try with_reducible rfl)
      try simp only [Act.put, List.setIfInBounds_toArray, List.set_cons_zero, List.set_cons_succ]
      refine wpAnyH_take (i := 1) (oi := ⟨some 24, _, _, _, _, _⟩) (v := ?_) rfl (by kernel_rfl) (by kernel_rfl) (by kernel_rfl) (fun _ _ _ h => h) (Or.inl ⟨by rfl, ?_⟩) (by assumption) ?_
      rotate_left
      · intro v hSv; (try dsimp only at hSv); skip; go_simp; (try with_reducible rfl)
      try simp only [Act.put, List.setIfInBounds_toArray, List.set_cons_zero, List.set_cons_succ]
      refine wpAnyH_take (i := 2) (oi := ⟨some 25, _, _, _, _, _⟩) (v := ?_) rfl (by kernel_rfl) (by kernel_rfl) (by kernel_rfl) (fun _ _ _ h => h) (Or.inl ⟨by rfl, ?_⟩) (by assumption) ?_
      rotate_left
      · intro v hSv; (try dsimp only at hSv); skip; go_simp; (try with_reducible rfl)
      try simp only [Act.put, List.setIfInBounds_toArray, List.set_cons_zero, List.set_cons_succ]
      refine wpAnyH_take (i := 3) (oi := ⟨some 26, _, _, _, _, _⟩) (v := .map (some q.m)) rfl (by kernel_rfl) (by kernel_rfl) (by kernel_rfl) (fun _ _ _ h => h) (Or.inl ⟨by rfl, ?_⟩) (by assumption) ?_
      · intro v hSv; have z := World.grownBy.cell hSv o6 (by simp); go_simp
      try simp only [Act.put, List.setIfInBounds_toArray, List.set_cons_zero, List.set_cons_succ]
      refine wpAnyH_take (i := 4) (oi := ⟨some 27, _, _, _, _, _⟩) (v := .agg (d.cells).toArray) rfl (by kernel_rfl) (by kernel_rfl) (by kernel_rfl) (fun _ _ _ h => h) (yieldsIf_load_mid (by rfl) 31 _ rfl w.heap.size 0 rfl (d.cells) _ (fun v h => HRG.out v h) Try.underlying31 rfl HI31.out) (by assumption) ?_
      try simp only [Act.put, List.setIfInBounds_toArray, List.set_cons_zero, List.set_cons_succ]
      refine wpAnyH_take (i := 5) (oi := ⟨some 28, _, _, _, _, _⟩) (v := .tuple #[.agg #[.int .u64 x.1, .int .i64 x.2], .bool true]) rfl (by kernel_rfl) (by kernel_rfl) (by kernel_rfl) (fun _ _ _ h => h) (Or.inl ⟨by rfl, ?_⟩) (by assumption) ?_
      · intro v hSv; have z := HL.out v hSv; go_simp
      try simp only [Act.put, List.setIfInBounds_toArray, List.set_cons_zero, List.set_cons_succ]
      refine wpAnyH_take (i := 6) (oi := ⟨some 22, _, _, _, _, _⟩) (v := ?_) rfl (by kernel_rfl) (by kernel_rfl) (by kernel_rfl) (fun _ _ _ h => h) (Or.inl ⟨by rfl, ?_⟩) (by assumption) ?_
      rotate_left
      · intro v hSv; (try dsimp only at hSv); skip; go_simp; (try with_reducible rfl)
      try simp only [Act.put, List.setIfInBounds_toArray, List.set_cons_zero, List.set_cons_succ]
      refine wpAnyH_take (i := 7) (oi := ⟨some 29, _, _, _, _, _⟩) (v := ?_) rfl (by kernel_rfl) (by kernel_rfl) (by kernel_rfl) (fun _ _ _ h => h) (Or.inl ⟨by rfl, ?_⟩) (by assumption) ?_
      rotate_left
      · intro v hSv; (try dsimp only at hSv); skip; go_simp; (try with_reducible rfl)
      try simp only [Act.put, List.setIfInBounds_toArray, List.set_cons_zero, List.set_cons_succ]
      refine wpAnyH_take (i := 8) (oi := ⟨some 30, _, _, _, _, _⟩) (v := ?_) rfl (by kernel_rfl) (by kernel_rfl) (by kernel_rfl) (fun _ _ _ h => h) (Or.inl ⟨by rfl, ?_⟩) (by assumption) ?_
      rotate_left
      · intro v hSv; (try dsimp only at hSv); skip; go_simp; (try with_reducible rfl)
      try simp only [Act.put, List.setIfInBounds_toArray, List.set_cons_zero, List.set_cons_succ]
      refine wpAnyH_ready (rs := [9]) (by kernel_rfl) (by simp) ?_
      refine AllReadyH.cons (o := ⟨some 10, _, _, _, _, _⟩) rfl (fun K hK => ?_) (AllReadyH.nil)
      go_simp
      refine hK.out _ _ (Chg.alloc hS0 _) (fun _ => ?_)
      clear hK K
      try simp only [Act.put, List.setIfInBounds_toArray, List.set_cons_zero, List.set_cons_succ]
      refine wpAnyH_ready (rs := [10]) (by kernel_rfl) (by simp) ?_
      refine AllReadyH.cons (o := ⟨none, _, _, _, _, _⟩) rfl (fun K hK => ?_) (AllReadyH.nil)
      go_simp
      refine hK.out _ _ (Chg.alloc hS0 _) (fun _ => ?_)
      clear hK K
      refine wpAnyH_take (i := 11) (oi := ⟨some 11, _, _, _, _, _⟩) (v := ?_) rfl (by kernel_rfl) (by kernel_rfl) (by kernel_rfl) (fun _ _ _ h => h) (Or.inl ⟨by rfl, ?_⟩) (by assumption) ?_
      rotate_left
      · intro v hSv; (try dsimp only at hSv); skip; go_simp; (try with_reducible rfl)
      try simp only [Act.put, List.setIfInBounds_toArray, List.set_cons_zero, List.set_cons_succ]
      refine wpAnyH_done (by kernel_rfl) ?_ _
      go_wp2_with fail
      refine (HRD.out _ (Chg.alloc hS0 _)).mono ?_
      rintro e w5 ⟨rfl, hg5⟩
      have HG5 := Lib.hid hg5
      clear hg5
      go_wp2_with fail
      go_ret2
      rw [HE.out]
      have g5 : Chg none w3 w5 := (Chg.alloc hS0 _).trans HG5.out
      exact ⟨_, rfl, rfl, (H3.out.chg g5).mono (by omega), (Kept.of_chg (HG0.out.trans (HG3.out.trans g5))).mono (fun _ e => by cases e)⟩
    | none =>
      have HE := Lib.hid (tryM_new hlv hm)
      rw [hm] at HL3
      clear hlv hm
      unfold optV at HL3
      rw [show (none : Option (Int × Int)).isSome = false from rfl] at HL3
      have HL := HL3
      clear HL3
      have hc0 := HO.out.count
      go_wp2
      have hS0 : Chg none w3 w3.drew := (Chg.refl _ _).drew
      refine wp_region_held_drew (S := fun v => Chg none w3 v) (by kernel_rfl) hS0 (fun _ => ?_)
      refine wpAnyH_take (i := 0) (oi := ⟨some 23, _, _, _, _, _⟩) (v := ?_) rfl (by kernel_rfl) (by kernel_rfl) (by kernel_rfl) (fun _ _ _ h => h) (Or.inl ⟨by rfl, ?_⟩) (by assumption) ?_
      rotate_left
      · intro v hSv; (try dsimp only at hSv); skip; go_simp; (try with_reducible rfl)
      try simp only [Act.put, List.setIfInBounds_toArray, List.set_cons_zero, List.set_cons_succ]
      refine wpAnyH_take (i := 1) (oi := ⟨some 24, _, _, _, _, _⟩) (v := ?_) rfl (by kernel_rfl) (by kernel_rfl) (by kernel_rfl) (fun _ _ _ h => h) (Or.inl ⟨by rfl, ?_⟩) (by assumption) ?_
      rotate_left
      · intro v hSv; (try dsimp only at hSv); skip; go_simp; (try with_reducible rfl)
      try simp only [Act.put, List.setIfInBounds_toArray, List.set_cons_zero, List.set_cons_succ]
      refine wpAnyH_take (i := 2) (oi := ⟨some 25, _, _, _, _, _⟩) (v := ?_) rfl (by kernel_rfl) (by kernel_rfl) (by kernel_rfl) (fun _ _ _ h => h) (Or.inl ⟨by rfl, ?_⟩) (by assumption) ?_
      rotate_left
      · intro v hSv; (try dsimp only at hSv); skip; go_simp; (try with_reducible rfl)
      try simp only [Act.put, List.setIfInBounds_toArray, List.set_cons_zero, List.set_cons_succ]
      refine wpAnyH_take (i := 3) (oi := ⟨some 26, _, _, _, _, _⟩) (v := .map (some q.m)) rfl (by kernel_rfl) (by kernel_rfl) (by kernel_rfl) (fun _ _ _ h => h) (Or.inl ⟨by rfl, ?_⟩) (by assumption) ?_
      · intro v hSv; have z := World.grownBy.cell hSv o6 (by simp); go_simp
      try simp only [Act.put, List.setIfInBounds_toArray, List.set_cons_zero, List.set_cons_succ]
      refine wpAnyH_take (i := 4) (oi := ⟨some 27, _, _, _, _, _⟩) (v := .agg (d.cells).toArray) rfl (by kernel_rfl) (by kernel_rfl) (by kernel_rfl) (fun _ _ _ h => h) (yieldsIf_load_mid (by rfl) 31 _ rfl w.heap.size 0 rfl (d.cells) _ (fun v h => HRG.out v h) Try.underlying31 rfl HI31.out) (by assumption) ?_
      try simp only [Act.put, List.setIfInBounds_toArray, List.set_cons_zero, List.set_cons_succ]
      refine wpAnyH_take (i := 5) (oi := ⟨some 28, _, _, _, _, _⟩) (v := .tuple #[.agg #[.int .u64 0, .int .i64 0], .bool false]) rfl (by kernel_rfl) (by kernel_rfl) (by kernel_rfl) (fun _ _ _ h => h) (Or.inl ⟨by rfl, ?_⟩) (by assumption) ?_
      · intro v hSv; have z := HL.out v hSv; go_simp
      try simp only [Act.put, List.setIfInBounds_toArray, List.set_cons_zero, List.set_cons_succ]
      refine wpAnyH_take (i := 6) (oi := ⟨some 22, _, _, _, _, _⟩) (v := ?_) rfl (by kernel_rfl) (by kernel_rfl) (by kernel_rfl) (fun _ _ _ h => h) (Or.inl ⟨by rfl, ?_⟩) (by assumption) ?_
      rotate_left
      · intro v hSv; (try dsimp only at hSv); skip; go_simp; (try with_reducible rfl)
      try simp only [Act.put, List.setIfInBounds_toArray, List.set_cons_zero, List.set_cons_succ]
      refine wpAnyH_take (i := 7) (oi := ⟨some 29, _, _, _, _, _⟩) (v := ?_) rfl (by kernel_rfl) (by kernel_rfl) (by kernel_rfl) (fun _ _ _ h => h) (Or.inl ⟨by rfl, ?_⟩) (by assumption) ?_
      rotate_left
      · intro v hSv; (try dsimp only at hSv); skip; go_simp; (try with_reducible rfl)
      try simp only [Act.put, List.setIfInBounds_toArray, List.set_cons_zero, List.set_cons_succ]
      refine wpAnyH_take (i := 8) (oi := ⟨some 30, _, _, _, _, _⟩) (v := ?_) rfl (by kernel_rfl) (by kernel_rfl) (by kernel_rfl) (fun _ _ _ h => h) (Or.inl ⟨by rfl, ?_⟩) (by assumption) ?_
      rotate_left
      · intro v hSv; (try dsimp only at hSv); skip; go_simp; (try with_reducible rfl)
      try simp only [Act.put, List.setIfInBounds_toArray, List.set_cons_zero, List.set_cons_succ]
      refine wpAnyH_ready (rs := [9]) (by kernel_rfl) (by simp) ?_
      refine AllReadyH.cons (o := ⟨some 10, _, _, _, _, _⟩) rfl (fun K hK => ?_) (AllReadyH.nil)
      go_simp
      refine hK.out _ _ (Chg.alloc hS0 _) (fun _ => ?_)
      clear hK K
      try simp only [Act.put, List.setIfInBounds_toArray, List.set_cons_zero, List.set_cons_succ]
      refine wpAnyH_ready (rs := [10]) (by kernel_rfl) (by simp) ?_
      refine AllReadyH.cons (o := ⟨none, _, _, _, _, _⟩) rfl (fun K hK => ?_) (AllReadyH.nil)
      go_simp
      refine hK.out _ _ (Chg.alloc hS0 _) (fun _ => ?_)
      clear hK K
      refine wpAnyH_take (i := 11) (oi := ⟨some 11, _, _, _, _, _⟩) (v := ?_) rfl (by kernel_rfl) (by kernel_rfl) (by kernel_rfl) (fun _ _ _ h => h) (Or.inl ⟨by rfl, ?_⟩) (by assumption) ?_
      rotate_left
      · intro v hSv; (try dsimp only at hSv); skip; go_simp; (try with_reducible rfl)
      try simp only [Act.put, List.setIfInBounds_toArray, List.set_cons_zero, List.set_cons_succ]
      refine wpAnyH_done (by kernel_rfl) ?_ _
      have g4 : Chg none w3 (w3.alloc (.cells #[.int .u64 0, .int .i64 0] 65)) := Chg.alloc (Chg.refl _ _) _
      have p3 := World.grownBy.cell g4 o3 (by simp)
      have pf := (H3.out.chg g4).open.2.2.2.2.2.2.2.2.2
      have c0 : 0 ≤ B.count := hc0.1
      have c1 : B.count < 1000000 := by omega
      obtain ⟨w5, hw5⟩ : ∃ w5, w5 = ((w3.alloc (.cells #[.int .u64 0, .int .i64 0] 65)).setCell ⟨q.b, 3, none⟩ (.int .u64 (B.count + 1))).drew := ⟨_, rfl⟩
      have h5 : BookAt w5 q n { B with count := B.count + 1 } := by rw [hw5]; exact ((H3.out.chg g4).setCount (B.count + 1)).chg (Chg.refl _ _).drew
      have k5 : Kept q.has w w5 := by
        rw [hw5]
        exact ((Kept.of_chg (HG0.out.trans (HG3.out.trans g4))).mono (fun _ e => by cases e)).chgOf (chg_setCell _ q.b 3 _).drew (.inl rfl)
      have hnb := HH0.out.lt (g := q.b) (.inl rfl)
      have hnm := HH0.out.lt (g := q.m) (.inr (.inl rfl))
      have HRG5 : Hid (∀ v, Chg (some q.m) w5 v → v.rangeAt w.heap.size 0 d.cells) := Lib.hid fun v hv => rangeAt_chg (by
        rw [hw5]
        exact rangeAt_chg (HRG.out _ g4) (chg_setCell _ q.b 3 _).drew (by simp; omega)) hv (by simp; omega)
      obtain ⟨-, -, -, p3', -, -, p6, -, -, -⟩ := h5.open
      have hbm : q.b ≠ q.m := h5.bne.1
      obtain ⟨w6, hput, hm6, hc6⟩ : ∃ w6, (Instr.mapUpdate 55 (.map (some q.m)) (.agg d.cells.toArray) (.agg #[.int .u64 (B.count + 1), .int .i64 now])).run Try.prog w5.drew = .ok () w6 ∧ MapG mineS w6 q.m (n + 1) (putF B.mine d (some (B.count + 1, now))) ∧ Chg (some q.m) w5.drew w6 :=
        (h5.chg (Chg.refl _ _).drew).mine.put mineL (by unfold maxLen; omega) d trivial (B.count + 1, now) trivial
      have h6' : BookAt w6 q (n + 1) { B with count := B.count + 1, mine := putF B.mine d (some (B.count + 1, now)) } := (h5.chg (Chg.refl _ _).drew).setMine hc6 hm6 (by omega)
      have hS5 : Chg (some q.m) w5 w5.drew := (Chg.refl _ _).drew
      have h6 : Chg (some q.m) w5 w6 := hS5.trans hc6
      obtain ⟨-, -, -, r3, -, -, -, -, -, -⟩ := h6'.open
      have HRG6 : Hid (∀ v, Chg none w6 v → v.rangeAt w.heap.size 0 d.cells) := Lib.hid fun v hv => rangeAt_chg (HRG5.out _ h6) hv (by simp)
      have HCLM : Hid (∀ v, Chg none w6 v → Calls Try.prog 26 #[.pointer (some ⟨q.b, 0, none⟩), .agg d.cells.toArray, .int .u64 (B.count + 1), .bool false] v fun e w' => e = .returned (.agg (clCells d B.id B.inc (B.count + 1) false).toArray) ∧ Chg none v w') :=
        Lib.hid fun v hv => claim_any d (B.count + 1) false v q (n + 1) { B with count := B.count + 1, mine := putF B.mine d (some (B.count + 1, now)) } (h6'.chg hv)
      have K6 : Hid (Kept q.has w w6) := Lib.hid (k5.chgOf h6 (.inr (.inl rfl)))
      have H6 := Lib.hid h6'
      have HW5 := Lib.hid hw5
      obtain ⟨i0, hi0, hz0, hz1⟩ := zinfo33
      have HFD := Lib.hid (fill33 d B.id B.inc (B.count + 1) false i0 hz1)
      clear k5 hm6 hc6 h6' h5 HRG hw5 g4
      go_wp2
      rw [← HW5.out]
      refine wp_region_held_drew (S := fun v => Chg (some q.m) w5 v) (by kernel_rfl) hS5 (fun _ => ?_)
      refine wpAnyH_take (i := 0) (oi := ⟨some 43, _, _, _, _, _⟩) (v := ?_) rfl (by kernel_rfl) (by kernel_rfl) (by kernel_rfl) (fun _ _ _ h => h) (Or.inl ⟨by rfl, ?_⟩) (by assumption) ?_
      rotate_left
      · intro v hSv; (try dsimp only at hSv); skip; go_simp; (try with_reducible rfl)
      try simp only [Act.put, List.setIfInBounds_toArray, List.set_cons_zero, List.set_cons_succ]
      refine wpAnyH_take (i := 1) (oi := ⟨some 44, _, _, _, _, _⟩) (v := ?_) rfl (by kernel_rfl) (by kernel_rfl) (by kernel_rfl) (fun _ _ _ h => h) (Or.inl ⟨by rfl, ?_⟩) (by assumption) ?_
      rotate_left
      · intro v hSv; (try dsimp only at hSv); skip; go_simp; (try with_reducible rfl)
      try simp only [Act.put, List.setIfInBounds_toArray, List.set_cons_zero, List.set_cons_succ]
      refine wpAnyH_take (i := 2) (oi := ⟨some 45, _, _, _, _, _⟩) (v := ?_) rfl (by kernel_rfl) (by kernel_rfl) (by kernel_rfl) (fun _ _ _ h => h) (Or.inl ⟨by rfl, ?_⟩) (by assumption) ?_
      rotate_left
      · intro v hSv; (try dsimp only at hSv); skip; go_simp; (try with_reducible rfl)
      try simp only [Act.put, List.setIfInBounds_toArray, List.set_cons_zero, List.set_cons_succ]
      refine wpAnyH_take (i := 3) (oi := ⟨some 46, _, _, _, _, _⟩) (v := .map (some q.m)) rfl (by kernel_rfl) (by kernel_rfl) (by kernel_rfl) (fun _ _ _ h => h) (Or.inl ⟨by rfl, ?_⟩) (by assumption) ?_
      · intro v hSv; have z := World.grownBy.cell hSv p6 (by simp; exact hbm); go_simp
      try simp only [Act.put, List.setIfInBounds_toArray, List.set_cons_zero, List.set_cons_succ]
      refine wpAnyH_take (i := 4) (oi := ⟨some 47, _, _, _, _, _⟩) (v := .agg (d.cells).toArray) rfl (by kernel_rfl) (by kernel_rfl) (by kernel_rfl) (fun _ _ _ h => h) (yieldsIf_load_mid (by rfl) 31 _ rfl w.heap.size 0 rfl (d.cells) _ (fun v h => HRG5.out v h) Try.underlying31 rfl HI31.out) (by assumption) ?_
      try simp only [Act.put, List.setIfInBounds_toArray, List.set_cons_zero, List.set_cons_succ]
      refine wpAnyH_take (i := 5) (oi := ⟨some 48, _, _, _, _, _⟩) (v := ?_) rfl (by kernel_rfl) (by kernel_rfl) (by kernel_rfl) (fun _ _ _ h => h) (Or.inl ⟨by rfl, ?_⟩) (by assumption) ?_
      rotate_left
      · intro v hSv; (try dsimp only at hSv); skip; go_simp; (try with_reducible rfl)
      try simp only [Act.put, List.setIfInBounds_toArray, List.set_cons_zero, List.set_cons_succ]
      refine wpAnyH_take (i := 6) (oi := ⟨some 49, _, _, _, _, _⟩) (v := ?_) rfl (by kernel_rfl) (by kernel_rfl) (by kernel_rfl) (fun _ _ _ h => h) (Or.inl ⟨by rfl, ?_⟩) (by assumption) ?_
      rotate_left
      · intro v hSv; (try dsimp only at hSv); skip; go_simp; (try with_reducible rfl)
      try simp only [Act.put, List.setIfInBounds_toArray, List.set_cons_zero, List.set_cons_succ]
      refine wpAnyH_take (i := 7) (oi := ⟨some 50, _, _, _, _, _⟩) (v := ?_) rfl (by kernel_rfl) (by kernel_rfl) (by kernel_rfl) (fun _ _ _ h => h) (Or.inl ⟨by rfl, ?_⟩) (by assumption) ?_
      rotate_left
      · intro v hSv; (try dsimp only at hSv); skip; go_simp; (try with_reducible rfl)
      try simp only [Act.put, List.setIfInBounds_toArray, List.set_cons_zero, List.set_cons_succ]
      refine wpAnyH_take (i := 8) (oi := ⟨some 51, _, _, _, _, _⟩) (v := .int .u64 (B.count + 1)) rfl (by kernel_rfl) (by kernel_rfl) (by kernel_rfl) (fun _ _ _ h => h) (Or.inl ⟨by rfl, ?_⟩) (by assumption) ?_
      · intro v hSv; have z := World.grownBy.cell hSv p3' (by simp; exact hbm); go_simp
      try simp only [Act.put, List.setIfInBounds_toArray, List.set_cons_zero, List.set_cons_succ]
      refine wpAnyH_take (i := 9) (oi := ⟨some 52, _, _, _, _, _⟩) (v := ?_) rfl (by kernel_rfl) (by kernel_rfl) (by kernel_rfl) (fun _ _ _ h => h) (Or.inl ⟨by rfl, ?_⟩) (by assumption) ?_
      rotate_left
      · intro v hSv; (try dsimp only at hSv); skip; go_simp; (try with_reducible rfl)
      try simp only [Act.put, List.setIfInBounds_toArray, List.set_cons_zero, List.set_cons_succ]
      refine wpAnyH_take (i := 10) (oi := ⟨some 53, _, _, _, _, _⟩) (v := .agg #[.int .u64 (B.count + 1), .int .i64 now]) rfl (by kernel_rfl) (by kernel_rfl) (by kernel_rfl) (fun _ _ _ h => h) (Or.inl ⟨by rfl, ?_⟩) (by assumption) ?_
      · intro v hSv; skip; go_simp
      try simp only [Act.put, List.setIfInBounds_toArray, List.set_cons_zero, List.set_cons_succ]
      refine wpAnyH_ready (rs := [11]) (by kernel_rfl) (by simp) ?_
      refine AllReadyH.cons (o := ⟨none, _, _, _, _, _⟩) rfl (fun K hK => ?_) (AllReadyH.nil)
      go_simp
      (try rw [hput])
      (try go_simp)
      refine hK.out _ _ h6 (fun _ => ?_)
      clear hK K
      refine wpAnyH_done (by kernel_rfl) ?_ _
      go_wp2
      have hS6 : Chg none w6 w6.drew := (Chg.refl _ _).drew
      refine wp_region_held_drew (S := fun v => Chg none w6 v) (by kernel_rfl) hS6 (fun _ => ?_)
      refine wpAnyH_take (i := 0) (oi := ⟨some 54, _, _, _, _, _⟩) (v := ?_) rfl (by kernel_rfl) (by kernel_rfl) (by kernel_rfl) (fun _ _ _ h => h) (Or.inl ⟨by rfl, ?_⟩) (by assumption) ?_
      rotate_left
      · intro v hSv; (try dsimp only at hSv); skip; go_simp; (try with_reducible rfl)
      try simp only [Act.put, List.setIfInBounds_toArray, List.set_cons_zero, List.set_cons_succ]
      refine wpAnyH_take (i := 1) (oi := ⟨some 55, _, _, _, _, _⟩) (v := .agg (d.cells).toArray) rfl (by kernel_rfl) (by kernel_rfl) (by kernel_rfl) (fun _ _ _ h => h) (yieldsIf_load_mid (by rfl) 31 _ rfl w.heap.size 0 rfl (d.cells) _ (fun v h => HRG6.out v h) Try.underlying31 rfl HI31.out) (by assumption) ?_
      try simp only [Act.put, List.setIfInBounds_toArray, List.set_cons_zero, List.set_cons_succ]
      refine wpAnyH_take (i := 2) (oi := ⟨some 56, _, _, _, _, _⟩) (v := ?_) rfl (by kernel_rfl) (by kernel_rfl) (by kernel_rfl) (fun _ _ _ h => h) (Or.inl ⟨by rfl, ?_⟩) (by assumption) ?_
      rotate_left
      · intro v hSv; (try dsimp only at hSv); skip; go_simp; (try with_reducible rfl)
      try simp only [Act.put, List.setIfInBounds_toArray, List.set_cons_zero, List.set_cons_succ]
      refine wpAnyH_take (i := 3) (oi := ⟨some 57, _, _, _, _, _⟩) (v := ?_) rfl (by kernel_rfl) (by kernel_rfl) (by kernel_rfl) (fun _ _ _ h => h) (Or.inl ⟨by rfl, ?_⟩) (by assumption) ?_
      rotate_left
      · intro v hSv; (try dsimp only at hSv); skip; go_simp; (try with_reducible rfl)
      try simp only [Act.put, List.setIfInBounds_toArray, List.set_cons_zero, List.set_cons_succ]
      refine wpAnyH_take (i := 4) (oi := ⟨some 58, _, _, _, _, _⟩) (v := ?_) rfl (by kernel_rfl) (by kernel_rfl) (by kernel_rfl) (fun _ _ _ h => h) (Or.inl ⟨by rfl, ?_⟩) (by assumption) ?_
      rotate_left
      · intro v hSv; (try dsimp only at hSv); skip; go_simp; (try with_reducible rfl)
      try simp only [Act.put, List.setIfInBounds_toArray, List.set_cons_zero, List.set_cons_succ]
      refine wpAnyH_take (i := 5) (oi := ⟨some 59, _, _, _, _, _⟩) (v := .int .u64 (B.count + 1)) rfl (by kernel_rfl) (by kernel_rfl) (by kernel_rfl) (fun _ _ _ h => h) (Or.inl ⟨by rfl, ?_⟩) (by assumption) ?_
      · intro v hSv; have z := World.grownBy.cell hSv r3 (by simp); go_simp
      try simp only [Act.put, List.setIfInBounds_toArray, List.set_cons_zero, List.set_cons_succ]
      refine wpAnyH_ready (rs := [6]) (by kernel_rfl) (by simp) ?_
      refine AllReadyH.cons (o := ⟨some 60, _, _, _, _, _⟩) rfl (fun K hK => ?_) (AllReadyH.nil)
      go_simp
      go_at_call 26
      refine (HCLM.out _ (Chg.refl _ _).drew).mono ?_
      rintro e w7 ⟨rfl, hg7⟩
      have hS7 : Chg none w6 w7 := hS6.trans hg7
      have HG7 := Lib.hid hg7
      clear hg7
      go_wp2_with fail
      refine hK.out _ _ hS7 (fun _ => ?_)
      clear hK K
      try simp only [Act.put, List.setIfInBounds_toArray, List.set_cons_zero, List.set_cons_succ]
      refine wpAnyH_ready (rs := [7]) (by kernel_rfl) (by simp) ?_
      refine AllReadyH.cons (o := ⟨some 61, _, _, _, _, _⟩) rfl (fun K hK => ?_) (AllReadyH.nil)
      refine wp_buildSlice 36 33 1 _ (by rfl) (clCells d B.id B.inc (B.count + 1) false).toArray i0 (.agg #[.int .u8 0, .int .u8 0, .int .u8 0, .int .u8 0, .int .u8 0, .int .u8 0, .int .u8 0, .int .u8 0, .int .u8 0, .int .u8 0, .int .u8 0, .int .u8 0, .int .u8 0, .int .u8 0, .int .u8 0, .int .u8 0, .int .u8 0, .int .u8 0, .int .u8 0, .int .u8 0, .int .u8 0, .int .u8 0, .int .u8 0, .int .u8 0, .int .u8 0, .int .u8 0, .int .u8 0, .int .u8 0, .int .u8 0, .int .u8 0, .int .u8 0, .int .u8 0, .int .i64 0, .int .u64 0, .int .u64 0, .bool false]) Try.underlying36 hi0 hz0 (by rw [hz1]; decide) (by rw [hz1]; decide) (by simp only [List.map_toArray, List.map_cons, List.map_nil]; exact HFD.out) ?_
      refine hK.out _ _ (Chg.alloc hS7 _) (fun _ => ?_)
      clear hK K
      try simp only [Act.put, List.setIfInBounds_toArray, List.set_cons_zero, List.set_cons_succ]
      refine wpAnyH_take (i := 8) (oi := ⟨some 6, _, _, _, _, _⟩) (v := ?_) rfl (by kernel_rfl) (by kernel_rfl) (by kernel_rfl) (fun _ _ _ h => h) (Or.inl ⟨by rfl, ?_⟩) (by assumption) ?_
      rotate_left
      · intro v hSv; (try dsimp only at hSv); skip; go_simp; (try with_reducible rfl)
      try simp only [Act.put, List.setIfInBounds_toArray, List.set_cons_zero, List.set_cons_succ]
      refine wpAnyH_take (i := 9) (oi := ⟨some 7, _, _, _, _, _⟩) (v := ?_) rfl (by kernel_rfl) (by kernel_rfl) (by kernel_rfl) (fun _ _ _ h => h) (Or.inl ⟨by rfl, ?_⟩) (by assumption) ?_
      rotate_left
      · intro v hSv; (try dsimp only at hSv); skip; go_simp; (try with_reducible rfl)
      try simp only [Act.put, List.setIfInBounds_toArray, List.set_cons_zero, List.set_cons_succ]
      refine wpAnyH_done (by kernel_rfl) ?_ _
      go_wp2_with fail
      go_ret2
      rw [HE.out]
      have g8 : Chg none w6 (w7.alloc (.cells (clCells d B.id B.inc (B.count + 1) false).toArray 33)) := (hS6.trans HG7.out).alloc _
      exact ⟨_, rfl, ⟨w7.heap.size, rfl, Blk.new w7 _ _, Nat.le_trans K6.out.size (hS6.trans HG7.out).size⟩, H6.out.chg g8, K6.out.chg g8⟩

end Go.Proofs.Ytnpmfigcfikdgaa
