/-
  Walks over package claims: books that are not there, or were not made; the game whose end is known.
-/
import Derived.Test.YtnpmfigcfikdgaaI
namespace Go.Proofs.Ytnpmfigcfikdgaa
open Go.RowKit Go.Maps

def IsNone (a : Option Addr) (w : World) : Prop := ∀ v, Chg none w v → Calls Try.prog 24 #[.pointer a] v fun e w' => e = .returned (.bool true) ∧ v = w'
theorem IsNone.chg {a : Option Addr} {w v : World} (h : IsNone a w) (g : Chg none w v) : IsNone a v := fun u hu => h u (g.trans hu)

theorem try_none (a : Option Addr) (d : Dig) (now : Int) (w : World) (H : IsNone a w) :
    Calls Try.prog 10 #[.pointer a, .agg d.cells.toArray, .int .i64 now] w fun e w' => e = .returned (.tuple #[.slice none 0 0, .bool false]) ∧ Chg none w w' := by
  have HH : Hid (∀ o, Calls Try.prog 24 #[.pointer a] (w.alloc o) fun e w' => e = .returned (.bool true) ∧ w.alloc o = w') := Lib.hid fun o => H _ ((Chg.refl _ _).alloc o)
  clear H
  go_enter Try.func10, Try.ntmps10
  go_wp2_with fail
  refine (HH.out _).mono ?_
  rintro e w' ⟨rfl, rfl⟩
  go_wp2_with fail
  go_ret2
  exact ⟨rfl, (Chg.refl _ _).alloc _⟩

theorem drop_none (a : Option Addr) (d : Dig) (w : World) (H : IsNone a w) :
    Calls Try.prog 13 #[.pointer a, .agg d.cells.toArray] w fun e w' => e = .returned (.slice none 0 0) ∧ Chg none w w' := by
  have HH : Hid (∀ o, Calls Try.prog 24 #[.pointer a] (w.alloc o) fun e w' => e = .returned (.bool true) ∧ w.alloc o = w') := Lib.hid fun o => H _ ((Chg.refl _ _).alloc o)
  clear H
  go_enter Try.func13, Try.ntmps13
  go_wp2_with fail
  refine (HH.out _).mono ?_
  rintro e w' ⟨rfl, rfl⟩
  go_wp2_with fail
  go_ret
  exact ⟨rfl, (Chg.refl _ _).alloc _⟩

theorem hear_none (a : Option Addr) (c : Cl) (now : Int) (w : World) (H : IsNone a w) :
    Calls Try.prog 15 #[.pointer a, .agg c.cells.toArray, .int .i64 now] w fun e w' => e = .returned (.tuple #[.slice none 0 0, .int .i64 1]) ∧ Chg none w w' := by
  have HH : Hid (∀ o, Calls Try.prog 24 #[.pointer a] (w.alloc o) fun e w' => e = .returned (.bool true) ∧ w.alloc o = w') := Lib.hid fun o => H _ ((Chg.refl _ _).alloc o)
  clear H
  go_enter Try.func15, Try.ntmps15
  go_wp2_with fail
  refine (HH.out _).mono ?_
  rintro e w' ⟨rfl, rfl⟩
  go_wp2_with fail
  go_ret2
  exact ⟨rfl, (Chg.refl _ _).alloc _⟩

theorem live_none (a : Option Addr) (d : Dig) (now : Int) (w : World) (H : IsNone a w) :
    Calls Try.prog 18 #[.pointer a, .agg d.cells.toArray, .int .i64 now] w fun e w' => e = .returned (.tuple #[.int .i64 0, .bool false]) ∧ Chg none w w' := by
  have HH : Hid (∀ o, Calls Try.prog 24 #[.pointer a] (w.alloc o) fun e w' => e = .returned (.bool true) ∧ w.alloc o = w') := Lib.hid fun o => H _ ((Chg.refl _ _).alloc o)
  clear H
  go_enter Try.func18, Try.ntmps18
  go_wp2_with fail
  refine (HH.out _).mono ?_
  rintro e w' ⟨rfl, rfl⟩
  go_wp2_with fail
  go_ret2
  exact ⟨rfl, (Chg.refl _ _).alloc _⟩

theorem mine_none (a : Option Addr) (d : Dig) (w : World) (H : IsNone a w) :
    Calls Try.prog 20 #[.pointer a, .agg d.cells.toArray] w fun e w' => e = .returned (.bool false) ∧ Chg none w w' := by
  have HH : Hid (∀ o, Calls Try.prog 24 #[.pointer a] (w.alloc o) fun e w' => e = .returned (.bool true) ∧ w.alloc o = w') := Lib.hid fun o => H _ ((Chg.refl _ _).alloc o)
  clear H
  go_enter Try.func20, Try.ntmps20
  go_wp2_with fail
  refine (HH.out _).mono ?_
  rintro e w' ⟨rfl, rfl⟩
  go_wp2_with fail
  go_ret
  exact ⟨rfl, (Chg.refl _ _).alloc _⟩

theorem afterM_ok {B : Bk} {n : Nat} (c : Cl) {now : Int} (h : B.ok n) (hn : I64 now) : (afterM B c now).ok (n + 2) := by
  refine ⟨h.id, h.inc, ⟨h.count.1, by have := h.count.2; show B.count ≤ ((n + 2 : Nat) : Int); omega⟩, h.wait, h.ttl, h.mine, fun i y hy => ?_⟩
  have hy' : putF (forgetF B.lea now B.ttl) (c.d, c.node) (if c.gone then none else some now) i = some y := hy
  by_cases e : i = (c.d, c.node)
  · subst e
    rw [putF_same] at hy'
    split at hy'
    · cases hy'
    · cases hy'; exact hn
  · rw [putF_other _ _ e] at hy'
    unfold forgetF at hy'
    cases hl : B.lea i with
    | none => rw [hl] at hy'; cases hy'
    | some u =>
      rw [hl] at hy'
      simp only at hy'
      split at hy'
      · cases hy'
      · cases hy'; exact h.lea i _ hl
theorem Bk.ok.mono {B : Bk} {n m : Nat} (h : B.ok n) (hm : n ≤ m) : B.ok m := ⟨h.id, h.inc, ⟨h.count.1, by have := h.count.2; omega⟩, h.wait, h.ttl, h.mine, h.lea⟩
theorem hearM_ok {B : Bk} {n : Nat} (c : Cl) {now : Int} (h : B.ok n) (hn : I64 now) : (hearM B c now).1.ok (n + 2) := by
  unfold hearM
  split
  · split
    · exact h.mono (by omega)
    · split
      · exact dropM_ok _ (afterM_ok c h hn)
      · exact afterM_ok c h hn
  · exact h.mono (by omega)

/-! ### The game whose end is known -/
def keyDig (k : Int) (h : 0 ≤ k ∧ k ≤ 255) : Dig := ⟨[k, 0, 0, 0, 0, 0, 0, 0, 0, 0, 0, 0, 0, 0, 0, 0, 0, 0, 0, 0, 0, 0, 0, 0, 0, 0, 0, 0, 0, 0, 0, 0], rfl, by
  intro b hb
  simp at hb
  omega⟩
theorem built31 (k : Int) (h : 0 ≤ k ∧ k ≤ 255) : Try.prog.built 31 [(0, .int .u8 k)] = some (keyDig k h).cells.toArray := by kernel_rfl
section
variable (kd : Dig)
noncomputable def kB0 : Bk := bk0 3 7 5 20
noncomputable def kB1 (kd : Dig) : Bk := { kB0 with count := 1, mine := putF kB0.mine kd (some (1, 0)) }
def kC (kd : Dig) : Cl := ⟨kd, 1, 0, 1, false⟩
noncomputable def kB2 (kd : Dig) : Bk := { afterM (kB1 kd) (kC kd) 3 with mine := putF (kB1 kd).mine kd none }
noncomputable def kB3 (kd : Dig) : Bk := { kB2 kd with count := 2, mine := putF (kB2 kd).mine kd (some (2, 23)) }

theorem k_live0 : liveM kB0 kd 0 = none := find_none fun _ _ => rfl
theorem k_try0 : tryM kB0 kd 0 = ((kB1 kd), some ⟨kd, 3, 7, 1, false⟩, false) := tryM_new (k_live0 kd) rfl
theorem k_mine1 : (kB1 kd).mine kd = some (1, 0) := putF_same _ _ _
theorem k_hear : hearM (kB1 kd) (kC kd) 3 = ((kB2 kd), some ⟨kd, 3, 7, 1, true⟩, 0) := by
  have hg : givesB (kB1 kd) (kC kd) 3 = true := by
    unfold givesB
    rw [show (kB1 kd).mine (kC kd).d = some (1, 0) from (k_mine1 kd)]
    simp only
    rw [show readyB (kB1 kd) (1, 0) 3 = false from by kernel_rfl]
    kernel_rfl
  have hm : (afterM (kB1 kd) (kC kd) 3).mine (kC kd).d = some (1, 0) := (k_mine1 kd)
  unfold hearM
  rw [if_pos (show claimOk (kB1 kd) (kC kd) = true from by kernel_rfl), if_neg (by rw [show oldB (kB1 kd) (kC kd) = false from rfl]; simp), if_pos ⟨rfl, hg⟩, dropM_some hm]
  rfl
theorem k_lea (j : Nat) : (kB2 kd).lea (kd, (j : Int)) = if j = 1 then some 3 else none := by
  show putF (forgetF (kB1 kd).lea 3 (kB1 kd).ttl) (kd, 1) (some 3) (kd, (j : Int)) = _
  by_cases e : j = 1
  · subst e; exact putF_same _ _ _
  · rw [putF_other _ _ (by simp; omega), if_neg e]; rfl
theorem k_live2 : liveM (kB2 kd) kd 22 = some 1 := find_at (by omega) (by unfold liveAt; rw [k_lea kd, if_pos rfl]; kernel_rfl) (fun j hj => by
  have : j = 0 := by omega
  subst this; unfold liveAt; rw [k_lea kd]; rfl)
theorem k_live3 : liveM (kB2 kd) kd 23 = none := find_none fun j _ => by
  unfold liveAt; rw [k_lea kd]
  by_cases e : j = 1
  · rw [if_pos e]; kernel_rfl
  · rw [if_neg e]
theorem k_try2 : tryM (kB2 kd) kd 22 = ((kB2 kd), none, false) := tryM_live (k_live2 kd)
theorem k_try3 : tryM (kB2 kd) kd 23 = ((kB3 kd), some ⟨kd, 3, 7, 2, false⟩, false) := tryM_new (k_live3 kd) (putF_same _ _ _)
theorem k_live4 : liveM (kB3 kd) kd 28 = none := find_none fun j _ => by
  unfold liveAt
  rw [show (kB3 kd).lea (kd, (j : Int)) = _ from k_lea kd j]
  by_cases e : j = 1
  · rw [if_pos e]; kernel_rfl
  · rw [if_neg e]
theorem k_try4 : tryM (kB3 kd) kd 28 = ((kB3 kd), none, true) := by
  rw [tryM_had (k_live4 kd) (putF_same _ _ _)]
  rfl

end

/-- Sent stays. -/
theorem Sent.kept {S : Nat → Prop} {w v v' : World} {x : Value} {o : Option Cl} (h : Sent w v x o) (hk : Kept S v v') (hn : ∀ g, S g → g < w.heap.size) : Sent w v' x o := by
  cases o with
  | none => exact h
  | some c =>
    obtain ⟨b, h1, h2, h3⟩ := h
    exact ⟨b, h1, (hk.block b (Blk.lt h2) (fun hb => by have := hn b hb; omega)).trans h2, h3⟩

theorem wpList_build_is {P : Program} {ops : Array Oper} {rest : List Oper} {o : Oper} {a : Act} {w : World} {Q : Exit → Act → World → Prop} (hg : o.guard = none) (t : TypeId) (parts : Array (Nat × Operand)) (ho : o.op = .build t parts) (cs : Array Value)
    (hf : P.built t (parts.map fun (i, x) => (i, a.eval x)).toList = some cs) (h : wpList P ops Q rest (a.put o.dst (.agg cs)) w) : wpList P ops Q (o :: rest) a w :=
  wpList_build hg t parts ho (by rw [hf]; rfl) (by rw [hf]; exact h)
theorem built33k (d : Dig) : Try.prog.built 33 [(0, .agg d.cells.toArray), (1, .int .i64 1), (3, .int .u64 1)] = some (clCells d 1 0 1 false).toArray := by
  obtain ⟨L, hL, hb⟩ := d
  match L, hL with
  | [a0, a1, a2, a3, a4, a5, a6, a7, a8, a9, a10, a11, a12, a13, a14, a15, a16, a17, a18, a19, a20, a21, a22, a23, a24, a25, a26, a27, a28, a29, a30, a31], _ => show _ = _; kernel_rfl
theorem dig_all (d : Dig) : d.cells.toArray.all (·.oneCell') = true := by
  rw [Array.all_eq_true_iff_forall_mem]
  intro v hv
  rw [List.mem_toArray] at hv
  exact dig_one d v hv
theorem info31' (d : Dig) : (Try.prog.info? 31).map (·.size) = some d.cells.toArray.size := by rw [List.size_toArray]; exact info31 d
theorem size31 (d : Dig) : (#[.int .u8 0, .int .u8 0, .int .u8 0, .int .u8 0, .int .u8 0, .int .u8 0, .int .u8 0, .int .u8 0, .int .u8 0, .int .u8 0, .int .u8 0, .int .u8 0, .int .u8 0, .int .u8 0, .int .u8 0, .int .u8 0, .int .u8 0, .int .u8 0, .int .u8 0, .int .u8 0, .int .u8 0, .int .u8 0, .int .u8 0, .int .u8 0, .int .u8 0, .int .u8 0, .int .u8 0, .int .u8 0, .int .u8 0, .int .u8 0, .int .u8 0, .int .u8 0] : Array Value).size = d.cells.toArray.size := by rw [show d.cells.toArray.size = 32 from by rw [List.size_toArray, d.cells_len]]; rfl

set_option maxRecDepth 100000 in
set_option maxHeartbeats 600000 in
theorem known_any (w : World) : Calls Try.prog 9 #[] w fun e w' => e = .returned (.bool true) ∧ Chg none w w' := by
  have HN := Lib.hid (new_good 3 7 5 20 w (by decide))
  obtain ⟨kd, hkd⟩ : ∃ d : Dig, Try.prog.built 31 [(0, .int .u8 1)] = some d.cells.toArray := ⟨_, built31 1 (by decide)⟩
  have HKD := Lib.hid hkd
  have HI31 := Lib.hid (info31 kd)
  have HI31' := Lib.hid (info31' kd)
  have HZ31 := Lib.hid (size31 kd)
  have HO31 := Lib.hid (dig_all kd)
  have HB33 := Lib.hid (built33k kd)
  clear hkd
  go_enter Try.func9, Try.ntmps9
  go_wp2_with fail
  refine HN.out.mono ?_
  rintro e w1 ⟨q, rfl, h1, hq, g1⟩
  have HB1 := Lib.hid h1
  have HQ := Lib.hid hq
  have HG1 := Lib.hid g1
  clear h1 hq g1 HN
  have hz := Blk.new w1 #[.int .u8 0, .int .u8 0, .int .u8 0, .int .u8 0, .int .u8 0, .int .u8 0, .int .u8 0, .int .u8 0, .int .u8 0, .int .u8 0, .int .u8 0, .int .u8 0, .int .u8 0, .int .u8 0, .int .u8 0, .int .u8 0, .int .u8 0, .int .u8 0, .int .u8 0, .int .u8 0, .int .u8 0, .int .u8 0, .int .u8 0, .int .u8 0, .int .u8 0, .int .u8 0, .int .u8 0, .int .u8 0, .int .u8 0, .int .u8 0, .int .u8 0, .int .u8 0] 31
  obtain ⟨w2, hw2⟩ : ∃ w2, w2 = (w1.alloc (.cells #[.int .u8 0, .int .u8 0, .int .u8 0, .int .u8 0, .int .u8 0, .int .u8 0, .int .u8 0, .int .u8 0, .int .u8 0, .int .u8 0, .int .u8 0, .int .u8 0, .int .u8 0, .int .u8 0, .int .u8 0, .int .u8 0, .int .u8 0, .int .u8 0, .int .u8 0, .int .u8 0, .int .u8 0, .int .u8 0, .int .u8 0, .int .u8 0, .int .u8 0, .int .u8 0, .int .u8 0, .int .u8 0, .int .u8 0, .int .u8 0, .int .u8 0, .int .u8 0] 31)).setRow w1.heap.size kd.cells.toArray := ⟨_, rfl⟩
  have g2 : Chg none w1 w2 := by rw [hw2]; exact Chg.own ((Chg.refl _ _).alloc _) (chg_setRow _ _ _) (Nat.le_refl _)
  have hb2 : Blk w2 w1.heap.size kd.cells.toArray 31 := by rw [hw2]; exact setRow_heap _ _ _ _ _ _ hz
  have hlt : ∀ g, q.has g → g < w1.heap.size := fun g hg => HB1.out.lt hg
  have HRD : Hid (∀ v, Kept q.has w2 v → v.rangeAt w1.heap.size 0 kd.cells) := Lib.hid fun v hv => hv.range (rangeAt_blk hb2) (fun hg => by have := hlt _ hg; omega)
  have HG2 := Lib.hid g2
  have HW2 := Lib.hid hw2
  have HLT : Hid (∀ g, q.has g → g < w2.heap.size) := Lib.hid fun g hg => by have := hlt g hg; have := g2.size; omega
  have HB2 := Lib.hid (HB1.out.chg g2)
  have HOK0 := Lib.hid (bk0_ok (id := 3) (inc := 7) (wait := 5) (ttl := 20) (by decide) ⟨by omega, by omega⟩)
  have HT1 := Lib.hid (try_any kd 0 w2 q 0 kB0 HB2.out HOK0.out ⟨by omega, by omega⟩ (by omega))
  have HOK1 : Hid ((kB1 kd).ok 1) := Lib.hid (by have := tryM_ok (n := 0) kd (now := 0) HOK0.out ⟨by omega, by omega⟩; rw [show tryM (bk0 3 7 5 20) kd 0 = _ from k_try0 kd] at this; exact this)
  have HOK2 : Hid ((kB2 kd).ok 3) := Lib.hid (by have := hearM_ok (n := 1) (kC kd) (now := 3) HOK1.out ⟨by omega, by omega⟩; rw [k_hear kd] at this; exact this)
  have HOK3 : Hid ((kB3 kd).ok 5) := Lib.hid (by have := tryM_ok (n := 4) kd (now := 23) (HOK2.out.mono (by omega)) ⟨by omega, by omega⟩; rw [k_try3 kd] at this; exact this)
  rw [k_try0 kd] at HT1
  have HZB := Lib.hid hz
  clear hw2 g2 hb2 hlt hz
  go_wp2_with (first
    | (refine wpList_build_is rfl 31 _ rfl kd.cells.toArray (by simp only [List.map_toArray, List.map_cons, List.map_nil]; exact HKD.out) ?_)
    | (refine wpList_store_row rfl 31 _ _ rfl w1.heap.size kd.cells.toArray rfl rfl 31 _ HZB.out HI31'.out HZ31.out HO31.out ?_; rw [← HW2.out])
    | (refine wpList_load_mid rfl 31 _ rfl w1.heap.size 0 rfl kd.cells _ (HRD.out _ (Kept.refl _ _)) Try.underlying31 rfl HI31.out ?_))
  refine HT1.out.mono ?_
  rintro e w3 ⟨v3, rfl, ⟨b3, rfl, hb3, hl3⟩, hk3, k3⟩
  have HB3 := Lib.hid hb3
  have HL3 := Lib.hid hl3
  have HK3 := Lib.hid k3
  have HT2 := Lib.hid (hear_any (kC kd) 3 w3 q 1 (kB1 kd) hk3 HOK1.out ⟨by omega, by omega⟩ (by omega) ⟨by show (-9223372036854775808 : Int) ≤ 1; omega, by show (1 : Int) ≤ 9223372036854775807; omega⟩)
  rw [k_hear kd] at HT2
  clear hb3 hl3 hk3 k3 HT1
  go_wp2_with (first
    | (refine wpList_load_mid rfl 31 _ rfl w1.heap.size 0 rfl kd.cells _ (HRD.out _ HK3.out) Try.underlying31 rfl HI31.out ?_)
    | (refine wpList_build_is rfl 33 _ rfl (clCells kd 1 0 1 false).toArray (by simp only [List.map_toArray, List.map_cons, List.map_nil]; exact HB33.out) ?_))
  refine HT2.out.mono ?_
  rintro e w4 ⟨v4, rfl, ⟨b4, rfl, hb4, hl4⟩, hk4, k4⟩
  have HB4 := Lib.hid hb4
  have HL4 := Lib.hid hl4
  have HK4 := Lib.hid k4
  have HT3 := Lib.hid (try_any kd 22 w4 q 3 (kB2 kd) hk4 HOK2.out ⟨by omega, by omega⟩ (by omega))
  rw [k_try2 kd] at HT3
  clear hb4 hl4 hk4 k4 HT2
  go_wp2_with (refine wpList_load_mid rfl 31 _ rfl w1.heap.size 0 rfl kd.cells _ (HRD.out _ (HK3.out.trans HK4.out)) Try.underlying31 rfl HI31.out ?_)
  refine HT3.out.mono ?_
  rintro e w5 ⟨v5, rfl, hs5, hk5, k5⟩
  have HK5 := Lib.hid k5
  have hv5 : v5 = .slice none 0 0 := hs5
  subst hv5
  have HT4 := Lib.hid (try_any kd 23 w5 q 4 (kB2 kd) hk5 (HOK2.out.mono (by omega)) ⟨by omega, by omega⟩ (by omega))
  rw [k_try3 kd] at HT4
  clear hs5 hk5 k5 HT3
  go_wp2_with (refine wpList_load_mid rfl 31 _ rfl w1.heap.size 0 rfl kd.cells _ (HRD.out _ (HK3.out.trans (HK4.out.trans HK5.out))) Try.underlying31 rfl HI31.out ?_)
  refine HT4.out.mono ?_
  rintro e w6 ⟨v6, rfl, ⟨b6, rfl, hb6, hl6⟩, hk6, k6⟩
  have HB6 := Lib.hid hb6
  have HL6 := Lib.hid hl6
  have HK6 := Lib.hid k6
  have HT5 := Lib.hid (try_any kd 28 w6 q 5 (kB3 kd) hk6 HOK3.out ⟨by omega, by omega⟩ (by omega))
  rw [k_try4 kd] at HT5
  clear hb6 hl6 hk6 k6 HT4
  go_wp2_with (refine wpList_load_mid rfl 31 _ rfl w1.heap.size 0 rfl kd.cells _ (HRD.out _ (HK3.out.trans (HK4.out.trans (HK5.out.trans HK6.out)))) Try.underlying31 rfl HI31.out ?_)
  refine HT5.out.mono ?_
  rintro e w7 ⟨v7, rfl, hs7, hk7, k7⟩
  have hn : ∀ g, w2.heap.size ≤ g → ¬ q.has g := fun g hg hh => by have := HLT.out g hh; omega
  have hn2 := HL3.out
  have s3 := HK3.out.size
  have s4 := HK4.out.size
  have s5 := HK5.out.size
  have hl4 := HL4.out
  have hl6 := HL6.out
  have B3 : Blk w7 b3 (clCells kd 3 7 1 false).toArray 33 := ((HK4.out.trans (HK5.out.trans (HK6.out.trans k7))).block _ (Blk.lt HB3.out) (hn _ hn2)).trans HB3.out
  have B4 : Blk w7 b4 (clCells kd 3 7 1 true).toArray 33 := ((HK5.out.trans (HK6.out.trans k7)).block _ (Blk.lt HB4.out) (hn _ (by omega))).trans HB4.out
  have B6 : Blk w7 b6 (clCells kd 3 7 2 false).toArray 33 := (k7.block _ (Blk.lt HB6.out) (hn _ (by omega))).trans HB6.out
  have c1 := (B3.cell 34).trans (cl_at kd 3 7 1 false).2.2.1
  have c2 := (B3.cell 33).trans (cl_at kd 3 7 1 false).2.1
  have c3 := (B4.cell 35).trans (cl_at kd 3 7 1 true).2.2.2
  have c4 := (B6.cell 34).trans (cl_at kd 3 7 2 false).2.2.1
  have HEND : Hid (Chg none w w7) := Lib.hid (Kept.fresh (HG1.out.trans HG2.out) (HK3.out.trans (HK4.out.trans (HK5.out.trans (HK6.out.trans k7)))) HQ.out)
  clear hs7 hk7 k7 hn hn2 s3 s4 s5 hl4 hl6 B3 B4 B6 HT5
  go_wp2_with fail
  go_ret
  exact ⟨rfl, HEND.out⟩

end Go.Proofs.Ytnpmfigcfikdgaa
