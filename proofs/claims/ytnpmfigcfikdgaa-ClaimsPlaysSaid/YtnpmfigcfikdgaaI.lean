/-
  Walks over package claims: Hear.
-/
import Derived.Test.YtnpmfigcfikdgaaH
import Derived.Deep.Cut
import Derived.Deep.CutBlock
import Derived.Deep.DeepCutAuto
namespace Go.Proofs.Ytnpmfigcfikdgaa
open Go.RowKit Go.Maps

theorem Kept.cell {S : Nat → Prop} {w w' : World} (h : Kept S w w') {a : Addr} {x : Value} (hc : w.cell? a = some x) (hn : ¬ S a.block) : w'.cell? a = some x :=
  (World.cell?_of_block (h.block a.block (World.block_lt_of_cell? w a hc) hn)).trans hc
theorem Kept.range {S : Nat → Prop} {w w' : World} (h : Kept S w w') {b o : Nat} {cs : List Value} (hr : w.rangeAt b o cs) (hn : ¬ S b) : w'.rangeAt b o cs :=
  fun j v hv => h.cell (hr j v hv) hn

def oldB (B : Bk) (c : Cl) : Bool :=
  match B.last (c.d, c.node) with
  | none => false
  | some l => lessB (c.inc, c.count) l || ((c.inc == l.1 && c.count == l.2) && !c.gone)
noncomputable def afterM (B : Bk) (c : Cl) (now : Int) : Bk :=
  { B with last := putF B.last (c.d, c.node) (some (c.inc, c.count)), lea := putF (forgetF B.lea now B.ttl) (c.d, c.node) (if c.gone then none else some now) }
def givesB (B : Bk) (c : Cl) (now : Int) : Bool :=
  match B.mine c.d with
  | none => false
  | some x => decide (c.node < B.id) && !readyB B x now
noncomputable def hearM (B : Bk) (c : Cl) (now : Int) : Bk × Option Cl × Int :=
  if claimOk B c = true then
    if oldB B c = true then (B, none, 220)
    else if c.gone = false ∧ givesB B c now = true then ((dropM (afterM B c now) c.d).1, (dropM (afterM B c now) c.d).2, 0)
    else (afterM B c now, none, 0)
  else (B, none, 2)

theorem Sent.low {w u w' : World} {v : Value} {o : Option Cl} (h : Sent u w' v o) (hs : w.heap.size ≤ u.heap.size) : Sent w w' v o := by
  cases o with
  | none => exact h
  | some c => obtain ⟨b, h1, h2, h3⟩ := h; exact ⟨b, h1, h2, by omega⟩

/-- The maps of a book. -/
def Qk.maps (q : Qk) (g : Nat) : Prop := g = q.m ∨ g = q.l ∨ g = q.e
theorem Qk.maps_has {q : Qk} {g : Nat} (h : q.maps g) : q.has g := .inr h

/-- What Hear reads again and again. -/
structure HearMem (q : Qk) (B : Bk) (c : Cl) (cb pb sb : Nat) (v : World) : Prop where
  o1 : v.cell? ⟨q.b, 1, none⟩ = some (.int .i64 B.id)
  o6 : v.cell? ⟨q.b, 6, none⟩ = some (.map (some q.m))
  o7 : v.cell? ⟨q.b, 7, none⟩ = some (.map (some q.l))
  o8 : v.cell? ⟨q.b, 8, none⟩ = some (.map (some q.e))
  c1 : v.cell? ⟨cb, 32, none⟩ = some (.int .i64 c.node)
  c4 : v.cell? ⟨cb, 35, none⟩ = some (.bool c.gone)
  s0 : v.cell? ⟨sb, 0, none⟩ = some (.int .u64 c.inc)
  s1 : v.cell? ⟨sb, 1, none⟩ = some (.int .u64 c.count)
  dg : v.rangeAt cb 0 c.d.cells
  pl : v.rangeAt pb 0 (plCells c.d c.node)

theorem HearMem.kept {q : Qk} {B : Bk} {c : Cl} {cb pb sb : Nat} {v v' : World} (h : HearMem q B c cb pb sb v) (hk : Kept q.maps v v') (hb : ¬ q.maps q.b) (hc : ¬ q.maps cb) (hp : ¬ q.maps pb) (hp1 : ¬ q.maps sb) : HearMem q B c cb pb sb v' :=
  ⟨hk.cell h.o1 hb, hk.cell h.o6 hb, hk.cell h.o7 hb, hk.cell h.o8 hb, hk.cell h.c1 hc, hk.cell h.c4 hc, hk.cell h.s0 hp1, hk.cell h.s1 hp1, hk.range h.dg hc, hk.range h.pl hp⟩

theorem new_after (w : World) (o : Obj) (cs : Array Value) (T : TypeId) {k : Nat} (hk : (w.alloc o).heap.size = k) : ((w.alloc o).alloc (.cells cs T)).heap[k]? = some (.cells cs T (0, 0)) := by
  subst hk
  exact Blk.new (w.alloc o) cs T

/-- The world and the blocks at Hear's claim, its place, its serial. -/
structure HearAt (W : World) (q : Qk) (B : Bk) (c : Cl) (cb pb sb : Nat) (v : World) : Prop where
  chg : Chg none W v
  mem : HearMem q B c cb pb sb v
  pb : W.heap.size ≤ pb
  sb : W.heap.size ≤ sb
theorem HearAt.drew {W : World} {q : Qk} {B : Bk} {c : Cl} {cb pb sb : Nat} {v : World} (h : HearAt W q B c cb pb sb v) : HearAt W q B c cb pb sb v.drew :=
  ⟨h.chg.drew, ⟨h.mem.o1, h.mem.o6, h.mem.o7, h.mem.o8, h.mem.c1, h.mem.c4, h.mem.s0, h.mem.s1, h.mem.dg, h.mem.pl⟩, h.pb, h.sb⟩

set_option maxRecDepth 100000 in
set_option maxHeartbeats 16000000 in
theorem hear_any (c : Cl) (now : Int) (w : World) (q : Qk) (n : Nat) (B : Bk) (h : BookAt w q n B) (ho : B.ok n) (hnow : I64 now) (hn : n < 1000000) (hci : I64 c.node) :
    Calls Try.prog 15 #[.pointer (some ⟨q.b, 0, none⟩), .agg c.cells.toArray, .int .i64 now] w fun e w' =>
      ∃ v, e = .returned (.tuple #[v, .int .i64 (hearM B c now).2.2]) ∧ Sent w w' v (hearM B c now).2.1 ∧ BookAt w' q (n + 2) (hearM B c now).1 ∧ Kept q.has w w' := by
  cases hcl : claimOk B c with
  | false =>
    have e : hearM B c now = (B, none, 2) := by unfold hearM; rw [hcl]; rfl
    rw [e]
    exact (hear_bad c now w q n B h hcl).mono fun e w' hh => ⟨_, hh.1, rfl, (h.chg hh.2).mono (by omega), (Kept.of_chg hh.2).mono (fun _ e => by cases e)⟩
  | true =>
  obtain ⟨W, hW⟩ : ∃ W, W = w.alloc (.cells c.cells.toArray 33) := ⟨_, rfl⟩
  have g0 : Chg none w W := by rw [hW]; exact (Chg.refl _ _).alloc _
  have hWs : W.heap.size = w.heap.size + 1 := by rw [hW]; simp
  have hb4 : Blk W w.heap.size c.cells.toArray 33 := by rw [hW]; exact Blk.new w _ _
  have h' := h.chg g0
  obtain ⟨c1, c2, c3, c4⟩ := cl_at c.d c.node c.inc c.count c.gone
  replace c1 := (hb4.cell 32).trans c1
  replace c2 := (hb4.cell 33).trans c2
  replace c3 := (hb4.cell 34).trans c3
  replace c4 := (hb4.cell 35).trans c4
  have hrd : W.rangeAt w.heap.size 0 c.d.cells := fun j v hv => by
    rw [hb4.cell (0 + j), Nat.zero_add]
    simpa using cl_dig c j v hv
  have HRD : Hid (∀ v, Chg none W v → v.rangeAt w.heap.size 0 c.d.cells) := Lib.hid fun v hv => rangeAt_chg hrd hv (by simp)
  have HM := Lib.hid h'.made
  have HW := Lib.hid hW
  have HG0 := Lib.hid g0
  have HND := Lib.hid (fun w => isNode_any c.node w)
  have HI31 := Lib.hid (info31 c.d)
  have HI71 := Lib.hid (info71 c.d c.node)
  have HI71L : Hid ((Try.prog.info? 71).map (·.size) = some (plCells c.d c.node).length) := Lib.hid (by rw [info71 c.d c.node]; simp)
  have HI73 : Hid ((Try.prog.info? 73).map (·.size) = some 2) := Lib.hid (by kernel_rfl)
  have HO73 : Hid ((#[Value.int .u64 c.inc, Value.int .u64 c.count] : Array Value).all (·.oneCell') = true) := Lib.hid (by
    rw [Array.all_eq_true_iff_forall_mem]
    intro v hv
    simp at hv
    rcases hv with rfl | rfl <;> rfl)
  have HO71 := Lib.hid (pl_one c.d c.node)
  obtain ⟨-, o1, -, -, -, -, o6, o7, o8, -⟩ := h'.open
  rw [hW] at HM
  have hS0 : Chg none W W.drew := (Chg.refl _ _).drew
  have hS2 : Chg none W W.drew.drew := hS0.drew
  have HZ71 : Hid ((#[.int .u8 0, .int .u8 0, .int .u8 0, .int .u8 0, .int .u8 0, .int .u8 0, .int .u8 0, .int .u8 0, .int .u8 0, .int .u8 0, .int .u8 0, .int .u8 0, .int .u8 0, .int .u8 0, .int .u8 0, .int .u8 0, .int .u8 0, .int .u8 0, .int .u8 0, .int .u8 0, .int .u8 0, .int .u8 0, .int .u8 0, .int .u8 0, .int .u8 0, .int .u8 0, .int .u8 0, .int .u8 0, .int .u8 0, .int .u8 0, .int .u8 0, .int .u8 0, .int .i64 0] : Array Value).size = (plCells c.d c.node).toArray.size) := Lib.hid (by rw [show (plCells c.d c.node).toArray.size = 33 from by rw [List.size_toArray, plCells_len]]; rfl)
  have HMEM : Hid (∀ (a2 : World) (pb sb : Nat), Chg none W a2 → a2.heap[pb]? = some (.cells #[.int .u8 0, .int .u8 0, .int .u8 0, .int .u8 0, .int .u8 0, .int .u8 0, .int .u8 0, .int .u8 0, .int .u8 0, .int .u8 0, .int .u8 0, .int .u8 0, .int .u8 0, .int .u8 0, .int .u8 0, .int .u8 0, .int .u8 0, .int .u8 0, .int .u8 0, .int .u8 0, .int .u8 0, .int .u8 0, .int .u8 0, .int .u8 0, .int .u8 0, .int .u8 0, .int .u8 0, .int .u8 0, .int .u8 0, .int .u8 0, .int .u8 0, .int .u8 0, .int .i64 0] 71 (0, 0)) → a2.heap[sb]? = some (.cells #[.int .u64 0, .int .u64 0] 73 (0, 0)) → pb ≠ sb → W.heap.size ≤ pb → W.heap.size ≤ sb →
      HearAt W q B c w.heap.size pb sb ((a2.setRow pb (plCells c.d c.node).toArray).setRow sb #[.int .u64 c.inc, .int .u64 c.count])) := Lib.hid (by
    intro a2 pb sb g2 hb71 hb73 hne hlp hls
    obtain ⟨w5, hw5⟩ : ∃ w5, w5 = (a2.setRow pb (plCells c.d c.node).toArray).setRow sb #[.int .u64 c.inc, .int .u64 c.count] := ⟨_, rfl⟩
    have g5 : Chg none W w5 := by rw [hw5]; exact Chg.own (Chg.own g2 (chg_setRow _ _ _) hlp) (chg_setRow _ _ _) hls
    have hp5 : Blk w5 pb (plCells c.d c.node).toArray 71 := by
      rw [hw5]
      exact (setRow_other _ _ _ _ hne).trans (setRow_heap _ _ _ _ _ _ hb71)
    have hs5 : Blk w5 sb #[.int .u64 c.inc, .int .u64 c.count] 73 := by
      rw [hw5]
      exact setRow_heap _ _ _ _ _ _ ((setRow_other _ _ _ _ (fun e => hne e.symm)).trans hb73)
    rw [← hw5]
    exact ⟨g5, ⟨g5.cell o1 (by simp), g5.cell o6 (by simp), g5.cell o7 (by simp), g5.cell o8 (by simp), g5.cell c1 (by simp), g5.cell c4 (by simp), by rw [hs5.cell 0]; rfl, by rw [hs5.cell 1]; rfl, rangeAt_chg hrd g5 (by simp), rangeAt_blk hp5⟩, hlp, hls⟩)
  have hnot : ∀ g, w.heap.size ≤ g → ¬ q.maps g := fun g hg hm => by have := h.lt (Qk.maps_has hm); omega
  have hnb : ¬ q.maps q.b := by
    rintro (e | e | e)
    · exact h.bne.1 e
    · exact h.bne.2.1 e
    · exact h.bne.2.2 e
  have HNOT := Lib.hid hnot
  have HNB := Lib.hid hnb
  have H' := Lib.hid h'
  have HO := Lib.hid ho
  have HNOW := Lib.hid hnow
  have HCI := Lib.hid hci
  have HH0 := Lib.hid h
  have HWS := Lib.hid hWs
  have HLA := Lib.hid (fun v (hb : BookAt v q n B) => hb.last.look lastL (c.d, c.node) hci)
  have HCL := Lib.hid hcl
  have e2 : decide (1099511627776 < c.inc) = false := by unfold claimOk at hcl; simp only [Bool.and_eq_true, decide_eq_true_eq] at hcl; exact decide_eq_false (by omega)
  have e3 : decide (1099511627776 < c.count) = false := by unfold claimOk at hcl; simp only [Bool.and_eq_true, decide_eq_true_eq] at hcl; exact decide_eq_false (by omega)
  have e1 : (c.node == B.id) = false := by unfold claimOk at hcl; simp only [Bool.and_eq_true] at hcl; simpa using hcl.1.1.2
  have e0 : decide (0 ≤ c.node ∧ c.node < 16) = true := by unfold claimOk at hcl; simp only [Bool.and_eq_true] at hcl; exact hcl.1.1.1
  rw [e0] at HND
  clear e0 hcl
  clear hW hb4 g0 h h' ho hnow hci hrd c4 o6 o7 o8 hnot hnb hWs
  go_enter Try.func15, Try.ntmps15
  go_wp2_with fail
  refine HM.out.mono ?_
  rintro e w' ⟨rfl, rfl⟩
  rw [← HW.out]
  go_wp2
  refine wp_region_held_drew (S := fun v => Chg none W v) (by kernel_rfl) hS0 (fun _ => ?_)
  refine wpAnyH_take (i := 0) (oi := ⟨some 16, _, _, _, _, _⟩) (v := ?_) rfl (by kernel_rfl) (by kernel_rfl) (by kernel_rfl) (fun _ _ _ h => h) (Or.inl ⟨by rfl, ?_⟩) (by assumption) ?_
  rotate_left
  · intro v hSv; (try dsimp only at hSv); skip; go_simp; (try with_reducible rfl)
  try simp only [Act.put, List.setIfInBounds_toArray, List.set_cons_zero, List.set_cons_succ]
  refine wpAnyH_take (i := 1) (oi := ⟨some 17, _, _, _, _, _⟩) (v := .int .i64 c.node) rfl (by kernel_rfl) (by kernel_rfl) (by kernel_rfl) (fun _ _ _ h => h) (Or.inl ⟨by rfl, ?_⟩) (by assumption) ?_
  · intro v hSv; have z := World.grownBy.cell hSv c1 (by simp); go_simp
  try simp only [Act.put, List.setIfInBounds_toArray, List.set_cons_zero, List.set_cons_succ]
  refine wpAnyH_ready (rs := [2]) (by kernel_rfl) (by simp) ?_
  refine AllReadyH.cons (o := ⟨some 18, _, _, _, _, _⟩) rfl (fun K hK => ?_) (AllReadyH.nil)
  go_simp
  go_at_call 22
  refine (HND.out _).mono ?_
  rintro e w' ⟨rfl, rfl⟩
  go_wp2_with fail
  refine hK.out _ _ hS0 (fun _ => ?_)
  clear hK K
  try simp only [Act.put, List.setIfInBounds_toArray, List.set_cons_zero, List.set_cons_succ]
  refine wpAnyH_take (i := 3) (oi := ⟨some 19, _, _, _, _, _⟩) (v := ?_) rfl (by kernel_rfl) (by kernel_rfl) (by kernel_rfl) (fun _ _ _ h => h) (Or.inl ⟨by rfl, ?_⟩) (by assumption) ?_
  rotate_left
  · intro v hSv; (try dsimp only at hSv); skip; go_simp; (try with_reducible rfl)
  try simp only [Act.put, List.setIfInBounds_toArray, List.set_cons_zero, List.set_cons_succ]
  refine wpAnyH_take (i := 4) (oi := ⟨some 20, _, _, _, _, _⟩) (v := ?_) rfl (by kernel_rfl) (by kernel_rfl) (by kernel_rfl) (fun _ _ _ h => h) (Or.inl ⟨by rfl, ?_⟩) (by assumption) ?_
  rotate_left
  · intro v hSv; (try dsimp only at hSv); skip; go_simp; (try with_reducible rfl)
  try simp only [Act.put, List.setIfInBounds_toArray, List.set_cons_zero, List.set_cons_succ]
  refine wpAnyH_take (i := 5) (oi := ⟨some 21, _, _, _, _, _⟩) (v := ?_) rfl (by kernel_rfl) (by kernel_rfl) (by kernel_rfl) (fun _ _ _ h => h) (Or.inl ⟨by rfl, ?_⟩) (by assumption) ?_
  rotate_left
  · intro v hSv; (try dsimp only at hSv); skip; go_simp; (try with_reducible rfl)
  try simp only [Act.put, List.setIfInBounds_toArray, List.set_cons_zero, List.set_cons_succ]
  refine wpAnyH_take (i := 6) (oi := ⟨some 22, _, _, _, _, _⟩) (v := .int .i64 c.node) rfl (by kernel_rfl) (by kernel_rfl) (by kernel_rfl) (fun _ _ _ h => h) (Or.inl ⟨by rfl, ?_⟩) (by assumption) ?_
  · intro v hSv; have z := World.grownBy.cell hSv c1 (by simp); go_simp
  try simp only [Act.put, List.setIfInBounds_toArray, List.set_cons_zero, List.set_cons_succ]
  refine wpAnyH_take (i := 7) (oi := ⟨some 23, _, _, _, _, _⟩) (v := ?_) rfl (by kernel_rfl) (by kernel_rfl) (by kernel_rfl) (fun _ _ _ h => h) (Or.inl ⟨by rfl, ?_⟩) (by assumption) ?_
  rotate_left
  · intro v hSv; (try dsimp only at hSv); skip; go_simp; (try with_reducible rfl)
  try simp only [Act.put, List.setIfInBounds_toArray, List.set_cons_zero, List.set_cons_succ]
  refine wpAnyH_take (i := 8) (oi := ⟨some 24, _, _, _, _, _⟩) (v := ?_) rfl (by kernel_rfl) (by kernel_rfl) (by kernel_rfl) (fun _ _ _ h => h) (Or.inl ⟨by rfl, ?_⟩) (by assumption) ?_
  rotate_left
  · intro v hSv; (try dsimp only at hSv); skip; go_simp; (try with_reducible rfl)
  try simp only [Act.put, List.setIfInBounds_toArray, List.set_cons_zero, List.set_cons_succ]
  refine wpAnyH_take (i := 9) (oi := ⟨some 25, _, _, _, _, _⟩) (v := ?_) rfl (by kernel_rfl) (by kernel_rfl) (by kernel_rfl) (fun _ _ _ h => h) (Or.inl ⟨by rfl, ?_⟩) (by assumption) ?_
  rotate_left
  · intro v hSv; (try dsimp only at hSv); skip; go_simp; (try with_reducible rfl)
  try simp only [Act.put, List.setIfInBounds_toArray, List.set_cons_zero, List.set_cons_succ]
  refine wpAnyH_take (i := 10) (oi := ⟨some 26, _, _, _, _, _⟩) (v := .int .i64 B.id) rfl (by kernel_rfl) (by kernel_rfl) (by kernel_rfl) (fun _ _ _ h => h) (Or.inl ⟨by rfl, ?_⟩) (by assumption) ?_
  · intro v hSv; have z := World.grownBy.cell hSv o1 (by simp); go_simp
  try simp only [Act.put, List.setIfInBounds_toArray, List.set_cons_zero, List.set_cons_succ]
  refine wpAnyH_take (i := 11) (oi := ⟨some 27, _, _, _, _, _⟩) (v := ?_) rfl (by kernel_rfl) (by kernel_rfl) (by kernel_rfl) (fun _ _ _ h => h) (Or.inl ⟨by rfl, ?_⟩) (by assumption) ?_
  rotate_left
  · intro v hSv; (try dsimp only at hSv); skip; go_simp; (try with_reducible rfl)
  try simp only [Act.put, List.setIfInBounds_toArray, List.set_cons_zero, List.set_cons_succ]
  refine wpAnyH_take (i := 12) (oi := ⟨some 28, _, _, _, _, _⟩) (v := ?_) rfl (by kernel_rfl) (by kernel_rfl) (by kernel_rfl) (fun _ _ _ h => h) (Or.inl ⟨by rfl, ?_⟩) (by assumption) ?_
  rotate_left
  · intro v hSv; (try dsimp only at hSv); skip; go_simp; (try with_reducible rfl)
  try simp only [Act.put, List.setIfInBounds_toArray, List.set_cons_zero, List.set_cons_succ]
  refine wpAnyH_take (i := 13) (oi := ⟨some 29, _, _, _, _, _⟩) (v := ?_) rfl (by kernel_rfl) (by kernel_rfl) (by kernel_rfl) (fun _ _ _ h => h) (Or.inl ⟨by rfl, ?_⟩) (by assumption) ?_
  rotate_left
  · intro v hSv; (try dsimp only at hSv); skip; go_simp; (try with_reducible rfl)
  try simp only [Act.put, List.setIfInBounds_toArray, List.set_cons_zero, List.set_cons_succ]
  refine wpAnyH_take (i := 14) (oi := ⟨some 30, _, _, _, _, _⟩) (v := ?_) rfl (by kernel_rfl) (by kernel_rfl) (by kernel_rfl) (fun _ _ _ h => h) (Or.inl ⟨by rfl, ?_⟩) (by assumption) ?_
  rotate_left
  · intro v hSv; (try dsimp only at hSv); skip; go_simp; (try with_reducible rfl)
  try simp only [Act.put, List.setIfInBounds_toArray, List.set_cons_zero, List.set_cons_succ]
  refine wpAnyH_take (i := 15) (oi := ⟨some 31, _, _, _, _, _⟩) (v := .int .u64 c.inc) rfl (by kernel_rfl) (by kernel_rfl) (by kernel_rfl) (fun _ _ _ h => h) (Or.inl ⟨by rfl, ?_⟩) (by assumption) ?_
  · intro v hSv; have z := World.grownBy.cell hSv c2 (by simp); go_simp
  try simp only [Act.put, List.setIfInBounds_toArray, List.set_cons_zero, List.set_cons_succ]
  refine wpAnyH_take (i := 16) (oi := ⟨some 32, _, _, _, _, _⟩) (v := ?_) rfl (by kernel_rfl) (by kernel_rfl) (by kernel_rfl) (fun _ _ _ h => h) (Or.inl ⟨by rfl, ?_⟩) (by assumption) ?_
  rotate_left
  · intro v hSv; (try dsimp only at hSv); skip; go_simp; (try with_reducible rfl)
  try simp only [Act.put, List.setIfInBounds_toArray, List.set_cons_zero, List.set_cons_succ]
  refine wpAnyH_take (i := 17) (oi := ⟨some 33, _, _, _, _, _⟩) (v := ?_) rfl (by kernel_rfl) (by kernel_rfl) (by kernel_rfl) (fun _ _ _ h => h) (Or.inl ⟨by rfl, ?_⟩) (by assumption) ?_
  rotate_left
  · intro v hSv; (try dsimp only at hSv); skip; go_simp; (try with_reducible rfl)
  try simp only [Act.put, List.setIfInBounds_toArray, List.set_cons_zero, List.set_cons_succ]
  refine wpAnyH_take (i := 18) (oi := ⟨some 34, _, _, _, _, _⟩) (v := ?_) rfl (by kernel_rfl) (by kernel_rfl) (by kernel_rfl) (fun _ _ _ h => h) (Or.inl ⟨by rfl, ?_⟩) (by assumption) ?_
  rotate_left
  · intro v hSv; (try dsimp only at hSv); skip; go_simp; (try with_reducible rfl)
  try simp only [Act.put, List.setIfInBounds_toArray, List.set_cons_zero, List.set_cons_succ]
  refine wpAnyH_take (i := 19) (oi := ⟨some 35, _, _, _, _, _⟩) (v := ?_) rfl (by kernel_rfl) (by kernel_rfl) (by kernel_rfl) (fun _ _ _ h => h) (Or.inl ⟨by rfl, ?_⟩) (by assumption) ?_
  rotate_left
  · intro v hSv; (try dsimp only at hSv); skip; go_simp; (try with_reducible rfl)
  try simp only [Act.put, List.setIfInBounds_toArray, List.set_cons_zero, List.set_cons_succ]
  refine wpAnyH_take (i := 20) (oi := ⟨some 36, _, _, _, _, _⟩) (v := .int .u64 c.count) rfl (by kernel_rfl) (by kernel_rfl) (by kernel_rfl) (fun _ _ _ h => h) (Or.inl ⟨by rfl, ?_⟩) (by assumption) ?_
  · intro v hSv; have z := World.grownBy.cell hSv c3 (by simp); go_simp
  try simp only [Act.put, List.setIfInBounds_toArray, List.set_cons_zero, List.set_cons_succ]
  refine wpAnyH_take (i := 21) (oi := ⟨some 37, _, _, _, _, _⟩) (v := ?_) rfl (by kernel_rfl) (by kernel_rfl) (by kernel_rfl) (fun _ _ _ h => h) (Or.inl ⟨by rfl, ?_⟩) (by assumption) ?_
  rotate_left
  · intro v hSv; (try dsimp only at hSv); skip; go_simp; (try with_reducible rfl)
  try simp only [Act.put, List.setIfInBounds_toArray, List.set_cons_zero, List.set_cons_succ]
  refine wpAnyH_take (i := 22) (oi := ⟨some 38, _, _, _, _, _⟩) (v := ?_) rfl (by kernel_rfl) (by kernel_rfl) (by kernel_rfl) (fun _ _ _ h => h) (Or.inl ⟨by rfl, ?_⟩) (by assumption) ?_
  rotate_left
  · intro v hSv; (try dsimp only at hSv); skip; go_simp; (try with_reducible rfl)
  try simp only [Act.put, List.setIfInBounds_toArray, List.set_cons_zero, List.set_cons_succ]
  refine wpAnyH_done (by kernel_rfl) ?_ _
  clear HND e1 e2 e3
  go_upto_region 5 with fail
  (try go_frame)
  go_cut [8, 9] (fun s8 s9 wx => ∃ pb sb : Nat, s8 = .pointer (some ⟨pb, 0, none⟩) ∧ s9 = .pointer (some ⟨sb, 0, none⟩) ∧ HearAt W q B c w.heap.size pb sb wx)
  case first =>
    refine wp_region_held_drew (S := fun v => Chg none W v) (by kernel_rfl) hS2 (fun _ => ?_)
    refine wpAnyH_take (i := 0) (oi := ⟨some 39, _, _, _, _, _⟩) (v := ?_) rfl (by kernel_rfl) (by kernel_rfl) (by kernel_rfl) (fun _ _ _ h => h) (Or.inl ⟨by rfl, ?_⟩) (by assumption) ?_
    rotate_left
    · intro v hSv; (try dsimp only at hSv); skip; go_simp; (try with_reducible rfl)
    try simp only [Act.put, List.setIfInBounds_toArray, List.set_cons_zero, List.set_cons_succ]
    refine wpAnyH_take (i := 1) (oi := ⟨some 40, _, _, _, _, _⟩) (v := .agg (c.d.cells).toArray) rfl (by kernel_rfl) (by kernel_rfl) (by kernel_rfl) (fun _ _ _ h => h) (yieldsIf_load_mid (by rfl) 31 _ rfl w.heap.size 0 rfl (c.d.cells) _ (fun v h => HRD.out v h) Try.underlying31 rfl HI31.out) (by assumption) ?_
    try simp only [Act.put, List.setIfInBounds_toArray, List.set_cons_zero, List.set_cons_succ]
    refine wpAnyH_take (i := 2) (oi := ⟨some 41, _, _, _, _, _⟩) (v := ?_) rfl (by kernel_rfl) (by kernel_rfl) (by kernel_rfl) (fun _ _ _ h => h) (Or.inl ⟨by rfl, ?_⟩) (by assumption) ?_
    rotate_left
    · intro v hSv; (try dsimp only at hSv); skip; go_simp; (try with_reducible rfl)
    try simp only [Act.put, List.setIfInBounds_toArray, List.set_cons_zero, List.set_cons_succ]
    refine wpAnyH_take (i := 3) (oi := ⟨some 42, _, _, _, _, _⟩) (v := .int .i64 c.node) rfl (by kernel_rfl) (by kernel_rfl) (by kernel_rfl) (fun _ _ _ h => h) (Or.inl ⟨by rfl, ?_⟩) (by assumption) ?_
    · intro v hSv; have z := World.grownBy.cell hSv c1 (by simp); go_simp
    try simp only [Act.put, List.setIfInBounds_toArray, List.set_cons_zero, List.set_cons_succ]
    refine wpAnyH_take (i := 4) (oi := ⟨some 43, _, _, _, _, _⟩) (v := .agg (plCells c.d c.node).toArray) rfl (by kernel_rfl) (by kernel_rfl) (by kernel_rfl) (fun _ _ _ h => h) (yieldsIf_build (by rfl) 71 _ rfl (plCells c.d c.node).toArray (by simp only [List.map_toArray, List.map_cons, List.map_nil]; exact built71 c.d c.node)) (by assumption) ?_
    try simp only [Act.put, List.setIfInBounds_toArray, List.set_cons_zero, List.set_cons_succ]
    refine wpAnyH_take (i := 5) (oi := ⟨some 44, _, _, _, _, _⟩) (v := ?_) rfl (by kernel_rfl) (by kernel_rfl) (by kernel_rfl) (fun _ _ _ h => h) (Or.inl ⟨by rfl, ?_⟩) (by assumption) ?_
    rotate_left
    · intro v hSv; (try dsimp only at hSv); skip; go_simp; (try with_reducible rfl)
    try simp only [Act.put, List.setIfInBounds_toArray, List.set_cons_zero, List.set_cons_succ]
    refine wpAnyH_take (i := 6) (oi := ⟨some 45, _, _, _, _, _⟩) (v := .int .u64 c.inc) rfl (by kernel_rfl) (by kernel_rfl) (by kernel_rfl) (fun _ _ _ h => h) (Or.inl ⟨by rfl, ?_⟩) (by assumption) ?_
    · intro v hSv; have z := World.grownBy.cell hSv c2 (by simp); go_simp
    try simp only [Act.put, List.setIfInBounds_toArray, List.set_cons_zero, List.set_cons_succ]
    refine wpAnyH_take (i := 7) (oi := ⟨some 46, _, _, _, _, _⟩) (v := ?_) rfl (by kernel_rfl) (by kernel_rfl) (by kernel_rfl) (fun _ _ _ h => h) (Or.inl ⟨by rfl, ?_⟩) (by assumption) ?_
    rotate_left
    · intro v hSv; (try dsimp only at hSv); skip; go_simp; (try with_reducible rfl)
    try simp only [Act.put, List.setIfInBounds_toArray, List.set_cons_zero, List.set_cons_succ]
    refine wpAnyH_take (i := 8) (oi := ⟨some 47, _, _, _, _, _⟩) (v := .int .u64 c.count) rfl (by kernel_rfl) (by kernel_rfl) (by kernel_rfl) (fun _ _ _ h => h) (Or.inl ⟨by rfl, ?_⟩) (by assumption) ?_
    · intro v hSv; have z := World.grownBy.cell hSv c3 (by simp); go_simp
    try simp only [Act.put, List.setIfInBounds_toArray, List.set_cons_zero, List.set_cons_succ]
    refine wpAnyH_take (i := 9) (oi := ⟨some 48, _, _, _, _, _⟩) (v := .agg #[.int .u64 c.inc, .int .u64 c.count]) rfl (by kernel_rfl) (by kernel_rfl) (by kernel_rfl) (fun _ _ _ h => h) (Or.inl ⟨by rfl, ?_⟩) (by assumption) ?_
    · intro v hSv; skip; go_simp
    try simp only [Act.put, List.setIfInBounds_toArray, List.set_cons_zero, List.set_cons_succ]
    refine wpAnyH_ready (rs := [10, 11]) (by kernel_rfl) (by simp) ?_
    refine AllReadyH.cons (o := ⟨some 8, _, _, _, _, _⟩) rfl (fun K hK => ?_) (AllReadyH.cons (o := ⟨some 9, _, _, _, _, _⟩) rfl (fun K hK => ?_) (AllReadyH.nil))
    · go_simp
      refine hK.out _ _ (Chg.alloc hS2 _) (fun _ => ?_)
      clear hK K
      try simp only [Act.put, List.setIfInBounds_toArray, List.set_cons_zero, List.set_cons_succ]
      refine wpAnyH_ready (rs := [11]) (by kernel_rfl) (by simp) ?_
      refine AllReadyH.cons (o := ⟨some 9, _, _, _, _, _⟩) rfl (fun K hK => ?_) (AllReadyH.nil)
      go_simp
      refine hK.out _ _ (Chg.alloc (Chg.alloc hS2 _) _) (fun _ => ?_)
      clear hK K
      try simp only [Act.put, List.setIfInBounds_toArray, List.set_cons_zero, List.set_cons_succ]
      have hb71 : ((W.drew.drew.alloc (.cells #[.int .u8 0, .int .u8 0, .int .u8 0, .int .u8 0, .int .u8 0, .int .u8 0, .int .u8 0, .int .u8 0, .int .u8 0, .int .u8 0, .int .u8 0, .int .u8 0, .int .u8 0, .int .u8 0, .int .u8 0, .int .u8 0, .int .u8 0, .int .u8 0, .int .u8 0, .int .u8 0, .int .u8 0, .int .u8 0, .int .u8 0, .int .u8 0, .int .u8 0, .int .u8 0, .int .u8 0, .int .u8 0, .int .u8 0, .int .u8 0, .int .u8 0, .int .u8 0, .int .i64 0] 71)).alloc (.cells #[.int .u64 0, .int .u64 0] 73)).heap[W.heap.size]? = some (.cells #[.int .u8 0, .int .u8 0, .int .u8 0, .int .u8 0, .int .u8 0, .int .u8 0, .int .u8 0, .int .u8 0, .int .u8 0, .int .u8 0, .int .u8 0, .int .u8 0, .int .u8 0, .int .u8 0, .int .u8 0, .int .u8 0, .int .u8 0, .int .u8 0, .int .u8 0, .int .u8 0, .int .u8 0, .int .u8 0, .int .u8 0, .int .u8 0, .int .u8 0, .int .u8 0, .int .u8 0, .int .u8 0, .int .u8 0, .int .u8 0, .int .u8 0, .int .u8 0, .int .i64 0] 71 (0, 0)) := (Blk.new W.drew.drew _ _).alloc _
      have hb73 : ((W.drew.drew.alloc (.cells #[.int .u8 0, .int .u8 0, .int .u8 0, .int .u8 0, .int .u8 0, .int .u8 0, .int .u8 0, .int .u8 0, .int .u8 0, .int .u8 0, .int .u8 0, .int .u8 0, .int .u8 0, .int .u8 0, .int .u8 0, .int .u8 0, .int .u8 0, .int .u8 0, .int .u8 0, .int .u8 0, .int .u8 0, .int .u8 0, .int .u8 0, .int .u8 0, .int .u8 0, .int .u8 0, .int .u8 0, .int .u8 0, .int .u8 0, .int .u8 0, .int .u8 0, .int .u8 0, .int .i64 0] 71)).alloc (.cells #[.int .u64 0, .int .u64 0] 73)).heap[W.heap.size + 1]? = some (.cells #[.int .u64 0, .int .u64 0] 73 (0, 0)) := new_after _ _ _ _ (by simp)
      refine wpAnyH_ready (rs := [12]) (by kernel_rfl) (by simp) ?_
      refine AllReadyH.cons (o := ⟨none, _, _, _, _, _⟩) rfl (fun K hK => ?_) (AllReadyH.nil)
      (try rw [if_pos (by rfl)])
      refine wp_store_row 71 (.tmp 8) (.tmp 43) (by rfl) (W.heap.size) (plCells c.d c.node).toArray (by rfl) (by rfl) 71 _ hb71 HI71.out HZ71.out HO71.out ?_
      refine hK.out _ _ (Chg.own (Chg.alloc (Chg.alloc hS2 _) _) (chg_setRow _ _ _) (Nat.le_refl _)) (fun _ => ?_)
      clear hK K
      refine wpAnyH_ready (rs := [13]) (by kernel_rfl) (by simp) ?_
      refine AllReadyH.cons (o := ⟨none, _, _, _, _, _⟩) rfl (fun K hK => ?_) (AllReadyH.nil)
      (try rw [if_pos (by rfl)])
      refine wp_store_row 73 (.tmp 9) (.tmp 48) (by rfl) (W.heap.size + 1) #[.int .u64 c.inc, .int .u64 c.count] (by rfl) (by rfl) 73 _ ((setRow_other _ _ _ _ (by omega)).trans hb73) HI73.out rfl HO73.out ?_
      refine hK.out _ _ (Chg.own (Chg.own (Chg.alloc (Chg.alloc hS2 _) _) (chg_setRow _ _ _) (Nat.le_refl _)) (chg_setRow _ _ _) (Nat.le_succ _)) (fun _ => ?_)
      clear hK K
      refine wpAnyH_done (by kernel_rfl) ?_ _
      go_wp2
      go_meet
      exact ⟨_, _, rfl, rfl, (HMEM.out _ (W.heap.size) (W.heap.size + 1) (Chg.alloc (Chg.alloc hS2 _) _) hb71 hb73 (by omega) (Nat.le_refl _) (Nat.le_succ _))⟩
    · go_simp
      refine hK.out _ _ (Chg.alloc hS2 _) (fun _ => ?_)
      clear hK K
      try simp only [Act.put, List.setIfInBounds_toArray, List.set_cons_zero, List.set_cons_succ]
      refine wpAnyH_ready (rs := [10]) (by kernel_rfl) (by simp) ?_
      refine AllReadyH.cons (o := ⟨some 8, _, _, _, _, _⟩) rfl (fun K hK => ?_) (AllReadyH.nil)
      go_simp
      refine hK.out _ _ (Chg.alloc (Chg.alloc hS2 _) _) (fun _ => ?_)
      clear hK K
      try simp only [Act.put, List.setIfInBounds_toArray, List.set_cons_zero, List.set_cons_succ]
      have hb73 : ((W.drew.drew.alloc (.cells #[.int .u64 0, .int .u64 0] 73)).alloc (.cells #[.int .u8 0, .int .u8 0, .int .u8 0, .int .u8 0, .int .u8 0, .int .u8 0, .int .u8 0, .int .u8 0, .int .u8 0, .int .u8 0, .int .u8 0, .int .u8 0, .int .u8 0, .int .u8 0, .int .u8 0, .int .u8 0, .int .u8 0, .int .u8 0, .int .u8 0, .int .u8 0, .int .u8 0, .int .u8 0, .int .u8 0, .int .u8 0, .int .u8 0, .int .u8 0, .int .u8 0, .int .u8 0, .int .u8 0, .int .u8 0, .int .u8 0, .int .u8 0, .int .i64 0] 71)).heap[W.heap.size]? = some (.cells #[.int .u64 0, .int .u64 0] 73 (0, 0)) := (Blk.new W.drew.drew _ _).alloc _
      have hb71 : ((W.drew.drew.alloc (.cells #[.int .u64 0, .int .u64 0] 73)).alloc (.cells #[.int .u8 0, .int .u8 0, .int .u8 0, .int .u8 0, .int .u8 0, .int .u8 0, .int .u8 0, .int .u8 0, .int .u8 0, .int .u8 0, .int .u8 0, .int .u8 0, .int .u8 0, .int .u8 0, .int .u8 0, .int .u8 0, .int .u8 0, .int .u8 0, .int .u8 0, .int .u8 0, .int .u8 0, .int .u8 0, .int .u8 0, .int .u8 0, .int .u8 0, .int .u8 0, .int .u8 0, .int .u8 0, .int .u8 0, .int .u8 0, .int .u8 0, .int .u8 0, .int .i64 0] 71)).heap[W.heap.size + 1]? = some (.cells #[.int .u8 0, .int .u8 0, .int .u8 0, .int .u8 0, .int .u8 0, .int .u8 0, .int .u8 0, .int .u8 0, .int .u8 0, .int .u8 0, .int .u8 0, .int .u8 0, .int .u8 0, .int .u8 0, .int .u8 0, .int .u8 0, .int .u8 0, .int .u8 0, .int .u8 0, .int .u8 0, .int .u8 0, .int .u8 0, .int .u8 0, .int .u8 0, .int .u8 0, .int .u8 0, .int .u8 0, .int .u8 0, .int .u8 0, .int .u8 0, .int .u8 0, .int .u8 0, .int .i64 0] 71 (0, 0)) := new_after _ _ _ _ (by simp)
      refine wpAnyH_ready (rs := [12]) (by kernel_rfl) (by simp) ?_
      refine AllReadyH.cons (o := ⟨none, _, _, _, _, _⟩) rfl (fun K hK => ?_) (AllReadyH.nil)
      (try rw [if_pos (by rfl)])
      refine wp_store_row 71 (.tmp 8) (.tmp 43) (by rfl) (W.heap.size + 1) (plCells c.d c.node).toArray (by rfl) (by rfl) 71 _ hb71 HI71.out HZ71.out HO71.out ?_
      refine hK.out _ _ (Chg.own (Chg.alloc (Chg.alloc hS2 _) _) (chg_setRow _ _ _) (Nat.le_succ _)) (fun _ => ?_)
      clear hK K
      refine wpAnyH_ready (rs := [13]) (by kernel_rfl) (by simp) ?_
      refine AllReadyH.cons (o := ⟨none, _, _, _, _, _⟩) rfl (fun K hK => ?_) (AllReadyH.nil)
      (try rw [if_pos (by rfl)])
      refine wp_store_row 73 (.tmp 9) (.tmp 48) (by rfl) (W.heap.size) #[.int .u64 c.inc, .int .u64 c.count] (by rfl) (by rfl) 73 _ ((setRow_other _ _ _ _ (by omega)).trans hb73) HI73.out rfl HO73.out ?_
      refine hK.out _ _ (Chg.own (Chg.own (Chg.alloc (Chg.alloc hS2 _) _) (chg_setRow _ _ _) (Nat.le_succ _)) (chg_setRow _ _ _) (Nat.le_refl _)) (fun _ => ?_)
      clear hK K
      refine wpAnyH_done (by kernel_rfl) ?_ _
      go_wp2
      go_meet
      exact ⟨_, _, rfl, rfl, (HMEM.out _ (W.heap.size + 1) (W.heap.size) (Chg.alloc (Chg.alloc hS2 _) _) hb71 hb73 (by omega) (Nat.le_succ _) (Nat.le_refl _))⟩
  obtain ⟨pb, sb, rfl, rfl, hat⟩ := hcut
  obtain ⟨v5, rfl⟩ : ∃ v, v = wc := ⟨_, rfl⟩
  have hWS := HWS.out
  have HC : Hid (∀ v, Kept q.maps v5 v → HearMem q B c w.heap.size pb sb v) := Lib.hid fun v hv => hat.mem.kept hv HNB.out (HNOT.out _ (Nat.le_refl _)) (HNOT.out _ (by have := hat.pb; omega)) (HNOT.out _ (by have := hat.sb; omega))
  have H5 := Lib.hid (H'.out.chg hat.chg)
  have HG5 := Lib.hid (HG0.out.trans hat.chg)
  have HAT := Lib.hid hat
  clear hat hWS HMEM HRD hS2 HI71 HI73 HZ71 HO71 HO73 c1 c2 c3 o1 hS0
  go_upto_region 6 with fail
  (try go_frame)
  go_cut [10, 11] (fun s10 s11 wx => s10 = .pointer (some ⟨v5.heap.size, 0, none⟩) ∧ s11 = .bool (B.last (c.d, c.node)).isSome ∧ Hid (Chg none v5 wx) ∧
    Hid (∀ l, B.last (c.d, c.node) = some l → wx.cell? ⟨v5.heap.size, 0, none⟩ = some (.int .u64 l.1) ∧ wx.cell? ⟨v5.heap.size, 1, none⟩ = some (.int .u64 l.2)))
  case first =>
    have hS6 : Chg none v5 v5.drew := (Chg.refl _ _).drew
    cases hla : B.last (c.d, c.node) with
    | none =>
      have HL : Hid (∀ v, Kept (fun _ => False) v5 v → (Instr.lookup 56 (.map (some q.l)) (.agg (plCells c.d c.node).toArray) true).run Try.prog v = .ok (.tuple #[.agg #[.int .u64 0, .int .u64 0], .bool false]) v) := Lib.hid fun v hv => by
        have := HLA.out v (H5.out.chg hv.toChg)
        rw [hla] at this
        exact this
      have HLE := Lib.hid hla
      clear hla
      refine wp_region_held_drew (S := fun v => Chg none v5 v) (by kernel_rfl) hS6 (fun _ => ?_)
      refine wpAnyH_take (i := 0) (oi := ⟨some 50, _, _, _, _, _⟩) (v := ?_) rfl (by kernel_rfl) (by kernel_rfl) (by kernel_rfl) (fun _ _ _ h => h) (Or.inl ⟨by rfl, ?_⟩) (by assumption) ?_
      rotate_left
      · intro v hSv; (try dsimp only at hSv); skip; go_simp; (try with_reducible rfl)
      try simp only [Act.put, List.setIfInBounds_toArray, List.set_cons_zero, List.set_cons_succ]
      refine wpAnyH_take (i := 1) (oi := ⟨some 51, _, _, _, _, _⟩) (v := ?_) rfl (by kernel_rfl) (by kernel_rfl) (by kernel_rfl) (fun _ _ _ h => h) (Or.inl ⟨by rfl, ?_⟩) (by assumption) ?_
      rotate_left
      · intro v hSv; (try dsimp only at hSv); skip; go_simp; (try with_reducible rfl)
      try simp only [Act.put, List.setIfInBounds_toArray, List.set_cons_zero, List.set_cons_succ]
      refine wpAnyH_take (i := 2) (oi := ⟨some 52, _, _, _, _, _⟩) (v := ?_) rfl (by kernel_rfl) (by kernel_rfl) (by kernel_rfl) (fun _ _ _ h => h) (Or.inl ⟨by rfl, ?_⟩) (by assumption) ?_
      rotate_left
      · intro v hSv; (try dsimp only at hSv); skip; go_simp; (try with_reducible rfl)
      try simp only [Act.put, List.setIfInBounds_toArray, List.set_cons_zero, List.set_cons_succ]
      refine wpAnyH_take (i := 3) (oi := ⟨some 53, _, _, _, _, _⟩) (v := .map (some q.l)) rfl (by kernel_rfl) (by kernel_rfl) (by kernel_rfl) (fun _ _ _ h => h) (Or.inl ⟨by rfl, ?_⟩) (by assumption) ?_
      · intro v hSv; have z := (HC.out v ((Kept.of_chg hSv).mono (fun _ e => by cases e))).o7; go_simp
      try simp only [Act.put, List.setIfInBounds_toArray, List.set_cons_zero, List.set_cons_succ]
      refine wpAnyH_take (i := 4) (oi := ⟨some 54, _, _, _, _, _⟩) (v := .agg (plCells c.d c.node).toArray) rfl (by kernel_rfl) (by kernel_rfl) (by kernel_rfl) (fun _ _ _ h => h) (yieldsIf_load_mid (by rfl) 71 _ rfl pb 0 rfl (plCells c.d c.node) _ (fun v h => (fun v h => (HC.out v ((Kept.of_chg h).mono (fun _ e => by cases e))).pl) v h) Try.underlying71 rfl HI71L.out) (by assumption) ?_
      try simp only [Act.put, List.setIfInBounds_toArray, List.set_cons_zero, List.set_cons_succ]
      refine wpAnyH_take (i := 5) (oi := ⟨some 55, _, _, _, _, _⟩) (v := .tuple #[.agg #[.int .u64 0, .int .u64 0], .bool false]) rfl (by kernel_rfl) (by kernel_rfl) (by kernel_rfl) (fun _ _ _ h => h) (Or.inl ⟨by rfl, ?_⟩) (by assumption) ?_
      · intro v hSv; have z := HL.out v ((Kept.of_chg hSv).mono (fun _ e => by cases e)); go_simp
      try simp only [Act.put, List.setIfInBounds_toArray, List.set_cons_zero, List.set_cons_succ]
      refine wpAnyH_take (i := 6) (oi := ⟨some 49, _, _, _, _, _⟩) (v := ?_) rfl (by kernel_rfl) (by kernel_rfl) (by kernel_rfl) (fun _ _ _ h => h) (Or.inl ⟨by rfl, ?_⟩) (by assumption) ?_
      rotate_left
      · intro v hSv; (try dsimp only at hSv); skip; go_simp; (try with_reducible rfl)
      try simp only [Act.put, List.setIfInBounds_toArray, List.set_cons_zero, List.set_cons_succ]
      refine wpAnyH_take (i := 7) (oi := ⟨some 56, _, _, _, _, _⟩) (v := ?_) rfl (by kernel_rfl) (by kernel_rfl) (by kernel_rfl) (fun _ _ _ h => h) (Or.inl ⟨by rfl, ?_⟩) (by assumption) ?_
      rotate_left
      · intro v hSv; (try dsimp only at hSv); skip; go_simp; (try with_reducible rfl)
      try simp only [Act.put, List.setIfInBounds_toArray, List.set_cons_zero, List.set_cons_succ]
      refine wpAnyH_take (i := 8) (oi := ⟨some 57, _, _, _, _, _⟩) (v := ?_) rfl (by kernel_rfl) (by kernel_rfl) (by kernel_rfl) (fun _ _ _ h => h) (Or.inl ⟨by rfl, ?_⟩) (by assumption) ?_
      rotate_left
      · intro v hSv; (try dsimp only at hSv); skip; go_simp; (try with_reducible rfl)
      try simp only [Act.put, List.setIfInBounds_toArray, List.set_cons_zero, List.set_cons_succ]
      refine wpAnyH_ready (rs := [9]) (by kernel_rfl) (by simp) ?_
      refine AllReadyH.cons (o := ⟨some 10, _, _, _, _, _⟩) rfl (fun K hK => ?_) (AllReadyH.nil)
      go_simp
      refine hK.out _ _ (Chg.alloc hS6 _) (fun _ => ?_)
      clear hK K
      try simp only [Act.put, List.setIfInBounds_toArray, List.set_cons_zero, List.set_cons_succ]
      refine wpAnyH_ready (rs := [10]) (by kernel_rfl) (by simp) ?_
      refine AllReadyH.cons (o := ⟨none, _, _, _, _, _⟩) rfl (fun K hK => ?_) (AllReadyH.nil)
      go_simp
      refine hK.out _ _ (Chg.alloc hS6 _) (fun _ => ?_)
      clear hK K
      refine wpAnyH_take (i := 11) (oi := ⟨some 11, _, _, _, _, _⟩) (v := ?_) rfl (by kernel_rfl) (by kernel_rfl) (by kernel_rfl) (fun _ _ _ h => h) (Or.inl ⟨by rfl, ?_⟩) (by assumption) ?_
      rotate_left
      · intro v hSv; (try dsimp only at hSv); skip; go_simp; (try with_reducible rfl)
      try simp only [Act.put, List.setIfInBounds_toArray, List.set_cons_zero, List.set_cons_succ]
      refine wpAnyH_done (by kernel_rfl) ?_ _
      go_wp2
      go_meet
      exact ⟨rfl, by rw [HLE.out]; rfl, Lib.hid ((Chg.refl _ _).drew.alloc _), Lib.hid fun l h => by rw [HLE.out] at h; cases h⟩
    | some l =>
      have HL : Hid (∀ v, Kept (fun _ => False) v5 v → (Instr.lookup 56 (.map (some q.l)) (.agg (plCells c.d c.node).toArray) true).run Try.prog v = .ok (.tuple #[.agg #[.int .u64 l.1, .int .u64 l.2], .bool true]) v) := Lib.hid fun v hv => by
        have := HLA.out v (H5.out.chg hv.toChg)
        rw [hla] at this
        exact this
      have HLE := Lib.hid hla
      clear hla
      have hb6 : Blk (v5.alloc (.cells #[.int .u64 l.1, .int .u64 l.2] 73)) v5.heap.size #[.int .u64 l.1, .int .u64 l.2] 73 := Blk.new v5 _ _
      have HX : Hid ((v5.alloc (.cells #[.int .u64 l.1, .int .u64 l.2] 73)).cell? ⟨v5.heap.size, 0, none⟩ = some (.int .u64 l.1) ∧ (v5.alloc (.cells #[.int .u64 l.1, .int .u64 l.2] 73)).cell? ⟨v5.heap.size, 1, none⟩ = some (.int .u64 l.2)) :=
        Lib.hid ⟨by rw [hb6.cell 0]; rfl, by rw [hb6.cell 1]; rfl⟩
      clear hb6
      refine wp_region_held_drew (S := fun v => Chg none v5 v) (by kernel_rfl) hS6 (fun _ => ?_)
      refine wpAnyH_take (i := 0) (oi := ⟨some 50, _, _, _, _, _⟩) (v := ?_) rfl (by kernel_rfl) (by kernel_rfl) (by kernel_rfl) (fun _ _ _ h => h) (Or.inl ⟨by rfl, ?_⟩) (by assumption) ?_
      rotate_left
      · intro v hSv; (try dsimp only at hSv); skip; go_simp; (try with_reducible rfl)
      try simp only [Act.put, List.setIfInBounds_toArray, List.set_cons_zero, List.set_cons_succ]
      refine wpAnyH_take (i := 1) (oi := ⟨some 51, _, _, _, _, _⟩) (v := ?_) rfl (by kernel_rfl) (by kernel_rfl) (by kernel_rfl) (fun _ _ _ h => h) (Or.inl ⟨by rfl, ?_⟩) (by assumption) ?_
      rotate_left
      · intro v hSv; (try dsimp only at hSv); skip; go_simp; (try with_reducible rfl)
      try simp only [Act.put, List.setIfInBounds_toArray, List.set_cons_zero, List.set_cons_succ]
      refine wpAnyH_take (i := 2) (oi := ⟨some 52, _, _, _, _, _⟩) (v := ?_) rfl (by kernel_rfl) (by kernel_rfl) (by kernel_rfl) (fun _ _ _ h => h) (Or.inl ⟨by rfl, ?_⟩) (by assumption) ?_
      rotate_left
      · intro v hSv; (try dsimp only at hSv); skip; go_simp; (try with_reducible rfl)
      try simp only [Act.put, List.setIfInBounds_toArray, List.set_cons_zero, List.set_cons_succ]
      refine wpAnyH_take (i := 3) (oi := ⟨some 53, _, _, _, _, _⟩) (v := .map (some q.l)) rfl (by kernel_rfl) (by kernel_rfl) (by kernel_rfl) (fun _ _ _ h => h) (Or.inl ⟨by rfl, ?_⟩) (by assumption) ?_
      · intro v hSv; have z := (HC.out v ((Kept.of_chg hSv).mono (fun _ e => by cases e))).o7; go_simp
      try simp only [Act.put, List.setIfInBounds_toArray, List.set_cons_zero, List.set_cons_succ]
      refine wpAnyH_take (i := 4) (oi := ⟨some 54, _, _, _, _, _⟩) (v := .agg (plCells c.d c.node).toArray) rfl (by kernel_rfl) (by kernel_rfl) (by kernel_rfl) (fun _ _ _ h => h) (yieldsIf_load_mid (by rfl) 71 _ rfl pb 0 rfl (plCells c.d c.node) _ (fun v h => (fun v h => (HC.out v ((Kept.of_chg h).mono (fun _ e => by cases e))).pl) v h) Try.underlying71 rfl HI71L.out) (by assumption) ?_
      try simp only [Act.put, List.setIfInBounds_toArray, List.set_cons_zero, List.set_cons_succ]
      refine wpAnyH_take (i := 5) (oi := ⟨some 55, _, _, _, _, _⟩) (v := .tuple #[.agg #[.int .u64 l.1, .int .u64 l.2], .bool true]) rfl (by kernel_rfl) (by kernel_rfl) (by kernel_rfl) (fun _ _ _ h => h) (Or.inl ⟨by rfl, ?_⟩) (by assumption) ?_
      · intro v hSv; have z := HL.out v ((Kept.of_chg hSv).mono (fun _ e => by cases e)); go_simp
      try simp only [Act.put, List.setIfInBounds_toArray, List.set_cons_zero, List.set_cons_succ]
      refine wpAnyH_take (i := 6) (oi := ⟨some 49, _, _, _, _, _⟩) (v := ?_) rfl (by kernel_rfl) (by kernel_rfl) (by kernel_rfl) (fun _ _ _ h => h) (Or.inl ⟨by rfl, ?_⟩) (by assumption) ?_
      rotate_left
      · intro v hSv; (try dsimp only at hSv); skip; go_simp; (try with_reducible rfl)
      try simp only [Act.put, List.setIfInBounds_toArray, List.set_cons_zero, List.set_cons_succ]
      refine wpAnyH_take (i := 7) (oi := ⟨some 56, _, _, _, _, _⟩) (v := ?_) rfl (by kernel_rfl) (by kernel_rfl) (by kernel_rfl) (fun _ _ _ h => h) (Or.inl ⟨by rfl, ?_⟩) (by assumption) ?_
      rotate_left
      · intro v hSv; (try dsimp only at hSv); skip; go_simp; (try with_reducible rfl)
      try simp only [Act.put, List.setIfInBounds_toArray, List.set_cons_zero, List.set_cons_succ]
      refine wpAnyH_take (i := 8) (oi := ⟨some 57, _, _, _, _, _⟩) (v := ?_) rfl (by kernel_rfl) (by kernel_rfl) (by kernel_rfl) (fun _ _ _ h => h) (Or.inl ⟨by rfl, ?_⟩) (by assumption) ?_
      rotate_left
      · intro v hSv; (try dsimp only at hSv); skip; go_simp; (try with_reducible rfl)
      try simp only [Act.put, List.setIfInBounds_toArray, List.set_cons_zero, List.set_cons_succ]
      refine wpAnyH_ready (rs := [9]) (by kernel_rfl) (by simp) ?_
      refine AllReadyH.cons (o := ⟨some 10, _, _, _, _, _⟩) rfl (fun K hK => ?_) (AllReadyH.nil)
      go_simp
      refine hK.out _ _ (Chg.alloc hS6 _) (fun _ => ?_)
      clear hK K
      try simp only [Act.put, List.setIfInBounds_toArray, List.set_cons_zero, List.set_cons_succ]
      refine wpAnyH_ready (rs := [10]) (by kernel_rfl) (by simp) ?_
      refine AllReadyH.cons (o := ⟨none, _, _, _, _, _⟩) rfl (fun K hK => ?_) (AllReadyH.nil)
      go_simp
      refine hK.out _ _ (Chg.alloc hS6 _) (fun _ => ?_)
      clear hK K
      refine wpAnyH_take (i := 11) (oi := ⟨some 11, _, _, _, _, _⟩) (v := ?_) rfl (by kernel_rfl) (by kernel_rfl) (by kernel_rfl) (fun _ _ _ h => h) (Or.inl ⟨by rfl, ?_⟩) (by assumption) ?_
      rotate_left
      · intro v hSv; (try dsimp only at hSv); skip; go_simp; (try with_reducible rfl)
      try simp only [Act.put, List.setIfInBounds_toArray, List.set_cons_zero, List.set_cons_succ]
      refine wpAnyH_done (by kernel_rfl) ?_ _
      go_wp2
      go_meet
      exact ⟨rfl, by rw [HLE.out]; rfl, Lib.hid ((Chg.refl _ _).drew.alloc _), Lib.hid fun l' h => by rw [HLE.out] at h; injection h with h; subst h; exact HX.out⟩
  obtain ⟨rfl, rfl, HG6, HX6⟩ := hcut
  obtain ⟨v6, rfl⟩ : ∃ v, v = wc := ⟨_, rfl⟩
  have HEO : Hid (oldB B c = true → hearM B c now = (B, none, 220)) := Lib.hid fun e => by unfold hearM; rw [if_pos HCL.out, if_pos e]
  go_upto_region 7 with fail
  (try go_frame)
  go_cut [11, 73] (fun _ s73 wx => s73 = .bool (oldB B c) ∧ Hid (Chg none v6 wx))
  case first =>
    have HS7 : Hid (∀ w7, Chg none v6 w7 → w7.cell? ⟨sb, 0, none⟩ = some (.int .u64 c.inc) ∧ w7.cell? ⟨sb, 1, none⟩ = some (.int .u64 c.count) ∧ w7.cell? ⟨w.heap.size, 35, none⟩ = some (.bool c.gone) ∧
        ∀ l, B.last (c.d, c.node) = some l → w7.cell? ⟨v5.heap.size, 0, none⟩ = some (.int .u64 l.1) ∧ w7.cell? ⟨v5.heap.size, 1, none⟩ = some (.int .u64 l.2)) := Lib.hid fun w7 h7 =>
      ⟨(HC.out w7 ((Kept.of_chg (HG6.out.trans h7)).mono (fun _ e => by cases e))).s0, (HC.out w7 ((Kept.of_chg (HG6.out.trans h7)).mono (fun _ e => by cases e))).s1, (HC.out w7 ((Kept.of_chg (HG6.out.trans h7)).mono (fun _ e => by cases e))).c4,
        fun l hl => ⟨h7.cell (HX6.out l hl).1 (by simp), h7.cell (HX6.out l hl).2 (by simp)⟩⟩
    obtain ⟨s0, s1, -, HXL⟩ := HS7.out v6 (Chg.refl _ _)
    cases hla : B.last (c.d, c.node) with
    | none =>
      have HOL : Hid (oldB B c = false) := Lib.hid (by unfold oldB; rw [hla])
      rw [show (none : Option (Int × Int)).isSome = false from rfl]
      clear hla HXL
      go_wp2_with fail
      go_meet
      exact ⟨by rw [HOL.out], Lib.hid (Chg.refl _ _)⟩
    | some l =>
      rw [show (some l : Option (Int × Int)).isSome = true from rfl]
      obtain ⟨x0, x1⟩ := HXL l hla
      have HY : Hid (∀ w7, Chg none v6 w7 → _) := Lib.hid fun w7 h7 => And.intro (HS7.out w7 h7) ((HS7.out w7 h7).2.2.2 l hla)
      have hold : oldB B c = (lessB (c.inc, c.count) l || ((c.inc == l.1 && c.count == l.2) && !c.gone)) := by unfold oldB; rw [hla]
      have HLS := Lib.hid (fun w => isLess_any (c.inc, c.count) l w)
      clear hla HXL
      cases hls : lessB (c.inc, c.count) l with
      | true =>
        rw [hls] at HLS
        have HOL : Hid (oldB B c = true) := Lib.hid (by rw [hold, hls]; rfl)
        clear hls hold
        go_wp2_with fail
        refine (HLS.out _).mono ?_
        rintro e w7 ⟨rfl, hg7⟩
        have HG7 := Lib.hid hg7
        clear hg7
        go_wp2_with fail
        go_meet
        exact ⟨by rw [HOL.out], HG7⟩
      | false =>
        rw [hls] at HLS hold
        clear hls
        have hold' : oldB B c = ((c.inc == l.1 && c.count == l.2) && !c.gone) := by rw [hold]; rfl
        clear hold
        generalize hq : (c.inc == l.1) = b1 at *
        generalize hr : (c.count == l.2) = b2 at *
        go_wp2_with fail
        refine (HLS.out _).mono ?_
        rintro e w7 ⟨rfl, hg7⟩
        obtain ⟨⟨y0, y1, y2, -⟩, y3, y4⟩ := HY.out w7 hg7
        have HG7 := Lib.hid hg7
        have HOL := Lib.hid hold'
        clear hg7 hold'
        generalize c.gone = g at *
        cases b1 <;> cases b2
        · go_wp2_with fail
          go_meet
          exact ⟨by rw [HOL.out]; rfl, HG7⟩
        · go_wp2_with fail
          go_meet
          exact ⟨by rw [HOL.out]; rfl, HG7⟩
        · go_wp2_with fail
          go_meet
          exact ⟨by rw [HOL.out]; rfl, HG7⟩
        · go_wp2_with fail
          go_meet
          exact ⟨by rw [HOL.out]; rfl, HG7⟩
  obtain ⟨rfl, HG7⟩ := hcut
  obtain ⟨v7, rfl⟩ : ∃ v, v = wc := ⟨_, rfl⟩
  have HG77 : Hid (Chg none w v7) := Lib.hid (HG5.out.trans (HG6.out.trans HG7.out))
  have K57 : Hid (Kept q.maps v5 v7) := Lib.hid ((Kept.of_chg (HG6.out.trans HG7.out)).mono (fun _ e => by cases e))
  have HC0 := HC
  clear HC
  have HC : Hid (∀ v, Kept q.maps v7 v → HearMem q B c w.heap.size pb sb v) := Lib.hid fun v hv => HC0.out v (K57.out.trans hv)
  have HB7 : Hid (BookAt v7 q n B) := Lib.hid (H5.out.chg (HG6.out.trans HG7.out))
  have HKW : Hid (Kept q.has w v7) := Lib.hid ((Kept.of_chg HG77.out).mono (fun _ e => by cases e))
  clear HX6 HC0 K57 HLA HNB HNOT H' H5 HG5 HG6 HG7 HAT HG0 HW HM HWS
  cases hol : oldB B c with
  | true =>
    have HE := Lib.hid (HEO.out hol)
    clear hol HEO
    go_wp2
    go_ret2
    rw [HE.out]
    exact ⟨_, rfl, rfl, (HH0.out.chg HG77.out).mono (by omega), HKW.out⟩
  | false =>
    have HE : Hid (hearM B c now = if c.gone = false ∧ givesB B c now = true then ((dropM (afterM B c now) c.d).1, (dropM (afterM B c now) c.d).2, 0) else (afterM B c now, none, 0)) := Lib.hid (by
      unfold hearM; rw [if_pos HCL.out, hol, if_neg (by simp)])
    clear HEO hol
    have hK0 : Kept q.maps v7 v7.drew := (Kept.refl _ _).drew
    have hb0 : BookAt v7.drew q n B := HB7.out.chg (Chg.refl _ _).drew
    obtain ⟨w9, hput, hm9, hc9⟩ : ∃ w9, (Instr.mapUpdate 56 (.map (some q.l)) (.agg (plCells c.d c.node).toArray) (.agg #[.int .u64 c.inc, .int .u64 c.count])).run Try.prog v7.drew = .ok () w9 ∧ MapG lastS w9 q.l (n + 1) (putF B.last (c.d, c.node) (some (c.inc, c.count))) ∧ Chg (some q.l) v7.drew w9 :=
      hb0.last.put lastL (by unfold maxLen; omega) (c.d, c.node) HCI.out (c.inc, c.count) trivial
    have k9 : Kept q.maps v7 w9 := hK0.chgOf hc9 (.inr (.inl rfl))
    have H9 : Hid (BookAt w9 q (n + 1) { B with last := putF B.last (c.d, c.node) (some (c.inc, c.count)) }) := Lib.hid (hb0.setLast hc9 hm9 (by omega))
    have HK9 := Lib.hid k9
    have HFO := Lib.hid (forget_any now w9 q (n + 1) { B with last := putF B.last (c.d, c.node) (some (c.inc, c.count)) } H9.out ⟨HO.out.id, HO.out.inc, ⟨HO.out.count.1, by have := HO.out.count.2; show B.count ≤ ((n + 1 : Nat) : Int); omega⟩, HO.out.wait, HO.out.ttl, HO.out.mine, HO.out.lea⟩ HNOW.out)
    clear hb0 hm9 hc9
    go_wp2
    refine wp_region_held_drew (S := fun v => Kept q.maps v7 v) (by kernel_rfl) hK0 (fun _ => ?_)
    refine wpAnyH_take (i := 0) (oi := ⟨some 74, _, _, _, _, _⟩) (v := ?_) rfl (by kernel_rfl) (by kernel_rfl) (by kernel_rfl) (fun _ _ _ h => h) (Or.inl ⟨by rfl, ?_⟩) (by assumption) ?_
    rotate_left
    · intro v hSv; (try dsimp only at hSv); skip; go_simp; (try with_reducible rfl)
    try simp only [Act.put, List.setIfInBounds_toArray, List.set_cons_zero, List.set_cons_succ]
    refine wpAnyH_take (i := 1) (oi := ⟨some 75, _, _, _, _, _⟩) (v := ?_) rfl (by kernel_rfl) (by kernel_rfl) (by kernel_rfl) (fun _ _ _ h => h) (Or.inl ⟨by rfl, ?_⟩) (by assumption) ?_
    rotate_left
    · intro v hSv; (try dsimp only at hSv); skip; go_simp; (try with_reducible rfl)
    try simp only [Act.put, List.setIfInBounds_toArray, List.set_cons_zero, List.set_cons_succ]
    refine wpAnyH_take (i := 2) (oi := ⟨some 76, _, _, _, _, _⟩) (v := ?_) rfl (by kernel_rfl) (by kernel_rfl) (by kernel_rfl) (fun _ _ _ h => h) (Or.inl ⟨by rfl, ?_⟩) (by assumption) ?_
    rotate_left
    · intro v hSv; (try dsimp only at hSv); skip; go_simp; (try with_reducible rfl)
    try simp only [Act.put, List.setIfInBounds_toArray, List.set_cons_zero, List.set_cons_succ]
    refine wpAnyH_take (i := 3) (oi := ⟨some 77, _, _, _, _, _⟩) (v := .map (some q.l)) rfl (by kernel_rfl) (by kernel_rfl) (by kernel_rfl) (fun _ _ _ h => h) (Or.inl ⟨by rfl, ?_⟩) (by assumption) ?_
    · intro v hSv; have z := (HC.out v hSv).o7; go_simp
    try simp only [Act.put, List.setIfInBounds_toArray, List.set_cons_zero, List.set_cons_succ]
    refine wpAnyH_take (i := 4) (oi := ⟨some 78, _, _, _, _, _⟩) (v := .agg (plCells c.d c.node).toArray) rfl (by kernel_rfl) (by kernel_rfl) (by kernel_rfl) (fun _ _ _ h => h) (yieldsIf_load_mid (by rfl) 71 _ rfl pb 0 rfl (plCells c.d c.node) _ (fun v h => (fun v h => (HC.out v h).pl) v h) Try.underlying71 rfl HI71L.out) (by assumption) ?_
    try simp only [Act.put, List.setIfInBounds_toArray, List.set_cons_zero, List.set_cons_succ]
    refine wpAnyH_take (i := 5) (oi := ⟨some 79, _, _, _, _, _⟩) (v := .agg #[.int .u64 c.inc, .int .u64 c.count]) rfl (by kernel_rfl) (by kernel_rfl) (by kernel_rfl) (fun _ _ _ h => h) (Or.inl ⟨by rfl, ?_⟩) (by assumption) ?_
    · intro v hSv; have z := (HC.out v hSv).s0; have z1 := (HC.out v hSv).s1; go_simp
    try simp only [Act.put, List.setIfInBounds_toArray, List.set_cons_zero, List.set_cons_succ]
    refine wpAnyH_ready (rs := [6]) (by kernel_rfl) (by simp) ?_
    refine AllReadyH.cons (o := ⟨none, _, _, _, _, _⟩) rfl (fun K hK => ?_) (AllReadyH.nil)
    go_simp
    (try rw [hput])
    (try go_simp)
    refine hK.out _ _ k9 (fun _ => ?_)
    clear hK K
    refine wpAnyH_done (by kernel_rfl) ?_ _
    clear hput hK0
    go_wp2_with fail
    refine HFO.out.mono ?_
    rintro e w10 ⟨rfl, hb10, hc10⟩
    have k10 : Kept q.maps v7 w10 := k9.chgOf hc10 (.inr (.inr rfl))
    have hcc := (HC.out w10 k10).c4
    have H10 := Lib.hid hb10
    have hK10 : Kept q.maps v7 w10.drew := k10.drew
    clear hb10 hc10 k9 HFO
    cases hgn : c.gone with
    | true =>
      have HE2 : Hid (hearM B c now = ({ B with last := putF B.last (c.d, c.node) (some (c.inc, c.count)), lea := putF (forgetF B.lea now B.ttl) (c.d, c.node) none }, none, 0)) := Lib.hid (by
        rw [HE.out, if_neg (by rw [hgn]; simp)]; unfold afterM; rw [hgn]; rfl)
      rw [hgn] at hcc
      have hb0 := H10.out.chg (Chg.refl _ _).drew
      obtain ⟨w12, hdel, hm12, hc12⟩ : ∃ w12, (Builtin.delete_ #[57, 71] 0 #[.map (some q.e), .agg (plCells c.d c.node).toArray]).run Try.prog w10.drew = .ok (.tuple #[]) w12 ∧ MapG leaS w12 q.e (n + 1) (putF (forgetF B.lea now B.ttl) (c.d, c.node) none) ∧ Chg (some q.e) w10.drew w12 :=
        hb0.lea.del leaL (c.d, c.node) HCI.out 0
      have k12 : Kept q.maps v7 w12 := hK10.chgOf hc12 (.inr (.inr rfl))
      have H12 : Hid (BookAt w12 q (n + 1) { B with last := putF B.last (c.d, c.node) (some (c.inc, c.count)), lea := putF (forgetF B.lea now B.ttl) (c.d, c.node) none }) := Lib.hid (hb0.setLea hc12 hm12 (Nat.le_refl _))
      clear hb0 hm12 hc12 hgn HE
      go_wp2
      refine wp_region_held_drew (S := fun v => Kept q.maps v7 v) (by kernel_rfl) hK10 (fun _ => ?_)
      refine wpAnyH_take (i := 0) (oi := ⟨some 85, _, _, _, _, _⟩) (v := ?_) rfl (by kernel_rfl) (by kernel_rfl) (by kernel_rfl) (fun _ _ _ h => h) (Or.inl ⟨by rfl, ?_⟩) (by assumption) ?_
      rotate_left
      · intro v hSv; (try dsimp only at hSv); skip; go_simp; (try with_reducible rfl)
      try simp only [Act.put, List.setIfInBounds_toArray, List.set_cons_zero, List.set_cons_succ]
      refine wpAnyH_take (i := 1) (oi := ⟨some 86, _, _, _, _, _⟩) (v := ?_) rfl (by kernel_rfl) (by kernel_rfl) (by kernel_rfl) (fun _ _ _ h => h) (Or.inl ⟨by rfl, ?_⟩) (by assumption) ?_
      rotate_left
      · intro v hSv; (try dsimp only at hSv); skip; go_simp; (try with_reducible rfl)
      try simp only [Act.put, List.setIfInBounds_toArray, List.set_cons_zero, List.set_cons_succ]
      refine wpAnyH_take (i := 2) (oi := ⟨some 87, _, _, _, _, _⟩) (v := ?_) rfl (by kernel_rfl) (by kernel_rfl) (by kernel_rfl) (fun _ _ _ h => h) (Or.inl ⟨by rfl, ?_⟩) (by assumption) ?_
      rotate_left
      · intro v hSv; (try dsimp only at hSv); skip; go_simp; (try with_reducible rfl)
      try simp only [Act.put, List.setIfInBounds_toArray, List.set_cons_zero, List.set_cons_succ]
      refine wpAnyH_take (i := 3) (oi := ⟨some 88, _, _, _, _, _⟩) (v := .map (some q.e)) rfl (by kernel_rfl) (by kernel_rfl) (by kernel_rfl) (fun _ _ _ h => h) (Or.inl ⟨by rfl, ?_⟩) (by assumption) ?_
      · intro v hSv; have z := (HC.out v hSv).o8; go_simp
      try simp only [Act.put, List.setIfInBounds_toArray, List.set_cons_zero, List.set_cons_succ]
      refine wpAnyH_take (i := 4) (oi := ⟨some 89, _, _, _, _, _⟩) (v := .agg (plCells c.d c.node).toArray) rfl (by kernel_rfl) (by kernel_rfl) (by kernel_rfl) (fun _ _ _ h => h) (yieldsIf_load_mid (by rfl) 71 _ rfl pb 0 rfl (plCells c.d c.node) _ (fun v h => (fun v h => (HC.out v h).pl) v h) Try.underlying71 rfl HI71L.out) (by assumption) ?_
      try simp only [Act.put, List.setIfInBounds_toArray, List.set_cons_zero, List.set_cons_succ]
      refine wpAnyH_ready (rs := [5]) (by kernel_rfl) (by simp) ?_
      refine AllReadyH.cons (o := ⟨none, _, _, _, _, _⟩) rfl (fun K hK => ?_) (AllReadyH.nil)
      go_simp
      (try rw [hdel])
      (try go_simp)
      refine hK.out _ _ k12 (fun _ => ?_)
      clear hK K
      refine wpAnyH_done (by kernel_rfl) ?_ _
      go_wp2
      go_ret2
      rw [HE2.out]
      exact ⟨_, rfl, rfl, H12.out.mono (by omega), HKW.out.trans (k12.mono (fun _ h => Qk.maps_has h))⟩
    | false =>
      rw [hgn] at hcc
      have hb0 := H10.out.chg (Chg.refl _ _).drew
      obtain ⟨w14, hput, hm14, hc14⟩ : ∃ w14, (Instr.mapUpdate 57 (.map (some q.e)) (.agg (plCells c.d c.node).toArray) (.int .i64 now)).run Try.prog w10.drew = .ok () w14 ∧ MapG leaS w14 q.e (n + 2) (putF (forgetF B.lea now B.ttl) (c.d, c.node) (some now)) ∧ Chg (some q.e) w10.drew w14 :=
        hb0.lea.put leaL (by unfold maxLen; omega) (c.d, c.node) HCI.out now HNOW.out
      have k14 : Kept q.maps v7 w14 := hK10.chgOf hc14 (.inr (.inr rfl))
      have haf : afterM B c now = { B with last := putF B.last (c.d, c.node) (some (c.inc, c.count)), lea := putF (forgetF B.lea now B.ttl) (c.d, c.node) (some now) } := by unfold afterM; rw [hgn]; rfl
      have H14 : Hid (BookAt w14 q (n + 2) (afterM B c now)) := Lib.hid (by rw [haf]; exact hb0.setLea hc14 hm14 (by omega))
      have HE2 : Hid (hearM B c now = if givesB B c now = true then ((dropM (afterM B c now) c.d).1, (dropM (afterM B c now) c.d).2, 0) else (afterM B c now, none, 0)) := Lib.hid (by
        rw [HE.out]
        cases hgb : givesB B c now
        · rw [if_neg (by simp), if_neg (by simp)]
        · rw [if_pos ⟨hgn, rfl⟩, if_pos rfl])
      have hS15 : Kept q.maps v7 w14.drew := k14.drew
      have HLM : Hid (∀ v, Chg none w14 v → (Instr.lookup 55 (.map (some q.m)) (.agg c.d.cells.toArray) true).run Try.prog v = .ok (.tuple #[optV (.agg #[.int .u64 0, .int .i64 0]) (pairV .u64 .i64) (B.mine c.d), .bool (B.mine c.d).isSome]) v) := Lib.hid fun v hv => mine_look H14.out c.d v hv
      clear hb0 hm14 hc14 hgn HE haf
      go_wp2
      refine wp_region_held_drew (S := fun v => Kept q.maps v7 v) (by kernel_rfl) hK10 (fun _ => ?_)
      refine wpAnyH_take (i := 0) (oi := ⟨some 90, _, _, _, _, _⟩) (v := ?_) rfl (by kernel_rfl) (by kernel_rfl) (by kernel_rfl) (fun _ _ _ h => h) (Or.inl ⟨by rfl, ?_⟩) (by assumption) ?_
      rotate_left
      · intro v hSv; (try dsimp only at hSv); skip; go_simp; (try with_reducible rfl)
      try simp only [Act.put, List.setIfInBounds_toArray, List.set_cons_zero, List.set_cons_succ]
      refine wpAnyH_take (i := 1) (oi := ⟨some 91, _, _, _, _, _⟩) (v := ?_) rfl (by kernel_rfl) (by kernel_rfl) (by kernel_rfl) (fun _ _ _ h => h) (Or.inl ⟨by rfl, ?_⟩) (by assumption) ?_
      rotate_left
      · intro v hSv; (try dsimp only at hSv); skip; go_simp; (try with_reducible rfl)
      try simp only [Act.put, List.setIfInBounds_toArray, List.set_cons_zero, List.set_cons_succ]
      refine wpAnyH_take (i := 2) (oi := ⟨some 92, _, _, _, _, _⟩) (v := ?_) rfl (by kernel_rfl) (by kernel_rfl) (by kernel_rfl) (fun _ _ _ h => h) (Or.inl ⟨by rfl, ?_⟩) (by assumption) ?_
      rotate_left
      · intro v hSv; (try dsimp only at hSv); skip; go_simp; (try with_reducible rfl)
      try simp only [Act.put, List.setIfInBounds_toArray, List.set_cons_zero, List.set_cons_succ]
      refine wpAnyH_take (i := 3) (oi := ⟨some 93, _, _, _, _, _⟩) (v := .map (some q.e)) rfl (by kernel_rfl) (by kernel_rfl) (by kernel_rfl) (fun _ _ _ h => h) (Or.inl ⟨by rfl, ?_⟩) (by assumption) ?_
      · intro v hSv; have z := (HC.out v hSv).o8; go_simp
      try simp only [Act.put, List.setIfInBounds_toArray, List.set_cons_zero, List.set_cons_succ]
      refine wpAnyH_take (i := 4) (oi := ⟨some 94, _, _, _, _, _⟩) (v := .agg (plCells c.d c.node).toArray) rfl (by kernel_rfl) (by kernel_rfl) (by kernel_rfl) (fun _ _ _ h => h) (yieldsIf_load_mid (by rfl) 71 _ rfl pb 0 rfl (plCells c.d c.node) _ (fun v h => (fun v h => (HC.out v h).pl) v h) Try.underlying71 rfl HI71L.out) (by assumption) ?_
      try simp only [Act.put, List.setIfInBounds_toArray, List.set_cons_zero, List.set_cons_succ]
      refine wpAnyH_take (i := 5) (oi := ⟨some 95, _, _, _, _, _⟩) (v := ?_) rfl (by kernel_rfl) (by kernel_rfl) (by kernel_rfl) (fun _ _ _ h => h) (Or.inl ⟨by rfl, ?_⟩) (by assumption) ?_
      rotate_left
      · intro v hSv; (try dsimp only at hSv); skip; go_simp; (try with_reducible rfl)
      try simp only [Act.put, List.setIfInBounds_toArray, List.set_cons_zero, List.set_cons_succ]
      refine wpAnyH_ready (rs := [6]) (by kernel_rfl) (by simp) ?_
      refine AllReadyH.cons (o := ⟨none, _, _, _, _, _⟩) rfl (fun K hK => ?_) (AllReadyH.nil)
      go_simp
      (try rw [hput])
      (try go_simp)
      refine hK.out _ _ k14 (fun _ => ?_)
      clear hK K
      refine wpAnyH_done (by kernel_rfl) ?_ _
      clear hput hK10 hcc
      have hS15 : Kept q.maps v7 w14.drew ∧ Chg none w14 w14.drew := ⟨k14.drew, (Chg.refl _ _).drew⟩
      have HDG : Hid (∀ v, Kept q.maps v7 v ∧ Chg none w14 v → v.rangeAt w.heap.size 0 c.d.cells) := Lib.hid fun v h => (HC.out v h.1).dg
      cases hm : B.mine c.d with
      | none =>
        have HE3 : Hid (hearM B c now = (afterM B c now, none, 0)) := Lib.hid (by
          rw [HE2.out, if_neg]; unfold givesB; rw [hm]; simp)
        rw [hm] at HLM
        have HL := HLM
        clear HLM hm HE2
        unfold optV at HL
        rw [show (none : Option (Int × Int)).isSome = false from rfl] at HL
        obtain ⟨w15, hw15⟩ : ∃ w15, w15 = (w14.alloc (.cells #[.int .u64 0, .int .i64 0] 65)).drew := ⟨_, rfl⟩
        have g15 : Chg none w14 w15 := by rw [hw15]; exact ((Chg.refl _ _).alloc _).drew
        have hb65 : Blk w15 w14.heap.size #[.int .u64 0, .int .i64 0] 65 := by rw [hw15]; exact Blk.new w14 _ _
        have k15 : Kept q.maps v7 w15 := k14.chg g15
        have hS16 : Kept q.maps v7 w15.drew ∧ Chg none w15 w15.drew := ⟨k15.drew, (Chg.refl _ _).drew⟩
        have HW15 := Lib.hid hw15
        have H15 := Lib.hid (H14.out.chg g15)
        clear hw15 hb65 g15
        go_wp2
        refine wp_region_held_drew (S := fun v => Kept q.maps v7 v ∧ Chg none w14 v) (by kernel_rfl) hS15 (fun _ => ?_)
        refine wpAnyH_take (i := 0) (oi := ⟨some 97, _, _, _, _, _⟩) (v := ?_) rfl (by kernel_rfl) (by kernel_rfl) (by kernel_rfl) (fun _ _ _ h => h) (Or.inl ⟨by rfl, ?_⟩) (by assumption) ?_
        rotate_left
        · intro v hSv; (try dsimp only at hSv); skip; go_simp; (try with_reducible rfl)
        try simp only [Act.put, List.setIfInBounds_toArray, List.set_cons_zero, List.set_cons_succ]
        refine wpAnyH_take (i := 1) (oi := ⟨some 98, _, _, _, _, _⟩) (v := ?_) rfl (by kernel_rfl) (by kernel_rfl) (by kernel_rfl) (fun _ _ _ h => h) (Or.inl ⟨by rfl, ?_⟩) (by assumption) ?_
        rotate_left
        · intro v hSv; (try dsimp only at hSv); skip; go_simp; (try with_reducible rfl)
        try simp only [Act.put, List.setIfInBounds_toArray, List.set_cons_zero, List.set_cons_succ]
        refine wpAnyH_take (i := 2) (oi := ⟨some 99, _, _, _, _, _⟩) (v := ?_) rfl (by kernel_rfl) (by kernel_rfl) (by kernel_rfl) (fun _ _ _ h => h) (Or.inl ⟨by rfl, ?_⟩) (by assumption) ?_
        rotate_left
        · intro v hSv; (try dsimp only at hSv); skip; go_simp; (try with_reducible rfl)
        try simp only [Act.put, List.setIfInBounds_toArray, List.set_cons_zero, List.set_cons_succ]
        refine wpAnyH_take (i := 3) (oi := ⟨some 100, _, _, _, _, _⟩) (v := .map (some q.m)) rfl (by kernel_rfl) (by kernel_rfl) (by kernel_rfl) (fun _ _ _ h => h) (Or.inl ⟨by rfl, ?_⟩) (by assumption) ?_
        · intro v hSv; have z := (HC.out v hSv.1).o6; go_simp
        try simp only [Act.put, List.setIfInBounds_toArray, List.set_cons_zero, List.set_cons_succ]
        refine wpAnyH_take (i := 4) (oi := ⟨some 101, _, _, _, _, _⟩) (v := ?_) rfl (by kernel_rfl) (by kernel_rfl) (by kernel_rfl) (fun _ _ _ h => h) (Or.inl ⟨by rfl, ?_⟩) (by assumption) ?_
        rotate_left
        · intro v hSv; (try dsimp only at hSv); skip; go_simp; (try with_reducible rfl)
        try simp only [Act.put, List.setIfInBounds_toArray, List.set_cons_zero, List.set_cons_succ]
        refine wpAnyH_take (i := 5) (oi := ⟨some 102, _, _, _, _, _⟩) (v := .agg (c.d.cells).toArray) rfl (by kernel_rfl) (by kernel_rfl) (by kernel_rfl) (fun _ _ _ h => h) (yieldsIf_load_mid (by rfl) 31 _ rfl w.heap.size 0 rfl (c.d.cells) _ (fun v h => HDG.out v h) Try.underlying31 rfl HI31.out) (by assumption) ?_
        try simp only [Act.put, List.setIfInBounds_toArray, List.set_cons_zero, List.set_cons_succ]
        refine wpAnyH_take (i := 6) (oi := ⟨some 103, _, _, _, _, _⟩) (v := .tuple #[.agg #[.int .u64 0, .int .i64 0], .bool false]) rfl (by kernel_rfl) (by kernel_rfl) (by kernel_rfl) (fun _ _ _ h => h) (Or.inl ⟨by rfl, ?_⟩) (by assumption) ?_
        · intro v hSv; have z := HL.out v hSv.2; go_simp
        try simp only [Act.put, List.setIfInBounds_toArray, List.set_cons_zero, List.set_cons_succ]
        refine wpAnyH_take (i := 7) (oi := ⟨some 96, _, _, _, _, _⟩) (v := ?_) rfl (by kernel_rfl) (by kernel_rfl) (by kernel_rfl) (fun _ _ _ h => h) (Or.inl ⟨by rfl, ?_⟩) (by assumption) ?_
        rotate_left
        · intro v hSv; (try dsimp only at hSv); skip; go_simp; (try with_reducible rfl)
        try simp only [Act.put, List.setIfInBounds_toArray, List.set_cons_zero, List.set_cons_succ]
        refine wpAnyH_take (i := 8) (oi := ⟨some 104, _, _, _, _, _⟩) (v := ?_) rfl (by kernel_rfl) (by kernel_rfl) (by kernel_rfl) (fun _ _ _ h => h) (Or.inl ⟨by rfl, ?_⟩) (by assumption) ?_
        rotate_left
        · intro v hSv; (try dsimp only at hSv); skip; go_simp; (try with_reducible rfl)
        try simp only [Act.put, List.setIfInBounds_toArray, List.set_cons_zero, List.set_cons_succ]
        refine wpAnyH_take (i := 9) (oi := ⟨some 105, _, _, _, _, _⟩) (v := ?_) rfl (by kernel_rfl) (by kernel_rfl) (by kernel_rfl) (fun _ _ _ h => h) (Or.inl ⟨by rfl, ?_⟩) (by assumption) ?_
        rotate_left
        · intro v hSv; (try dsimp only at hSv); skip; go_simp; (try with_reducible rfl)
        try simp only [Act.put, List.setIfInBounds_toArray, List.set_cons_zero, List.set_cons_succ]
        refine wpAnyH_ready (rs := [10]) (by kernel_rfl) (by simp) ?_
        refine AllReadyH.cons (o := ⟨some 12, _, _, _, _, _⟩) rfl (fun K hK => ?_) (AllReadyH.nil)
        go_simp
        refine hK.out _ _ ⟨hS15.1.alloc _, Chg.alloc hS15.2 _⟩ (fun _ => ?_)
        clear hK K
        try simp only [Act.put, List.setIfInBounds_toArray, List.set_cons_zero, List.set_cons_succ]
        refine wpAnyH_ready (rs := [11]) (by kernel_rfl) (by simp) ?_
        refine AllReadyH.cons (o := ⟨none, _, _, _, _, _⟩) rfl (fun K hK => ?_) (AllReadyH.nil)
        go_simp
        refine hK.out _ _ ⟨hS15.1.alloc _, Chg.alloc hS15.2 _⟩ (fun _ => ?_)
        clear hK K
        refine wpAnyH_take (i := 12) (oi := ⟨some 13, _, _, _, _, _⟩) (v := ?_) rfl (by kernel_rfl) (by kernel_rfl) (by kernel_rfl) (fun _ _ _ h => h) (Or.inl ⟨by rfl, ?_⟩) (by assumption) ?_
        rotate_left
        · intro v hSv; (try dsimp only at hSv); skip; go_simp; (try with_reducible rfl)
        try simp only [Act.put, List.setIfInBounds_toArray, List.set_cons_zero, List.set_cons_succ]
        refine wpAnyH_done (by kernel_rfl) ?_ _
        go_wp2
        rw [← HW15.out]
        refine wp_region_held_drew (S := fun v => Kept q.maps v7 v ∧ Chg none w15 v) (by kernel_rfl) hS16 (fun _ => ?_)
        refine wpAnyH_take (i := 0) (oi := ⟨some 106, _, _, _, _, _⟩) (v := ?_) rfl (by kernel_rfl) (by kernel_rfl) (by kernel_rfl) (fun _ _ _ h => h) (Or.inl ⟨by rfl, ?_⟩) (by assumption) ?_
        rotate_left
        · intro v hSv; (try dsimp only at hSv); skip; go_simp; (try with_reducible rfl)
        try simp only [Act.put, List.setIfInBounds_toArray, List.set_cons_zero, List.set_cons_succ]
        refine wpAnyH_take (i := 1) (oi := ⟨some 107, _, _, _, _, _⟩) (v := ?_) rfl (by kernel_rfl) (by kernel_rfl) (by kernel_rfl) (fun _ _ _ h => h) (Or.inl ⟨by rfl, ?_⟩) (by assumption) ?_
        rotate_left
        · intro v hSv; (try dsimp only at hSv); skip; go_simp; (try with_reducible rfl)
        try simp only [Act.put, List.setIfInBounds_toArray, List.set_cons_zero, List.set_cons_succ]
        refine wpAnyH_take (i := 2) (oi := ⟨some 108, _, _, _, _, _⟩) (v := undef) rfl (by kernel_rfl) (by kernel_rfl) (by kernel_rfl) (fun _ _ _ h => h) (Or.inr ⟨by rfl, by rfl⟩) (by assumption) ?_
        try simp only [Act.put, List.setIfInBounds_toArray, List.set_cons_zero, List.set_cons_succ]
        refine wpAnyH_take (i := 3) (oi := ⟨some 109, _, _, _, _, _⟩) (v := undef) rfl (by kernel_rfl) (by kernel_rfl) (by kernel_rfl) (fun _ _ _ h => h) (Or.inr ⟨by rfl, by rfl⟩) (by assumption) ?_
        try simp only [Act.put, List.setIfInBounds_toArray, List.set_cons_zero, List.set_cons_succ]
        refine wpAnyH_take (i := 4) (oi := ⟨some 110, _, _, _, _, _⟩) (v := undef) rfl (by kernel_rfl) (by kernel_rfl) (by kernel_rfl) (fun _ _ _ h => h) (Or.inr ⟨by rfl, by rfl⟩) (by assumption) ?_
        try simp only [Act.put, List.setIfInBounds_toArray, List.set_cons_zero, List.set_cons_succ]
        refine wpAnyH_take (i := 5) (oi := ⟨some 111, _, _, _, _, _⟩) (v := undef) rfl (by kernel_rfl) (by kernel_rfl) (by kernel_rfl) (fun _ _ _ h => h) (Or.inr ⟨by rfl, by rfl⟩) (by assumption) ?_
        try simp only [Act.put, List.setIfInBounds_toArray, List.set_cons_zero, List.set_cons_succ]
        refine wpAnyH_take (i := 6) (oi := ⟨some 112, _, _, _, _, _⟩) (v := undef) rfl (by kernel_rfl) (by kernel_rfl) (by kernel_rfl) (fun _ _ _ h => h) (Or.inr ⟨by rfl, by rfl⟩) (by assumption) ?_
        try simp only [Act.put, List.setIfInBounds_toArray, List.set_cons_zero, List.set_cons_succ]
        refine wpAnyH_take (i := 7) (oi := ⟨some 113, _, _, _, _, _⟩) (v := undef) rfl (by kernel_rfl) (by kernel_rfl) (by kernel_rfl) (fun _ _ _ h => h) (Or.inr ⟨by rfl, by rfl⟩) (by assumption) ?_
        try simp only [Act.put, List.setIfInBounds_toArray, List.set_cons_zero, List.set_cons_succ]
        refine wpAnyH_take (i := 8) (oi := ⟨some 114, _, _, _, _, _⟩) (v := undef) rfl (by kernel_rfl) (by kernel_rfl) (by kernel_rfl) (fun _ _ _ h => h) (Or.inr ⟨by rfl, by rfl⟩) (by assumption) ?_
        try simp only [Act.put, List.setIfInBounds_toArray, List.set_cons_zero, List.set_cons_succ]
        refine wpAnyH_take (i := 9) (oi := ⟨some 115, _, _, _, _, _⟩) (v := ?_) rfl (by kernel_rfl) (by kernel_rfl) (by kernel_rfl) (fun _ _ _ h => h) (Or.inl ⟨by rfl, ?_⟩) (by assumption) ?_
        rotate_left
        · intro v hSv; (try dsimp only at hSv); skip; go_simp; (try with_reducible rfl)
        try simp only [Act.put, List.setIfInBounds_toArray, List.set_cons_zero, List.set_cons_succ]
        refine wpAnyH_take (i := 10) (oi := ⟨some 116, _, _, _, _, _⟩) (v := ?_) rfl (by kernel_rfl) (by kernel_rfl) (by kernel_rfl) (fun _ _ _ h => h) (Or.inl ⟨by rfl, ?_⟩) (by assumption) ?_
        rotate_left
        · intro v hSv; (try dsimp only at hSv); skip; go_simp; (try with_reducible rfl)
        try simp only [Act.put, List.setIfInBounds_toArray, List.set_cons_zero, List.set_cons_succ]
        refine wpAnyH_take (i := 11) (oi := ⟨some 117, _, _, _, _, _⟩) (v := undef) rfl (by kernel_rfl) (by kernel_rfl) (by kernel_rfl) (fun _ _ _ h => h) (Or.inr ⟨by rfl, by rfl⟩) (by assumption) ?_
        try simp only [Act.put, List.setIfInBounds_toArray, List.set_cons_zero, List.set_cons_succ]
        refine wpAnyH_take (i := 12) (oi := ⟨some 118, _, _, _, _, _⟩) (v := undef) rfl (by kernel_rfl) (by kernel_rfl) (by kernel_rfl) (fun _ _ _ h => h) (Or.inr ⟨by rfl, by rfl⟩) (by assumption) ?_
        try simp only [Act.put, List.setIfInBounds_toArray, List.set_cons_zero, List.set_cons_succ]
        refine wpAnyH_take (i := 13) (oi := ⟨some 119, _, _, _, _, _⟩) (v := undef) rfl (by kernel_rfl) (by kernel_rfl) (by kernel_rfl) (fun _ _ _ h => h) (Or.inr ⟨by rfl, by rfl⟩) (by assumption) ?_
        try simp only [Act.put, List.setIfInBounds_toArray, List.set_cons_zero, List.set_cons_succ]
        refine wpAnyH_take (i := 14) (oi := ⟨some 120, _, _, _, _, _⟩) (v := undef) rfl (by kernel_rfl) (by kernel_rfl) (by kernel_rfl) (fun _ _ _ h => h) (Or.inr ⟨by rfl, by rfl⟩) (by assumption) ?_
        try simp only [Act.put, List.setIfInBounds_toArray, List.set_cons_zero, List.set_cons_succ]
        refine wpAnyH_take (i := 15) (oi := ⟨some 121, _, _, _, _, _⟩) (v := undef) rfl (by kernel_rfl) (by kernel_rfl) (by kernel_rfl) (fun _ _ _ h => h) (Or.inr ⟨by rfl, by rfl⟩) (by assumption) ?_
        try simp only [Act.put, List.setIfInBounds_toArray, List.set_cons_zero, List.set_cons_succ]
        refine wpAnyH_take (i := 16) (oi := ⟨some 122, _, _, _, _, _⟩) (v := ?_) rfl (by kernel_rfl) (by kernel_rfl) (by kernel_rfl) (fun _ _ _ h => h) (Or.inl ⟨by rfl, ?_⟩) (by assumption) ?_
        rotate_left
        · intro v hSv; (try dsimp only at hSv); skip; go_simp; (try with_reducible rfl)
        try simp only [Act.put, List.setIfInBounds_toArray, List.set_cons_zero, List.set_cons_succ]
        refine wpAnyH_done (by kernel_rfl) ?_ _
        go_wp2
        go_ret2
        rw [HE3.out]
        exact ⟨_, rfl, rfl, H15.out.chg hS16.2, HKW.out.trans (hS16.1.mono (fun _ h => Qk.maps_has h))⟩
      | some x =>
        rw [hm] at HLM
        have HL := HLM
        clear HLM
        unfold optV at HL
        rw [show (some x : Option (Int × Int)).isSome = true from rfl] at HL
        unfold pairV at HL
        have hgv : givesB B c now = (decide (c.node < B.id) && !readyB B x now) := by unfold givesB; rw [hm]
        have hok2 : (afterM B c now).ok (n + 2) := ⟨HO.out.id, HO.out.inc, ⟨HO.out.count.1, by have := HO.out.count.2; show B.count ≤ ((n + 2 : Nat) : Int); omega⟩, HO.out.wait, HO.out.ttl, HO.out.mine, by
          intro i y hy
          have hy' : putF (forgetF B.lea now B.ttl) (c.d, c.node) (if c.gone then none else some now) i = some y := hy
          by_cases e : i = (c.d, c.node)
          · subst e
            rw [putF_same] at hy'
            split at hy'
            · cases hy'
            · cases hy'; exact HNOW.out
          · rw [putF_other _ _ e] at hy'
            unfold forgetF at hy'
            cases hl : B.lea i with
            | none => rw [hl] at hy'; cases hy'
            | some u =>
              rw [hl] at hy'
              simp only at hy'
              split at hy'
              · cases hy'
              · cases hy'; exact HO.out.lea i _ hl⟩
        obtain ⟨w15, hw15⟩ : ∃ w15, w15 = (w14.alloc (.cells #[.int .u64 x.1, .int .i64 x.2] 65)).drew := ⟨_, rfl⟩
        have g15 : Chg none w14 w15 := by rw [hw15]; exact ((Chg.refl _ _).alloc _).drew
        have hb65 : Blk w15 w14.heap.size #[.int .u64 x.1, .int .i64 x.2] 65 := by rw [hw15]; exact Blk.new w14 _ _
        have k15 : Kept q.maps v7 w15 := k14.chg g15
        have hS16 : Kept q.maps v7 w15.drew ∧ Chg none w15 w15.drew := ⟨k15.drew, (Chg.refl _ _).drew⟩
        have HW15 := Lib.hid hw15
        have H15 := Lib.hid (H14.out.chg g15)
        have HX : Hid (∀ v, Kept q.maps v7 v ∧ Chg none w15 v → v.cell? ⟨w14.heap.size, 0, none⟩ = some (.int .u64 x.1) ∧ v.cell? ⟨w14.heap.size, 1, none⟩ = some (.int .i64 x.2)) := Lib.hid fun v hv =>
          ⟨hv.2.cell (by rw [hb65.cell 0]; rfl) (by simp), hv.2.cell (by rw [hb65.cell 1]; rfl) (by simp)⟩
        have HRD : Hid (∀ v, Chg none w15 v → Calls Try.prog 25 #[.pointer (some ⟨q.b, 0, none⟩), .agg #[.int .u64 x.1, .int .i64 x.2], .int .i64 now] v fun e w' => e = .returned (.bool (readyB B x now)) ∧ Chg none v w') := Lib.hid fun v hv =>
          isReady_any x now v q (n + 2) (afterM B c now) (H15.out.chg hv) hok2 (HO.out.mine _ x hm) HNOW.out
        clear hw15 hb65 g15 hm hok2
        generalize readyB B x now = z at *
        cases hd : decide (c.node < B.id) with
        | false =>
          have HE3 : Hid (hearM B c now = (afterM B c now, none, 0)) := Lib.hid (by
            rw [HE2.out, hgv, hd, if_neg]; simp)
          clear HE2 hgv HRD
          go_wp2
          refine wp_region_held_drew (S := fun v => Kept q.maps v7 v ∧ Chg none w14 v) (by kernel_rfl) hS15 (fun _ => ?_)
          refine wpAnyH_take (i := 0) (oi := ⟨some 97, _, _, _, _, _⟩) (v := ?_) rfl (by kernel_rfl) (by kernel_rfl) (by kernel_rfl) (fun _ _ _ h => h) (Or.inl ⟨by rfl, ?_⟩) (by assumption) ?_
          rotate_left
          · intro v hSv; (try dsimp only at hSv); skip; go_simp; (try with_reducible rfl)
          try simp only [Act.put, List.setIfInBounds_toArray, List.set_cons_zero, List.set_cons_succ]
          refine wpAnyH_take (i := 1) (oi := ⟨some 98, _, _, _, _, _⟩) (v := ?_) rfl (by kernel_rfl) (by kernel_rfl) (by kernel_rfl) (fun _ _ _ h => h) (Or.inl ⟨by rfl, ?_⟩) (by assumption) ?_
          rotate_left
          · intro v hSv; (try dsimp only at hSv); skip; go_simp; (try with_reducible rfl)
          try simp only [Act.put, List.setIfInBounds_toArray, List.set_cons_zero, List.set_cons_succ]
          refine wpAnyH_take (i := 2) (oi := ⟨some 99, _, _, _, _, _⟩) (v := ?_) rfl (by kernel_rfl) (by kernel_rfl) (by kernel_rfl) (fun _ _ _ h => h) (Or.inl ⟨by rfl, ?_⟩) (by assumption) ?_
          rotate_left
          · intro v hSv; (try dsimp only at hSv); skip; go_simp; (try with_reducible rfl)
          try simp only [Act.put, List.setIfInBounds_toArray, List.set_cons_zero, List.set_cons_succ]
          refine wpAnyH_take (i := 3) (oi := ⟨some 100, _, _, _, _, _⟩) (v := .map (some q.m)) rfl (by kernel_rfl) (by kernel_rfl) (by kernel_rfl) (fun _ _ _ h => h) (Or.inl ⟨by rfl, ?_⟩) (by assumption) ?_
          · intro v hSv; have z := (HC.out v hSv.1).o6; go_simp
          try simp only [Act.put, List.setIfInBounds_toArray, List.set_cons_zero, List.set_cons_succ]
          refine wpAnyH_take (i := 4) (oi := ⟨some 101, _, _, _, _, _⟩) (v := ?_) rfl (by kernel_rfl) (by kernel_rfl) (by kernel_rfl) (fun _ _ _ h => h) (Or.inl ⟨by rfl, ?_⟩) (by assumption) ?_
          rotate_left
          · intro v hSv; (try dsimp only at hSv); skip; go_simp; (try with_reducible rfl)
          try simp only [Act.put, List.setIfInBounds_toArray, List.set_cons_zero, List.set_cons_succ]
          refine wpAnyH_take (i := 5) (oi := ⟨some 102, _, _, _, _, _⟩) (v := .agg (c.d.cells).toArray) rfl (by kernel_rfl) (by kernel_rfl) (by kernel_rfl) (fun _ _ _ h => h) (yieldsIf_load_mid (by rfl) 31 _ rfl w.heap.size 0 rfl (c.d.cells) _ (fun v h => HDG.out v h) Try.underlying31 rfl HI31.out) (by assumption) ?_
          try simp only [Act.put, List.setIfInBounds_toArray, List.set_cons_zero, List.set_cons_succ]
          refine wpAnyH_take (i := 6) (oi := ⟨some 103, _, _, _, _, _⟩) (v := .tuple #[.agg #[.int .u64 x.1, .int .i64 x.2], .bool true]) rfl (by kernel_rfl) (by kernel_rfl) (by kernel_rfl) (fun _ _ _ h => h) (Or.inl ⟨by rfl, ?_⟩) (by assumption) ?_
          · intro v hSv; have z := HL.out v hSv.2; go_simp
          try simp only [Act.put, List.setIfInBounds_toArray, List.set_cons_zero, List.set_cons_succ]
          refine wpAnyH_take (i := 7) (oi := ⟨some 96, _, _, _, _, _⟩) (v := ?_) rfl (by kernel_rfl) (by kernel_rfl) (by kernel_rfl) (fun _ _ _ h => h) (Or.inl ⟨by rfl, ?_⟩) (by assumption) ?_
          rotate_left
          · intro v hSv; (try dsimp only at hSv); skip; go_simp; (try with_reducible rfl)
          try simp only [Act.put, List.setIfInBounds_toArray, List.set_cons_zero, List.set_cons_succ]
          refine wpAnyH_take (i := 8) (oi := ⟨some 104, _, _, _, _, _⟩) (v := ?_) rfl (by kernel_rfl) (by kernel_rfl) (by kernel_rfl) (fun _ _ _ h => h) (Or.inl ⟨by rfl, ?_⟩) (by assumption) ?_
          rotate_left
          · intro v hSv; (try dsimp only at hSv); skip; go_simp; (try with_reducible rfl)
          try simp only [Act.put, List.setIfInBounds_toArray, List.set_cons_zero, List.set_cons_succ]
          refine wpAnyH_take (i := 9) (oi := ⟨some 105, _, _, _, _, _⟩) (v := ?_) rfl (by kernel_rfl) (by kernel_rfl) (by kernel_rfl) (fun _ _ _ h => h) (Or.inl ⟨by rfl, ?_⟩) (by assumption) ?_
          rotate_left
          · intro v hSv; (try dsimp only at hSv); skip; go_simp; (try with_reducible rfl)
          try simp only [Act.put, List.setIfInBounds_toArray, List.set_cons_zero, List.set_cons_succ]
          refine wpAnyH_ready (rs := [10]) (by kernel_rfl) (by simp) ?_
          refine AllReadyH.cons (o := ⟨some 12, _, _, _, _, _⟩) rfl (fun K hK => ?_) (AllReadyH.nil)
          go_simp
          refine hK.out _ _ ⟨hS15.1.alloc _, Chg.alloc hS15.2 _⟩ (fun _ => ?_)
          clear hK K
          try simp only [Act.put, List.setIfInBounds_toArray, List.set_cons_zero, List.set_cons_succ]
          refine wpAnyH_ready (rs := [11]) (by kernel_rfl) (by simp) ?_
          refine AllReadyH.cons (o := ⟨none, _, _, _, _, _⟩) rfl (fun K hK => ?_) (AllReadyH.nil)
          go_simp
          refine hK.out _ _ ⟨hS15.1.alloc _, Chg.alloc hS15.2 _⟩ (fun _ => ?_)
          clear hK K
          refine wpAnyH_take (i := 12) (oi := ⟨some 13, _, _, _, _, _⟩) (v := ?_) rfl (by kernel_rfl) (by kernel_rfl) (by kernel_rfl) (fun _ _ _ h => h) (Or.inl ⟨by rfl, ?_⟩) (by assumption) ?_
          rotate_left
          · intro v hSv; (try dsimp only at hSv); skip; go_simp; (try with_reducible rfl)
          try simp only [Act.put, List.setIfInBounds_toArray, List.set_cons_zero, List.set_cons_succ]
          refine wpAnyH_done (by kernel_rfl) ?_ _
          go_wp2
          rw [← HW15.out]
          refine wp_region_held_drew (S := fun v => Kept q.maps v7 v ∧ Chg none w15 v) (by kernel_rfl) hS16 (fun _ => ?_)
          refine wpAnyH_take (i := 0) (oi := ⟨some 106, _, _, _, _, _⟩) (v := ?_) rfl (by kernel_rfl) (by kernel_rfl) (by kernel_rfl) (fun _ _ _ h => h) (Or.inl ⟨by rfl, ?_⟩) (by assumption) ?_
          rotate_left
          · intro v hSv; (try dsimp only at hSv); skip; go_simp; (try with_reducible rfl)
          try simp only [Act.put, List.setIfInBounds_toArray, List.set_cons_zero, List.set_cons_succ]
          refine wpAnyH_take (i := 1) (oi := ⟨some 107, _, _, _, _, _⟩) (v := ?_) rfl (by kernel_rfl) (by kernel_rfl) (by kernel_rfl) (fun _ _ _ h => h) (Or.inl ⟨by rfl, ?_⟩) (by assumption) ?_
          rotate_left
          · intro v hSv; (try dsimp only at hSv); skip; go_simp; (try with_reducible rfl)
          try simp only [Act.put, List.setIfInBounds_toArray, List.set_cons_zero, List.set_cons_succ]
          refine wpAnyH_take (i := 2) (oi := ⟨some 108, _, _, _, _, _⟩) (v := ?_) rfl (by kernel_rfl) (by kernel_rfl) (by kernel_rfl) (fun _ _ _ h => h) (Or.inl ⟨by rfl, ?_⟩) (by assumption) ?_
          rotate_left
          · intro v hSv; (try dsimp only at hSv); skip; go_simp; (try with_reducible rfl)
          try simp only [Act.put, List.setIfInBounds_toArray, List.set_cons_zero, List.set_cons_succ]
          refine wpAnyH_take (i := 3) (oi := ⟨some 109, _, _, _, _, _⟩) (v := .int .i64 c.node) rfl (by kernel_rfl) (by kernel_rfl) (by kernel_rfl) (fun _ _ _ h => h) (Or.inl ⟨by rfl, ?_⟩) (by assumption) ?_
          · intro v hSv; have z := (HC.out v hSv.1).c1; go_simp
          try simp only [Act.put, List.setIfInBounds_toArray, List.set_cons_zero, List.set_cons_succ]
          refine wpAnyH_take (i := 4) (oi := ⟨some 110, _, _, _, _, _⟩) (v := ?_) rfl (by kernel_rfl) (by kernel_rfl) (by kernel_rfl) (fun _ _ _ h => h) (Or.inl ⟨by rfl, ?_⟩) (by assumption) ?_
          rotate_left
          · intro v hSv; (try dsimp only at hSv); skip; go_simp; (try with_reducible rfl)
          try simp only [Act.put, List.setIfInBounds_toArray, List.set_cons_zero, List.set_cons_succ]
          refine wpAnyH_take (i := 5) (oi := ⟨some 111, _, _, _, _, _⟩) (v := ?_) rfl (by kernel_rfl) (by kernel_rfl) (by kernel_rfl) (fun _ _ _ h => h) (Or.inl ⟨by rfl, ?_⟩) (by assumption) ?_
          rotate_left
          · intro v hSv; (try dsimp only at hSv); skip; go_simp; (try with_reducible rfl)
          try simp only [Act.put, List.setIfInBounds_toArray, List.set_cons_zero, List.set_cons_succ]
          refine wpAnyH_take (i := 6) (oi := ⟨some 112, _, _, _, _, _⟩) (v := ?_) rfl (by kernel_rfl) (by kernel_rfl) (by kernel_rfl) (fun _ _ _ h => h) (Or.inl ⟨by rfl, ?_⟩) (by assumption) ?_
          rotate_left
          · intro v hSv; (try dsimp only at hSv); skip; go_simp; (try with_reducible rfl)
          try simp only [Act.put, List.setIfInBounds_toArray, List.set_cons_zero, List.set_cons_succ]
          refine wpAnyH_take (i := 7) (oi := ⟨some 113, _, _, _, _, _⟩) (v := .int .i64 B.id) rfl (by kernel_rfl) (by kernel_rfl) (by kernel_rfl) (fun _ _ _ h => h) (Or.inl ⟨by rfl, ?_⟩) (by assumption) ?_
          · intro v hSv; have z := (HC.out v hSv.1).o1; go_simp
          try simp only [Act.put, List.setIfInBounds_toArray, List.set_cons_zero, List.set_cons_succ]
          refine wpAnyH_take (i := 8) (oi := ⟨some 114, _, _, _, _, _⟩) (v := ?_) rfl (by kernel_rfl) (by kernel_rfl) (by kernel_rfl) (fun _ _ _ h => h) (Or.inl ⟨by rfl, ?_⟩) (by assumption) ?_
          rotate_left
          · intro v hSv; (try dsimp only at hSv); skip; go_simp; (try with_reducible rfl)
          try simp only [Act.put, List.setIfInBounds_toArray, List.set_cons_zero, List.set_cons_succ]
          refine wpAnyH_take (i := 9) (oi := ⟨some 115, _, _, _, _, _⟩) (v := ?_) rfl (by kernel_rfl) (by kernel_rfl) (by kernel_rfl) (fun _ _ _ h => h) (Or.inl ⟨by rfl, ?_⟩) (by assumption) ?_
          rotate_left
          · intro v hSv; (try dsimp only at hSv); skip; go_simp; (try with_reducible rfl)
          try simp only [Act.put, List.setIfInBounds_toArray, List.set_cons_zero, List.set_cons_succ]
          refine wpAnyH_take (i := 10) (oi := ⟨some 116, _, _, _, _, _⟩) (v := ?_) rfl (by kernel_rfl) (by kernel_rfl) (by kernel_rfl) (fun _ _ _ h => h) (Or.inl ⟨by rfl, ?_⟩) (by assumption) ?_
          rotate_left
          · intro v hSv; (try dsimp only at hSv); skip; go_simp; (try with_reducible rfl)
          try simp only [Act.put, List.setIfInBounds_toArray, List.set_cons_zero, List.set_cons_succ]
          refine wpAnyH_take (i := 11) (oi := ⟨some 117, _, _, _, _, _⟩) (v := undef) rfl (by kernel_rfl) (by kernel_rfl) (by kernel_rfl) (fun _ _ _ h => h) (Or.inr ⟨by rfl, by rfl⟩) (by assumption) ?_
          try simp only [Act.put, List.setIfInBounds_toArray, List.set_cons_zero, List.set_cons_succ]
          refine wpAnyH_take (i := 12) (oi := ⟨some 118, _, _, _, _, _⟩) (v := undef) rfl (by kernel_rfl) (by kernel_rfl) (by kernel_rfl) (fun _ _ _ h => h) (Or.inr ⟨by rfl, by rfl⟩) (by assumption) ?_
          try simp only [Act.put, List.setIfInBounds_toArray, List.set_cons_zero, List.set_cons_succ]
          refine wpAnyH_take (i := 13) (oi := ⟨some 119, _, _, _, _, _⟩) (v := undef) rfl (by kernel_rfl) (by kernel_rfl) (by kernel_rfl) (fun _ _ _ h => h) (Or.inr ⟨by rfl, by rfl⟩) (by assumption) ?_
          try simp only [Act.put, List.setIfInBounds_toArray, List.set_cons_zero, List.set_cons_succ]
          refine wpAnyH_take (i := 14) (oi := ⟨some 120, _, _, _, _, _⟩) (v := undef) rfl (by kernel_rfl) (by kernel_rfl) (by kernel_rfl) (fun _ _ _ h => h) (Or.inr ⟨by rfl, by rfl⟩) (by assumption) ?_
          try simp only [Act.put, List.setIfInBounds_toArray, List.set_cons_zero, List.set_cons_succ]
          refine wpAnyH_take (i := 15) (oi := ⟨some 121, _, _, _, _, _⟩) (v := undef) rfl (by kernel_rfl) (by kernel_rfl) (by kernel_rfl) (fun _ _ _ h => h) (Or.inr ⟨by rfl, by rfl⟩) (by assumption) ?_
          try simp only [Act.put, List.setIfInBounds_toArray, List.set_cons_zero, List.set_cons_succ]
          refine wpAnyH_take (i := 16) (oi := ⟨some 122, _, _, _, _, _⟩) (v := ?_) rfl (by kernel_rfl) (by kernel_rfl) (by kernel_rfl) (fun _ _ _ h => h) (Or.inl ⟨by rfl, ?_⟩) (by assumption) ?_
          rotate_left
          · intro v hSv; (try dsimp only at hSv); skip; go_simp; (try with_reducible rfl)
          try simp only [Act.put, List.setIfInBounds_toArray, List.set_cons_zero, List.set_cons_succ]
          refine wpAnyH_done (by kernel_rfl) ?_ _
          go_wp2
          go_ret2
          rw [HE3.out]
          exact ⟨_, rfl, rfl, H15.out.chg hS16.2, HKW.out.trans (hS16.1.mono (fun _ h => Qk.maps_has h))⟩
        | true =>
          cases z with
          | true =>
            have HE3 : Hid (hearM B c now = (afterM B c now, none, 0)) := Lib.hid (by
              rw [HE2.out, hgv, hd, if_neg]; simp)
            clear HE2 hgv
            go_wp2
            refine wp_region_held_drew (S := fun v => Kept q.maps v7 v ∧ Chg none w14 v) (by kernel_rfl) hS15 (fun _ => ?_)
            refine wpAnyH_take (i := 0) (oi := ⟨some 97, _, _, _, _, _⟩) (v := ?_) rfl (by kernel_rfl) (by kernel_rfl) (by kernel_rfl) (fun _ _ _ h => h) (Or.inl ⟨by rfl, ?_⟩) (by assumption) ?_
            rotate_left
            · intro v hSv; (try dsimp only at hSv); skip; go_simp; (try with_reducible rfl)
            try simp only [Act.put, List.setIfInBounds_toArray, List.set_cons_zero, List.set_cons_succ]
            refine wpAnyH_take (i := 1) (oi := ⟨some 98, _, _, _, _, _⟩) (v := ?_) rfl (by kernel_rfl) (by kernel_rfl) (by kernel_rfl) (fun _ _ _ h => h) (Or.inl ⟨by rfl, ?_⟩) (by assumption) ?_
            rotate_left
            · intro v hSv; (try dsimp only at hSv); skip; go_simp; (try with_reducible rfl)
            try simp only [Act.put, List.setIfInBounds_toArray, List.set_cons_zero, List.set_cons_succ]
            refine wpAnyH_take (i := 2) (oi := ⟨some 99, _, _, _, _, _⟩) (v := ?_) rfl (by kernel_rfl) (by kernel_rfl) (by kernel_rfl) (fun _ _ _ h => h) (Or.inl ⟨by rfl, ?_⟩) (by assumption) ?_
            rotate_left
            · intro v hSv; (try dsimp only at hSv); skip; go_simp; (try with_reducible rfl)
            try simp only [Act.put, List.setIfInBounds_toArray, List.set_cons_zero, List.set_cons_succ]
            refine wpAnyH_take (i := 3) (oi := ⟨some 100, _, _, _, _, _⟩) (v := .map (some q.m)) rfl (by kernel_rfl) (by kernel_rfl) (by kernel_rfl) (fun _ _ _ h => h) (Or.inl ⟨by rfl, ?_⟩) (by assumption) ?_
            · intro v hSv; have z := (HC.out v hSv.1).o6; go_simp
            try simp only [Act.put, List.setIfInBounds_toArray, List.set_cons_zero, List.set_cons_succ]
            refine wpAnyH_take (i := 4) (oi := ⟨some 101, _, _, _, _, _⟩) (v := ?_) rfl (by kernel_rfl) (by kernel_rfl) (by kernel_rfl) (fun _ _ _ h => h) (Or.inl ⟨by rfl, ?_⟩) (by assumption) ?_
            rotate_left
            · intro v hSv; (try dsimp only at hSv); skip; go_simp; (try with_reducible rfl)
            try simp only [Act.put, List.setIfInBounds_toArray, List.set_cons_zero, List.set_cons_succ]
            refine wpAnyH_take (i := 5) (oi := ⟨some 102, _, _, _, _, _⟩) (v := .agg (c.d.cells).toArray) rfl (by kernel_rfl) (by kernel_rfl) (by kernel_rfl) (fun _ _ _ h => h) (yieldsIf_load_mid (by rfl) 31 _ rfl w.heap.size 0 rfl (c.d.cells) _ (fun v h => HDG.out v h) Try.underlying31 rfl HI31.out) (by assumption) ?_
            try simp only [Act.put, List.setIfInBounds_toArray, List.set_cons_zero, List.set_cons_succ]
            refine wpAnyH_take (i := 6) (oi := ⟨some 103, _, _, _, _, _⟩) (v := .tuple #[.agg #[.int .u64 x.1, .int .i64 x.2], .bool true]) rfl (by kernel_rfl) (by kernel_rfl) (by kernel_rfl) (fun _ _ _ h => h) (Or.inl ⟨by rfl, ?_⟩) (by assumption) ?_
            · intro v hSv; have z := HL.out v hSv.2; go_simp
            try simp only [Act.put, List.setIfInBounds_toArray, List.set_cons_zero, List.set_cons_succ]
            refine wpAnyH_take (i := 7) (oi := ⟨some 96, _, _, _, _, _⟩) (v := ?_) rfl (by kernel_rfl) (by kernel_rfl) (by kernel_rfl) (fun _ _ _ h => h) (Or.inl ⟨by rfl, ?_⟩) (by assumption) ?_
            rotate_left
            · intro v hSv; (try dsimp only at hSv); skip; go_simp; (try with_reducible rfl)
            try simp only [Act.put, List.setIfInBounds_toArray, List.set_cons_zero, List.set_cons_succ]
            refine wpAnyH_take (i := 8) (oi := ⟨some 104, _, _, _, _, _⟩) (v := ?_) rfl (by kernel_rfl) (by kernel_rfl) (by kernel_rfl) (fun _ _ _ h => h) (Or.inl ⟨by rfl, ?_⟩) (by assumption) ?_
            rotate_left
            · intro v hSv; (try dsimp only at hSv); skip; go_simp; (try with_reducible rfl)
            try simp only [Act.put, List.setIfInBounds_toArray, List.set_cons_zero, List.set_cons_succ]
            refine wpAnyH_take (i := 9) (oi := ⟨some 105, _, _, _, _, _⟩) (v := ?_) rfl (by kernel_rfl) (by kernel_rfl) (by kernel_rfl) (fun _ _ _ h => h) (Or.inl ⟨by rfl, ?_⟩) (by assumption) ?_
            rotate_left
            · intro v hSv; (try dsimp only at hSv); skip; go_simp; (try with_reducible rfl)
            try simp only [Act.put, List.setIfInBounds_toArray, List.set_cons_zero, List.set_cons_succ]
            refine wpAnyH_ready (rs := [10]) (by kernel_rfl) (by simp) ?_
            refine AllReadyH.cons (o := ⟨some 12, _, _, _, _, _⟩) rfl (fun K hK => ?_) (AllReadyH.nil)
            go_simp
            refine hK.out _ _ ⟨hS15.1.alloc _, Chg.alloc hS15.2 _⟩ (fun _ => ?_)
            clear hK K
            try simp only [Act.put, List.setIfInBounds_toArray, List.set_cons_zero, List.set_cons_succ]
            refine wpAnyH_ready (rs := [11]) (by kernel_rfl) (by simp) ?_
            refine AllReadyH.cons (o := ⟨none, _, _, _, _, _⟩) rfl (fun K hK => ?_) (AllReadyH.nil)
            go_simp
            refine hK.out _ _ ⟨hS15.1.alloc _, Chg.alloc hS15.2 _⟩ (fun _ => ?_)
            clear hK K
            refine wpAnyH_take (i := 12) (oi := ⟨some 13, _, _, _, _, _⟩) (v := ?_) rfl (by kernel_rfl) (by kernel_rfl) (by kernel_rfl) (fun _ _ _ h => h) (Or.inl ⟨by rfl, ?_⟩) (by assumption) ?_
            rotate_left
            · intro v hSv; (try dsimp only at hSv); skip; go_simp; (try with_reducible rfl)
            try simp only [Act.put, List.setIfInBounds_toArray, List.set_cons_zero, List.set_cons_succ]
            refine wpAnyH_done (by kernel_rfl) ?_ _
            go_wp2
            rw [← HW15.out]
            refine wp_region_held_drew (S := fun v => Kept q.maps v7 v ∧ Chg none w15 v) (by kernel_rfl) hS16 (fun _ => ?_)
            refine wpAnyH_take (i := 0) (oi := ⟨some 106, _, _, _, _, _⟩) (v := ?_) rfl (by kernel_rfl) (by kernel_rfl) (by kernel_rfl) (fun _ _ _ h => h) (Or.inl ⟨by rfl, ?_⟩) (by assumption) ?_
            rotate_left
            · intro v hSv; (try dsimp only at hSv); skip; go_simp; (try with_reducible rfl)
            try simp only [Act.put, List.setIfInBounds_toArray, List.set_cons_zero, List.set_cons_succ]
            refine wpAnyH_take (i := 1) (oi := ⟨some 107, _, _, _, _, _⟩) (v := ?_) rfl (by kernel_rfl) (by kernel_rfl) (by kernel_rfl) (fun _ _ _ h => h) (Or.inl ⟨by rfl, ?_⟩) (by assumption) ?_
            rotate_left
            · intro v hSv; (try dsimp only at hSv); skip; go_simp; (try with_reducible rfl)
            try simp only [Act.put, List.setIfInBounds_toArray, List.set_cons_zero, List.set_cons_succ]
            refine wpAnyH_take (i := 2) (oi := ⟨some 108, _, _, _, _, _⟩) (v := ?_) rfl (by kernel_rfl) (by kernel_rfl) (by kernel_rfl) (fun _ _ _ h => h) (Or.inl ⟨by rfl, ?_⟩) (by assumption) ?_
            rotate_left
            · intro v hSv; (try dsimp only at hSv); skip; go_simp; (try with_reducible rfl)
            try simp only [Act.put, List.setIfInBounds_toArray, List.set_cons_zero, List.set_cons_succ]
            refine wpAnyH_take (i := 3) (oi := ⟨some 109, _, _, _, _, _⟩) (v := .int .i64 c.node) rfl (by kernel_rfl) (by kernel_rfl) (by kernel_rfl) (fun _ _ _ h => h) (Or.inl ⟨by rfl, ?_⟩) (by assumption) ?_
            · intro v hSv; have z := (HC.out v hSv.1).c1; go_simp
            try simp only [Act.put, List.setIfInBounds_toArray, List.set_cons_zero, List.set_cons_succ]
            refine wpAnyH_take (i := 4) (oi := ⟨some 110, _, _, _, _, _⟩) (v := ?_) rfl (by kernel_rfl) (by kernel_rfl) (by kernel_rfl) (fun _ _ _ h => h) (Or.inl ⟨by rfl, ?_⟩) (by assumption) ?_
            rotate_left
            · intro v hSv; (try dsimp only at hSv); skip; go_simp; (try with_reducible rfl)
            try simp only [Act.put, List.setIfInBounds_toArray, List.set_cons_zero, List.set_cons_succ]
            refine wpAnyH_take (i := 5) (oi := ⟨some 111, _, _, _, _, _⟩) (v := ?_) rfl (by kernel_rfl) (by kernel_rfl) (by kernel_rfl) (fun _ _ _ h => h) (Or.inl ⟨by rfl, ?_⟩) (by assumption) ?_
            rotate_left
            · intro v hSv; (try dsimp only at hSv); skip; go_simp; (try with_reducible rfl)
            try simp only [Act.put, List.setIfInBounds_toArray, List.set_cons_zero, List.set_cons_succ]
            refine wpAnyH_take (i := 6) (oi := ⟨some 112, _, _, _, _, _⟩) (v := ?_) rfl (by kernel_rfl) (by kernel_rfl) (by kernel_rfl) (fun _ _ _ h => h) (Or.inl ⟨by rfl, ?_⟩) (by assumption) ?_
            rotate_left
            · intro v hSv; (try dsimp only at hSv); skip; go_simp; (try with_reducible rfl)
            try simp only [Act.put, List.setIfInBounds_toArray, List.set_cons_zero, List.set_cons_succ]
            refine wpAnyH_take (i := 7) (oi := ⟨some 113, _, _, _, _, _⟩) (v := .int .i64 B.id) rfl (by kernel_rfl) (by kernel_rfl) (by kernel_rfl) (fun _ _ _ h => h) (Or.inl ⟨by rfl, ?_⟩) (by assumption) ?_
            · intro v hSv; have z := (HC.out v hSv.1).o1; go_simp
            try simp only [Act.put, List.setIfInBounds_toArray, List.set_cons_zero, List.set_cons_succ]
            refine wpAnyH_take (i := 8) (oi := ⟨some 114, _, _, _, _, _⟩) (v := ?_) rfl (by kernel_rfl) (by kernel_rfl) (by kernel_rfl) (fun _ _ _ h => h) (Or.inl ⟨by rfl, ?_⟩) (by assumption) ?_
            rotate_left
            · intro v hSv; (try dsimp only at hSv); skip; go_simp; (try with_reducible rfl)
            try simp only [Act.put, List.setIfInBounds_toArray, List.set_cons_zero, List.set_cons_succ]
            refine wpAnyH_take (i := 9) (oi := ⟨some 115, _, _, _, _, _⟩) (v := ?_) rfl (by kernel_rfl) (by kernel_rfl) (by kernel_rfl) (fun _ _ _ h => h) (Or.inl ⟨by rfl, ?_⟩) (by assumption) ?_
            rotate_left
            · intro v hSv; (try dsimp only at hSv); skip; go_simp; (try with_reducible rfl)
            try simp only [Act.put, List.setIfInBounds_toArray, List.set_cons_zero, List.set_cons_succ]
            refine wpAnyH_take (i := 10) (oi := ⟨some 116, _, _, _, _, _⟩) (v := ?_) rfl (by kernel_rfl) (by kernel_rfl) (by kernel_rfl) (fun _ _ _ h => h) (Or.inl ⟨by rfl, ?_⟩) (by assumption) ?_
            rotate_left
            · intro v hSv; (try dsimp only at hSv); skip; go_simp; (try with_reducible rfl)
            try simp only [Act.put, List.setIfInBounds_toArray, List.set_cons_zero, List.set_cons_succ]
            refine wpAnyH_take (i := 11) (oi := ⟨some 117, _, _, _, _, _⟩) (v := ?_) rfl (by kernel_rfl) (by kernel_rfl) (by kernel_rfl) (fun _ _ _ h => h) (Or.inl ⟨by rfl, ?_⟩) (by assumption) ?_
            rotate_left
            · intro v hSv; (try dsimp only at hSv); skip; go_simp; (try with_reducible rfl)
            try simp only [Act.put, List.setIfInBounds_toArray, List.set_cons_zero, List.set_cons_succ]
            refine wpAnyH_take (i := 12) (oi := ⟨some 118, _, _, _, _, _⟩) (v := .agg #[.int .u64 x.1, .int .i64 x.2]) rfl (by kernel_rfl) (by kernel_rfl) (by kernel_rfl) (fun _ _ _ h => h) (Or.inl ⟨by rfl, ?_⟩) (by assumption) ?_
            · intro v hSv; have z := (HX.out v hSv).1; have z1 := (HX.out v hSv).2; go_simp
            try simp only [Act.put, List.setIfInBounds_toArray, List.set_cons_zero, List.set_cons_succ]
            refine wpAnyH_take (i := 13) (oi := ⟨some 119, _, _, _, _, _⟩) (v := ?_) rfl (by kernel_rfl) (by kernel_rfl) (by kernel_rfl) (fun _ _ _ h => h) (Or.inl ⟨by rfl, ?_⟩) (by assumption) ?_
            rotate_left
            · intro v hSv; (try dsimp only at hSv); skip; go_simp; (try with_reducible rfl)
            try simp only [Act.put, List.setIfInBounds_toArray, List.set_cons_zero, List.set_cons_succ]
            refine wpAnyH_ready (rs := [14]) (by kernel_rfl) (by simp) ?_
            refine AllReadyH.cons (o := ⟨some 120, _, _, _, _, _⟩) rfl (fun K hK => ?_) (AllReadyH.nil)
            go_simp
            go_at_call 25
            refine (HRD.out _ hS16.2).mono ?_
            rintro e w17 ⟨rfl, hg17⟩
            have k17 : Kept q.maps v7 w17 ∧ Chg none w15 w17 := ⟨hS16.1.chg hg17, hS16.2.trans hg17⟩
            clear hg17
            go_wp2_with fail
            refine hK.out _ _ k17 (fun _ => ?_)
            clear hK K
            try simp only [Act.put, List.setIfInBounds_toArray, List.set_cons_zero, List.set_cons_succ]
            refine wpAnyH_take (i := 15) (oi := ⟨some 121, _, _, _, _, _⟩) (v := ?_) rfl (by kernel_rfl) (by kernel_rfl) (by kernel_rfl) (fun _ _ _ h => h) (Or.inl ⟨by rfl, ?_⟩) (by assumption) ?_
            rotate_left
            · intro v hSv; (try dsimp only at hSv); skip; go_simp; (try with_reducible rfl)
            try simp only [Act.put, List.setIfInBounds_toArray, List.set_cons_zero, List.set_cons_succ]
            refine wpAnyH_take (i := 16) (oi := ⟨some 122, _, _, _, _, _⟩) (v := ?_) rfl (by kernel_rfl) (by kernel_rfl) (by kernel_rfl) (fun _ _ _ h => h) (Or.inl ⟨by rfl, ?_⟩) (by assumption) ?_
            rotate_left
            · intro v hSv; (try dsimp only at hSv); skip; go_simp; (try with_reducible rfl)
            try simp only [Act.put, List.setIfInBounds_toArray, List.set_cons_zero, List.set_cons_succ]
            refine wpAnyH_done (by kernel_rfl) ?_ _
            go_wp2
            go_ret2
            rw [HE3.out]
            exact ⟨_, rfl, rfl, H15.out.chg k17.2, HKW.out.trans (k17.1.mono (fun _ h => Qk.maps_has h))⟩
          | false =>
            have HE3 : Hid (hearM B c now = ((dropM (afterM B c now) c.d).1, (dropM (afterM B c now) c.d).2, 0)) := Lib.hid (by
              rw [HE2.out, hgv, hd, if_pos (by rfl)])
            clear HE2 hgv
            go_wp2
            refine wp_region_held_drew (S := fun v => Kept q.maps v7 v ∧ Chg none w14 v) (by kernel_rfl) hS15 (fun _ => ?_)
            refine wpAnyH_take (i := 0) (oi := ⟨some 97, _, _, _, _, _⟩) (v := ?_) rfl (by kernel_rfl) (by kernel_rfl) (by kernel_rfl) (fun _ _ _ h => h) (Or.inl ⟨by rfl, ?_⟩) (by assumption) ?_
            rotate_left
            · intro v hSv; (try dsimp only at hSv); skip; go_simp; (try with_reducible rfl)
            try simp only [Act.put, List.setIfInBounds_toArray, List.set_cons_zero, List.set_cons_succ]
            refine wpAnyH_take (i := 1) (oi := ⟨some 98, _, _, _, _, _⟩) (v := ?_) rfl (by kernel_rfl) (by kernel_rfl) (by kernel_rfl) (fun _ _ _ h => h) (Or.inl ⟨by rfl, ?_⟩) (by assumption) ?_
            rotate_left
            · intro v hSv; (try dsimp only at hSv); skip; go_simp; (try with_reducible rfl)
            try simp only [Act.put, List.setIfInBounds_toArray, List.set_cons_zero, List.set_cons_succ]
            refine wpAnyH_take (i := 2) (oi := ⟨some 99, _, _, _, _, _⟩) (v := ?_) rfl (by kernel_rfl) (by kernel_rfl) (by kernel_rfl) (fun _ _ _ h => h) (Or.inl ⟨by rfl, ?_⟩) (by assumption) ?_
            rotate_left
            · intro v hSv; (try dsimp only at hSv); skip; go_simp; (try with_reducible rfl)
            try simp only [Act.put, List.setIfInBounds_toArray, List.set_cons_zero, List.set_cons_succ]
            refine wpAnyH_take (i := 3) (oi := ⟨some 100, _, _, _, _, _⟩) (v := .map (some q.m)) rfl (by kernel_rfl) (by kernel_rfl) (by kernel_rfl) (fun _ _ _ h => h) (Or.inl ⟨by rfl, ?_⟩) (by assumption) ?_
            · intro v hSv; have z := (HC.out v hSv.1).o6; go_simp
            try simp only [Act.put, List.setIfInBounds_toArray, List.set_cons_zero, List.set_cons_succ]
            refine wpAnyH_take (i := 4) (oi := ⟨some 101, _, _, _, _, _⟩) (v := ?_) rfl (by kernel_rfl) (by kernel_rfl) (by kernel_rfl) (fun _ _ _ h => h) (Or.inl ⟨by rfl, ?_⟩) (by assumption) ?_
            rotate_left
            · intro v hSv; (try dsimp only at hSv); skip; go_simp; (try with_reducible rfl)
            try simp only [Act.put, List.setIfInBounds_toArray, List.set_cons_zero, List.set_cons_succ]
            refine wpAnyH_take (i := 5) (oi := ⟨some 102, _, _, _, _, _⟩) (v := .agg (c.d.cells).toArray) rfl (by kernel_rfl) (by kernel_rfl) (by kernel_rfl) (fun _ _ _ h => h) (yieldsIf_load_mid (by rfl) 31 _ rfl w.heap.size 0 rfl (c.d.cells) _ (fun v h => HDG.out v h) Try.underlying31 rfl HI31.out) (by assumption) ?_
            try simp only [Act.put, List.setIfInBounds_toArray, List.set_cons_zero, List.set_cons_succ]
            refine wpAnyH_take (i := 6) (oi := ⟨some 103, _, _, _, _, _⟩) (v := .tuple #[.agg #[.int .u64 x.1, .int .i64 x.2], .bool true]) rfl (by kernel_rfl) (by kernel_rfl) (by kernel_rfl) (fun _ _ _ h => h) (Or.inl ⟨by rfl, ?_⟩) (by assumption) ?_
            · intro v hSv; have z := HL.out v hSv.2; go_simp
            try simp only [Act.put, List.setIfInBounds_toArray, List.set_cons_zero, List.set_cons_succ]
            refine wpAnyH_take (i := 7) (oi := ⟨some 96, _, _, _, _, _⟩) (v := ?_) rfl (by kernel_rfl) (by kernel_rfl) (by kernel_rfl) (fun _ _ _ h => h) (Or.inl ⟨by rfl, ?_⟩) (by assumption) ?_
            rotate_left
            · intro v hSv; (try dsimp only at hSv); skip; go_simp; (try with_reducible rfl)
            try simp only [Act.put, List.setIfInBounds_toArray, List.set_cons_zero, List.set_cons_succ]
            refine wpAnyH_take (i := 8) (oi := ⟨some 104, _, _, _, _, _⟩) (v := ?_) rfl (by kernel_rfl) (by kernel_rfl) (by kernel_rfl) (fun _ _ _ h => h) (Or.inl ⟨by rfl, ?_⟩) (by assumption) ?_
            rotate_left
            · intro v hSv; (try dsimp only at hSv); skip; go_simp; (try with_reducible rfl)
            try simp only [Act.put, List.setIfInBounds_toArray, List.set_cons_zero, List.set_cons_succ]
            refine wpAnyH_take (i := 9) (oi := ⟨some 105, _, _, _, _, _⟩) (v := ?_) rfl (by kernel_rfl) (by kernel_rfl) (by kernel_rfl) (fun _ _ _ h => h) (Or.inl ⟨by rfl, ?_⟩) (by assumption) ?_
            rotate_left
            · intro v hSv; (try dsimp only at hSv); skip; go_simp; (try with_reducible rfl)
            try simp only [Act.put, List.setIfInBounds_toArray, List.set_cons_zero, List.set_cons_succ]
            refine wpAnyH_ready (rs := [10]) (by kernel_rfl) (by simp) ?_
            refine AllReadyH.cons (o := ⟨some 12, _, _, _, _, _⟩) rfl (fun K hK => ?_) (AllReadyH.nil)
            go_simp
            refine hK.out _ _ ⟨hS15.1.alloc _, Chg.alloc hS15.2 _⟩ (fun _ => ?_)
            clear hK K
            try simp only [Act.put, List.setIfInBounds_toArray, List.set_cons_zero, List.set_cons_succ]
            refine wpAnyH_ready (rs := [11]) (by kernel_rfl) (by simp) ?_
            refine AllReadyH.cons (o := ⟨none, _, _, _, _, _⟩) rfl (fun K hK => ?_) (AllReadyH.nil)
            go_simp
            refine hK.out _ _ ⟨hS15.1.alloc _, Chg.alloc hS15.2 _⟩ (fun _ => ?_)
            clear hK K
            refine wpAnyH_take (i := 12) (oi := ⟨some 13, _, _, _, _, _⟩) (v := ?_) rfl (by kernel_rfl) (by kernel_rfl) (by kernel_rfl) (fun _ _ _ h => h) (Or.inl ⟨by rfl, ?_⟩) (by assumption) ?_
            rotate_left
            · intro v hSv; (try dsimp only at hSv); skip; go_simp; (try with_reducible rfl)
            try simp only [Act.put, List.setIfInBounds_toArray, List.set_cons_zero, List.set_cons_succ]
            refine wpAnyH_done (by kernel_rfl) ?_ _
            go_wp2
            rw [← HW15.out]
            refine wp_region_held_drew (S := fun v => Kept q.maps v7 v ∧ Chg none w15 v) (by kernel_rfl) hS16 (fun _ => ?_)
            refine wpAnyH_take (i := 0) (oi := ⟨some 106, _, _, _, _, _⟩) (v := ?_) rfl (by kernel_rfl) (by kernel_rfl) (by kernel_rfl) (fun _ _ _ h => h) (Or.inl ⟨by rfl, ?_⟩) (by assumption) ?_
            rotate_left
            · intro v hSv; (try dsimp only at hSv); skip; go_simp; (try with_reducible rfl)
            try simp only [Act.put, List.setIfInBounds_toArray, List.set_cons_zero, List.set_cons_succ]
            refine wpAnyH_take (i := 1) (oi := ⟨some 107, _, _, _, _, _⟩) (v := ?_) rfl (by kernel_rfl) (by kernel_rfl) (by kernel_rfl) (fun _ _ _ h => h) (Or.inl ⟨by rfl, ?_⟩) (by assumption) ?_
            rotate_left
            · intro v hSv; (try dsimp only at hSv); skip; go_simp; (try with_reducible rfl)
            try simp only [Act.put, List.setIfInBounds_toArray, List.set_cons_zero, List.set_cons_succ]
            refine wpAnyH_take (i := 2) (oi := ⟨some 108, _, _, _, _, _⟩) (v := ?_) rfl (by kernel_rfl) (by kernel_rfl) (by kernel_rfl) (fun _ _ _ h => h) (Or.inl ⟨by rfl, ?_⟩) (by assumption) ?_
            rotate_left
            · intro v hSv; (try dsimp only at hSv); skip; go_simp; (try with_reducible rfl)
            try simp only [Act.put, List.setIfInBounds_toArray, List.set_cons_zero, List.set_cons_succ]
            refine wpAnyH_take (i := 3) (oi := ⟨some 109, _, _, _, _, _⟩) (v := .int .i64 c.node) rfl (by kernel_rfl) (by kernel_rfl) (by kernel_rfl) (fun _ _ _ h => h) (Or.inl ⟨by rfl, ?_⟩) (by assumption) ?_
            · intro v hSv; have z := (HC.out v hSv.1).c1; go_simp
            try simp only [Act.put, List.setIfInBounds_toArray, List.set_cons_zero, List.set_cons_succ]
            refine wpAnyH_take (i := 4) (oi := ⟨some 110, _, _, _, _, _⟩) (v := ?_) rfl (by kernel_rfl) (by kernel_rfl) (by kernel_rfl) (fun _ _ _ h => h) (Or.inl ⟨by rfl, ?_⟩) (by assumption) ?_
            rotate_left
            · intro v hSv; (try dsimp only at hSv); skip; go_simp; (try with_reducible rfl)
            try simp only [Act.put, List.setIfInBounds_toArray, List.set_cons_zero, List.set_cons_succ]
            refine wpAnyH_take (i := 5) (oi := ⟨some 111, _, _, _, _, _⟩) (v := ?_) rfl (by kernel_rfl) (by kernel_rfl) (by kernel_rfl) (fun _ _ _ h => h) (Or.inl ⟨by rfl, ?_⟩) (by assumption) ?_
            rotate_left
            · intro v hSv; (try dsimp only at hSv); skip; go_simp; (try with_reducible rfl)
            try simp only [Act.put, List.setIfInBounds_toArray, List.set_cons_zero, List.set_cons_succ]
            refine wpAnyH_take (i := 6) (oi := ⟨some 112, _, _, _, _, _⟩) (v := ?_) rfl (by kernel_rfl) (by kernel_rfl) (by kernel_rfl) (fun _ _ _ h => h) (Or.inl ⟨by rfl, ?_⟩) (by assumption) ?_
            rotate_left
            · intro v hSv; (try dsimp only at hSv); skip; go_simp; (try with_reducible rfl)
            try simp only [Act.put, List.setIfInBounds_toArray, List.set_cons_zero, List.set_cons_succ]
            refine wpAnyH_take (i := 7) (oi := ⟨some 113, _, _, _, _, _⟩) (v := .int .i64 B.id) rfl (by kernel_rfl) (by kernel_rfl) (by kernel_rfl) (fun _ _ _ h => h) (Or.inl ⟨by rfl, ?_⟩) (by assumption) ?_
            · intro v hSv; have z := (HC.out v hSv.1).o1; go_simp
            try simp only [Act.put, List.setIfInBounds_toArray, List.set_cons_zero, List.set_cons_succ]
            refine wpAnyH_take (i := 8) (oi := ⟨some 114, _, _, _, _, _⟩) (v := ?_) rfl (by kernel_rfl) (by kernel_rfl) (by kernel_rfl) (fun _ _ _ h => h) (Or.inl ⟨by rfl, ?_⟩) (by assumption) ?_
            rotate_left
            · intro v hSv; (try dsimp only at hSv); skip; go_simp; (try with_reducible rfl)
            try simp only [Act.put, List.setIfInBounds_toArray, List.set_cons_zero, List.set_cons_succ]
            refine wpAnyH_take (i := 9) (oi := ⟨some 115, _, _, _, _, _⟩) (v := ?_) rfl (by kernel_rfl) (by kernel_rfl) (by kernel_rfl) (fun _ _ _ h => h) (Or.inl ⟨by rfl, ?_⟩) (by assumption) ?_
            rotate_left
            · intro v hSv; (try dsimp only at hSv); skip; go_simp; (try with_reducible rfl)
            try simp only [Act.put, List.setIfInBounds_toArray, List.set_cons_zero, List.set_cons_succ]
            refine wpAnyH_take (i := 10) (oi := ⟨some 116, _, _, _, _, _⟩) (v := ?_) rfl (by kernel_rfl) (by kernel_rfl) (by kernel_rfl) (fun _ _ _ h => h) (Or.inl ⟨by rfl, ?_⟩) (by assumption) ?_
            rotate_left
            · intro v hSv; (try dsimp only at hSv); skip; go_simp; (try with_reducible rfl)
            try simp only [Act.put, List.setIfInBounds_toArray, List.set_cons_zero, List.set_cons_succ]
            refine wpAnyH_take (i := 11) (oi := ⟨some 117, _, _, _, _, _⟩) (v := ?_) rfl (by kernel_rfl) (by kernel_rfl) (by kernel_rfl) (fun _ _ _ h => h) (Or.inl ⟨by rfl, ?_⟩) (by assumption) ?_
            rotate_left
            · intro v hSv; (try dsimp only at hSv); skip; go_simp; (try with_reducible rfl)
            try simp only [Act.put, List.setIfInBounds_toArray, List.set_cons_zero, List.set_cons_succ]
            refine wpAnyH_take (i := 12) (oi := ⟨some 118, _, _, _, _, _⟩) (v := .agg #[.int .u64 x.1, .int .i64 x.2]) rfl (by kernel_rfl) (by kernel_rfl) (by kernel_rfl) (fun _ _ _ h => h) (Or.inl ⟨by rfl, ?_⟩) (by assumption) ?_
            · intro v hSv; have z := (HX.out v hSv).1; have z1 := (HX.out v hSv).2; go_simp
            try simp only [Act.put, List.setIfInBounds_toArray, List.set_cons_zero, List.set_cons_succ]
            refine wpAnyH_take (i := 13) (oi := ⟨some 119, _, _, _, _, _⟩) (v := ?_) rfl (by kernel_rfl) (by kernel_rfl) (by kernel_rfl) (fun _ _ _ h => h) (Or.inl ⟨by rfl, ?_⟩) (by assumption) ?_
            rotate_left
            · intro v hSv; (try dsimp only at hSv); skip; go_simp; (try with_reducible rfl)
            try simp only [Act.put, List.setIfInBounds_toArray, List.set_cons_zero, List.set_cons_succ]
            refine wpAnyH_ready (rs := [14]) (by kernel_rfl) (by simp) ?_
            refine AllReadyH.cons (o := ⟨some 120, _, _, _, _, _⟩) rfl (fun K hK => ?_) (AllReadyH.nil)
            go_simp
            go_at_call 25
            refine (HRD.out _ hS16.2).mono ?_
            rintro e w17 ⟨rfl, hg17⟩
            have k17 : Kept q.maps v7 w17 ∧ Chg none w15 w17 := ⟨hS16.1.chg hg17, hS16.2.trans hg17⟩
            clear hg17
            go_wp2_with fail
            refine hK.out _ _ k17 (fun _ => ?_)
            clear hK K
            try simp only [Act.put, List.setIfInBounds_toArray, List.set_cons_zero, List.set_cons_succ]
            refine wpAnyH_take (i := 15) (oi := ⟨some 121, _, _, _, _, _⟩) (v := ?_) rfl (by kernel_rfl) (by kernel_rfl) (by kernel_rfl) (fun _ _ _ h => h) (Or.inl ⟨by rfl, ?_⟩) (by assumption) ?_
            rotate_left
            · intro v hSv; (try dsimp only at hSv); skip; go_simp; (try with_reducible rfl)
            try simp only [Act.put, List.setIfInBounds_toArray, List.set_cons_zero, List.set_cons_succ]
            refine wpAnyH_take (i := 16) (oi := ⟨some 122, _, _, _, _, _⟩) (v := ?_) rfl (by kernel_rfl) (by kernel_rfl) (by kernel_rfl) (fun _ _ _ h => h) (Or.inl ⟨by rfl, ?_⟩) (by assumption) ?_
            rotate_left
            · intro v hSv; (try dsimp only at hSv); skip; go_simp; (try with_reducible rfl)
            try simp only [Act.put, List.setIfInBounds_toArray, List.set_cons_zero, List.set_cons_succ]
            refine wpAnyH_done (by kernel_rfl) ?_ _
            go_wp2_with (refine wpList_load_mid rfl 31 _ rfl w.heap.size 0 rfl c.d.cells _ (HC.out _ k17.1).dg Try.underlying31 rfl HI31.out ?_)
            refine (drop_any c.d _ q (n + 2) (afterM B c now) (H15.out.chg k17.2)).mono ?_
            rintro e w20 ⟨v, rfl, hsent, hbk, hk20⟩
            have HS := Lib.hid hsent
            have HBK := Lib.hid hbk
            have HK20 := Lib.hid hk20
            clear hsent hbk hk20
            go_wp2
            go_ret2
            rw [HE3.out]
            refine ⟨v, rfl, ?_, HBK.out, HKW.out.trans ((k17.1.mono (fun _ h => Qk.maps_has h)).trans (HK20.out.mono (fun g hg => .inr (.inl hg))))⟩
            exact HS.out.low (Nat.le_trans HKW.out.size k17.1.size)

end Go.Proofs.Ytnpmfigcfikdgaa
