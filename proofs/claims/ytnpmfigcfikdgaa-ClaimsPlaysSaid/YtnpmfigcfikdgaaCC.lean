/-
  The document's book of claims in memory; where a key's own claim is (27).
-/
import Derived.Test.YtnpmfigcfikdgaaCB
import Derived.Deep.MidRow
namespace Go.Proofs.Ytnpmfigcfikdgaa
open Go.RowKit Go.Maps

def entCells (e : Ent) : List Value := e.c.cells ++ [.int .i64 e.t]
theorem entCells_len (e : Ent) : (entCells e).length = 37 := by unfold entCells; rw [List.length_append, e.c.len]; rfl
def sameAt (a b : List Int) (i : Nat) : Bool := a.getD i 0 == b.getD i 0
theorem run_same_loop (f : Nat → Option Bool × Unit → Sem (ForInStep (Option Bool × Unit))) (P : Program) (w : World) (a b : List Int)
    (hf : ∀ i s, i < 32 → (f i s).run P w = .ok (if sameAt a b i then ForInStep.yield (none, ()) else ForInStep.done (some false, ())) w) :
    ∀ l : List Nat, (∀ i ∈ l, i < 32) → (forIn l (none, ()) f).run P w = .ok (if l.all (sameAt a b) then (none, ()) else (some false, ())) w
  | [], _ => by simp [List.forIn_nil, Sem.run_pure]
  | i :: l, h => by
    simp only [List.forIn_cons, Sem.run_bind, hf i (none, ()) (h i (by simp)), Result.andThen_ok]
    by_cases hs : sameAt a b i = true
    · simp only [hs, if_true, List.all_cons, Bool.true_and]
      exact run_same_loop f P w a b hf l (fun j hj => h j (by simp [hj]))
    · simp [hs, Sem.run_pure]
theorem all_same (a b : List Int) (ha : a.length = 32) (hb : b.length = 32) : (List.range' 0 32 1).all (sameAt a b) = (a == b) := by
  rw [Bool.eq_iff_iff, List.all_eq_true, beq_iff_eq]
  constructor
  · intro h
    apply List.ext_getElem (by omega)
    intro i h1 h2
    have := h i (by simp; omega)
    unfold sameAt at this
    rw [beq_iff_eq, List.getD_eq_getElem?_getD, List.getD_eq_getElem?_getD, List.getElem?_eq_getElem h1, List.getElem?_eq_getElem h2] at this
    simpa using this
  · rintro rfl i _
    simp [sameAt]
theorem part5x (g : Dig) (i : Nat) (hi : i < 32) (w : World) : (part 5 g.cells.toArray (i * 1)).run Try.prog w = .ok (.int .u8 (g.bs.getD i 0)) w := by
  have hb : g.cells[i]? = some (.int .u8 (g.bs.getD i 0)) := by
    unfold Dig.cells
    rw [List.getElem?_map, List.getD_eq_getElem?_getD, List.getElem?_eq_getElem (by rw [g.len]; exact hi)]
    rfl
  have g5 := Try.isAgg5
  unfold part
  simp [Sem.run_bind, g5, hb, Sem.run_pure]
theorem equal31 (d : Nat) (a b : Dig) (w : World) : (Op.equalIn (d + 1 + 1) 31 (.agg a.cells.toArray) (.agg b.cells.toArray)).run Try.prog w = .ok (dEq a b) w := by
  have z5 := Try.sizeOf5
  have hin : ∀ x y : Int, (Op.equalIn (d + 1) 5 (.int .u8 x) (.int .u8 y)).run Try.prog w = .ok (x == y) w := fun x y => by
    rw [run_equalIn_int w d 5 .u8 .u8 _ _ Try.underlying5]
  generalize d + 1 = dd at *
  unfold Op.equalIn
  simp only [Sem.run_bind, run_underlying Try.underlying31, Result.andThen_ok, z5]
  rw [Std.Legacy.Range.forIn_eq_forIn_range', show List.range' [:32].start [:32].size [:32].step = List.range' 0 32 1 from rfl]
  rw [run_same_loop _ Try.prog w a.bs b.bs (fun i s hi => by
    simp only [Sem.run_bind, part5x a i hi, part5x b i hi, Result.andThen_ok, hin]
    unfold sameAt
    cases (a.bs.getD i 0 == b.bs.getD i 0) <;> rfl) _ (by intro i hi; simp at hi; omega)]
  rw [Result.andThen_ok, all_same a.bs b.bs a.len b.len]
  unfold dEq
  cases (a.bs == b.bs) <;> rfl
theorem eql31 (a b : Dig) (w : World) : (binOp .eql 31 (.agg a.cells.toArray) (.agg b.cells.toArray)).run Try.prog w = .ok (.bool (dEq a b)) w := by
  rw [run_eql_struct, show (10000 : Nat) = 9998 + 1 + 1 from rfl, equal31 9998 a b w]
  rfl
theorem guard31 : Try.prog.eqGuardType Try.prog.depth 31 = false := by kernel_rfl
theorem eql_yield (a b : Dig) (v : World) (z : Bool) (hz : dEq a b = z) (ρ : Operand → Value) (o : Oper) (x y : Operand) (ty : TypeId) (ho : o.op = .binOp .eql 31 x y ty) (hx : ρ x = .agg a.cells.toArray) (hy : ρ y = .agg b.cells.toArray) :
    (execOp ρ o).run Try.prog v = .ok (.value (.bool z)) v := by
  have zz := run_eqGuard_agg (P := Try.prog) v .eql 31 x y a.cells.toArray b.cells.toArray guard31
  have z2 := eql31 a b v
  unfold execOp
  simp only [ho, hx, hy]
  simp only [Sem.run_bind, zz, z2, Result.andThen_ok, hz]
  rfl

/-- The document's book in memory. -/
structure RkAt (w : World) (p : Nat) (r : Rk) (v5 v6 : Value) : Prop where
  hd : Blk w p #[.int .i64 r.id, .int .u64 r.inc, .int .i64 r.wait, .int .i64 r.ttl, .int .u64 r.count, v5, v6] 50
  ow : w.ownsRow (p + 1) 52 37 v5 r.ow.length (r.ow.flatMap entCells)
  ot : w.ownsRow (p + 1) 78 37 v6 r.ot.length (r.ot.flatMap entCells)
def rkS (p : Nat) (v5 v6 : Value) (g : Nat) : Prop := g = p ∨ v5.ownBlock = some g ∨ v6.ownBlock = some g
theorem RkAt.low {w : World} {p : Nat} {r : Rk} {v5 v6 : Value} (h : RkAt w p r v5 v6) {g : Nat} (hg : rkS p v5 v6 g) : p ≤ g := by
  rcases hg with rfl | hg | hg
  · exact Nat.le_refl _
  · have := (h.ow.lt g hg).1; omega
  · have := (h.ot.lt g hg).1; omega
theorem RkAt.lt {w : World} {p : Nat} {r : Rk} {v5 v6 : Value} (h : RkAt w p r v5 v6) {g : Nat} (hg : rkS p v5 v6 g) : g < w.heap.size := by
  rcases hg with rfl | hg | hg
  · exact Blk.lt h.hd
  · exact (h.ow.lt g hg).2
  · exact (h.ot.lt g hg).2
theorem own_keep {S : Nat → Prop} {w w' : World} {B s n : Nat} {e : TypeId} {v : Value} {xs : List Value} (h : w.ownsRow B e s v n xs) (hk : Kept S w w') (hn : ∀ g, v.ownBlock = some g → ¬ S g) : w'.ownsRow B e s v n xs := by
  refine ⟨h.1, ?_⟩
  rcases h.2 with hn' | ⟨g, cap, cur, rfl, hb, hgg, rest⟩
  · exact .inl hn'
  · refine .inr ⟨g, cap, cur, rfl, hb, ?_, rest⟩
    rw [hk.block g (Array.getElem?_eq_some_iff.1 hgg).1 (hn g rfl)]
    exact hgg
theorem RkAt.kept {S : Nat → Prop} {w w' : World} {p : Nat} {r : Rk} {v5 v6 : Value} (h : RkAt w p r v5 v6) (hk : Kept S w w') (hn : ∀ g, rkS p v5 v6 g → ¬ S g) : RkAt w' p r v5 v6 :=
  ⟨(hk.block p (Blk.lt h.hd) (hn p (.inl rfl))).trans h.hd, own_keep h.ow hk (fun g hg => hn g (.inr (.inl hg))), own_keep h.ot hk (fun g hg => hn g (.inr (.inr hg)))⟩
theorem RkAt.chg {w w' : World} {p : Nat} {r : Rk} {v5 v6 : Value} (h : RkAt w p r v5 v6) (hk : Chg none w w') : RkAt w' p r v5 v6 :=
  h.kept (Kept.of_chg hk) (fun _ _ e => by cases e)
theorem rows_at {w : World} {B : Nat} {T : TypeId} {L : List Ent} {v : Value} (h : w.ownsRow B T 37 v L.length (L.flatMap entCells)) {k : Nat} {o : Ent} (hk : L[k]? = some o) :
    ∃ b c, v = .slice (some ⟨b, 0, none⟩) L.length c ∧ B ≤ b ∧ b < w.heap.size ∧ w.rangeAt b (k * 37) (entCells o) := by
  have hl := (List.getElem?_eq_some_iff.1 hk).1
  rcases h.2 with ⟨rfl, h0⟩ | ⟨g, cap, cur, rfl, hb, hgg, rest⟩
  · omega
  · refine ⟨g, cap, rfl, hb, (Array.getElem?_eq_some_iff.1 hgg).1, fun j u hj => ?_⟩
    have hj2 : j < 37 := by have := (List.getElem?_eq_some_iff.1 hj).1; rw [entCells_len] at this; exact this
    rw [h.cellAt (k * 37 + j) (by have : (k + 1) * 37 ≤ L.length * 37 := Nat.mul_le_mul_right _ hl; omega), flat_get entCells 37 entCells_len L k j o hk hj2]
    exact hj
theorem ent_dig {w : World} {b o : Nat} {e : Ent} (h : w.rangeAt b o (entCells e)) : w.rangeAt b o e.c.d.cells := fun j v hv => h j v (by
  have hj : j < 32 := by have := (List.getElem?_eq_some_iff.1 hv).1; rw [Dig.cells_len] at this; exact this
  unfold entCells Cl.cells clCells
  rw [List.append_assoc, List.getElem?_append_left (by rw [Dig.cells_len]; exact hj)]
  exact hv)
theorem ent_cl {w : World} {b o : Nat} {e : Ent} (h : w.rangeAt b o (entCells e)) : w.rangeAt b o e.c.cells := fun j v hv => h j v (by
  have hj := (List.getElem?_eq_some_iff.1 hv).1
  unfold entCells
  rw [List.getElem?_append_left hj]
  exact hv)
theorem ent_t {w : World} {b o : Nat} {e : Ent} (h : w.rangeAt b o (entCells e)) : w.cell? ⟨b, o + 36, none⟩ = some (.int .i64 e.t) := h 36 _ (by
  unfold entCells
  rw [List.getElem?_append_right (by rw [e.c.len]; exact Nat.le_refl _), e.c.len]; rfl)
theorem cl_fields {w : World} {b o : Nat} {c : Cl} (h : w.rangeAt b o c.cells) : w.cell? ⟨b, o + 32, none⟩ = some (.int .i64 c.node) ∧ w.cell? ⟨b, o + 33, none⟩ = some (.int .u64 c.inc) ∧ w.cell? ⟨b, o + 34, none⟩ = some (.int .u64 c.count) ∧ w.cell? ⟨b, o + 35, none⟩ = some (.bool c.gone) := by
  obtain ⟨h1, h2, h3, h4⟩ := cl_at c.d c.node c.inc c.count c.gone
  exact ⟨h 32 _ (by simpa [Cl.cells] using h1), h 33 _ (by simpa [Cl.cells] using h2), h 34 _ (by simpa [Cl.cells] using h3), h 35 _ (by simpa [Cl.cells] using h4)⟩
theorem RkAt.cells {w : World} {p : Nat} {r : Rk} {v5 v6 : Value} (h : RkAt w p r v5 v6) : w.cell? ⟨p, 0, none⟩ = some (.int .i64 r.id) ∧ w.cell? ⟨p, 1, none⟩ = some (.int .u64 r.inc) ∧ w.cell? ⟨p, 2, none⟩ = some (.int .i64 r.wait) ∧ w.cell? ⟨p, 3, none⟩ = some (.int .i64 r.ttl) ∧ w.cell? ⟨p, 4, none⟩ = some (.int .u64 r.count) ∧ w.cell? ⟨p, 5, none⟩ = some v5 ∧ w.cell? ⟨p, 6, none⟩ = some v6 ∧ ∀ o, w.frozen? ⟨p, o, none⟩ = false := by
  refine ⟨?_, ?_, ?_, ?_, ?_, ?_, ?_, fun o => h.hd.frozen o⟩ <;> (rw [h.hd.cell]; rfl)
theorem rows_form {w : World} {B : Nat} {T : TypeId} {L : List Ent} {v : Value} (h : w.ownsRow B T 37 v L.length (L.flatMap entCells)) : ∃ A c, v = .slice A L.length c ∧ L.length ≤ c ∧ c ≤ maxLen := by
  rcases h.2 with ⟨rfl, h0⟩ | ⟨g, cap, cur, rfl, _, _, h1, h2, _⟩
  · rw [h0]; exact ⟨none, 0, rfl, Nat.le_refl _, Nat.zero_le _⟩
  · exact ⟨_, cap, rfl, h1, h2⟩
def optI : Option Nat → Int | none => -1 | some i => i
theorem findIdx_at {α : Type} {p : α → Bool} : ∀ {l : List α} {k : Nat} {x : α}, l[k]? = some x → p x = true → (∀ (j : Nat) y, j < k → l[j]? = some y → p y = false) → l.findIdx? p = some k
  | [], _, _, h, _, _ => by simp at h
  | a :: l, 0, x, h, hp, _ => by
    obtain rfl : a = x := by simpa using h
    rw [List.findIdx?_cons, hp]; rfl
  | a :: l, k + 1, x, h, hp, hn => by
    rw [List.findIdx?_cons, hn 0 a (Nat.zero_lt_succ _) rfl, findIdx_at (l := l) (k := k) (by simpa using h) hp fun j y hj hy => hn (j + 1) y (Nat.succ_lt_succ hj) (by simpa using hy)]
    rfl
theorem findIdx_no {α : Type} {p : α → Bool} {l : List α} (hn : ∀ (j : Nat) y, l[j]? = some y → p y = false) : l.findIdx? p = none := by
  rw [List.findIdx?_eq_none_iff]
  intro x hx
  obtain ⟨j, hj, rfl⟩ := List.getElem_of_mem hx
  exact hn j _ (List.getElem?_eq_getElem hj)

set_option maxRecDepth 100000 in
set_option maxHeartbeats 4000000 in
theorem own_any (d : Dig) (w : World) (p : Nat) (r : Rk) (v5 v6 : Value) (h : RkAt w p r v5 v6) (hl : r.ow.length ≤ 1000) :
    Calls Try.prog 27 #[.pointer (some ⟨p, 0, none⟩), .agg d.cells.toArray] w fun e w' => e = .returned (.int .i64 (optI (rOwn r d))) ∧ Chg none w w' := by
  obtain ⟨W, hW⟩ : ∃ W, W = w.alloc (.cells d.cells.toArray 31) := ⟨_, rfl⟩
  have g0 : Chg none w W := by rw [hW]; exact (Chg.refl _ _).alloc _
  have hb3 : Blk W w.heap.size d.cells.toArray 31 := by rw [hW]; exact Blk.new w _ _
  have h' := h.chg g0
  have HRG : Hid (∀ v, Chg none W v → v.rangeAt w.heap.size 0 d.cells) := Lib.hid fun v hv => rangeAt_chg (rangeAt_blk hb3) hv (by simp)
  obtain ⟨A5, c5, hv5, hc5, hm5⟩ := rows_form h.ow
  have HC : Hid (∀ v, Chg none W v → v.cell? ⟨p, 5, none⟩ = some (.slice A5 r.ow.length c5)) := Lib.hid fun v hv => by rw [← hv5]; exact (h'.chg hv).cells.2.2.2.2.2.1
  have HROW : Hid (∀ v, Chg none W v → ∀ k o, r.ow[k]? = some o → ∃ b, A5 = some ⟨b, 0, none⟩ ∧ b < v.heap.size ∧ v.rangeAt b (k * 37) (entCells o)) := Lib.hid fun v hv k o hk => by
    obtain ⟨b, c, hv, -, hb, hr⟩ := rows_at (h'.chg hv).ow hk
    rw [hv5] at hv
    injection hv with e1 e2 e3
    exact ⟨b, e1, hb, hr⟩
  have HW := Lib.hid hW
  have HG0 := Lib.hid g0
  have HI31 := Lib.hid (info31 d)
  have HL := Lib.hid hl
  obtain ⟨z, hz⟩ : ∃ z, rOwn r d = z := ⟨_, rfl⟩
  rw [hz]
  have HZ := Lib.hid hz
  clear hW hb3 g0 h h' hv5 hl hz
  go_enter Try.func27, Try.ntmps27
  go_wp2
  rw [← HW.out]
  go_loopw [5] (fun s5 wr => ∃ k : Nat, k ≤ r.ow.length ∧ s5 = .int .i64 k ∧ Hid (∀ (j : Nat) y, j < k → r.ow[j]? = some y → isKey d y = false) ∧ Hid (Chg none W wr)) (fun i _ => r.ow.length - (intOf i).toNat)
  case atStart => exact ⟨0, by omega, rfl, Lib.hid (fun j y hj => by omega), Lib.hid (Chg.refl _ _)⟩
  case round =>
    obtain ⟨k, hk, rfl, HN, HG⟩ := hrel
    have o5 := HC.out wr HG.out
    by_cases hlt : k < r.ow.length
    · have hlt' : (k : Int) < (r.ow.length : Int) := by omega
      have hdd : decide ((k : Int) < (r.ow.length : Int)) = true := by rw [decide_eq_true_eq]; exact hlt'
      obtain ⟨o, ho⟩ : ∃ o, r.ow[k]? = some o := ⟨_, List.getElem?_eq_getElem hlt⟩
      obtain ⟨rb, rfl, -, -⟩ := HROW.out wr HG.out k o ho
      have HRO : Hid (∀ v, Chg none W v → v.rangeAt rb (k * 37) o.c.d.cells) := Lib.hid fun v hv => by
        obtain ⟨b, e, -, hr⟩ := HROW.out v hv k o ho
        injection e with e
        injection e with e _ _
        subst e
        exact ent_dig hr
      have HIO := Lib.hid (info31 o.c.d)
      have hS0 : Chg none W wr.drew := HG.out.drew
      have hkl : (k : Int) ≤ 1000 := by have := HL.out; omega
      cases hq : isKey d o with
      | true =>
        have HEQ : Hid (dEq o.c.d d = true) := Lib.hid hq
        have HRES : Hid (rOwn r d = some k) := Lib.hid (findIdx_at ho hq HN.out)
        obtain rfl := HZ.out.symm.trans HRES.out
        clear hq ho
        go_wp2
        refine wp_region_held_drew (S := fun v => Chg none W v) (by kernel_rfl) hS0 (fun _ => ?_)
        refine wpAnyH_take (i := 0) (oi := ⟨some 15, _, _, _, _, _⟩) (v := ?_) rfl (by kernel_rfl) (by kernel_rfl) (by kernel_rfl) (fun _ _ _ h => h) (Or.inl ⟨by rfl, ?_⟩) (by assumption) ?_
        rotate_left
        · intro v hSv; (try dsimp only at hSv); skip; go_simp; (try with_reducible rfl)
        try simp only [Act.put, List.setIfInBounds_toArray, List.set_cons_zero, List.set_cons_succ]
        refine wpAnyH_take (i := 1) (oi := ⟨some 16, _, _, _, _, _⟩) (v := ?_) rfl (by kernel_rfl) (by kernel_rfl) (by kernel_rfl) (fun _ _ _ h => h) (Or.inl ⟨by rfl, ?_⟩) (by assumption) ?_
        rotate_left
        · intro v hSv; (try dsimp only at hSv); skip; go_simp; (try with_reducible rfl)
        try simp only [Act.put, List.setIfInBounds_toArray, List.set_cons_zero, List.set_cons_succ]
        refine wpAnyH_take (i := 2) (oi := ⟨some 17, _, _, _, _, _⟩) (v := ?_) rfl (by kernel_rfl) (by kernel_rfl) (by kernel_rfl) (fun _ _ _ h => h) (Or.inl ⟨by rfl, ?_⟩) (by assumption) ?_
        rotate_left
        · intro v hSv; (try dsimp only at hSv); skip; go_simp; (try with_reducible rfl)
        try simp only [Act.put, List.setIfInBounds_toArray, List.set_cons_zero, List.set_cons_succ]
        refine wpAnyH_take (i := 3) (oi := ⟨some 18, _, _, _, _, _⟩) (v := .slice (some ⟨rb, 0, none⟩) r.ow.length c5) rfl (by kernel_rfl) (by kernel_rfl) (by kernel_rfl) (fun _ _ _ h => h) (Or.inl ⟨by rfl, ?_⟩) (by assumption) ?_
        · intro v hSv; have z := HC.out v hSv; go_simp
        try simp only [Act.put, List.setIfInBounds_toArray, List.set_cons_zero, List.set_cons_succ]
        refine wpAnyH_take (i := 4) (oi := ⟨some 19, _, _, _, _, _⟩) (v := ?_) rfl (by kernel_rfl) (by kernel_rfl) (by kernel_rfl) (fun _ _ _ h => h) (Or.inl ⟨by rfl, ?_⟩) (by assumption) ?_
        rotate_left
        · intro v hSv; (try dsimp only at hSv); skip; go_simp; (try with_reducible rfl)
        try simp only [Act.put, List.setIfInBounds_toArray, List.set_cons_zero, List.set_cons_succ]
        refine wpAnyH_take (i := 5) (oi := ⟨some 20, _, _, _, _, _⟩) (v := ?_) rfl (by kernel_rfl) (by kernel_rfl) (by kernel_rfl) (fun _ _ _ h => h) (Or.inl ⟨by rfl, ?_⟩) (by assumption) ?_
        rotate_left
        · intro v hSv; (try dsimp only at hSv); skip; go_simp; (try with_reducible rfl)
        try simp only [Act.put, List.setIfInBounds_toArray, List.set_cons_zero, List.set_cons_succ]
        refine wpAnyH_take (i := 6) (oi := ⟨some 21, _, _, _, _, _⟩) (v := ?_) rfl (by kernel_rfl) (by kernel_rfl) (by kernel_rfl) (fun _ _ _ h => h) (Or.inl ⟨by rfl, ?_⟩) (by assumption) ?_
        rotate_left
        · intro v hSv; (try dsimp only at hSv); skip; go_simp; (try with_reducible rfl)
        try simp only [Act.put, List.setIfInBounds_toArray, List.set_cons_zero, List.set_cons_succ]
        refine wpAnyH_take (i := 7) (oi := ⟨some 22, _, _, _, _, _⟩) (v := ?_) rfl (by kernel_rfl) (by kernel_rfl) (by kernel_rfl) (fun _ _ _ h => h) (Or.inl ⟨by rfl, ?_⟩) (by assumption) ?_
        rotate_left
        · intro v hSv; (try dsimp only at hSv); skip; go_simp; (try with_reducible rfl)
        try simp only [Act.put, List.setIfInBounds_toArray, List.set_cons_zero, List.set_cons_succ]
        refine wpAnyH_take (i := 8) (oi := ⟨some 23, _, _, _, _, _⟩) (v := .agg (o.c.d.cells).toArray) rfl (by kernel_rfl) (by kernel_rfl) (by kernel_rfl) (fun _ _ _ h => h) (yieldsIf_load_mid (by rfl) 31 _ rfl rb (k * 37) rfl (o.c.d.cells) _ (fun v h => HRO.out v h) Try.underlying31 rfl HIO.out) (by assumption) ?_
        try simp only [Act.put, List.setIfInBounds_toArray, List.set_cons_zero, List.set_cons_succ]
        refine wpAnyH_take (i := 9) (oi := ⟨some 24, _, _, _, _, _⟩) (v := .agg (d.cells).toArray) rfl (by kernel_rfl) (by kernel_rfl) (by kernel_rfl) (fun _ _ _ h => h) (yieldsIf_load_mid (by rfl) 31 _ rfl w.heap.size 0 rfl (d.cells) _ (fun v h => HRG.out v h) Try.underlying31 rfl HI31.out) (by assumption) ?_
        try simp only [Act.put, List.setIfInBounds_toArray, List.set_cons_zero, List.set_cons_succ]
        refine wpAnyH_take (i := 10) (oi := ⟨some 25, _, _, _, _, _⟩) (v := .bool true) rfl (by kernel_rfl) (by kernel_rfl) (by kernel_rfl) (fun _ _ _ h => h) (Or.inl ⟨by rfl, ?_⟩) (by assumption) ?_
        · intro v hSv
          exact eql_yield o.c.d d v true HEQ.out _ _ _ _ _ rfl rfl rfl
        try simp only [Act.put, List.setIfInBounds_toArray, List.set_cons_zero, List.set_cons_succ]
        refine wpAnyH_done (by kernel_rfl) ?_ _
        go_wp2
        go_ret
        exact ⟨rfl, HG0.out.trans (by first | exact hS0 | exact HG.out.drew)⟩
      | false =>
        have HEQ : Hid (dEq o.c.d d = false) := Lib.hid hq
        have HNN : Hid (∀ (j : Nat) y, j < k + 1 → r.ow[j]? = some y → isKey d y = false) := Lib.hid fun j y hj hy => by
          by_cases e : j = k
          · subst e; rw [ho] at hy; cases hy; exact hq
          · exact HN.out j y (by omega) hy
        clear hq ho
        go_wp2
        refine wp_region_held_drew (S := fun v => Chg none W v) (by kernel_rfl) hS0 (fun _ => ?_)
        refine wpAnyH_take (i := 0) (oi := ⟨some 15, _, _, _, _, _⟩) (v := ?_) rfl (by kernel_rfl) (by kernel_rfl) (by kernel_rfl) (fun _ _ _ h => h) (Or.inl ⟨by rfl, ?_⟩) (by assumption) ?_
        rotate_left
        · intro v hSv; (try dsimp only at hSv); skip; go_simp; (try with_reducible rfl)
        try simp only [Act.put, List.setIfInBounds_toArray, List.set_cons_zero, List.set_cons_succ]
        refine wpAnyH_take (i := 1) (oi := ⟨some 16, _, _, _, _, _⟩) (v := ?_) rfl (by kernel_rfl) (by kernel_rfl) (by kernel_rfl) (fun _ _ _ h => h) (Or.inl ⟨by rfl, ?_⟩) (by assumption) ?_
        rotate_left
        · intro v hSv; (try dsimp only at hSv); skip; go_simp; (try with_reducible rfl)
        try simp only [Act.put, List.setIfInBounds_toArray, List.set_cons_zero, List.set_cons_succ]
        refine wpAnyH_take (i := 2) (oi := ⟨some 17, _, _, _, _, _⟩) (v := ?_) rfl (by kernel_rfl) (by kernel_rfl) (by kernel_rfl) (fun _ _ _ h => h) (Or.inl ⟨by rfl, ?_⟩) (by assumption) ?_
        rotate_left
        · intro v hSv; (try dsimp only at hSv); skip; go_simp; (try with_reducible rfl)
        try simp only [Act.put, List.setIfInBounds_toArray, List.set_cons_zero, List.set_cons_succ]
        refine wpAnyH_take (i := 3) (oi := ⟨some 18, _, _, _, _, _⟩) (v := .slice (some ⟨rb, 0, none⟩) r.ow.length c5) rfl (by kernel_rfl) (by kernel_rfl) (by kernel_rfl) (fun _ _ _ h => h) (Or.inl ⟨by rfl, ?_⟩) (by assumption) ?_
        · intro v hSv; have z := HC.out v hSv; go_simp
        try simp only [Act.put, List.setIfInBounds_toArray, List.set_cons_zero, List.set_cons_succ]
        refine wpAnyH_take (i := 4) (oi := ⟨some 19, _, _, _, _, _⟩) (v := ?_) rfl (by kernel_rfl) (by kernel_rfl) (by kernel_rfl) (fun _ _ _ h => h) (Or.inl ⟨by rfl, ?_⟩) (by assumption) ?_
        rotate_left
        · intro v hSv; (try dsimp only at hSv); skip; go_simp; (try with_reducible rfl)
        try simp only [Act.put, List.setIfInBounds_toArray, List.set_cons_zero, List.set_cons_succ]
        refine wpAnyH_take (i := 5) (oi := ⟨some 20, _, _, _, _, _⟩) (v := ?_) rfl (by kernel_rfl) (by kernel_rfl) (by kernel_rfl) (fun _ _ _ h => h) (Or.inl ⟨by rfl, ?_⟩) (by assumption) ?_
        rotate_left
        · intro v hSv; (try dsimp only at hSv); skip; go_simp; (try with_reducible rfl)
        try simp only [Act.put, List.setIfInBounds_toArray, List.set_cons_zero, List.set_cons_succ]
        refine wpAnyH_take (i := 6) (oi := ⟨some 21, _, _, _, _, _⟩) (v := ?_) rfl (by kernel_rfl) (by kernel_rfl) (by kernel_rfl) (fun _ _ _ h => h) (Or.inl ⟨by rfl, ?_⟩) (by assumption) ?_
        rotate_left
        · intro v hSv; (try dsimp only at hSv); skip; go_simp; (try with_reducible rfl)
        try simp only [Act.put, List.setIfInBounds_toArray, List.set_cons_zero, List.set_cons_succ]
        refine wpAnyH_take (i := 7) (oi := ⟨some 22, _, _, _, _, _⟩) (v := ?_) rfl (by kernel_rfl) (by kernel_rfl) (by kernel_rfl) (fun _ _ _ h => h) (Or.inl ⟨by rfl, ?_⟩) (by assumption) ?_
        rotate_left
        · intro v hSv; (try dsimp only at hSv); skip; go_simp; (try with_reducible rfl)
        try simp only [Act.put, List.setIfInBounds_toArray, List.set_cons_zero, List.set_cons_succ]
        refine wpAnyH_take (i := 8) (oi := ⟨some 23, _, _, _, _, _⟩) (v := .agg (o.c.d.cells).toArray) rfl (by kernel_rfl) (by kernel_rfl) (by kernel_rfl) (fun _ _ _ h => h) (yieldsIf_load_mid (by rfl) 31 _ rfl rb (k * 37) rfl (o.c.d.cells) _ (fun v h => HRO.out v h) Try.underlying31 rfl HIO.out) (by assumption) ?_
        try simp only [Act.put, List.setIfInBounds_toArray, List.set_cons_zero, List.set_cons_succ]
        refine wpAnyH_take (i := 9) (oi := ⟨some 24, _, _, _, _, _⟩) (v := .agg (d.cells).toArray) rfl (by kernel_rfl) (by kernel_rfl) (by kernel_rfl) (fun _ _ _ h => h) (yieldsIf_load_mid (by rfl) 31 _ rfl w.heap.size 0 rfl (d.cells) _ (fun v h => HRG.out v h) Try.underlying31 rfl HI31.out) (by assumption) ?_
        try simp only [Act.put, List.setIfInBounds_toArray, List.set_cons_zero, List.set_cons_succ]
        refine wpAnyH_take (i := 10) (oi := ⟨some 25, _, _, _, _, _⟩) (v := .bool false) rfl (by kernel_rfl) (by kernel_rfl) (by kernel_rfl) (fun _ _ _ h => h) (Or.inl ⟨by rfl, ?_⟩) (by assumption) ?_
        · intro v hSv
          exact eql_yield o.c.d d v false HEQ.out _ _ _ _ _ rfl rfl rfl
        try simp only [Act.put, List.setIfInBounds_toArray, List.set_cons_zero, List.set_cons_succ]
        refine wpAnyH_done (by kernel_rfl) ?_ _
        go_wp2
        go_roundw
        case rel => exact ⟨k + 1, by omega, by first | rfl | go_num, HNN, Lib.hid (by first | exact hS0 | exact HG.out.drew)⟩
        case measure => first | omega | (simp only [intOf]; omega) | (simp [intOf]; omega)
    · have hkl : k = r.ow.length := by omega
      subst hkl
      have hdd : decide ((r.ow.length : Int) < (r.ow.length : Int)) = false := by rw [decide_eq_false_iff_not]; omega
      have HRES : Hid (rOwn r d = none) := Lib.hid (findIdx_no fun j y hy => HN.out j y (List.getElem?_eq_some_iff.1 hy).1 hy)
      obtain rfl := HZ.out.symm.trans HRES.out
      go_wp2
      go_ret
      exact ⟨rfl, HG0.out.trans HG.out⟩
end Go.Proofs.Ytnpmfigcfikdgaa
