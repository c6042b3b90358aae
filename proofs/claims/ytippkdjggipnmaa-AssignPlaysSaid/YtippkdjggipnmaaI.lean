/-
  Walks over package assign: the fittest peer.
-/
import Derived.Test.YtippkdjggipnmaaG
import Derived.Test.YtippkdjggipnmaaH
namespace Go.Proofs.Ytippkdjggipnmaa
open Go.RowKit Go.Maps

def rankM (p : Pl) (c k : Nat) : List Int := [p.ts c k, (p.pe.getD k default).ak, (p.pe.getD k default).de, (k : Int)]
def fitsB (p : Pl) (k : Nat) : Bool := !(banB (p.pe.getD k default)) && !(decide (p.win ≤ (p.pe.getD k default).ak))
def fitNext (p : Pl) (c k : Nat) (o : Option Nat) : Option Nat := match o with | none => some k | some j => if 0 ≤ cmpL (rankM p c k) (rankM p c j) then some j else some k
def fitK (p : Pl) (c : Nat) : Nat → Option Nat
  | 0 => none
  | k + 1 => if fitsB p k then fitNext p c k (fitK p c k) else fitK p c k
def fitM (p : Pl) (c : Nat) : Option Nat := fitK p c p.pe.length
def leastR (p : Pl) (c : Nat) (o : Option Nat) : List Int := match o with | none => [0, 0, 0, 0] | some j => rankM p c j
theorem leastR_len (p : Pl) (c : Nat) (o : Option Nat) : (leastR p c o).length = 4 := by cases o <;> rfl
theorem fitK_lt (p : Pl) (c : Nat) : ∀ k j, fitK p c k = some j → j < k
  | 0, j, h => by cases h
  | k + 1, j, h => by
    unfold fitK at h
    split at h
    · unfold fitNext at h
      split at h
      · cases h; omega
      · rename_i i hi
        have := fitK_lt p c k i hi
        split at h <;> (cases h; omega)
    · have := fitK_lt p c k j h
      omega

def bestV (o : Option Nat) : Value := match o with | none => .int .i64 0 | some c => .int .i64 c
def ints (L : List Int) : List Value := L.map (fun a => Value.int .i64 a)

/-- What stands at each round's head. -/
def FitRel (p : Pl) (c : Nat) (w : World) (k : Nat) (s4 s5 : Value) (bl : Nat) (wr : World) : Prop :=
  s4 = bestV (fitK p c k) ∧ s5 = .bool (fitK p c k).isSome ∧ BlkL wr bl (ints (leastR p c (fitK p c k))) 76 ∧ Chg none w wr

theorem FitRel.skip {p : Pl} {c k bl : Nat} {w wr w' : World} {s4 s5 : Value} (h : FitRel p c w k s4 s5 bl wr) (hf : fitsB p k = false) (g : Chg none wr w') : FitRel p c w (k + 1) s4 s5 bl w' := by
  obtain ⟨h1, h2, h3, h4⟩ := h
  have e : fitK p c (k + 1) = fitK p c k := by rw [fitK, hf]; rfl
  refine ⟨by rw [e]; exact h1, by rw [e]; exact h2, by rw [e]; exact Blk.chg h3 g (by simp), h4.trans g⟩

theorem FitRel.worse {p : Pl} {c k j bl : Nat} {w wr w' : World} {s4 s5 : Value} (h : FitRel p c w k s4 s5 bl wr) (hf : fitsB p k = true) (hj : fitK p c k = some j) (hc : 0 ≤ cmpL (rankM p c k) (rankM p c j)) (g : Chg none wr w') : FitRel p c w (k + 1) s4 s5 bl w' := by
  obtain ⟨h1, h2, h3, h4⟩ := h
  have e : fitK p c (k + 1) = fitK p c k := by rw [fitK, hf, hj]; unfold fitNext; rw [if_pos rfl]; simp only; rw [if_pos hc]
  refine ⟨by rw [e]; exact h1, by rw [e]; exact h2, by rw [e]; exact Blk.chg h3 g (by simp), h4.trans g⟩

def betterB (p : Pl) (c k : Nat) : Bool := match fitK p c k with | none => true | some j => !(decide (0 ≤ cmpL (rankM p c k) (rankM p c j)))

theorem FitRel.better {p : Pl} {c k bl : Nat} {w w' : World} (hf : fitsB p k = true) (hc : betterB p c k = true) (hb : BlkL w' bl (ints (rankM p c k)) 76) (g : Chg none w w') : FitRel p c w (k + 1) (.int .i64 k) (.bool true) bl w' := by
  have e : fitK p c (k + 1) = some k := by
    rw [fitK, hf]; unfold fitNext; rw [if_pos rfl]
    unfold betterB at hc
    split
    · rfl
    · rename_i j hj
      rw [hj] at hc
      rw [if_neg (by simpa using hc)]
  exact ⟨by rw [e]; rfl, by rw [e]; rfl, by rw [e]; exact hb, g⟩

/-- What the two regions read. -/
def FitR (b m c k bx : Nat) (win F : Int) (x : Pr) (w0 v : World) : Prop :=
  v.cell? ⟨b, 4, none⟩ = some (.map (some m)) ∧ v.cell? ⟨bx, 0, none⟩ = some (.int .i64 x.ak) ∧ v.cell? ⟨bx, 1, none⟩ = some (.int .i64 x.de) ∧ v.cell? ⟨b, 0, none⟩ = some (.int .i64 win) ∧
  (Instr.lookup 42 (.map (some m)) (.agg #[.int .i64 (c : Int), .int .i64 (k : Int)]) false).run Try.prog v = .ok (.int .i64 F) v ∧ Chg none w0 v
def FitS (b m c k bx : Nat) (win F : Int) (x : Pr) (w0 v : World) : Prop := Hid (FitR b m c k bx win F x w0 v ∧ ∃ n p, MapT v m n p ∧ p c k = F ∧ k < 64 ∧ c < 100)

theorem FitS.chg {b m c k bx : Nat} {win F : Int} {x : Pr} {w0 v v' : World} (h : FitS b m c k bx win F x w0 v) (g : Chg none v v') : FitS b m c k bx win F x w0 v' := by
  obtain ⟨⟨h1, h2, h3, h4, h5, h6⟩, n, p, hm, hp, hk, hc⟩ := h
  have hm' : MapT v' m n p := hm.block (g.block m hm.lt (by simp))
  refine ⟨⟨World.grownBy.cell g h1 (by simp), World.grownBy.cell g h2 (by simp), World.grownBy.cell g h3 (by simp), World.grownBy.cell g h4 (by simp), ?_, h6.trans g⟩, n, p, hm', hp, hk, hc⟩
  rw [← hp]
  exact hm'.look c k ⟨by omega, by omega⟩ ⟨by omega, by omega⟩
theorem FitS.drew {b m c k bx : Nat} {win F : Int} {x : Pr} {w0 v : World} (h : FitS b m c k bx win F x w0 v) : FitS b m c k bx win F x w0 v.drew := h.chg (Chg.refl _ _).drew

set_option maxRecDepth 100000 in
set_option maxHeartbeats 8000000 in
theorem fit_any (c : Nat) (w : World) (q : Qb) (n : Nat) (p : Pl) (h : PlanAt w q n p) (ho : p.ok n) (hc : c < 100) :
    Calls Try.prog 30 #[.pointer (some ⟨q.b, 0, none⟩), .int .i64 c] w fun e w' => e = .returned (optPair (fitM p c)) ∧ Chg none w w' := by
  obtain ⟨c1, c2, o0, o1, o2, o3, o4, fz⟩ := h.open
  have hnp := ho.np
  have hlb := h.lt (g := q.b) (.inl rfl)
  have hlp := h.lt (g := q.p) (.inr (.inr (.inl rfl)))
  have hic : I64 (c : Int) := ⟨by omega, by omega⟩
  have HP := Lib.hid (fun (v : World) (g : Chg none w v) => h.chg g)
  have HML := Lib.hid (fun (v : World) (k : Nat) (g : Chg none w v) (hk : k < 64) => (h.chg g).map.look c k hic ⟨by omega, by omega⟩)
  have HO := Lib.hid ho
  unfold fitM
  generalize hM : p.pe.length = M at *
  have HM := Lib.hid hM
  clear h ho hic hM o1 o2
  go_enter Try.func30, Try.ntmps30
  go_wp2
  go_step3
  go_wp2
  go_step3
  go_wp2
  go_loopw [4, 5, 15] (fun s4 s5 i wr => ∃ k : Nat, k ≤ M ∧ i = .int .i64 k ∧ Hid (FitRel p c w k s4 s5 w.heap.size wr)) (fun _ _ i _ => M - (intOf i).toNat)
  case atStart => exact ⟨0, Nat.zero_le _, rfl, Lib.hid ⟨rfl, rfl, Blk.new _ _ _, (Chg.refl _ _).alloc _⟩⟩
  case round =>
    obtain ⟨k, hk, rfl, HR⟩ := hrel
    by_cases hlt : k < M
    · obtain ⟨rfl, rfl, hbl, hg⟩ := HR.out
      obtain ⟨x, hx⟩ : ∃ x, p.pe[k]? = some x := ⟨_, List.getElem?_eq_getElem (by rw [HM.out]; exact hlt)⟩
      obtain ⟨x0, x1, xf⟩ := (HP.out wr hg).peer hx
      have hz := hg.size
      have HG := Lib.hid hg
      have HB := Lib.hid hbl
      have HX := Lib.hid (getD_of hx)
      have hzb := Blk.lt hbl
      have y0 := World.grownBy.cell hg o0 (by simp)
      have y4 := World.grownBy.cell hg o4 (by simp)
      have HI : Hid (∀ W, Calls Try.prog 43 #[.agg #[.int .i64 x.ak, .int .i64 x.de]] W fun e w' => e = .returned (.bool (banB x)) ∧ Chg none W w') :=
        Lib.hid (fun W => (isBanned_any x W).mono fun e w' h => ⟨h.1, by rw [h.2]; exact (Chg.refl _ _).alloc _⟩)
      obtain ⟨F, hF⟩ : ∃ F, p.ts c k = F := ⟨_, rfl⟩
      have hS0 : FitS q.b q.m c k wr.heap.size p.win F x wr (wr.alloc (.cells #[.int .i64 x.ak, .int .i64 x.de] 68)) := by
        have gw := (Chg.refl none wr).alloc (.cells #[.int .i64 x.ak, .int .i64 x.de] 68)
        have hb := Blk.new wr #[.int .i64 x.ak, .int .i64 x.de] 68
        refine ⟨⟨World.grownBy.cell gw y4 (by simp), by rw [hb.cell]; rfl, by rw [hb.cell]; rfl, World.grownBy.cell gw y0 (by simp), ?_, gw⟩, n, p.ts, (HP.out _ (hg.trans gw)).map, hF, by omega, hc⟩
        rw [← hF]
        exact HML.out _ k (hg.trans gw) (by omega)
      have HF := Lib.hid hF
      clear hg hbl hx hF
      by_cases hban : banB x = true
      · rw [hban] at HI
        have HFB : Hid (fitsB p k = false) := Lib.hid (by unfold fitsB; rw [HX.out, hban]; rfl)
        clear hban
        go_wp2
        refine wp_region_held_drew (S := fun v => FitS q.b q.m c k wr.heap.size p.win F x wr v) (by kernel_rfl) hS0.drew (fun hS0d => ?_)
        refine wpAnyH_take (i := 0) (oi := ⟨some 20, _, _, _, _, _⟩) (v := .agg #[.int .i64 x.ak, .int .i64 x.de]) rfl (by kernel_rfl) (by kernel_rfl) (by kernel_rfl) (fun _ _ _ h => h) (Or.inl ⟨by rfl, ?_⟩) (by assumption) ?_
        · intro v hSv; obtain ⟨⟨z0, z1, z2, z3, z4, z5⟩, _⟩ := hSv.out; go_simp
        try simp only [Act.put, List.setIfInBounds_toArray, List.set_cons_zero, List.set_cons_succ]
        refine wpAnyH_ready (rs := [1]) (by kernel_rfl) (by simp) ?_
        refine AllReadyH.cons (o := ⟨some 21, _, _, _, _, _⟩) rfl (fun K hK => ?_) (AllReadyH.nil)
        go_simp
        go_at_call 43
        refine (HI.out _).mono ?_
        rintro e w5 ⟨rfl, hg5⟩
        have hS5 := hS0d.chg hg5
        clear hg5
        go_wp2_with fail
        refine hK.out _ _ hS5 (fun _ => ?_)
        clear hK K
        try simp only [Act.put, List.setIfInBounds_toArray, List.set_cons_zero, List.set_cons_succ]
        refine wpAnyH_take (i := 2) (oi := ⟨some 22, _, _, _, _, _⟩) (v := ?_) rfl (by kernel_rfl) (by kernel_rfl) (by kernel_rfl) (fun _ _ _ h => h) (Or.inl ⟨by rfl, ?_⟩) (by assumption) ?_
        rotate_left
        · intro w hSw; (try dsimp only at hSw); go_simp; (try with_reducible rfl)
        try simp only [Act.put, List.setIfInBounds_toArray, List.set_cons_zero, List.set_cons_succ]
        refine wpAnyH_take (i := 3) (oi := ⟨some 23, _, _, _, _, _⟩) (v := undef) rfl (by kernel_rfl) (by kernel_rfl) (by kernel_rfl) (fun _ _ _ h => h) (Or.inr ⟨by rfl, by rfl⟩) (by assumption) ?_
        try simp only [Act.put, List.setIfInBounds_toArray, List.set_cons_zero, List.set_cons_succ]
        refine wpAnyH_take (i := 4) (oi := ⟨some 24, _, _, _, _, _⟩) (v := undef) rfl (by kernel_rfl) (by kernel_rfl) (by kernel_rfl) (fun _ _ _ h => h) (Or.inr ⟨by rfl, by rfl⟩) (by assumption) ?_
        try simp only [Act.put, List.setIfInBounds_toArray, List.set_cons_zero, List.set_cons_succ]
        refine wpAnyH_take (i := 5) (oi := ⟨some 25, _, _, _, _, _⟩) (v := undef) rfl (by kernel_rfl) (by kernel_rfl) (by kernel_rfl) (fun _ _ _ h => h) (Or.inr ⟨by rfl, by rfl⟩) (by assumption) ?_
        try simp only [Act.put, List.setIfInBounds_toArray, List.set_cons_zero, List.set_cons_succ]
        refine wpAnyH_take (i := 6) (oi := ⟨some 26, _, _, _, _, _⟩) (v := undef) rfl (by kernel_rfl) (by kernel_rfl) (by kernel_rfl) (fun _ _ _ h => h) (Or.inr ⟨by rfl, by rfl⟩) (by assumption) ?_
        try simp only [Act.put, List.setIfInBounds_toArray, List.set_cons_zero, List.set_cons_succ]
        refine wpAnyH_take (i := 7) (oi := ⟨some 27, _, _, _, _, _⟩) (v := undef) rfl (by kernel_rfl) (by kernel_rfl) (by kernel_rfl) (fun _ _ _ h => h) (Or.inr ⟨by rfl, by rfl⟩) (by assumption) ?_
        try simp only [Act.put, List.setIfInBounds_toArray, List.set_cons_zero, List.set_cons_succ]
        refine wpAnyH_take (i := 8) (oi := ⟨some 28, _, _, _, _, _⟩) (v := undef) rfl (by kernel_rfl) (by kernel_rfl) (by kernel_rfl) (fun _ _ _ h => h) (Or.inr ⟨by rfl, by rfl⟩) (by assumption) ?_
        try simp only [Act.put, List.setIfInBounds_toArray, List.set_cons_zero, List.set_cons_succ]
        refine wpAnyH_take (i := 9) (oi := ⟨some 29, _, _, _, _, _⟩) (v := undef) rfl (by kernel_rfl) (by kernel_rfl) (by kernel_rfl) (fun _ _ _ h => h) (Or.inr ⟨by rfl, by rfl⟩) (by assumption) ?_
        try simp only [Act.put, List.setIfInBounds_toArray, List.set_cons_zero, List.set_cons_succ]
        refine wpAnyH_take (i := 10) (oi := ⟨some 30, _, _, _, _, _⟩) (v := ?_) rfl (by kernel_rfl) (by kernel_rfl) (by kernel_rfl) (fun _ _ _ h => h) (Or.inl ⟨by rfl, ?_⟩) (by assumption) ?_
        rotate_left
        · intro w hSw; (try dsimp only at hSw); go_simp; (try with_reducible rfl)
        try simp only [Act.put, List.setIfInBounds_toArray, List.set_cons_zero, List.set_cons_succ]
        refine wpAnyH_done (by kernel_rfl) ?_ _
        go_wp2
        go_roundw
        case rel => exact ⟨k + 1, by omega, by go_num, Lib.hid (FitRel.skip HR.out HFB.out hS5.out.1.2.2.2.2.2)⟩
        case measure => simp [intOf]; omega
      · have hban' : banB x = false := by simpa using hban
        rw [hban'] at HI
        by_cases hw : p.win ≤ x.ak
        · have HFB : Hid (fitsB p k = false) := Lib.hid (by unfold fitsB; rw [HX.out, hban', decide_eq_true hw]; rfl)
          clear hban hban'
          go_wp2
          refine wp_region_held_drew (S := fun v => FitS q.b q.m c k wr.heap.size p.win F x wr v) (by kernel_rfl) hS0.drew (fun hS0d => ?_)
          refine wpAnyH_take (i := 0) (oi := ⟨some 20, _, _, _, _, _⟩) (v := .agg #[.int .i64 x.ak, .int .i64 x.de]) rfl (by kernel_rfl) (by kernel_rfl) (by kernel_rfl) (fun _ _ _ h => h) (Or.inl ⟨by rfl, ?_⟩) (by assumption) ?_
          · intro v hSv; obtain ⟨⟨z0, z1, z2, z3, z4, z5⟩, _⟩ := hSv.out; go_simp
          try simp only [Act.put, List.setIfInBounds_toArray, List.set_cons_zero, List.set_cons_succ]
          refine wpAnyH_ready (rs := [1]) (by kernel_rfl) (by simp) ?_
          refine AllReadyH.cons (o := ⟨some 21, _, _, _, _, _⟩) rfl (fun K hK => ?_) (AllReadyH.nil)
          go_simp
          go_at_call 43
          refine (HI.out _).mono ?_
          rintro e w5 ⟨rfl, hg5⟩
          have hS5 := hS0d.chg hg5
          clear hg5
          go_wp2_with fail
          refine hK.out _ _ hS5 (fun _ => ?_)
          clear hK K
          try simp only [Act.put, List.setIfInBounds_toArray, List.set_cons_zero, List.set_cons_succ]
          refine wpAnyH_take (i := 2) (oi := ⟨some 22, _, _, _, _, _⟩) (v := ?_) rfl (by kernel_rfl) (by kernel_rfl) (by kernel_rfl) (fun _ _ _ h => h) (Or.inl ⟨by rfl, ?_⟩) (by assumption) ?_
          rotate_left
          · intro w hSw; (try dsimp only at hSw); go_simp; (try with_reducible rfl)
          try simp only [Act.put, List.setIfInBounds_toArray, List.set_cons_zero, List.set_cons_succ]
          refine wpAnyH_take (i := 3) (oi := ⟨some 23, _, _, _, _, _⟩) (v := ?_) rfl (by kernel_rfl) (by kernel_rfl) (by kernel_rfl) (fun _ _ _ h => h) (Or.inl ⟨by rfl, ?_⟩) (by assumption) ?_
          rotate_left
          · intro w hSw; (try dsimp only at hSw); go_simp; (try with_reducible rfl)
          try simp only [Act.put, List.setIfInBounds_toArray, List.set_cons_zero, List.set_cons_succ]
          refine wpAnyH_take (i := 4) (oi := ⟨some 24, _, _, _, _, _⟩) (v := .int .i64 x.ak) rfl (by kernel_rfl) (by kernel_rfl) (by kernel_rfl) (fun _ _ _ h => h) (Or.inl ⟨by rfl, ?_⟩) (by assumption) ?_
          · intro v hSv; obtain ⟨⟨z0, z1, z2, z3, z4, z5⟩, _⟩ := hSv.out; go_simp
          try simp only [Act.put, List.setIfInBounds_toArray, List.set_cons_zero, List.set_cons_succ]
          refine wpAnyH_take (i := 5) (oi := ⟨some 25, _, _, _, _, _⟩) (v := ?_) rfl (by kernel_rfl) (by kernel_rfl) (by kernel_rfl) (fun _ _ _ h => h) (Or.inl ⟨by rfl, ?_⟩) (by assumption) ?_
          rotate_left
          · intro w hSw; (try dsimp only at hSw); go_simp; (try with_reducible rfl)
          try simp only [Act.put, List.setIfInBounds_toArray, List.set_cons_zero, List.set_cons_succ]
          refine wpAnyH_take (i := 6) (oi := ⟨some 26, _, _, _, _, _⟩) (v := ?_) rfl (by kernel_rfl) (by kernel_rfl) (by kernel_rfl) (fun _ _ _ h => h) (Or.inl ⟨by rfl, ?_⟩) (by assumption) ?_
          rotate_left
          · intro w hSw; (try dsimp only at hSw); go_simp; (try with_reducible rfl)
          try simp only [Act.put, List.setIfInBounds_toArray, List.set_cons_zero, List.set_cons_succ]
          refine wpAnyH_take (i := 7) (oi := ⟨some 27, _, _, _, _, _⟩) (v := ?_) rfl (by kernel_rfl) (by kernel_rfl) (by kernel_rfl) (fun _ _ _ h => h) (Or.inl ⟨by rfl, ?_⟩) (by assumption) ?_
          rotate_left
          · intro w hSw; (try dsimp only at hSw); go_simp; (try with_reducible rfl)
          try simp only [Act.put, List.setIfInBounds_toArray, List.set_cons_zero, List.set_cons_succ]
          refine wpAnyH_take (i := 8) (oi := ⟨some 28, _, _, _, _, _⟩) (v := .int .i64 p.win) rfl (by kernel_rfl) (by kernel_rfl) (by kernel_rfl) (fun _ _ _ h => h) (Or.inl ⟨by rfl, ?_⟩) (by assumption) ?_
          · intro v hSv; obtain ⟨⟨z0, z1, z2, z3, z4, z5⟩, _⟩ := hSv.out; go_simp
          try simp only [Act.put, List.setIfInBounds_toArray, List.set_cons_zero, List.set_cons_succ]
          refine wpAnyH_take (i := 9) (oi := ⟨some 29, _, _, _, _, _⟩) (v := ?_) rfl (by kernel_rfl) (by kernel_rfl) (by kernel_rfl) (fun _ _ _ h => h) (Or.inl ⟨by rfl, ?_⟩) (by assumption) ?_
          rotate_left
          · intro w hSw; (try dsimp only at hSw); go_simp; (try with_reducible rfl)
          try simp only [Act.put, List.setIfInBounds_toArray, List.set_cons_zero, List.set_cons_succ]
          refine wpAnyH_take (i := 10) (oi := ⟨some 30, _, _, _, _, _⟩) (v := ?_) rfl (by kernel_rfl) (by kernel_rfl) (by kernel_rfl) (fun _ _ _ h => h) (Or.inl ⟨by rfl, ?_⟩) (by assumption) ?_
          rotate_left
          · intro w hSw; (try dsimp only at hSw); go_simp; (try with_reducible rfl)
          try simp only [Act.put, List.setIfInBounds_toArray, List.set_cons_zero, List.set_cons_succ]
          refine wpAnyH_done (by kernel_rfl) ?_ _
          go_wp2
          go_roundw
          case rel => exact ⟨k + 1, by omega, by go_num, Lib.hid (FitRel.skip HR.out HFB.out hS5.out.1.2.2.2.2.2)⟩
          case measure => simp [intOf]; omega
        · have HFB : Hid (fitsB p k = true) := Lib.hid (by unfold fitsB; rw [HX.out, hban', decide_eq_false hw]; rfl)
          clear hban hban'
          obtain ⟨o, ho⟩ : ∃ o, fitK p c k = o := ⟨_, rfl⟩
          have HRK : Hid (rankM p c k = [F, x.ak, x.de, (k : Int)]) := Lib.hid (by unfold rankM; rw [HX.out, HF.out])
          have HOK := Lib.hid ho
          rw [ho] at HB HR ⊢
          obtain ⟨a0, a1, a2, a3, hlr⟩ : ∃ a0 a1 a2 a3, leastR p c o = [a0, a1, a2, a3] := by cases o <;> exact ⟨_, _, _, _, rfl⟩
          rw [hlr] at HB
          have HLR := Lib.hid hlr
          clear ho hlr
          cases o with
          | none =>
            have HBT : Hid (betterB p c k = true) := Lib.hid (by unfold betterB; rw [HOK.out])
            rw [show (none : Option Nat).isSome = false from rfl]
            go_wp2
            refine wp_region_held_drew (S := fun v => FitS q.b q.m c k wr.heap.size p.win F x wr v) (by kernel_rfl) hS0.drew (fun hS0d => ?_)
            refine wpAnyH_take (i := 0) (oi := ⟨some 20, _, _, _, _, _⟩) (v := .agg #[.int .i64 x.ak, .int .i64 x.de]) rfl (by kernel_rfl) (by kernel_rfl) (by kernel_rfl) (fun _ _ _ h => h) (Or.inl ⟨by rfl, ?_⟩) (by assumption) ?_
            · intro v hSv; obtain ⟨⟨z0, z1, z2, z3, z4, z5⟩, _⟩ := hSv.out; go_simp
            try simp only [Act.put, List.setIfInBounds_toArray, List.set_cons_zero, List.set_cons_succ]
            refine wpAnyH_ready (rs := [1]) (by kernel_rfl) (by simp) ?_
            refine AllReadyH.cons (o := ⟨some 21, _, _, _, _, _⟩) rfl (fun K hK => ?_) (AllReadyH.nil)
            go_simp
            go_at_call 43
            refine (HI.out _).mono ?_
            rintro e w5 ⟨rfl, hg5⟩
            have hS5 := hS0d.chg hg5
            clear hg5
            go_wp2_with fail
            refine hK.out _ _ hS5 (fun _ => ?_)
            clear hK K
            try simp only [Act.put, List.setIfInBounds_toArray, List.set_cons_zero, List.set_cons_succ]
            refine wpAnyH_take (i := 2) (oi := ⟨some 22, _, _, _, _, _⟩) (v := ?_) rfl (by kernel_rfl) (by kernel_rfl) (by kernel_rfl) (fun _ _ _ h => h) (Or.inl ⟨by rfl, ?_⟩) (by assumption) ?_
            rotate_left
            · intro w hSw; (try dsimp only at hSw); go_simp; (try with_reducible rfl)
            try simp only [Act.put, List.setIfInBounds_toArray, List.set_cons_zero, List.set_cons_succ]
            refine wpAnyH_take (i := 3) (oi := ⟨some 23, _, _, _, _, _⟩) (v := ?_) rfl (by kernel_rfl) (by kernel_rfl) (by kernel_rfl) (fun _ _ _ h => h) (Or.inl ⟨by rfl, ?_⟩) (by assumption) ?_
            rotate_left
            · intro w hSw; (try dsimp only at hSw); go_simp; (try with_reducible rfl)
            try simp only [Act.put, List.setIfInBounds_toArray, List.set_cons_zero, List.set_cons_succ]
            refine wpAnyH_take (i := 4) (oi := ⟨some 24, _, _, _, _, _⟩) (v := .int .i64 x.ak) rfl (by kernel_rfl) (by kernel_rfl) (by kernel_rfl) (fun _ _ _ h => h) (Or.inl ⟨by rfl, ?_⟩) (by assumption) ?_
            · intro v hSv; obtain ⟨⟨z0, z1, z2, z3, z4, z5⟩, _⟩ := hSv.out; go_simp
            try simp only [Act.put, List.setIfInBounds_toArray, List.set_cons_zero, List.set_cons_succ]
            refine wpAnyH_take (i := 5) (oi := ⟨some 25, _, _, _, _, _⟩) (v := ?_) rfl (by kernel_rfl) (by kernel_rfl) (by kernel_rfl) (fun _ _ _ h => h) (Or.inl ⟨by rfl, ?_⟩) (by assumption) ?_
            rotate_left
            · intro w hSw; (try dsimp only at hSw); go_simp; (try with_reducible rfl)
            try simp only [Act.put, List.setIfInBounds_toArray, List.set_cons_zero, List.set_cons_succ]
            refine wpAnyH_take (i := 6) (oi := ⟨some 26, _, _, _, _, _⟩) (v := ?_) rfl (by kernel_rfl) (by kernel_rfl) (by kernel_rfl) (fun _ _ _ h => h) (Or.inl ⟨by rfl, ?_⟩) (by assumption) ?_
            rotate_left
            · intro w hSw; (try dsimp only at hSw); go_simp; (try with_reducible rfl)
            try simp only [Act.put, List.setIfInBounds_toArray, List.set_cons_zero, List.set_cons_succ]
            refine wpAnyH_take (i := 7) (oi := ⟨some 27, _, _, _, _, _⟩) (v := ?_) rfl (by kernel_rfl) (by kernel_rfl) (by kernel_rfl) (fun _ _ _ h => h) (Or.inl ⟨by rfl, ?_⟩) (by assumption) ?_
            rotate_left
            · intro w hSw; (try dsimp only at hSw); go_simp; (try with_reducible rfl)
            try simp only [Act.put, List.setIfInBounds_toArray, List.set_cons_zero, List.set_cons_succ]
            refine wpAnyH_take (i := 8) (oi := ⟨some 28, _, _, _, _, _⟩) (v := .int .i64 p.win) rfl (by kernel_rfl) (by kernel_rfl) (by kernel_rfl) (fun _ _ _ h => h) (Or.inl ⟨by rfl, ?_⟩) (by assumption) ?_
            · intro v hSv; obtain ⟨⟨z0, z1, z2, z3, z4, z5⟩, _⟩ := hSv.out; go_simp
            try simp only [Act.put, List.setIfInBounds_toArray, List.set_cons_zero, List.set_cons_succ]
            refine wpAnyH_take (i := 9) (oi := ⟨some 29, _, _, _, _, _⟩) (v := ?_) rfl (by kernel_rfl) (by kernel_rfl) (by kernel_rfl) (fun _ _ _ h => h) (Or.inl ⟨by rfl, ?_⟩) (by assumption) ?_
            rotate_left
            · intro w hSw; (try dsimp only at hSw); go_simp; (try with_reducible rfl)
            try simp only [Act.put, List.setIfInBounds_toArray, List.set_cons_zero, List.set_cons_succ]
            refine wpAnyH_take (i := 10) (oi := ⟨some 30, _, _, _, _, _⟩) (v := ?_) rfl (by kernel_rfl) (by kernel_rfl) (by kernel_rfl) (fun _ _ _ h => h) (Or.inl ⟨by rfl, ?_⟩) (by assumption) ?_
            rotate_left
            · intro w hSw; (try dsimp only at hSw); go_simp; (try with_reducible rfl)
            try simp only [Act.put, List.setIfInBounds_toArray, List.set_cons_zero, List.set_cons_succ]
            refine wpAnyH_done (by kernel_rfl) ?_ _
            go_wp2
            refine wp_region_held_drew (S := fun v => FitS q.b q.m c k wr.heap.size p.win F x wr v) (by kernel_rfl) hS5.drew (fun hS5d => ?_)
            refine wpAnyH_take (i := 0) (oi := ⟨some 31, _, _, _, _, _⟩) (v := ?_) rfl (by kernel_rfl) (by kernel_rfl) (by kernel_rfl) (fun _ _ _ h => h) (Or.inl ⟨by rfl, ?_⟩) (by assumption) ?_
            rotate_left
            · intro w hSw; (try dsimp only at hSw); go_simp; (try with_reducible rfl)
            try simp only [Act.put, List.setIfInBounds_toArray, List.set_cons_zero, List.set_cons_succ]
            refine wpAnyH_take (i := 1) (oi := ⟨some 32, _, _, _, _, _⟩) (v := ?_) rfl (by kernel_rfl) (by kernel_rfl) (by kernel_rfl) (fun _ _ _ h => h) (Or.inl ⟨by rfl, ?_⟩) (by assumption) ?_
            rotate_left
            · intro w hSw; (try dsimp only at hSw); go_simp; (try with_reducible rfl)
            try simp only [Act.put, List.setIfInBounds_toArray, List.set_cons_zero, List.set_cons_succ]
            refine wpAnyH_take (i := 2) (oi := ⟨some 33, _, _, _, _, _⟩) (v := ?_) rfl (by kernel_rfl) (by kernel_rfl) (by kernel_rfl) (fun _ _ _ h => h) (Or.inl ⟨by rfl, ?_⟩) (by assumption) ?_
            rotate_left
            · intro w hSw; (try dsimp only at hSw); go_simp; (try with_reducible rfl)
            try simp only [Act.put, List.setIfInBounds_toArray, List.set_cons_zero, List.set_cons_succ]
            refine wpAnyH_take (i := 3) (oi := ⟨some 34, _, _, _, _, _⟩) (v := .map (some q.m)) rfl (by kernel_rfl) (by kernel_rfl) (by kernel_rfl) (fun _ _ _ h => h) (Or.inl ⟨by rfl, ?_⟩) (by assumption) ?_
            · intro v hSv; obtain ⟨⟨z0, z1, z2, z3, z4, z5⟩, _⟩ := hSv.out; go_simp
            try simp only [Act.put, List.setIfInBounds_toArray, List.set_cons_zero, List.set_cons_succ]
            refine wpAnyH_take (i := 4) (oi := ⟨some 35, _, _, _, _, _⟩) (v := ?_) rfl (by kernel_rfl) (by kernel_rfl) (by kernel_rfl) (fun _ _ _ h => h) (Or.inl ⟨by rfl, ?_⟩) (by assumption) ?_
            rotate_left
            · intro w hSw; (try dsimp only at hSw); go_simp; (try with_reducible rfl)
            try simp only [Act.put, List.setIfInBounds_toArray, List.set_cons_zero, List.set_cons_succ]
            refine wpAnyH_take (i := 5) (oi := ⟨some 36, _, _, _, _, _⟩) (v := ?_) rfl (by kernel_rfl) (by kernel_rfl) (by kernel_rfl) (fun _ _ _ h => h) (Or.inl ⟨by rfl, ?_⟩) (by assumption) ?_
            rotate_left
            · intro w hSw; (try dsimp only at hSw); go_simp; (try with_reducible rfl)
            try simp only [Act.put, List.setIfInBounds_toArray, List.set_cons_zero, List.set_cons_succ]
            refine wpAnyH_take (i := 6) (oi := ⟨some 37, _, _, _, _, _⟩) (v := ?_) rfl (by kernel_rfl) (by kernel_rfl) (by kernel_rfl) (fun _ _ _ h => h) (Or.inl ⟨by rfl, ?_⟩) (by assumption) ?_
            rotate_left
            · intro w hSw; (try dsimp only at hSw); go_simp; (try with_reducible rfl)
            try simp only [Act.put, List.setIfInBounds_toArray, List.set_cons_zero, List.set_cons_succ]
            refine wpAnyH_take (i := 7) (oi := ⟨some 38, _, _, _, _, _⟩) (v := .int .i64 F) rfl (by kernel_rfl) (by kernel_rfl) (by kernel_rfl) (fun _ _ _ h => h) (Or.inl ⟨by rfl, ?_⟩) (by assumption) ?_
            · intro v hSv; obtain ⟨⟨z0, z1, z2, z3, z4, z5⟩, _⟩ := hSv.out; go_simp
            try simp only [Act.put, List.setIfInBounds_toArray, List.set_cons_zero, List.set_cons_succ]
            refine wpAnyH_take (i := 8) (oi := ⟨some 39, _, _, _, _, _⟩) (v := ?_) rfl (by kernel_rfl) (by kernel_rfl) (by kernel_rfl) (fun _ _ _ h => h) (Or.inl ⟨by rfl, ?_⟩) (by assumption) ?_
            rotate_left
            · intro w hSw; (try dsimp only at hSw); go_simp; (try with_reducible rfl)
            try simp only [Act.put, List.setIfInBounds_toArray, List.set_cons_zero, List.set_cons_succ]
            refine wpAnyH_take (i := 9) (oi := ⟨some 40, _, _, _, _, _⟩) (v := .int .i64 x.ak) rfl (by kernel_rfl) (by kernel_rfl) (by kernel_rfl) (fun _ _ _ h => h) (Or.inl ⟨by rfl, ?_⟩) (by assumption) ?_
            · intro v hSv; obtain ⟨⟨z0, z1, z2, z3, z4, z5⟩, _⟩ := hSv.out; go_simp
            try simp only [Act.put, List.setIfInBounds_toArray, List.set_cons_zero, List.set_cons_succ]
            refine wpAnyH_take (i := 10) (oi := ⟨some 41, _, _, _, _, _⟩) (v := ?_) rfl (by kernel_rfl) (by kernel_rfl) (by kernel_rfl) (fun _ _ _ h => h) (Or.inl ⟨by rfl, ?_⟩) (by assumption) ?_
            rotate_left
            · intro w hSw; (try dsimp only at hSw); go_simp; (try with_reducible rfl)
            try simp only [Act.put, List.setIfInBounds_toArray, List.set_cons_zero, List.set_cons_succ]
            refine wpAnyH_take (i := 11) (oi := ⟨some 42, _, _, _, _, _⟩) (v := .int .i64 x.de) rfl (by kernel_rfl) (by kernel_rfl) (by kernel_rfl) (fun _ _ _ h => h) (Or.inl ⟨by rfl, ?_⟩) (by assumption) ?_
            · intro v hSv; obtain ⟨⟨z0, z1, z2, z3, z4, z5⟩, _⟩ := hSv.out; go_simp
            try simp only [Act.put, List.setIfInBounds_toArray, List.set_cons_zero, List.set_cons_succ]
            refine wpAnyH_take (i := 12) (oi := ⟨some 43, _, _, _, _, _⟩) (v := ?_) rfl (by kernel_rfl) (by kernel_rfl) (by kernel_rfl) (fun _ _ _ h => h) (Or.inl ⟨by rfl, ?_⟩) (by assumption) ?_
            rotate_left
            · intro w hSw; (try dsimp only at hSw); go_simp; (try with_reducible rfl)
            try simp only [Act.put, List.setIfInBounds_toArray, List.set_cons_zero, List.set_cons_succ]
            refine wpAnyH_take (i := 13) (oi := ⟨some 44, _, _, _, _, _⟩) (v := ?_) rfl (by kernel_rfl) (by kernel_rfl) (by kernel_rfl) (fun _ _ _ h => h) (Or.inl ⟨by rfl, ?_⟩) (by assumption) ?_
            rotate_left
            · intro w hSw; (try dsimp only at hSw); go_simp; (try with_reducible rfl)
            try simp only [Act.put, List.setIfInBounds_toArray, List.set_cons_zero, List.set_cons_succ]
            refine wpAnyH_ready (rs := [14]) (by kernel_rfl) (by simp) ?_
            refine AllReadyH.cons (o := ⟨some 9, _, _, _, _, _⟩) rfl (fun K hK => ?_) (AllReadyH.nil)
            go_simp
            have hS6 := hS5d.chg ((Chg.refl _ _).alloc (.cells #[Value.int .i64 0, .int .i64 0, .int .i64 0, .int .i64 0] 76))
            refine hK.out _ _ hS6 (fun _ => ?_)
            clear hK K
            try simp only [Act.put, List.setIfInBounds_toArray, List.set_cons_zero, List.set_cons_succ]
            refine wpAnyH_ready (rs := [15]) (by kernel_rfl) (by simp) ?_
            refine AllReadyH.cons (o := ⟨none, _, _, _, _, _⟩) rfl (fun K hK => ?_) (AllReadyH.nil)
            go_simp
            have hS7 := hS5d.chg ((Chg.refl _ _).alloc (.cells #[Value.int .i64 F, .int .i64 x.ak, .int .i64 x.de, .int .i64 (k : Int)] 76))
            refine hK.out _ _ hS7 (fun _ => ?_)
            clear hK K
            refine wpAnyH_done (by kernel_rfl) ?_ _
            have hb5 : BlkL w5 w.heap.size (ints [a0, a1, a2, a3]) 76 := Blk.chg HB.out hS5.out.1.2.2.2.2.2 (by simp)
            have f0 : w5.cell? ⟨w.heap.size, 0, none⟩ = some (.int .i64 a0) := by rw [BlkL.cell hb5]; rfl
            have f1 : w5.cell? ⟨w.heap.size, 1, none⟩ = some (.int .i64 a1) := by rw [BlkL.cell hb5]; rfl
            have f2 : w5.cell? ⟨w.heap.size, 2, none⟩ = some (.int .i64 a2) := by rw [BlkL.cell hb5]; rfl
            have f3 : w5.cell? ⟨w.heap.size, 3, none⟩ = some (.int .i64 a3) := by rw [BlkL.cell hb5]; rfl
            have ff := fun o => Blk.frozen hb5 o
            have hlw := Blk.lt hb5
            have HB5 := Lib.hid hb5
            clear hb5
            go_wp2
            go_quiet (fail)
            go_wp2
            go_region
            all_goals (go_wp2; go_roundw)
            case rel => exact ⟨k + 1, by omega, by go_num, Lib.hid (FitRel.better HFB.out HBT.out (by
              rw [HRK.out]
              have hb7 := ((((BlkL.set (Blk.drewN (Blk.alloc HB5.out (.cells #[.int .i64 F, .int .i64 x.ak, .int .i64 x.de, .int .i64 (k : Int)] 76)) 0) 0 (.int .i64 F)).set 1 (.int .i64 x.ak)).set 2 (.int .i64 x.de)).set 3 (.int .i64 (k : Int)))
              exact hb7) (by
              have hg7 := HG.out.trans hS5.out.1.2.2.2.2.2
              repeat (first | (with_reducible exact hg7) | (with_reducible refine Chg.setNew ?_ _ (Nat.le_refl _) _) | (with_reducible refine Chg.drewN ?_ _) | (with_reducible refine Chg.drew ?_) | (with_reducible refine Chg.alloc ?_ _))))⟩
            case measure => simp [intOf]; omega
          | some j =>
            obtain ⟨Z, hZ⟩ : ∃ Z, cmpL [F, x.ak, x.de, (k : Int)] [a0, a1, a2, a3] = Z := ⟨_, rfl⟩
            have HZ := Lib.hid hZ
            rw [show (some j : Option Nat).isSome = true from rfl]
            by_cases hz0 : 0 ≤ Z
            · have HWS : Hid (0 ≤ cmpL (rankM p c k) (rankM p c j)) := Lib.hid (by
                have e : rankM p c j = [a0, a1, a2, a3] := HLR.out
                rw [HRK.out, e, HZ.out]; exact hz0)
              have dz : decide (0 ≤ Z) = true := decide_eq_true hz0
              clear hZ hz0
              go_wp2
              refine wp_region_held_drew (S := fun v => FitS q.b q.m c k wr.heap.size p.win F x wr v) (by kernel_rfl) hS0.drew (fun hS0d => ?_)
              refine wpAnyH_take (i := 0) (oi := ⟨some 20, _, _, _, _, _⟩) (v := .agg #[.int .i64 x.ak, .int .i64 x.de]) rfl (by kernel_rfl) (by kernel_rfl) (by kernel_rfl) (fun _ _ _ h => h) (Or.inl ⟨by rfl, ?_⟩) (by assumption) ?_
              · intro v hSv; obtain ⟨⟨z0, z1, z2, z3, z4, z5⟩, _⟩ := hSv.out; go_simp
              try simp only [Act.put, List.setIfInBounds_toArray, List.set_cons_zero, List.set_cons_succ]
              refine wpAnyH_ready (rs := [1]) (by kernel_rfl) (by simp) ?_
              refine AllReadyH.cons (o := ⟨some 21, _, _, _, _, _⟩) rfl (fun K hK => ?_) (AllReadyH.nil)
              go_simp
              go_at_call 43
              refine (HI.out _).mono ?_
              rintro e w5 ⟨rfl, hg5⟩
              have hS5 := hS0d.chg hg5
              clear hg5
              go_wp2_with fail
              refine hK.out _ _ hS5 (fun _ => ?_)
              clear hK K
              try simp only [Act.put, List.setIfInBounds_toArray, List.set_cons_zero, List.set_cons_succ]
              refine wpAnyH_take (i := 2) (oi := ⟨some 22, _, _, _, _, _⟩) (v := ?_) rfl (by kernel_rfl) (by kernel_rfl) (by kernel_rfl) (fun _ _ _ h => h) (Or.inl ⟨by rfl, ?_⟩) (by assumption) ?_
              rotate_left
              · intro w hSw; (try dsimp only at hSw); go_simp; (try with_reducible rfl)
              try simp only [Act.put, List.setIfInBounds_toArray, List.set_cons_zero, List.set_cons_succ]
              refine wpAnyH_take (i := 3) (oi := ⟨some 23, _, _, _, _, _⟩) (v := ?_) rfl (by kernel_rfl) (by kernel_rfl) (by kernel_rfl) (fun _ _ _ h => h) (Or.inl ⟨by rfl, ?_⟩) (by assumption) ?_
              rotate_left
              · intro w hSw; (try dsimp only at hSw); go_simp; (try with_reducible rfl)
              try simp only [Act.put, List.setIfInBounds_toArray, List.set_cons_zero, List.set_cons_succ]
              refine wpAnyH_take (i := 4) (oi := ⟨some 24, _, _, _, _, _⟩) (v := .int .i64 x.ak) rfl (by kernel_rfl) (by kernel_rfl) (by kernel_rfl) (fun _ _ _ h => h) (Or.inl ⟨by rfl, ?_⟩) (by assumption) ?_
              · intro v hSv; obtain ⟨⟨z0, z1, z2, z3, z4, z5⟩, _⟩ := hSv.out; go_simp
              try simp only [Act.put, List.setIfInBounds_toArray, List.set_cons_zero, List.set_cons_succ]
              refine wpAnyH_take (i := 5) (oi := ⟨some 25, _, _, _, _, _⟩) (v := ?_) rfl (by kernel_rfl) (by kernel_rfl) (by kernel_rfl) (fun _ _ _ h => h) (Or.inl ⟨by rfl, ?_⟩) (by assumption) ?_
              rotate_left
              · intro w hSw; (try dsimp only at hSw); go_simp; (try with_reducible rfl)
              try simp only [Act.put, List.setIfInBounds_toArray, List.set_cons_zero, List.set_cons_succ]
              refine wpAnyH_take (i := 6) (oi := ⟨some 26, _, _, _, _, _⟩) (v := ?_) rfl (by kernel_rfl) (by kernel_rfl) (by kernel_rfl) (fun _ _ _ h => h) (Or.inl ⟨by rfl, ?_⟩) (by assumption) ?_
              rotate_left
              · intro w hSw; (try dsimp only at hSw); go_simp; (try with_reducible rfl)
              try simp only [Act.put, List.setIfInBounds_toArray, List.set_cons_zero, List.set_cons_succ]
              refine wpAnyH_take (i := 7) (oi := ⟨some 27, _, _, _, _, _⟩) (v := ?_) rfl (by kernel_rfl) (by kernel_rfl) (by kernel_rfl) (fun _ _ _ h => h) (Or.inl ⟨by rfl, ?_⟩) (by assumption) ?_
              rotate_left
              · intro w hSw; (try dsimp only at hSw); go_simp; (try with_reducible rfl)
              try simp only [Act.put, List.setIfInBounds_toArray, List.set_cons_zero, List.set_cons_succ]
              refine wpAnyH_take (i := 8) (oi := ⟨some 28, _, _, _, _, _⟩) (v := .int .i64 p.win) rfl (by kernel_rfl) (by kernel_rfl) (by kernel_rfl) (fun _ _ _ h => h) (Or.inl ⟨by rfl, ?_⟩) (by assumption) ?_
              · intro v hSv; obtain ⟨⟨z0, z1, z2, z3, z4, z5⟩, _⟩ := hSv.out; go_simp
              try simp only [Act.put, List.setIfInBounds_toArray, List.set_cons_zero, List.set_cons_succ]
              refine wpAnyH_take (i := 9) (oi := ⟨some 29, _, _, _, _, _⟩) (v := ?_) rfl (by kernel_rfl) (by kernel_rfl) (by kernel_rfl) (fun _ _ _ h => h) (Or.inl ⟨by rfl, ?_⟩) (by assumption) ?_
              rotate_left
              · intro w hSw; (try dsimp only at hSw); go_simp; (try with_reducible rfl)
              try simp only [Act.put, List.setIfInBounds_toArray, List.set_cons_zero, List.set_cons_succ]
              refine wpAnyH_take (i := 10) (oi := ⟨some 30, _, _, _, _, _⟩) (v := ?_) rfl (by kernel_rfl) (by kernel_rfl) (by kernel_rfl) (fun _ _ _ h => h) (Or.inl ⟨by rfl, ?_⟩) (by assumption) ?_
              rotate_left
              · intro w hSw; (try dsimp only at hSw); go_simp; (try with_reducible rfl)
              try simp only [Act.put, List.setIfInBounds_toArray, List.set_cons_zero, List.set_cons_succ]
              refine wpAnyH_done (by kernel_rfl) ?_ _
              go_wp2
              refine wp_region_held_drew (S := fun v => FitS q.b q.m c k wr.heap.size p.win F x wr v) (by kernel_rfl) hS5.drew (fun hS5d => ?_)
              refine wpAnyH_take (i := 0) (oi := ⟨some 31, _, _, _, _, _⟩) (v := ?_) rfl (by kernel_rfl) (by kernel_rfl) (by kernel_rfl) (fun _ _ _ h => h) (Or.inl ⟨by rfl, ?_⟩) (by assumption) ?_
              rotate_left
              · intro w hSw; (try dsimp only at hSw); go_simp; (try with_reducible rfl)
              try simp only [Act.put, List.setIfInBounds_toArray, List.set_cons_zero, List.set_cons_succ]
              refine wpAnyH_take (i := 1) (oi := ⟨some 32, _, _, _, _, _⟩) (v := ?_) rfl (by kernel_rfl) (by kernel_rfl) (by kernel_rfl) (fun _ _ _ h => h) (Or.inl ⟨by rfl, ?_⟩) (by assumption) ?_
              rotate_left
              · intro w hSw; (try dsimp only at hSw); go_simp; (try with_reducible rfl)
              try simp only [Act.put, List.setIfInBounds_toArray, List.set_cons_zero, List.set_cons_succ]
              refine wpAnyH_take (i := 2) (oi := ⟨some 33, _, _, _, _, _⟩) (v := ?_) rfl (by kernel_rfl) (by kernel_rfl) (by kernel_rfl) (fun _ _ _ h => h) (Or.inl ⟨by rfl, ?_⟩) (by assumption) ?_
              rotate_left
              · intro w hSw; (try dsimp only at hSw); go_simp; (try with_reducible rfl)
              try simp only [Act.put, List.setIfInBounds_toArray, List.set_cons_zero, List.set_cons_succ]
              refine wpAnyH_take (i := 3) (oi := ⟨some 34, _, _, _, _, _⟩) (v := .map (some q.m)) rfl (by kernel_rfl) (by kernel_rfl) (by kernel_rfl) (fun _ _ _ h => h) (Or.inl ⟨by rfl, ?_⟩) (by assumption) ?_
              · intro v hSv; obtain ⟨⟨z0, z1, z2, z3, z4, z5⟩, _⟩ := hSv.out; go_simp
              try simp only [Act.put, List.setIfInBounds_toArray, List.set_cons_zero, List.set_cons_succ]
              refine wpAnyH_take (i := 4) (oi := ⟨some 35, _, _, _, _, _⟩) (v := ?_) rfl (by kernel_rfl) (by kernel_rfl) (by kernel_rfl) (fun _ _ _ h => h) (Or.inl ⟨by rfl, ?_⟩) (by assumption) ?_
              rotate_left
              · intro w hSw; (try dsimp only at hSw); go_simp; (try with_reducible rfl)
              try simp only [Act.put, List.setIfInBounds_toArray, List.set_cons_zero, List.set_cons_succ]
              refine wpAnyH_take (i := 5) (oi := ⟨some 36, _, _, _, _, _⟩) (v := ?_) rfl (by kernel_rfl) (by kernel_rfl) (by kernel_rfl) (fun _ _ _ h => h) (Or.inl ⟨by rfl, ?_⟩) (by assumption) ?_
              rotate_left
              · intro w hSw; (try dsimp only at hSw); go_simp; (try with_reducible rfl)
              try simp only [Act.put, List.setIfInBounds_toArray, List.set_cons_zero, List.set_cons_succ]
              refine wpAnyH_take (i := 6) (oi := ⟨some 37, _, _, _, _, _⟩) (v := ?_) rfl (by kernel_rfl) (by kernel_rfl) (by kernel_rfl) (fun _ _ _ h => h) (Or.inl ⟨by rfl, ?_⟩) (by assumption) ?_
              rotate_left
              · intro w hSw; (try dsimp only at hSw); go_simp; (try with_reducible rfl)
              try simp only [Act.put, List.setIfInBounds_toArray, List.set_cons_zero, List.set_cons_succ]
              refine wpAnyH_take (i := 7) (oi := ⟨some 38, _, _, _, _, _⟩) (v := .int .i64 F) rfl (by kernel_rfl) (by kernel_rfl) (by kernel_rfl) (fun _ _ _ h => h) (Or.inl ⟨by rfl, ?_⟩) (by assumption) ?_
              · intro v hSv; obtain ⟨⟨z0, z1, z2, z3, z4, z5⟩, _⟩ := hSv.out; go_simp
              try simp only [Act.put, List.setIfInBounds_toArray, List.set_cons_zero, List.set_cons_succ]
              refine wpAnyH_take (i := 8) (oi := ⟨some 39, _, _, _, _, _⟩) (v := ?_) rfl (by kernel_rfl) (by kernel_rfl) (by kernel_rfl) (fun _ _ _ h => h) (Or.inl ⟨by rfl, ?_⟩) (by assumption) ?_
              rotate_left
              · intro w hSw; (try dsimp only at hSw); go_simp; (try with_reducible rfl)
              try simp only [Act.put, List.setIfInBounds_toArray, List.set_cons_zero, List.set_cons_succ]
              refine wpAnyH_take (i := 9) (oi := ⟨some 40, _, _, _, _, _⟩) (v := .int .i64 x.ak) rfl (by kernel_rfl) (by kernel_rfl) (by kernel_rfl) (fun _ _ _ h => h) (Or.inl ⟨by rfl, ?_⟩) (by assumption) ?_
              · intro v hSv; obtain ⟨⟨z0, z1, z2, z3, z4, z5⟩, _⟩ := hSv.out; go_simp
              try simp only [Act.put, List.setIfInBounds_toArray, List.set_cons_zero, List.set_cons_succ]
              refine wpAnyH_take (i := 10) (oi := ⟨some 41, _, _, _, _, _⟩) (v := ?_) rfl (by kernel_rfl) (by kernel_rfl) (by kernel_rfl) (fun _ _ _ h => h) (Or.inl ⟨by rfl, ?_⟩) (by assumption) ?_
              rotate_left
              · intro w hSw; (try dsimp only at hSw); go_simp; (try with_reducible rfl)
              try simp only [Act.put, List.setIfInBounds_toArray, List.set_cons_zero, List.set_cons_succ]
              refine wpAnyH_take (i := 11) (oi := ⟨some 42, _, _, _, _, _⟩) (v := .int .i64 x.de) rfl (by kernel_rfl) (by kernel_rfl) (by kernel_rfl) (fun _ _ _ h => h) (Or.inl ⟨by rfl, ?_⟩) (by assumption) ?_
              · intro v hSv; obtain ⟨⟨z0, z1, z2, z3, z4, z5⟩, _⟩ := hSv.out; go_simp
              try simp only [Act.put, List.setIfInBounds_toArray, List.set_cons_zero, List.set_cons_succ]
              refine wpAnyH_take (i := 12) (oi := ⟨some 43, _, _, _, _, _⟩) (v := ?_) rfl (by kernel_rfl) (by kernel_rfl) (by kernel_rfl) (fun _ _ _ h => h) (Or.inl ⟨by rfl, ?_⟩) (by assumption) ?_
              rotate_left
              · intro w hSw; (try dsimp only at hSw); go_simp; (try with_reducible rfl)
              try simp only [Act.put, List.setIfInBounds_toArray, List.set_cons_zero, List.set_cons_succ]
              refine wpAnyH_take (i := 13) (oi := ⟨some 44, _, _, _, _, _⟩) (v := ?_) rfl (by kernel_rfl) (by kernel_rfl) (by kernel_rfl) (fun _ _ _ h => h) (Or.inl ⟨by rfl, ?_⟩) (by assumption) ?_
              rotate_left
              · intro w hSw; (try dsimp only at hSw); go_simp; (try with_reducible rfl)
              try simp only [Act.put, List.setIfInBounds_toArray, List.set_cons_zero, List.set_cons_succ]
              refine wpAnyH_ready (rs := [14]) (by kernel_rfl) (by simp) ?_
              refine AllReadyH.cons (o := ⟨some 9, _, _, _, _, _⟩) rfl (fun K hK => ?_) (AllReadyH.nil)
              go_simp
              have hS6 := hS5d.chg ((Chg.refl _ _).alloc (.cells #[Value.int .i64 0, .int .i64 0, .int .i64 0, .int .i64 0] 76))
              refine hK.out _ _ hS6 (fun _ => ?_)
              clear hK K
              try simp only [Act.put, List.setIfInBounds_toArray, List.set_cons_zero, List.set_cons_succ]
              refine wpAnyH_ready (rs := [15]) (by kernel_rfl) (by simp) ?_
              refine AllReadyH.cons (o := ⟨none, _, _, _, _, _⟩) rfl (fun K hK => ?_) (AllReadyH.nil)
              go_simp
              have hS7 := hS5d.chg ((Chg.refl _ _).alloc (.cells #[Value.int .i64 F, .int .i64 x.ak, .int .i64 x.de, .int .i64 (k : Int)] 76))
              refine hK.out _ _ hS7 (fun _ => ?_)
              clear hK K
              refine wpAnyH_done (by kernel_rfl) ?_ _
              have hb5 : BlkL w5 w.heap.size (ints [a0, a1, a2, a3]) 76 := Blk.chg HB.out hS5.out.1.2.2.2.2.2 (by simp)
              have f0 : w5.cell? ⟨w.heap.size, 0, none⟩ = some (.int .i64 a0) := by rw [BlkL.cell hb5]; rfl
              have f1 : w5.cell? ⟨w.heap.size, 1, none⟩ = some (.int .i64 a1) := by rw [BlkL.cell hb5]; rfl
              have f2 : w5.cell? ⟨w.heap.size, 2, none⟩ = some (.int .i64 a2) := by rw [BlkL.cell hb5]; rfl
              have f3 : w5.cell? ⟨w.heap.size, 3, none⟩ = some (.int .i64 a3) := by rw [BlkL.cell hb5]; rfl
              have ff := fun o => Blk.frozen hb5 o
              have hlw := Blk.lt hb5
              have HB5 := Lib.hid hb5
              clear hb5
              have HCM : Hid (∀ v, v.heap = (w5.alloc (.cells #[.int .i64 F, .int .i64 x.ak, .int .i64 x.de, .int .i64 (k : Int)] 76)).heap → Calls Try.prog 44 #[.slice (some ⟨w5.heap.size, 0, none⟩) 4 4, .slice (some ⟨w.heap.size, 0, none⟩) 4 4] v fun e w' => e = .returned (.int .i64 Z) ∧ w' = v) := Lib.hid fun v hv => by
                have b1 : BlkL v w5.heap.size (ints [F, x.ak, x.de, (k : Int)]) 76 := by unfold BlkL Blk; rw [hv]; exact Blk.new _ _ _
                have b2 : BlkL v w.heap.size (ints [a0, a1, a2, a3]) 76 := by unfold BlkL Blk; rw [hv]; exact Blk.alloc HB5.out _
                have i1 := fun i a (h : [F, x.ak, x.de, (k : Int)][i]? = some a) => (show v.cell? ⟨w5.heap.size, i, none⟩ = some (.int .i64 a) by rw [BlkL.cell b1]; unfold ints; rw [List.getElem?_map, h]; rfl)
                have i2 := fun i a (h : [a0, a1, a2, a3][i]? = some a) => (show v.cell? ⟨w.heap.size, i, none⟩ = some (.int .i64 a) by rw [BlkL.cell b2]; unfold ints; rw [List.getElem?_map, h]; rfl)
                exact (compare_any _ _ _ _ 4 4 v ⟨Blk.lt b1, i1⟩ ⟨Blk.lt b2, i2⟩ rfl rfl).mono fun _ _ h => ⟨by rw [h.1, HZ.out], h.2.symm⟩
              go_wp2
              go_quiet ((go_at_call 44; refine (HCM.out _ ?_).mono (fun _ _ h => ⟨h.1, _, h.2⟩); rfl))
              go_wp2
              go_roundw
              case rel => exact ⟨k + 1, by omega, by go_num, Lib.hid (FitRel.worse HR.out HFB.out HOK.out HWS.out (((hS5.out.1.2.2.2.2.2).alloc _).drewN _))⟩
              case measure => simp [intOf]; omega
            · have HBT : Hid (betterB p c k = true) := Lib.hid (by
                have e : rankM p c j = [a0, a1, a2, a3] := HLR.out
                unfold betterB
                rw [HOK.out]
                show (!(decide (0 ≤ cmpL (rankM p c k) (rankM p c j)))) = true
                rw [HRK.out, e, HZ.out, decide_eq_false hz0]; rfl)
              have dz : decide (0 ≤ Z) = false := decide_eq_false hz0
              clear hZ hz0
              go_wp2
              refine wp_region_held_drew (S := fun v => FitS q.b q.m c k wr.heap.size p.win F x wr v) (by kernel_rfl) hS0.drew (fun hS0d => ?_)
              refine wpAnyH_take (i := 0) (oi := ⟨some 20, _, _, _, _, _⟩) (v := .agg #[.int .i64 x.ak, .int .i64 x.de]) rfl (by kernel_rfl) (by kernel_rfl) (by kernel_rfl) (fun _ _ _ h => h) (Or.inl ⟨by rfl, ?_⟩) (by assumption) ?_
              · intro v hSv; obtain ⟨⟨z0, z1, z2, z3, z4, z5⟩, _⟩ := hSv.out; go_simp
              try simp only [Act.put, List.setIfInBounds_toArray, List.set_cons_zero, List.set_cons_succ]
              refine wpAnyH_ready (rs := [1]) (by kernel_rfl) (by simp) ?_
              refine AllReadyH.cons (o := ⟨some 21, _, _, _, _, _⟩) rfl (fun K hK => ?_) (AllReadyH.nil)
              go_simp
              go_at_call 43
              refine (HI.out _).mono ?_
              rintro e w5 ⟨rfl, hg5⟩
              have hS5 := hS0d.chg hg5
              clear hg5
              go_wp2_with fail
              refine hK.out _ _ hS5 (fun _ => ?_)
              clear hK K
              try simp only [Act.put, List.setIfInBounds_toArray, List.set_cons_zero, List.set_cons_succ]
              refine wpAnyH_take (i := 2) (oi := ⟨some 22, _, _, _, _, _⟩) (v := ?_) rfl (by kernel_rfl) (by kernel_rfl) (by kernel_rfl) (fun _ _ _ h => h) (Or.inl ⟨by rfl, ?_⟩) (by assumption) ?_
              rotate_left
              · intro w hSw; (try dsimp only at hSw); go_simp; (try with_reducible rfl)
              try simp only [Act.put, List.setIfInBounds_toArray, List.set_cons_zero, List.set_cons_succ]
              refine wpAnyH_take (i := 3) (oi := ⟨some 23, _, _, _, _, _⟩) (v := ?_) rfl (by kernel_rfl) (by kernel_rfl) (by kernel_rfl) (fun _ _ _ h => h) (Or.inl ⟨by rfl, ?_⟩) (by assumption) ?_
              rotate_left
              · intro w hSw; (try dsimp only at hSw); go_simp; (try with_reducible rfl)
              try simp only [Act.put, List.setIfInBounds_toArray, List.set_cons_zero, List.set_cons_succ]
              refine wpAnyH_take (i := 4) (oi := ⟨some 24, _, _, _, _, _⟩) (v := .int .i64 x.ak) rfl (by kernel_rfl) (by kernel_rfl) (by kernel_rfl) (fun _ _ _ h => h) (Or.inl ⟨by rfl, ?_⟩) (by assumption) ?_
              · intro v hSv; obtain ⟨⟨z0, z1, z2, z3, z4, z5⟩, _⟩ := hSv.out; go_simp
              try simp only [Act.put, List.setIfInBounds_toArray, List.set_cons_zero, List.set_cons_succ]
              refine wpAnyH_take (i := 5) (oi := ⟨some 25, _, _, _, _, _⟩) (v := ?_) rfl (by kernel_rfl) (by kernel_rfl) (by kernel_rfl) (fun _ _ _ h => h) (Or.inl ⟨by rfl, ?_⟩) (by assumption) ?_
              rotate_left
              · intro w hSw; (try dsimp only at hSw); go_simp; (try with_reducible rfl)
              try simp only [Act.put, List.setIfInBounds_toArray, List.set_cons_zero, List.set_cons_succ]
              refine wpAnyH_take (i := 6) (oi := ⟨some 26, _, _, _, _, _⟩) (v := ?_) rfl (by kernel_rfl) (by kernel_rfl) (by kernel_rfl) (fun _ _ _ h => h) (Or.inl ⟨by rfl, ?_⟩) (by assumption) ?_
              rotate_left
              · intro w hSw; (try dsimp only at hSw); go_simp; (try with_reducible rfl)
              try simp only [Act.put, List.setIfInBounds_toArray, List.set_cons_zero, List.set_cons_succ]
              refine wpAnyH_take (i := 7) (oi := ⟨some 27, _, _, _, _, _⟩) (v := ?_) rfl (by kernel_rfl) (by kernel_rfl) (by kernel_rfl) (fun _ _ _ h => h) (Or.inl ⟨by rfl, ?_⟩) (by assumption) ?_
              rotate_left
              · intro w hSw; (try dsimp only at hSw); go_simp; (try with_reducible rfl)
              try simp only [Act.put, List.setIfInBounds_toArray, List.set_cons_zero, List.set_cons_succ]
              refine wpAnyH_take (i := 8) (oi := ⟨some 28, _, _, _, _, _⟩) (v := .int .i64 p.win) rfl (by kernel_rfl) (by kernel_rfl) (by kernel_rfl) (fun _ _ _ h => h) (Or.inl ⟨by rfl, ?_⟩) (by assumption) ?_
              · intro v hSv; obtain ⟨⟨z0, z1, z2, z3, z4, z5⟩, _⟩ := hSv.out; go_simp
              try simp only [Act.put, List.setIfInBounds_toArray, List.set_cons_zero, List.set_cons_succ]
              refine wpAnyH_take (i := 9) (oi := ⟨some 29, _, _, _, _, _⟩) (v := ?_) rfl (by kernel_rfl) (by kernel_rfl) (by kernel_rfl) (fun _ _ _ h => h) (Or.inl ⟨by rfl, ?_⟩) (by assumption) ?_
              rotate_left
              · intro w hSw; (try dsimp only at hSw); go_simp; (try with_reducible rfl)
              try simp only [Act.put, List.setIfInBounds_toArray, List.set_cons_zero, List.set_cons_succ]
              refine wpAnyH_take (i := 10) (oi := ⟨some 30, _, _, _, _, _⟩) (v := ?_) rfl (by kernel_rfl) (by kernel_rfl) (by kernel_rfl) (fun _ _ _ h => h) (Or.inl ⟨by rfl, ?_⟩) (by assumption) ?_
              rotate_left
              · intro w hSw; (try dsimp only at hSw); go_simp; (try with_reducible rfl)
              try simp only [Act.put, List.setIfInBounds_toArray, List.set_cons_zero, List.set_cons_succ]
              refine wpAnyH_done (by kernel_rfl) ?_ _
              go_wp2
              refine wp_region_held_drew (S := fun v => FitS q.b q.m c k wr.heap.size p.win F x wr v) (by kernel_rfl) hS5.drew (fun hS5d => ?_)
              refine wpAnyH_take (i := 0) (oi := ⟨some 31, _, _, _, _, _⟩) (v := ?_) rfl (by kernel_rfl) (by kernel_rfl) (by kernel_rfl) (fun _ _ _ h => h) (Or.inl ⟨by rfl, ?_⟩) (by assumption) ?_
              rotate_left
              · intro w hSw; (try dsimp only at hSw); go_simp; (try with_reducible rfl)
              try simp only [Act.put, List.setIfInBounds_toArray, List.set_cons_zero, List.set_cons_succ]
              refine wpAnyH_take (i := 1) (oi := ⟨some 32, _, _, _, _, _⟩) (v := ?_) rfl (by kernel_rfl) (by kernel_rfl) (by kernel_rfl) (fun _ _ _ h => h) (Or.inl ⟨by rfl, ?_⟩) (by assumption) ?_
              rotate_left
              · intro w hSw; (try dsimp only at hSw); go_simp; (try with_reducible rfl)
              try simp only [Act.put, List.setIfInBounds_toArray, List.set_cons_zero, List.set_cons_succ]
              refine wpAnyH_take (i := 2) (oi := ⟨some 33, _, _, _, _, _⟩) (v := ?_) rfl (by kernel_rfl) (by kernel_rfl) (by kernel_rfl) (fun _ _ _ h => h) (Or.inl ⟨by rfl, ?_⟩) (by assumption) ?_
              rotate_left
              · intro w hSw; (try dsimp only at hSw); go_simp; (try with_reducible rfl)
              try simp only [Act.put, List.setIfInBounds_toArray, List.set_cons_zero, List.set_cons_succ]
              refine wpAnyH_take (i := 3) (oi := ⟨some 34, _, _, _, _, _⟩) (v := .map (some q.m)) rfl (by kernel_rfl) (by kernel_rfl) (by kernel_rfl) (fun _ _ _ h => h) (Or.inl ⟨by rfl, ?_⟩) (by assumption) ?_
              · intro v hSv; obtain ⟨⟨z0, z1, z2, z3, z4, z5⟩, _⟩ := hSv.out; go_simp
              try simp only [Act.put, List.setIfInBounds_toArray, List.set_cons_zero, List.set_cons_succ]
              refine wpAnyH_take (i := 4) (oi := ⟨some 35, _, _, _, _, _⟩) (v := ?_) rfl (by kernel_rfl) (by kernel_rfl) (by kernel_rfl) (fun _ _ _ h => h) (Or.inl ⟨by rfl, ?_⟩) (by assumption) ?_
              rotate_left
              · intro w hSw; (try dsimp only at hSw); go_simp; (try with_reducible rfl)
              try simp only [Act.put, List.setIfInBounds_toArray, List.set_cons_zero, List.set_cons_succ]
              refine wpAnyH_take (i := 5) (oi := ⟨some 36, _, _, _, _, _⟩) (v := ?_) rfl (by kernel_rfl) (by kernel_rfl) (by kernel_rfl) (fun _ _ _ h => h) (Or.inl ⟨by rfl, ?_⟩) (by assumption) ?_
              rotate_left
              · intro w hSw; (try dsimp only at hSw); go_simp; (try with_reducible rfl)
              try simp only [Act.put, List.setIfInBounds_toArray, List.set_cons_zero, List.set_cons_succ]
              refine wpAnyH_take (i := 6) (oi := ⟨some 37, _, _, _, _, _⟩) (v := ?_) rfl (by kernel_rfl) (by kernel_rfl) (by kernel_rfl) (fun _ _ _ h => h) (Or.inl ⟨by rfl, ?_⟩) (by assumption) ?_
              rotate_left
              · intro w hSw; (try dsimp only at hSw); go_simp; (try with_reducible rfl)
              try simp only [Act.put, List.setIfInBounds_toArray, List.set_cons_zero, List.set_cons_succ]
              refine wpAnyH_take (i := 7) (oi := ⟨some 38, _, _, _, _, _⟩) (v := .int .i64 F) rfl (by kernel_rfl) (by kernel_rfl) (by kernel_rfl) (fun _ _ _ h => h) (Or.inl ⟨by rfl, ?_⟩) (by assumption) ?_
              · intro v hSv; obtain ⟨⟨z0, z1, z2, z3, z4, z5⟩, _⟩ := hSv.out; go_simp
              try simp only [Act.put, List.setIfInBounds_toArray, List.set_cons_zero, List.set_cons_succ]
              refine wpAnyH_take (i := 8) (oi := ⟨some 39, _, _, _, _, _⟩) (v := ?_) rfl (by kernel_rfl) (by kernel_rfl) (by kernel_rfl) (fun _ _ _ h => h) (Or.inl ⟨by rfl, ?_⟩) (by assumption) ?_
              rotate_left
              · intro w hSw; (try dsimp only at hSw); go_simp; (try with_reducible rfl)
              try simp only [Act.put, List.setIfInBounds_toArray, List.set_cons_zero, List.set_cons_succ]
              refine wpAnyH_take (i := 9) (oi := ⟨some 40, _, _, _, _, _⟩) (v := .int .i64 x.ak) rfl (by kernel_rfl) (by kernel_rfl) (by kernel_rfl) (fun _ _ _ h => h) (Or.inl ⟨by rfl, ?_⟩) (by assumption) ?_
              · intro v hSv; obtain ⟨⟨z0, z1, z2, z3, z4, z5⟩, _⟩ := hSv.out; go_simp
              try simp only [Act.put, List.setIfInBounds_toArray, List.set_cons_zero, List.set_cons_succ]
              refine wpAnyH_take (i := 10) (oi := ⟨some 41, _, _, _, _, _⟩) (v := ?_) rfl (by kernel_rfl) (by kernel_rfl) (by kernel_rfl) (fun _ _ _ h => h) (Or.inl ⟨by rfl, ?_⟩) (by assumption) ?_
              rotate_left
              · intro w hSw; (try dsimp only at hSw); go_simp; (try with_reducible rfl)
              try simp only [Act.put, List.setIfInBounds_toArray, List.set_cons_zero, List.set_cons_succ]
              refine wpAnyH_take (i := 11) (oi := ⟨some 42, _, _, _, _, _⟩) (v := .int .i64 x.de) rfl (by kernel_rfl) (by kernel_rfl) (by kernel_rfl) (fun _ _ _ h => h) (Or.inl ⟨by rfl, ?_⟩) (by assumption) ?_
              · intro v hSv; obtain ⟨⟨z0, z1, z2, z3, z4, z5⟩, _⟩ := hSv.out; go_simp
              try simp only [Act.put, List.setIfInBounds_toArray, List.set_cons_zero, List.set_cons_succ]
              refine wpAnyH_take (i := 12) (oi := ⟨some 43, _, _, _, _, _⟩) (v := ?_) rfl (by kernel_rfl) (by kernel_rfl) (by kernel_rfl) (fun _ _ _ h => h) (Or.inl ⟨by rfl, ?_⟩) (by assumption) ?_
              rotate_left
              · intro w hSw; (try dsimp only at hSw); go_simp; (try with_reducible rfl)
              try simp only [Act.put, List.setIfInBounds_toArray, List.set_cons_zero, List.set_cons_succ]
              refine wpAnyH_take (i := 13) (oi := ⟨some 44, _, _, _, _, _⟩) (v := ?_) rfl (by kernel_rfl) (by kernel_rfl) (by kernel_rfl) (fun _ _ _ h => h) (Or.inl ⟨by rfl, ?_⟩) (by assumption) ?_
              rotate_left
              · intro w hSw; (try dsimp only at hSw); go_simp; (try with_reducible rfl)
              try simp only [Act.put, List.setIfInBounds_toArray, List.set_cons_zero, List.set_cons_succ]
              refine wpAnyH_ready (rs := [14]) (by kernel_rfl) (by simp) ?_
              refine AllReadyH.cons (o := ⟨some 9, _, _, _, _, _⟩) rfl (fun K hK => ?_) (AllReadyH.nil)
              go_simp
              have hS6 := hS5d.chg ((Chg.refl _ _).alloc (.cells #[Value.int .i64 0, .int .i64 0, .int .i64 0, .int .i64 0] 76))
              refine hK.out _ _ hS6 (fun _ => ?_)
              clear hK K
              try simp only [Act.put, List.setIfInBounds_toArray, List.set_cons_zero, List.set_cons_succ]
              refine wpAnyH_ready (rs := [15]) (by kernel_rfl) (by simp) ?_
              refine AllReadyH.cons (o := ⟨none, _, _, _, _, _⟩) rfl (fun K hK => ?_) (AllReadyH.nil)
              go_simp
              have hS7 := hS5d.chg ((Chg.refl _ _).alloc (.cells #[Value.int .i64 F, .int .i64 x.ak, .int .i64 x.de, .int .i64 (k : Int)] 76))
              refine hK.out _ _ hS7 (fun _ => ?_)
              clear hK K
              refine wpAnyH_done (by kernel_rfl) ?_ _
              have hb5 : BlkL w5 w.heap.size (ints [a0, a1, a2, a3]) 76 := Blk.chg HB.out hS5.out.1.2.2.2.2.2 (by simp)
              have f0 : w5.cell? ⟨w.heap.size, 0, none⟩ = some (.int .i64 a0) := by rw [BlkL.cell hb5]; rfl
              have f1 : w5.cell? ⟨w.heap.size, 1, none⟩ = some (.int .i64 a1) := by rw [BlkL.cell hb5]; rfl
              have f2 : w5.cell? ⟨w.heap.size, 2, none⟩ = some (.int .i64 a2) := by rw [BlkL.cell hb5]; rfl
              have f3 : w5.cell? ⟨w.heap.size, 3, none⟩ = some (.int .i64 a3) := by rw [BlkL.cell hb5]; rfl
              have ff := fun o => Blk.frozen hb5 o
              have hlw := Blk.lt hb5
              have HB5 := Lib.hid hb5
              clear hb5
              have HCM : Hid (∀ v, v.heap = (w5.alloc (.cells #[.int .i64 F, .int .i64 x.ak, .int .i64 x.de, .int .i64 (k : Int)] 76)).heap → Calls Try.prog 44 #[.slice (some ⟨w5.heap.size, 0, none⟩) 4 4, .slice (some ⟨w.heap.size, 0, none⟩) 4 4] v fun e w' => e = .returned (.int .i64 Z) ∧ w' = v) := Lib.hid fun v hv => by
                have b1 : BlkL v w5.heap.size (ints [F, x.ak, x.de, (k : Int)]) 76 := by unfold BlkL Blk; rw [hv]; exact Blk.new _ _ _
                have b2 : BlkL v w.heap.size (ints [a0, a1, a2, a3]) 76 := by unfold BlkL Blk; rw [hv]; exact Blk.alloc HB5.out _
                have i1 := fun i a (h : [F, x.ak, x.de, (k : Int)][i]? = some a) => (show v.cell? ⟨w5.heap.size, i, none⟩ = some (.int .i64 a) by rw [BlkL.cell b1]; unfold ints; rw [List.getElem?_map, h]; rfl)
                have i2 := fun i a (h : [a0, a1, a2, a3][i]? = some a) => (show v.cell? ⟨w.heap.size, i, none⟩ = some (.int .i64 a) by rw [BlkL.cell b2]; unfold ints; rw [List.getElem?_map, h]; rfl)
                exact (compare_any _ _ _ _ 4 4 v ⟨Blk.lt b1, i1⟩ ⟨Blk.lt b2, i2⟩ rfl rfl).mono fun _ _ h => ⟨by rw [h.1, HZ.out], h.2.symm⟩
              go_wp2
              go_quiet ((go_at_call 44; refine (HCM.out _ ?_).mono (fun _ _ h => ⟨h.1, _, h.2⟩); rfl))
              go_wp2
              go_region
              all_goals (go_wp2; go_roundw)
              case rel => exact ⟨k + 1, by omega, by go_num, Lib.hid (FitRel.better HFB.out HBT.out (by
                rw [HRK.out]
                have hb7 := ((((BlkL.set (Blk.drewN (Blk.alloc HB5.out (.cells #[.int .i64 F, .int .i64 x.ak, .int .i64 x.de, .int .i64 (k : Int)] 76)) 0) 0 (.int .i64 F)).set 1 (.int .i64 x.ak)).set 2 (.int .i64 x.de)).set 3 (.int .i64 (k : Int)))
                exact hb7) (by
                have hg7 := HG.out.trans hS5.out.1.2.2.2.2.2
                repeat (first | (with_reducible exact hg7) | (with_reducible refine Chg.setNew ?_ _ (Nat.le_refl _) _) | (with_reducible refine Chg.drewN ?_ _) | (with_reducible refine Chg.drew ?_) | (with_reducible refine Chg.alloc ?_ _))))⟩
              case measure => simp [intOf]; omega
    · obtain ⟨rfl, rfl, hbl, hg⟩ := HR.out
      have HG := Lib.hid hg
      have hkm : k = M := by omega
      have HKM := Lib.hid hkm
      clear HR hbl hg hkm
      obtain ⟨o, ho⟩ : ∃ o, fitK p c k = o := ⟨_, rfl⟩
      have HOK := Lib.hid ho
      rw [ho]
      clear ho
      cases o with
      | none =>
        go_wp2
        rw [Exit.noGoto_ret]
        go_ret2
        exact ⟨by rw [← HKM.out, HOK.out]; rfl, HG.out⟩
      | some j =>
        go_wp2
        rw [Exit.noGoto_ret]
        go_ret2
        exact ⟨by rw [← HKM.out, HOK.out]; rfl, HG.out⟩

end Go.Proofs.Ytippkdjggipnmaa
