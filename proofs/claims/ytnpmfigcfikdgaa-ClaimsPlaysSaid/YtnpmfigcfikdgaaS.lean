/-
  Walks over package claims: the document's Same (12), on slices that tell one claim.
-/
import Derived.Test.YtnpmfigcfikdgaaQ
namespace Go.Proofs.Ytnpmfigcfikdgaa
open Go.RowKit Go.Maps

/-- A slice that tells nothing, or one claim. -/
def SentAt (w : World) (v : Value) : Option Cl → Prop
  | none => v = .slice none 0 0
  | some c => ∃ b, v = .slice (some ⟨b, 0, none⟩) 1 1 ∧ Blk w b c.cells.toArray 33
theorem Sent.at_ {w w' : World} {v : Value} {o : Option Cl} (h : Sent w w' v o) : SentAt w' v o := by
  cases o with
  | none => exact h
  | some c => obtain ⟨b, h1, h2, _⟩ := h; exact ⟨b, h1, h2⟩
theorem SentAt.kept {S : Nat → Prop} {v v' : World} {x : Value} {o : Option Cl} (h : SentAt v x o) (hk : Kept S v v') (hn : ∀ b, x = .slice (some ⟨b, 0, none⟩) 1 1 → ¬ S b) : SentAt v' x o := by
  cases o with
  | none => exact h
  | some c =>
    obtain ⟨b, h1, h2⟩ := h
    exact ⟨b, h1, (hk.block b (Blk.lt h2) (hn b h1)).trans h2⟩
theorem SentAt.chg {v v' : World} {x : Value} {o : Option Cl} (h : SentAt v x o) (hk : Chg none v v') : SentAt v' x o :=
  h.kept (Kept.of_chg hk) (fun _ _ e => by cases e)

theorem neq_yield (c : Cl) (v : World) (ρ : Operand → Value) (o : Oper) (x y : Operand) (ty : TypeId) (ho : o.op = .binOp .neq 33 x y ty) (hx : ρ x = .agg c.cells.toArray) (hy : ρ y = .agg c.cells.toArray) :
    (execOp ρ o).run Try.prog v = .ok (.value (.bool false)) v := by
  have zz := run_eqGuard_agg (P := Try.prog) v .neq 33 x y c.cells.toArray c.cells.toArray guard33
  have z := neq33 c v
  unfold execOp
  simp only [ho, hx, hy]
  simp only [Sem.run_bind, zz, z, Result.andThen_ok]
  rfl

set_option maxRecDepth 100000 in
set_option maxHeartbeats 2000000 in
theorem same_any (o : Option Cl) (x y : Value) (w : World) (hx : SentAt w x o) (hy : SentAt w y o) :
    Calls Try.prog 12 #[x, y] w fun e w' => e = .returned (.bool true) ∧ Chg none w w' := by
  cases o with
  | none =>
    have e1 : x = .slice none 0 0 := hx
    have e2 : y = .slice none 0 0 := hy
    subst e1 e2
    clear hx hy
    go_enter Try.func12, Try.ntmps12
    go_wp2
    go_loop [5] (fun s5 => s5 = .int .i64 0) (fun _ => 0)
    case atStart => rfl
    case round =>
      subst hrel
      go_wp2
      go_ret
      exact ⟨rfl, Chg.refl _ _⟩
  | some c =>
    obtain ⟨bx, rfl, hbx⟩ := hx
    obtain ⟨by_, rfl, hby⟩ := hy
    have HX : Hid (∀ v, Chg none w v → v.rangeAt bx 0 c.cells) := Lib.hid fun v hv => rangeAt_chg (rangeAt_blk hbx) hv (by simp)
    have HY : Hid (∀ v, Chg none w v → v.rangeAt by_ 0 c.cells) := Lib.hid fun v hv => rangeAt_chg (rangeAt_blk hby) hv (by simp)
    have HI33 : Hid ((Try.prog.info? 33).map (·.size) = some c.cells.length) := Lib.hid (by rw [show c.cells.length = 36 from clCells_len _ _ _ _ _]; kernel_rfl)
    clear hbx hby
    go_enter Try.func12, Try.ntmps12
    go_wp2
    go_loopw [5] (fun s5 wr => (s5 = .int .i64 0 ∨ s5 = .int .i64 1) ∧ Hid (Chg none w wr)) (fun i _ => 1 - (intOf i).toNat)
    case atStart => exact ⟨.inl rfl, Lib.hid (Chg.refl _ _)⟩
    case round =>
      obtain ⟨rfl | rfl, HG⟩ := hrel
      · go_wp2
        have hS0 : Chg none w wr.drew := HG.out.drew
        refine wp_region_held_drew (S := fun v => Chg none w v) (by kernel_rfl) hS0 (fun _ => ?_)
        refine wpAnyH_take (i := 0) (oi := ⟨some 17, _, _, _, _, _⟩) (v := ?_) rfl (by kernel_rfl) (by kernel_rfl) (by kernel_rfl) (fun _ _ _ h => h) (Or.inl ⟨by rfl, ?_⟩) (by assumption) ?_
        rotate_left
        · intro v hSv; (try dsimp only at hSv); skip; go_simp; (try with_reducible rfl)
        try simp only [Act.put, List.setIfInBounds_toArray, List.set_cons_zero, List.set_cons_succ]
        refine wpAnyH_take (i := 1) (oi := ⟨some 18, _, _, _, _, _⟩) (v := ?_) rfl (by kernel_rfl) (by kernel_rfl) (by kernel_rfl) (fun _ _ _ h => h) (Or.inl ⟨by rfl, ?_⟩) (by assumption) ?_
        rotate_left
        · intro v hSv; (try dsimp only at hSv); skip; go_simp; (try with_reducible rfl)
        try simp only [Act.put, List.setIfInBounds_toArray, List.set_cons_zero, List.set_cons_succ]
        refine wpAnyH_take (i := 2) (oi := ⟨some 19, _, _, _, _, _⟩) (v := ?_) rfl (by kernel_rfl) (by kernel_rfl) (by kernel_rfl) (fun _ _ _ h => h) (Or.inl ⟨by rfl, ?_⟩) (by assumption) ?_
        rotate_left
        · intro v hSv; (try dsimp only at hSv); skip; go_simp; (try with_reducible rfl)
        try simp only [Act.put, List.setIfInBounds_toArray, List.set_cons_zero, List.set_cons_succ]
        refine wpAnyH_take (i := 3) (oi := ⟨some 20, _, _, _, _, _⟩) (v := .agg (c.cells).toArray) rfl (by kernel_rfl) (by kernel_rfl) (by kernel_rfl) (fun _ _ _ h => h) (yieldsIf_load_mid (by rfl) 33 _ rfl bx 0 rfl (c.cells) _ (fun v h => HX.out v h) Try.underlying33 rfl HI33.out) (by assumption) ?_
        try simp only [Act.put, List.setIfInBounds_toArray, List.set_cons_zero, List.set_cons_succ]
        refine wpAnyH_take (i := 4) (oi := ⟨some 21, _, _, _, _, _⟩) (v := ?_) rfl (by kernel_rfl) (by kernel_rfl) (by kernel_rfl) (fun _ _ _ h => h) (Or.inl ⟨by rfl, ?_⟩) (by assumption) ?_
        rotate_left
        · intro v hSv; (try dsimp only at hSv); skip; go_simp; (try with_reducible rfl)
        try simp only [Act.put, List.setIfInBounds_toArray, List.set_cons_zero, List.set_cons_succ]
        refine wpAnyH_take (i := 5) (oi := ⟨some 22, _, _, _, _, _⟩) (v := ?_) rfl (by kernel_rfl) (by kernel_rfl) (by kernel_rfl) (fun _ _ _ h => h) (Or.inl ⟨by rfl, ?_⟩) (by assumption) ?_
        rotate_left
        · intro v hSv; (try dsimp only at hSv); skip; go_simp; (try with_reducible rfl)
        try simp only [Act.put, List.setIfInBounds_toArray, List.set_cons_zero, List.set_cons_succ]
        refine wpAnyH_take (i := 6) (oi := ⟨some 23, _, _, _, _, _⟩) (v := ?_) rfl (by kernel_rfl) (by kernel_rfl) (by kernel_rfl) (fun _ _ _ h => h) (Or.inl ⟨by rfl, ?_⟩) (by assumption) ?_
        rotate_left
        · intro v hSv; (try dsimp only at hSv); skip; go_simp; (try with_reducible rfl)
        try simp only [Act.put, List.setIfInBounds_toArray, List.set_cons_zero, List.set_cons_succ]
        refine wpAnyH_take (i := 7) (oi := ⟨some 24, _, _, _, _, _⟩) (v := .agg (c.cells).toArray) rfl (by kernel_rfl) (by kernel_rfl) (by kernel_rfl) (fun _ _ _ h => h) (yieldsIf_load_mid (by rfl) 33 _ rfl by_ 0 rfl (c.cells) _ (fun v h => HY.out v h) Try.underlying33 rfl HI33.out) (by assumption) ?_
        try simp only [Act.put, List.setIfInBounds_toArray, List.set_cons_zero, List.set_cons_succ]
        refine wpAnyH_take (i := 8) (oi := ⟨some 25, _, _, _, _, _⟩) (v := .bool false) rfl (by kernel_rfl) (by kernel_rfl) (by kernel_rfl) (fun _ _ _ h => h) (Or.inl ⟨by rfl, ?_⟩) (by assumption) ?_
        · intro v hSv
          exact neq_yield c v _ _ _ _ _ rfl rfl rfl
        try simp only [Act.put, List.setIfInBounds_toArray, List.set_cons_zero, List.set_cons_succ]
        refine wpAnyH_done (by kernel_rfl) ?_ _
        go_wp2
        go_roundw
        case rel => exact ⟨.inr rfl, Lib.hid hS0⟩
        case measure => simp [intOf]
      · go_wp2
        go_ret
        exact ⟨rfl, HG.out⟩

end Go.Proofs.Ytnpmfigcfikdgaa
