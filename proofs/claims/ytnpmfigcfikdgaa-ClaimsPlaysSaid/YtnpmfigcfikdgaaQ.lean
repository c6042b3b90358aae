/-
  A claim is held against itself: equal. Same (12) on slices that tell one claim.
-/
import Derived.Test.YtnpmfigcfikdgaaV
import Derived.Test.YtnpmfigcfikdgaaJ
import Derived.Laws.StructEq
namespace Go.Proofs.Ytnpmfigcfikdgaa
open Go.RowKit Go.Maps

theorem run_all_loop (f : Nat → Option Bool × Unit → Sem (ForInStep (Option Bool × Unit))) (P : Program) (w : World)
    (hf : ∀ i s, i < 32 → (f i s).run P w = .ok (ForInStep.yield (none, ())) w) :
    ∀ l : List Nat, (∀ i ∈ l, i < 32) → (forIn l (none, ()) f).run P w = .ok (none, ()) w
  | [], _ => by simp [List.forIn_nil, Sem.run_pure]
  | i :: l, h => by
    simp only [List.forIn_cons, Sem.run_bind, hf i (none, ()) (h i (by simp)), Result.andThen_ok]
    exact run_all_loop f P w hf l (fun j hj => h j (by simp [hj]))

theorem part5 (g : Dig) (i : Nat) (hi : i < 32) (w : World) : ∃ b, (part 5 g.cells.toArray (i * 1)).run Try.prog w = .ok (.int .u8 b) w := by
  obtain ⟨b, _, _, hb⟩ := g.cell i hi
  refine ⟨b, ?_⟩
  have g5 := Try.isAgg5
  unfold part
  simp [Sem.run_bind, g5, hb, Sem.run_pure]

theorem same31 (d : Nat) (g : Dig) (w : World) : (Op.equalIn (d + 1 + 1) 31 (.agg g.cells.toArray) (.agg g.cells.toArray)).run Try.prog w = .ok true w := by
  have z5 := Try.sizeOf5
  have hin : ∀ x : Int, (Op.equalIn (d + 1) 5 (.int .u8 x) (.int .u8 x)).run Try.prog w = .ok true w := fun x => by
    rw [run_equalIn_int w d 5 .u8 .u8 _ _ Try.underlying5]
    simp
  generalize d + 1 = dd at *
  unfold Op.equalIn
  simp only [Sem.run_bind, run_underlying Try.underlying31, Result.andThen_ok, z5]
  rw [Std.Legacy.Range.forIn_eq_forIn_range', show List.range' [:32].start [:32].size [:32].step = List.range' 0 32 1 from rfl]
  rw [run_all_loop _ Try.prog w (fun i s hi => by
    obtain ⟨b, hb⟩ := part5 g i hi w
    simp only [Sem.run_bind, hb, Result.andThen_ok, hin]
    rfl) _ (by intro i hi; simp at hi; omega)]
  rfl

theorem eqFields_refl {P : Program} (d : Nat) (xs : Array Value) (w : World) : ∀ fs : List Field, (∀ f ∈ fs, ∃ v, (part f.type xs f.offset).run P w = .ok v w ∧ (Op.equalIn d f.type v v).run P w = .ok true w) →
    (Op.eqFields d xs xs fs).run P w = .ok true w
  | [], _ => by simp [Op.eqFields]
  | f :: fs, h => by
    obtain ⟨v, h1, h2⟩ := h f (by simp)
    have ih := eqFields_refl d xs w fs (fun g hg => h g (by simp [hg]))
    simp only [Op.eqFields, Sem.run_ite]
    split
    · simp only [Sem.run_bind, h1, h2, Result.andThen_ok]
      simpa using ih
    · exact ih

theorem same33 (c : Cl) (w : World) : (Op.equalIn 10000 33 (.agg c.cells.toArray) (.agg c.cells.toArray)).run Try.prog w = .ok true w := by
  have hu := Try.underlying33
  have hst : Try.prog.underlying 33 = some (.struct (Try.prog.fieldsOf 33)) := by unfold Program.fieldsOf; rw [hu]
  rw [show (10000 : Nat) = 9999 + 1 from rfl, run_equalIn_struct w 9999 33 _ _ hst (by kernel_rfl)]
  refine eqFields_refl _ _ _ _ ?_
  have g31 := Try.isAgg31 w
  have z31 := Try.sizeOf31 w
  have ht := cl_at c.d c.node c.inc c.count c.gone
  obtain ⟨t1, t2, t3, t4⟩ := ht
  unfold Program.fieldsOf
  rw [hu]
  intro f hf
  simp only [List.mem_cons, List.not_mem_nil, or_false] at hf
  have hex : c.cells.toArray.extract 0 32 = c.d.cells.toArray := by
    apply Array.ext'
    simp [Cl.cells, clCells, c.d.cells_len]
  rcases hf with rfl | rfl | rfl | rfl | rfl
  · refine ⟨.agg c.d.cells.toArray, ?_, same31 9997 c.d w⟩
    unfold part
    simp only [Sem.run_bind, g31, z31, Result.andThen_ok, if_true]
    simp [Sem.run_pure, hex]
  · refine ⟨.int .i64 c.node, ?_, by rw [run_equalIn_int w 9998 3 .i64 .i64 _ _ Try.underlying3]; simp⟩
    unfold part
    simp only [Sem.run_bind, Try.isAgg3 w, Result.andThen_ok]
    rw [show c.cells.toArray[32]? = some (.int .i64 c.node) from t1]
    rfl
  · refine ⟨.int .u64 c.inc, ?_, by rw [run_equalIn_int w 9998 22 .u64 .u64 _ _ Try.underlying22]; simp⟩
    unfold part
    simp only [Sem.run_bind, Try.isAgg22 w, Result.andThen_ok]
    rw [show c.cells.toArray[33]? = some (.int .u64 c.inc) from t2]
    rfl
  · refine ⟨.int .u64 c.count, ?_, by rw [run_equalIn_int w 9998 22 .u64 .u64 _ _ Try.underlying22]; simp⟩
    unfold part
    simp only [Sem.run_bind, Try.isAgg22 w, Result.andThen_ok]
    rw [show c.cells.toArray[34]? = some (.int .u64 c.count) from t3]
    rfl
  · refine ⟨.bool c.gone, ?_, by rw [run_equalIn_bool' w 9998 4 _ _ Try.underlying4]; simp⟩
    unfold part
    simp only [Sem.run_bind, Try.isAgg4 w, Result.andThen_ok]
    rw [show c.cells.toArray[35]? = some (.bool c.gone) from t4]
    rfl

theorem neq33 (c : Cl) (w : World) : (binOp .neq 33 (.agg c.cells.toArray) (.agg c.cells.toArray)).run Try.prog w = .ok (.bool false) w := by
  rw [run_neq_struct, same33 c w]
  rfl
theorem guard33 : Try.prog.eqGuardType Try.prog.depth 33 = false := by kernel_rfl

end Go.Proofs.Ytnpmfigcfikdgaa
