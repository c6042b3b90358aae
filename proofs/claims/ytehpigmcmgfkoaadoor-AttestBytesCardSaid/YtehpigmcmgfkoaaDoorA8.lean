/-
  The document's attest: Make; two results, held against each other.
-/
import Derived.Test.YtehpigmcmgfkoaaDoorA7
import Derived.Test.YtehpigmcmgfkoaaDoorR11
namespace Go.Proofs.YtehpigmcmgfkoaaDoor
open Go.RowKit

def sameAtt (a b : Att) : Bool := a.k.1 == b.k.1 && (a.r.1 == b.r.1 && (a.n == b.n && a.t.1 == b.t.1))
theorem sameAtt_iff (a b : Att) : sameAtt a b = true ↔ a = b := by
  obtain ⟨k, r, n, t⟩ := a
  obtain ⟨k', r', n', t'⟩ := b
  unfold sameAtt
  simp only [Bool.and_eq_true, beq_iff_eq, Att.mk.injEq, Subtype.ext_iff]
theorem Tryd.und46 : Tryd.prog.underlying 46 = some (.struct (Tryd.prog.fieldsOf 46)) := by kernel_rfl
theorem Tryd.held46 : Tryd.prog.stoodInHeld 46 = false := by kernel_rfl
theorem guard46 : Tryd.prog.eqGuardType Tryd.prog.depth 46 = false := by kernel_rfl

theorem extract_list {l x : List Value} {o n : Nat} (h : (l.drop o).take n = x) : l.toArray.extract o (o + n) = x.toArray := by
  rw [← h]; simp
theorem att_take_k (a : Att) : ((attCells a).drop 0).take 32 = byteVals a.k.1 := by
  unfold attCells
  rw [List.drop_zero]
  exact List.take_left' (by rw [byteVals_len, a.k.2])
theorem att_take_r (a : Att) : ((attCells a).drop 32).take 32 = byteVals a.r.1 := by
  unfold attCells
  rw [List.drop_left' (by rw [byteVals_len, a.k.2])]
  exact List.take_left' (by rw [byteVals_len, a.r.2])
theorem att_take_t (a : Att) : ((attCells a).drop 65).take 32 = byteVals a.t.1 := by
  unfold attCells
  have h : byteVals a.k.1 ++ (byteVals a.r.1 ++ (Value.int .i64 a.n :: byteVals a.t.1)) = (byteVals a.k.1 ++ (byteVals a.r.1 ++ [Value.int .i64 a.n])) ++ byteVals a.t.1 := by simp
  rw [h, List.drop_left' (by rw [List.length_append, List.length_append, byteVals_len, byteVals_len, a.k.2, a.r.2]; rfl)]
  exact List.take_of_length_le (by rw [byteVals_len, a.t.2]; exact Nat.le_refl _)
theorem part30 (a : Att) (o : Nat) (x : List Value) (h : ((attCells a).drop o).take 32 = x) (w : World) : (part 30 (attCells a).toArray o).run Tryd.prog w = .ok (.agg x.toArray) w := by
  have z30 : ∀ w, (sizeOf 30).run Tryd.prog w = .ok 32 w := fun _ => by kernel_rfl
  have a30 : ∀ w, (isAgg 30).run Tryd.prog w = .ok true w := fun _ => by kernel_rfl
  unfold part
  simp only [Sem.run_bind, a30, Result.andThen_ok, if_true, z30, Sem.run_pure]
  rw [extract_list h]
theorem part64 (a : Att) (w : World) : (part 3 (attCells a).toArray 64).run Tryd.prog w = .ok (.int .i64 a.n) w := by
  have a3 := Tryd.isAgg3
  have hg : (attCells a).toArray[64]? = some (.int .i64 a.n) := by rw [List.getElem?_toArray]; exact att64 a
  unfold part
  simp [Sem.run_bind, a3, hg, Sem.run_pure]

theorem eql46 (a b : Att) (w : World) : (binOp .eql 46 (.agg (attCells a).toArray) (.agg (attCells b).toArray)).run Tryd.prog w = .ok (.bool (sameAtt a b)) w := by
  have h30 := fun (x y : Dg) (w : World) => equalIn30 9997 x.1 y.1 x.2 y.2 w
  have h3 := fun (x y : Int) (w : World) => run_equalIn_int (P := Tryd.prog) w 9998 3 .i64 .i64 x y Tryd.underlying3
  simp only [Nat.reduceAdd] at h30 h3
  rw [run_eql_struct, show (10000 : Nat) = 9999 + 1 from rfl, run_equalIn_agg w 9999 46 _ _ Tryd.und46 Tryd.held46]
  simp only [Program.fieldsOf, Tryd.underlying46]
  have pk := fun (a : Att) (w : World) => part30 a 0 _ (att_take_k a) w
  have pr := fun (a : Att) (w : World) => part30 a 32 _ (att_take_r a) w
  have pt := fun (a : Att) (w : World) => part30 a 65 _ (att_take_t a) w
  simp only [Op.eqFields, Sem.run_bind, Sem.run_ite, pk, pr, pt, part64, h30, h3, Result.andThen_ok, Sem.run_pure]
  unfold sameAtt
  cases (a.k.1 == b.k.1) <;> cases (a.r.1 == b.r.1) <;> by_cases hn : a.n = b.n <;> cases (a.t.1 == b.t.1) <;> simp [hn]

end Go.Proofs.YtehpigmcmgfkoaaDoor
