/-
  append(x, make([]byte, k)...) to a row of the call's own.
-/
import Derived.Test.YtdkgecphkppglaaDoorP0
import Derived.Lib.AppendZerosOnto
namespace Go.Proofs.YtdkgecphkppglaaDoor
open Go.RowKit

theorem zeroCells_eq (k : Nat) : Builtin.zeroCells (Value.int .u8 0).cells k = (List.replicate k (Value.int .u8 0)).toArray := by
  have h0 : (Value.int .u8 0).cells = #[.int .u8 0] := rfl
  apply Array.ext
  · simp [Builtin.zeroCells, h0]
  · intro i h1 h2
    simp [Builtin.zeroCells, h0, Nat.mod_one]

theorem append_zeros (w : World) (base : Nat) (v : Value) (n : Nat) (xs : List Value) (hown : w.ownsRow base 5 1 v n xs) (k : Nat) (hk : n + k ≤ 1000000) (hbase : base ≤ w.heap.size) :
    ∃ v' w', (Builtin.append_ #[22, 3] 22 #[v, .int .i64 k]).run Tryd.prog w = .ok v' w' ∧ w'.ownsRow base 5 1 v' (n + k) (xs ++ List.replicate k (.int .u8 0)) ∧ w.grownBy w' v.ownBlock := by
  obtain ⟨i0, hi, hz0, hz1, hz2⟩ := info_parts Tryd.info5
  have hw : IntKind.i64.wrap (k : Int) = k := by rw [IntKind.wrap_i64]; omega
  have hneg : ¬ ((k : Int) < 0) := by omega
  have h48i : ¬ (281474976710656 < (k : Int) * (i0.bytes : Int)) := by rw [hz2]; omega
  have hk48 : ¬ (281474976710656 < (k : Int)) := by omega
  have hlen : (xs ++ List.replicate k (Value.int .u8 0)).length = (n + k) * 1 := by rw [List.length_append, hown.1, List.length_replicate]; omega
  have hxs := hown.1
  have hgrow : ∀ (b : Option Addr) (cap : Nat), (Builtin.firstCells i0.size n (.slice b n cap)).run Tryd.prog w.drew = .ok xs.toArray w.drew → cap < n + k → 0 < k → v = .slice b n cap →
      ∃ v' w', (Builtin.append_ #[22, 3] 22 #[v, .int .i64 k]).run Tryd.prog w = .ok v' w' ∧ w'.ownsRow base 5 1 v' (n + k) (xs ++ List.replicate k (.int .u8 0)) ∧ w.grownBy w' v.ownBlock := by
    intro b cap hold hlt h0 hv
    subst hv
    have hge := grownCap_ge w (n + k) cap 5
    have hcm : grownCap w (n + k) cap 5 ≤ maxLen := grownCap_le_maxLen w (n + k) cap 5 (by unfold maxLen; omega)
    refine ⟨_, _, Lib.run_append_grow_zeros (P := Tryd.prog) w 22 3 22 5 i0 (.int .u8 0) .i64 .i64 Tryd.underlying22 Tryd.underlying3 hi hz0 b n cap xs hold k h0 (by omega) hlt (by omega) (by rw [hz2]; omega) (by
      rw [hz2]
      have h1 := nextslicecap_le hlt
      omega), ?_, ⟨rfl, rfl, rfl, by simp, fun _ hj _ => Below.heap_alloc w.drew _ _ hj⟩⟩
    refine ⟨hlen, .inr ⟨w.heap.size, _, _, rfl, hbase, heap_alloc_new w.drew _, hge, hcm, ?_, ?_⟩⟩
    · simp only [Array.size_append, List.size_toArray, zeroCells_eq, hxs, List.length_replicate]
      omega
    · rw [zeroCells_eq, ← hlen, Array.toList_append, Array.toList_append]
      exact List.take_left
  rcases hown.2 with ⟨rfl, rfl⟩ | ⟨g, cap, cur, rfl, hbg, hg, hnc, hcm, hcs, htake⟩
  · have hx : xs = [] := List.eq_nil_of_length_eq_zero (by simpa using hown.1)
    subst hx
    by_cases h0 : k = 0
    · subst h0
      refine ⟨.slice none 0 0, w, ?_, World.ownsRow_nil w base 5 1, World.grownBy.refl w _⟩
      simp [Builtin.append_, run_underlying Tryd.underlying22, run_underlying Tryd.underlying3, sizeOf, typeInfo, hi, asInt, asIntOf, IntKind.wrap_i64]
    · exact hgrow none 0 (by simp [Builtin.firstCells]) (by omega) (by omega) rfl
  · by_cases hroom : n + k ≤ cap
    · have hst := run_storeCells_at Tryd.prog g n 5 (List.replicate k (Value.int .u8 0)) 0 cur w hg (by simp; omega) (by intro x hx; rw [List.eq_of_mem_replicate hx]; rfl)
      simp only [Nat.add_zero] at hst
      refine ⟨.slice (some ⟨g, 0, none⟩) (n + k) cap, w.setRow g (cur.toList.take n ++ List.replicate k (Value.int .u8 0) ++ cur.toList.drop (n + (List.replicate k (Value.int .u8 0)).length)).toArray, ?_, ?_, chg_setRow w g _⟩
      · by_cases h0 : k = 0
        · subst h0
          simp [Builtin.append_, run_underlying Tryd.underlying22, run_underlying Tryd.underlying3, sizeOf, typeInfo, hi, hz1, asInt, asIntOf, IntKind.wrap_i64, hnc, Addr.add_lit]
          rw [setRow_self w g cur 5 (0, 0) hg]
          rfl
        · simp [Builtin.append_, run_underlying Tryd.underlying22, run_underlying Tryd.underlying3, sizeOf, typeInfo, zeroValue, hi, hz0, hz1, hz2, asInt, asIntOf, hw, hneg, hroom, h0, zeroCells_eq, Addr.add_lit, hk48]
          rw [hst]
          simp
      · refine ⟨hlen, .inr ⟨g, cap, _, rfl, hbg, setRow_heap w g cur _ 5 _ hg, hroom, hcm, ?_, ?_⟩⟩
        · simp only [List.size_toArray, List.length_append, List.length_take, List.length_drop, List.length_replicate, Array.length_toList]
          omega
        · rw [Nat.mul_one] at htake
          rw [htake, ← hlen]
          exact List.take_left
    · refine hgrow (some ⟨g, 0, none⟩) cap ?_ (by omega) (by omega) rfl
      have hl : (loadCells ⟨g, 0, none⟩ xs.length).run Tryd.prog w.drew = .ok xs.toArray w.drew := run_loadCells_list w.drew ⟨g, 0, none⟩ xs (fun j u hu => hown.cells (g := g) rfl j u hu)
      have hxn : xs.length = n := by omega
      rw [hxn] at hl
      simp [Builtin.firstCells, hz1, hl]

theorem wpList_append_zeros {w : World} {ops : Array Oper} {rest : List Oper} {o : Oper} {a : Act} {Q : Exit → Act → World → Prop} (hgd : o.guard = none) (s x : Operand)
    (ho : o.op = .call { callee := .builtin .append, args := #[s, x], argTypes := #[22, 3] }) (hty : o.type = 22) (base : Nat) (v : Value) (n : Nat) (xs : List Value) (hs : a.eval s = v) (hown : w.ownsRow base 5 1 v n xs)
    (kI : Int) (hx : a.eval x = .int .i64 kI) (hk0 : 0 ≤ kI) (hk : (n : Int) + kI ≤ 1000000) (hbase : base ≤ w.heap.size)
    (h : ∀ (k : Nat) v' w', kI = (k : Int) → w'.ownsRow base 5 1 v' (n + k) (xs ++ List.replicate k (.int .u8 0)) → w.grownBy w' v.ownBlock → wpList Tryd.prog ops Q rest (a.put o.dst v') w') : wpList Tryd.prog ops Q (o :: rest) a w := by
  obtain ⟨k, rfl⟩ : ∃ k : Nat, kI = (k : Int) := ⟨kI.toNat, by omega⟩
  obtain ⟨v', w', hrun, h1, h2⟩ := append_zeros w base v n xs hown k (by omega) hbase
  exact Lib.wpList_append_run w hgd s x 22 3 ho v _ hs hx v' w' (by rw [hty]; exact hrun) (h k v' w' rfl h1 h2)

end Go.Proofs.YtdkgecphkppglaaDoor
