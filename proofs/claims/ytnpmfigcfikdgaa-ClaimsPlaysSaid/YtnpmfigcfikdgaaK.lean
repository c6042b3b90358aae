/-
  Rows of cells made of elements of k cells each: reading one, writing one.
-/
import Derived.Test.YtnpmfigcfikdgaaL
import Derived.Laws.CopyOwn
namespace Go.Proofs.Ytnpmfigcfikdgaa
open Go.RowKit

section
variable {α : Type} (cells : α → List Value) (k : Nat)

theorem flat_len (hk : ∀ a, (cells a).length = k) : ∀ L : List α, (L.flatMap cells).length = L.length * k
  | [] => by simp
  | a :: L => by rw [List.flatMap_cons, List.length_append, hk, flat_len hk L, List.length_cons, Nat.succ_mul]; omega

theorem flat_get (hk : ∀ a, (cells a).length = k) : ∀ (L : List α) (i j : Nat) (a : α), L[i]? = some a → j < k → (L.flatMap cells)[i * k + j]? = (cells a)[j]?
  | [], _, _, _, h, _ => by simp at h
  | x :: L, 0, j, a, h, hj => by
    simp at h; subst h
    rw [List.flatMap_cons, Nat.zero_mul, Nat.zero_add, List.getElem?_append_left (by rw [hk]; exact hj)]
  | x :: L, i + 1, j, a, h, hj => by
    rw [List.flatMap_cons, Nat.succ_mul, List.getElem?_append_right (by rw [hk]; omega), hk, show i * k + k + j - k = i * k + j by omega]
    exact flat_get hk L i j a (by simpa using h) hj

theorem flat_set (hk : ∀ a, (cells a).length = k) : ∀ (L : List α) (i j : Nat) (a a' : α) (v : Value), L[i]? = some a → j < k → cells a' = (cells a).set j v →
    (L.flatMap cells).set (i * k + j) v = (L.set i a').flatMap cells
  | [], _, _, _, _, _, h, _, _ => by simp at h
  | x :: L, 0, j, a, a', v, h, hj, he => by
    simp at h; subst h
    rw [List.flatMap_cons, Nat.zero_mul, Nat.zero_add, List.set_cons_zero, List.flatMap_cons, List.set_append_left _ _ (by rw [hk]; exact hj), he]
  | x :: L, i + 1, j, a, a', v, h, hj, he => by
    rw [List.flatMap_cons, Nat.succ_mul, List.set_append_right _ _ (by rw [hk]; omega), hk, show i * k + k + j - k = i * k + j by omega, List.set_cons_succ, List.flatMap_cons,
      flat_set hk L i j a a' v (by simpa using h) hj he]
end

/-- Block b holds these cells, told as a list. -/
def BlkL (w : World) (b : Nat) (cs : List Value) (T : TypeId) : Prop := Blk w b cs.toArray T

theorem BlkL.cell {w : World} {b : Nat} {cs : List Value} {T : TypeId} (h : BlkL w b cs T) (i : Nat) : w.cell? ⟨b, i, none⟩ = cs[i]? := by
  rw [Blk.cell h]; simp
theorem BlkL.set {w : World} {b : Nat} {cs : List Value} {T : TypeId} (h : BlkL w b cs T) (i : Nat) (v : Value) :
    BlkL (w.setCell ⟨b, i, none⟩ v) b (cs.set i v) T := by
  have := Blk.set h i v
  unfold BlkL
  simpa using this

/-- copy, of elements of k cells each, to the head of a block of the call's own. -/
theorem wpList_copy_sized {P : Program} {w : World} {ops : Array Oper} {rest : List Oper} {o : Oper} {a : Act} {Q : Exit → Act → World → Prop} (hgd : o.guard = none) (d s : Operand) (dT sT : TypeId)
    (ho : o.op = .call { callee := .builtin .copy, args := #[d, s], argTypes := #[dT, sT] }) (elem k : Nat) (hu : P.underlying dT = some (.slice elem)) (hsz : (P.info? elem).map (·.size) = some k)
    (g dLen dCap : Nat) (ad : Addr) (sLen sCap : Nat) (hd : a.eval d = .slice (some ⟨g, 0, none⟩) dLen dCap) (hs : a.eval s = .slice (some ad) sLen sCap)
    (cur : Array Value) (t : TypeId) (hg : w.heap[g]? = some (.cells cur t (0, 0))) (cs : List Value) (hn : cs.length = Nat.min sLen dLen * k)
    (hsrc : ∀ j v, cs[j]? = some v → w.cell? (ad.add j) = some v) (hfit : cs.length ≤ cur.size) (h1 : ∀ v ∈ cs, v.oneCell' = true)
    (h : ∀ w', BlkL w' g (cs ++ cur.toList.drop cs.length) t → Chg (some g) w w' → wpList P ops Q rest (a.put o.dst (goInt (Nat.min sLen dLen))) w') : wpList P ops Q (o :: rest) a w := by
  refine wpList_plain hgd fun K hK => ?_
  have hl := run_loadCells_list (P := P) w ad cs hsrc
  have hst := run_storeCells_at P g 0 t cs 0 cur w hg (by simpa using hfit) h1
  have hrun : (Builtin.copy_ #[dT, sT] o.type #[.slice (some ⟨g, 0, none⟩) dLen dCap, .slice (some ad) sLen sCap]).run P w =
      .ok (goInt (Nat.min sLen dLen)) (w.setRow g (cs ++ cur.toList.drop cs.length).toArray) := by
    cases hq : P.info? elem with
    | none => simp [hq] at hsz
    | some i =>
      have hi : i.size = k := by simpa [hq] using hsz
      have hmin : min sLen dLen * k = cs.length := hn.symm
      simp [Builtin.copy_, run_underlying hu, Builtin.lenOf, Builtin.firstCells, sizeOf, typeInfo, hq, hi, hmin, hl, hst]
  unfold Oper.wp
  simp [execOp, ho, resolve, invoke, builtin, hd, hs, hrun, Result.andThen]
  refine hK _ _ (h _ ?_ ⟨rfl, rfl, rfl, by simp [World.setRow], fun i _ hn => setRow_other w g i _ (by simpa using hn)⟩)
  exact setRow_heap w g _ _ t _ hg

end Go.Proofs.Ytnpmfigcfikdgaa
