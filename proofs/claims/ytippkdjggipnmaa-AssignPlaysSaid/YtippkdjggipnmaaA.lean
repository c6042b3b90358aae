/-
  Maps keyed by two integers: what stands in one.
-/
import Derived.Test.YtippkdjggipnmaaK
import Derived.Maps.OwnSet
import Derived.Maps.OwnOps
import Derived.WideKeyEntry
import Derived.DeepKeys4
namespace Go.Proofs.Ytippkdjggipnmaa
open Go.RowKit Go.Maps

def I64 (n : Int) : Prop := -9223372036854775808 ≤ n ∧ n ≤ 9223372036854775807
theorem I64.wf {n : Int} (h : I64 n) : (Lit.int .i64 n).wf = true := by
  obtain ⟨h1, h2⟩ := h
  simp [Lit.wf, IntKind.min, IntKind.max, IntKind.signed, IntKind.bits]; omega

theorem Try.laidOut : laidOutB Try.prog = true := by kernel_rfl
theorem row73 : (73 : TypeId) < Try.prog.types.size := of_decide_eq_true (by kernel_rfl)
theorem wide73 : (match Try.prog.underlying 73 with | some (.array _ _) | some (.struct _) => true | _ => false) = true := by kernel_rfl
theorem klaw : WideMaps.KeyLaw Try.prog 73 := deep_law_laid Try.laidOut (m := 3) (by omega) row73 (by kernel_rfl) wide73
theorem law : Keyed Try.prog 73 := Keyed.of_law klaw
theorem key73 : Try.prog.keyType 73 = true := by kernel_rfl
theorem zero3 (w : World) : (zeroValue 3).run Try.prog w = .ok (.int .i64 0) w := by kernel_rfl

def pairKey (a b : Int) : Value := .agg #[.int .i64 a, .int .i64 b]
def pairLit (a b : Int) : Lit := .string (keyBytes [.int .i64 a, .int .i64 b])

theorem key_pair (a b : Int) (ha : I64 a) (hb : I64 b) : keyOf Try.prog 73 (pairKey a b) = some (pairLit a b) := by
  have wa := ha.wf
  have wb := hb.wf
  have hc : Try.prog.cellsOf 73 = 2 := by kernel_rfl
  have hc3 : Try.prog.cellsOf 3 = 1 := by kernel_rfl
  obtain ⟨m, hs⟩ : ∃ m, Try.prog.types.size = m + 1 := ⟨_, (Nat.succ_pred_eq_of_pos (Nat.lt_of_le_of_lt (Nat.zero_le 73) row73)).symm⟩
  have hk := key73
  unfold keyOf pairKey pairLit
  simp only [Try.underlying73]
  rw [if_pos (by simp [hk, Value.formed, Try.underlying73, hc]), hs]
  unfold Program.keyLits
  simp only [Try.underlying73, Value.cells]
  rw [if_pos (by rw [hc]; exact ⟨rfl, by simp⟩)]
  simp [Program.keyLits, Try.underlying3, wa, wb, hc3]

theorem pair_inj {a b c d : Int} (ha : I64 a) (hb : I64 b) (hc : I64 c) (hd : I64 d) (h : pairLit a b = pairLit c d) : a = c ∧ b = d := by
  have := law.inj (key_pair a b ha hb) (h ▸ key_pair c d hc hd)
  simpa [pairKey] using this

/-- Block b is a map of at most n entries which tells, of two integers, f. -/
def MapT (w : World) (b n : Nat) (f : Int → Int → Int) : Prop :=
  ∃ D : DataW Unit, w.ownsMap Try.prog 73 (plainElem Try.prog 3) b n D ∧ ∀ c k, I64 c → I64 k → D.atKey (pairLit c k) (.lit (.int .i64 0)) = .lit (.int .i64 (f c k))

theorem MapT.lt {w : World} {b n : Nat} {f : Int → Int → Int} (h : MapT w b n f) : b < w.heap.size := by
  obtain ⟨D, h, _⟩ := h; exact h.lt
theorem MapT.block {w w' : World} {b n : Nat} {f : Int → Int → Int} (h : MapT w b n f) (he : w'.heap[b]? = w.heap[b]?) : MapT w' b n f := by
  obtain ⟨D, ⟨es, cl, hb, F, hs, hD⟩, hf⟩ := h
  exact ⟨D, ⟨es, cl, he.trans hb, F, hs, hD⟩, hf⟩
theorem MapT.mono {w : World} {b n m : Nat} {f : Int → Int → Int} (h : MapT w b n f) (hm : n ≤ m) : MapT w b m f := by
  obtain ⟨D, h, hf⟩ := h; exact ⟨D, h.mono hm, hf⟩
theorem MapT.new (w : World) : MapT (w.alloc (.map #[] 0)) w.heap.size 0 (fun _ _ => 0) :=
  ⟨.map [], World.ownsMap_made _ _ _ _, fun _ _ _ _ => rfl⟩
theorem MapT.cellNone {w : World} {b n : Nat} {f : Int → Int → Int} (h : MapT w b n f) : ∃ es cl, w.heap[b]? = some (.map es cl) := by
  obtain ⟨D, ⟨es, cl, hb, _⟩, _⟩ := h; exact ⟨es, cl, hb⟩

theorem MapT.look {w : World} {b n : Nat} {f : Int → Int → Int} (h : MapT w b n f) (c k : Int) (hc : I64 c) (hk : I64 k) :
    (Instr.lookup 42 (.map (some b)) (.agg #[.int .i64 c, .int .i64 k]) false).run Try.prog w = .ok (.int .i64 (f c k)) w := by
  obtain ⟨D, h, hf⟩ := h
  obtain ⟨v, hrun, hat, _⟩ := h.lookup_int law Try.underlying42 Try.underlying3 (zero3 w) (key_pair c k hc hk)
  rw [hf c k hc hk] at hat
  simp only [DataW.lit.injEq, Lit.int.injEq, true_and] at hat
  rw [hat]
  exact hrun

def upd (f : Int → Int → Int) (c k v : Int) : Int → Int → Int := fun x y => if x = c ∧ y = k then v else f x y

/-- m[p]++: the entry, then what is stored in it. -/
theorem MapT.entry {w : World} {b n : Nat} {f : Int → Int → Int} (h : MapT w b n f) (hn : n < maxLen) (c k v : Int) (hc : I64 c) (hk : I64 k) (hv : I64 v) :
    ∃ v0 st w1, (Instr.mapEntry 42 (.map (some b)) (.agg #[.int .i64 c, .int .i64 k])).run Try.prog w = .ok (.tuple #[v0, goInt st]) w1 ∧ Chg (some b) w w1 ∧ w1.heap.size = w.heap.size ∧
      (∃ es cl, w1 = Go.ChangeMaps.setBlock w b (.map es cl)) ∧
      ∀ w2, w2.heap[b]? = w1.heap[b]? → ∃ w3, (Instr.entryStore 42 (.map (some b)) (goInt st) (.int .i64 v)).run Try.prog w2 = .ok () w3 ∧ Chg (some b) w2 w3 ∧ w3.heap.size = w2.heap.size ∧ MapT w3 b (n + 1) (upd f c k v) := by
  obtain ⟨D, h, hf⟩ := h
  have hkey := key_pair c k hc hk
  have hlt := h.lt
  obtain ⟨w', hrun', hown, _⟩ := h.update law Try.underlying42 hn hkey (plainElem_int Try.underlying3 hv.wf)
  have hmap := h.isMap
  obtain ⟨es, cl, hb, F, hs, hD⟩ := h
  obtain ⟨v0, st, es1, cl1, h1, _, h2⟩ := Go.WideElems.entry_then_store klaw Try.underlying42 zero3 hb F hkey
  have g : ∀ (u : World) (es0 : Array MapEntry) (cl0 : Nat) (es : Array MapEntry) (cl : Nat), u.heap[b]? = some (.map es0 cl0) → Chg (some b) u (Go.ChangeMaps.setBlock u b (.map es cl)) := fun u es0 cl0 es cl hu =>
    ⟨rfl, rfl, rfl, by simp [Go.ChangeMaps.setBlock], fun i _ hi => Go.ChangeMaps.heap_setBlock_other hu _ (fun e => hi (by rw [e]))⟩
  refine ⟨v0, st, _, h1, g _ _ _ _ _ hb, by simp [Go.ChangeMaps.setBlock], ⟨_, _, rfl⟩, fun w2 he => ?_⟩
  obtain ⟨es2, cl2, h3, h4⟩ := h2 w2 (.int .i64 v) (he.trans (Go.ChangeMaps.heap_setBlock_same hb _))
  have hw2 : w2.heap[b]? = some (.map es1 cl1) := he.trans (Go.ChangeMaps.heap_setBlock_same hb _)
  refine ⟨_, h3, g _ _ _ _ _ hw2, by simp [Go.ChangeMaps.setBlock], D.put (pairLit c k) (.lit (.int .i64 v)), ?_, ?_⟩
  · have e : Go.ChangeMaps.setBlock w b (.map es2 cl2) = w' := by
      have := h4.symm.trans hrun'
      simpa using this
    rw [← e] at hown
    obtain ⟨es', cl', hb', F', hs', hD'⟩ := hown
    have hb2 : w2.heap[b]? = some (.map es1 cl1) := hw2
    rw [Go.ChangeMaps.heap_setBlock_same hb] at hb'
    exact ⟨es', cl', (Go.ChangeMaps.heap_setBlock_same hb2 _).trans hb', F', hs', hD'⟩
  · intro x y hx hy
    unfold upd
    by_cases hxy : x = c ∧ y = k
    · obtain ⟨rfl, rfl⟩ := hxy
      rw [if_pos ⟨rfl, rfl⟩, atKey_put_same hmap (law.key hkey)]
    · rw [if_neg hxy, atKey_put_other (fun e => hxy (pair_inj hx hy hc hk e))]
      exact hf x y hx hy

end Go.Proofs.Ytippkdjggipnmaa
