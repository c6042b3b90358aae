/-
  Package sha: blocks, rounds, digests, parts (merged).
-/
import Derived.Test.YtkcammaccgkflaaDoorRows
import Derived.WalkKit
import Derived.Lib.Hide
import Derived.WalkSpells
import Derived.WalkLawsBesides
import Derived.Laws.CopyOwn
import Derived.ProofKit
import Derived.OpenShut
import Derived.Deep.Slices
import Derived.JoinedCond
import Derived.Deep.AppendLies
import Derived.Deep.Draws
import Derived.Maps.AppendAt
import Derived.RegionTactic
import Derived.OwnWalk
import Derived.Laws.Rows
import Derived.Laws.Tables
import Derived.Deep.RegionHeld3
import Derived.Deep.DeepCutAuto
import Derived.Deep.CutBlock
import Derived.Great.BuildSlice
import Derived.Laws.CopyRow
import Derived.Outline
import Derived.Deep.MidRow
import Derived.Laws.StructEq
namespace Go.Proofs.YtkcammaccgkflaaDoor

section
open Go.RowKit

/-- Block b of the world holds these cells. -/
def Blk (w : World) (b : Nat) (cs : Array Value) (T : TypeId) : Prop := w.heap[b]? = some (.cells cs T (0, 0))

/-- From w to w' nothing has changed but block b, and blocks that are new. -/
def Chg (b : Option Nat) (w w' : World) : Prop := w.grownBy w' b

theorem Blk.lt {w : World} {b : Nat} {cs : Array Value} {T : TypeId} (h : Blk w b cs T) : b < w.heap.size :=
  (Array.getElem?_eq_some_iff.1 h).1

theorem Blk.cell {w : World} {b : Nat} {cs : Array Value} {T : TypeId} (h : Blk w b cs T) (i : Nat) :
    w.cell? ⟨b, i, none⟩ = cs[i]? := by
  unfold Blk at h; simp [World.cell?, h]

theorem Blk.frozen {w : World} {b : Nat} {cs : Array Value} {T : TypeId} (h : Blk w b cs T) (i : Nat) :
    w.frozen? ⟨b, i, none⟩ = false := by
  unfold Blk at h; simp [World.frozen?, h]

theorem Blk.set {w : World} {b : Nat} {cs : Array Value} {T : TypeId} (h : Blk w b cs T) (i : Nat) (v : Value) :
    Blk (w.setCell ⟨b, i, none⟩ v) b (cs.setIfInBounds i v) T := by
  unfold Blk at *; simp [World.setCell, Array.getElem?_modify, h]

theorem Blk.setOther {w : World} {b : Nat} {cs : Array Value} {T : TypeId} (h : Blk w b cs T) (a : Addr) (v : Value) (hne : b ≠ a.block) :
    Blk (w.setCell a v) b cs T := (Below.heap_setCell w a v b hne).trans h

theorem Blk.alloc {w : World} {b : Nat} {cs : Array Value} {T : TypeId} (h : Blk w b cs T) (o : Obj) : Blk (w.alloc o) b cs T :=
  (Below.heap_alloc w o b h.lt).trans h

theorem Blk.drew {w : World} {b : Nat} {cs : Array Value} {T : TypeId} (h : Blk w b cs T) : Blk w.drew b cs T := h
theorem Blk.drewN {w : World} {b : Nat} {cs : Array Value} {T : TypeId} (h : Blk w b cs T) (n : Nat) : Blk (w.drewN n) b cs T := by
  unfold Blk at *; simpa [World.drewN] using h

theorem Blk.new (w : World) (cs : Array Value) (T : TypeId) : Blk (w.alloc (.cells cs T (0, 0))) w.heap.size cs T := heap_alloc_new w _

theorem Blk.chg {w w' : World} {b : Nat} {c : Option Nat} {cs : Array Value} {T : TypeId} (h : Blk w b cs T) (hc : Chg c w w') (hne : some b ≠ c) :
    Blk w' b cs T := (hc.block b h.lt hne).trans h

theorem Chg.refl (b : Option Nat) (w : World) : Chg b w w := ⟨rfl, rfl, rfl, Nat.le_refl _, fun _ _ _ => rfl⟩

theorem Chg.trans {b : Option Nat} {u v w : World} (h : Chg b u v) (k : Chg b v w) : Chg b u w :=
  ⟨k.os.trans h.os, k.tape.trans h.tape, k.output.trans h.output, Nat.le_trans h.size k.size,
    fun i hi hn => (k.block i (Nat.lt_of_lt_of_le hi h.size) hn).trans (h.block i hi hn)⟩

theorem Chg.weaken {b : Option Nat} {w w' : World} (h : Chg none w w') : Chg b w w' :=
  ⟨h.os, h.tape, h.output, h.size, fun i hi _ => h.block i hi (by simp)⟩

theorem Chg.alloc {b : Option Nat} {u w : World} (h : Chg b u w) (o : Obj) : Chg b u (w.alloc o) :=
  h.trans ⟨rfl, rfl, rfl, by simp, fun k hk _ => Below.heap_alloc _ _ _ hk⟩

theorem Chg.setCell {b : Nat} {u w : World} (h : Chg (some b) u w) (i : Nat) (v : Value) : Chg (some b) u (w.setCell ⟨b, i, none⟩ v) :=
  h.trans ⟨rfl, rfl, rfl, by simp [World.setCell], fun k _ hn => Below.heap_setCell _ _ _ _ (by simpa using hn)⟩

theorem Chg.setNew {b : Option Nat} {u w : World} (h : Chg b u w) (a : Addr) (ha : u.heap.size ≤ a.block) (v : Value) : Chg b u (w.setCell a v) :=
  ⟨h.os, h.tape, h.output, by simpa [World.setCell] using h.size, fun k hk hn => (Below.heap_setCell _ _ _ _ (by omega)).trans (h.block k hk hn)⟩

theorem Chg.drew {b : Option Nat} {u w : World} (h : Chg b u w) : Chg b u w.drew := ⟨h.os, h.tape, h.output, h.size, h.block⟩
theorem Chg.drewN {b : Option Nat} {u w : World} (h : Chg b u w) (n : Nat) : Chg b u (w.drewN n) := ⟨h.os, h.tape, h.output, h.size, h.block⟩

theorem Chg.below {b : Nat} {B : Nat} {w w' : World} (h : Chg (some b) w w') (hb : B ≤ b) (hB : B ≤ w.heap.size) : Below B w w' :=
  ⟨h.os, h.tape, h.output, h.size, fun k hk => h.block k (by omega) (by simp; omega)⟩

/-- What is written to a block that is new since u is no change of what was there. -/
theorem Chg.own {b : Nat} {c : Option Nat} {u v w : World} (h : Chg c u v) (k : Chg (some b) v w) (hb : u.heap.size ≤ b) : Chg c u w :=
  ⟨k.os.trans h.os, k.tape.trans h.tape, k.output.trans h.output, Nat.le_trans h.size k.size,
    fun i hi hn => (k.block i (Nat.lt_of_lt_of_le hi h.size) (by simp; omega)).trans (h.block i hi hn)⟩

theorem Chg.belowNone {B : Nat} {w w' : World} (h : Chg none w w') (hB : B ≤ w.heap.size) : Below B w w' :=
  ⟨h.os, h.tape, h.output, h.size, fun k hk => h.block k (by omega) (by simp)⟩

theorem ret_bool {a b : Bool} (h : a = b) : Ending.returned (.bool a) = .returned (.bool b) := by rw [h]
theorem ret_int {k : IntKind} {a b : Int} (h : a = b) : Ending.returned (.int k a) = .returned (.int k b) := by rw [h]
end

section
open Go.RowKit

section
variable {α : Type} (cells : α → List Value) (k : Nat)

theorem flat_len (hk : ∀ a, (cells a).length = k) : ∀ L : List α, (L.flatMap cells).length = L.length * k
  | [] => by simp
  | a :: L => by rw [List.flatMap_cons, List.length_append, hk, flat_len hk L, List.length_cons, Nat.succ_mul]; omega

theorem flat_get (hk : ∀ a, (cells a).length = k) : ∀ (L : List α) (i j : Nat) (a : α), L[i]? = some a → j < k → (L.flatMap cells)[i * k + j]? = (cells a)[j]?
  | [], _, _, _, h, _ => by simp at h
  | x :: L, 0, j, a, h, hj => by
    simp at h; subst h
    rw [List.flatMap_cons, Nat.zero_mul, Nat.zero_add, List.getElem?_append_left (by rw [hk]; exact hj)]
  | x :: L, i + 1, j, a, h, hj => by
    rw [List.flatMap_cons, Nat.succ_mul, List.getElem?_append_right (by rw [hk]; omega), hk, show i * k + k + j - k = i * k + j by omega]
    exact flat_get hk L i j a (by simpa using h) hj

theorem flat_set (hk : ∀ a, (cells a).length = k) : ∀ (L : List α) (i j : Nat) (a a' : α) (v : Value), L[i]? = some a → j < k → cells a' = (cells a).set j v →
    (L.flatMap cells).set (i * k + j) v = (L.set i a').flatMap cells
  | [], _, _, _, _, _, h, _, _ => by simp at h
  | x :: L, 0, j, a, a', v, h, hj, he => by
    simp at h; subst h
    rw [List.flatMap_cons, Nat.zero_mul, Nat.zero_add, List.set_cons_zero, List.flatMap_cons, List.set_append_left _ _ (by rw [hk]; exact hj), he]
  | x :: L, i + 1, j, a, a', v, h, hj, he => by
    rw [List.flatMap_cons, Nat.succ_mul, List.set_append_right _ _ (by rw [hk]; omega), hk, show i * k + k + j - k = i * k + j by omega, List.set_cons_succ, List.flatMap_cons,
      flat_set hk L i j a a' v (by simpa using h) hj he]
end

/-- Block b holds these cells, told as a list. -/
def BlkL (w : World) (b : Nat) (cs : List Value) (T : TypeId) : Prop := Blk w b cs.toArray T

theorem BlkL.cell {w : World} {b : Nat} {cs : List Value} {T : TypeId} (h : BlkL w b cs T) (i : Nat) : w.cell? ⟨b, i, none⟩ = cs[i]? := by
  rw [Blk.cell h]; simp
theorem BlkL.set {w : World} {b : Nat} {cs : List Value} {T : TypeId} (h : BlkL w b cs T) (i : Nat) (v : Value) :
    BlkL (w.setCell ⟨b, i, none⟩ v) b (cs.set i v) T := by
  have := Blk.set h i v
  unfold BlkL
  simpa using this

/-- copy, of elements of k cells each, to the head of a block of the call's own. -/
theorem wpList_copy_sized {P : Program} {w : World} {ops : Array Oper} {rest : List Oper} {o : Oper} {a : Act} {Q : Exit → Act → World → Prop} (hgd : o.guard = none) (d s : Operand) (dT sT : TypeId)
    (ho : o.op = .call { callee := .builtin .copy, args := #[d, s], argTypes := #[dT, sT] }) (elem k : Nat) (hu : P.underlying dT = some (.slice elem)) (hsz : (P.info? elem).map (·.size) = some k)
    (g dLen dCap : Nat) (ad : Addr) (sLen sCap : Nat) (hd : a.eval d = .slice (some ⟨g, 0, none⟩) dLen dCap) (hs : a.eval s = .slice (some ad) sLen sCap)
    (cur : Array Value) (t : TypeId) (hg : w.heap[g]? = some (.cells cur t (0, 0))) (cs : List Value) (hn : cs.length = Nat.min sLen dLen * k)
    (hsrc : ∀ j v, cs[j]? = some v → w.cell? (ad.add j) = some v) (hfit : cs.length ≤ cur.size) (h1 : ∀ v ∈ cs, v.oneCell' = true)
    (h : ∀ w', BlkL w' g (cs ++ cur.toList.drop cs.length) t → Chg (some g) w w' → wpList P ops Q rest (a.put o.dst (goInt (Nat.min sLen dLen))) w') : wpList P ops Q (o :: rest) a w := by
  refine wpList_plain hgd fun K hK => ?_
  have hl := run_loadCells_list (P := P) w ad cs hsrc
  have hst := run_storeCells_at P g 0 t cs 0 cur w hg (by simpa using hfit) h1
  have hrun : (Builtin.copy_ #[dT, sT] o.type #[.slice (some ⟨g, 0, none⟩) dLen dCap, .slice (some ad) sLen sCap]).run P w =
      .ok (goInt (Nat.min sLen dLen)) (w.setRow g (cs ++ cur.toList.drop cs.length).toArray) := by
    cases hq : P.info? elem with
    | none => simp [hq] at hsz
    | some i =>
      have hi : i.size = k := by simpa [hq] using hsz
      have hmin : min sLen dLen * k = cs.length := hn.symm
      simp [Builtin.copy_, run_underlying hu, Builtin.lenOf, Builtin.firstCells, sizeOf, typeInfo, hq, hi, hmin, hl, hst]
  unfold Oper.wp
  simp [execOp, ho, resolve, invoke, builtin, hd, hs, hrun, Result.andThen]
  refine hK _ _ (h _ ?_ ⟨rfl, rfl, rfl, by simp [World.setRow], fun i _ hn => setRow_other w g i _ (by simpa using hn)⟩)
  exact setRow_heap w g _ _ t _ hg
end

section
open Go.ChangeShapes Go.WideShapes Go.ChangeAt Go.RowKit

section
variable {H : Type} {enc : TypeId × Value → H} {P : Program}

theorem trodAll_below (hl : laidOutB P = true) {W W' : World} (hb : Below W.heap.size W W') :
    ∀ {ts : List TypeId} {vs : List Value} {ds : List (DataW H)} {p : List MemPlace}, (∀ t ∈ ts, P.readableRec t = true ∧ t < P.types.size) →
      DataW.TrodAll enc P W 0 (fun _ => true) true ts vs ds p → (∀ x ∈ p, x.block < W.heap.size) →
      DataW.TrodAll enc P W' 0 (fun b => decide (b < W.heap.size)) true ts vs ds p
  | [], _, _, _, _, h, _ => by
    obtain ⟨rfl, rfl, rfl⟩ := trodAll_nil h
    exact trodAll_mk0
  | t :: ts, _, _, _, ht, h, hp => by
    obtain ⟨v, vs1, d, ds1, a, b, rfl, rfl, rfl, h1, h2⟩ := trodAll_cons h
    exact trodAll_cons_mk (Below.trod hl (ht t (by simp)).1 (ht t (by simp)).2 h1 hb (fun x hx => hp x (by simp [hx])))
      (trodAll_below hl hb (fun t' h' => ht t' (by simp [h'])) h2 (fun x hx => hp x (by simp [hx])))

/-- The end of a law: it has answered true, and of what was there nothing has turned. -/
theorem law_post (hl : laidOutB P = true) {f : Func} {s : ChangeSpec} {W W' : World} {args : Array Value} {ds gs : List (DataW H)} {before : List MemPlace} {tb : TypeId}
    (hpar : ∀ t ∈ f.params.toList, P.readableRec t = true ∧ t < P.types.size) (hres : f.resultTypes = #[tb]) (htb : P.underlying tb = some .bool) (hvars : s.vars = [])
    (hW : DataW.Whole enc P f.params.toList s.vars false W args.toList ds gs before)
    (hfn : s.fn H ds = { results := [.lit (.bool true)], args := ds }) (hb : Below W.heap.size W W') :
    s.post enc P f false true false false W args (.bool true) W' := by
  have hW' := hW
  obtain ⟨p, q, hA, hV, rfl, _, _⟩ := hW
  rw [hvars] at hV
  obtain ⟨rfl, rfl⟩ := trodVars_none hV
  have hlt : ∀ x ∈ p, x.block < W.heap.size := fun x hx => hW'.lt x (by simp [hx])
  refine ⟨ds, [], p ++ [], [], p, [], hW', ?_, ?_, ?_, hb.frame _, fun h => by cases h⟩
  · rw [List.append_nil, hfn, hres]
    exact trodAll_mk1 (shut_bool htb true)
  · rw [List.append_nil, hfn]
    exact trodAll_below hl hb hpar hA hlt
  · rw [List.append_nil, hfn, hvars]
    exact rfl

/-- A slice's cells, element by element: k cells each. -/
def RowsAt {α : Type} (w : World) (k : Nat) (A : Option Addr) (cells : α → List Value) (L : List α) : Prop :=
  L ≠ [] → ∃ b off, A = some ⟨b, off, none⟩ ∧ b < w.heap.size ∧
    ∀ i a, L[i]? = some a → ∀ j, j < k → w.cell? ⟨b, off + (i * k + j), none⟩ = (cells a)[j]?

theorem RowsAt.below {α : Type} {w w' : World} {k : Nat} {A : Option Addr} {cells : α → List Value} {L : List α} {B : Nat}
    (h : RowsAt w k A cells L) (hw : ∀ b, A.map (·.block) = some b → b < B) (hb : Below B w w') : RowsAt w' k A cells L := by
  intro hne
  obtain ⟨b, off, rfl, hlt, hc⟩ := h hne
  refine ⟨b, off, rfl, Nat.lt_of_lt_of_le hlt hb.size, fun i a hi j hj => ?_⟩
  rw [← hc i a hi j hj]
  exact hb.cell (p := ⟨b, _, none⟩) (hw b rfl)

variable {w : World} {base : Nat} {spare : Nat → Bool} {held : Bool}

theorem open_rows {α : Type} [Inhabited α] (cells : α → List Value) (ok : α → Prop) {t e : TypeId} {k : Nat} {r : Reach} {b0 : Nat} {v : Value} {d : DataW H} {p : List MemPlace}
    (ht : P.underlying t = some (.slice e)) (hk : P.cellsOf e = k) (hk0 : 0 < k)
    (he : ∀ (n : Nat) (cs : List Value) x, DataW.trod enc P w base spare held n e cs = some x → ∃ a, ok a ∧ cs = cells a)
    (hv : Value.okWide P w r b0 t v) (h : DataW.Trod enc P w base spare held t v d p) :
    ∃ (A : Option Addr) (L : List α) (c : Nat), v = .slice A L.length c ∧ L.length ≤ c ∧ c ≤ maxLen ∧ (∀ a ∈ L, ok a) ∧ RowsAt w k A cells L := by
  obtain ⟨a0, len, cap, rfl⟩ := okWide_slice ht hv
  obtain ⟨fuel, hf⟩ := h
  rcases Go.Deep.open_slice ht hf with ⟨hcs, _⟩ | ⟨a, len', cap', m, n, D, Pl, hcs, _, hl, hm, hmm, _, hx⟩
  · simp only [Value.cells, List.cons.injEq, and_true] at hcs
    injection hcs with h1 h2 h3
    subst h1; subst h2; subst h3
    exact ⟨none, [], 0, rfl, by simp, by simp [maxLen], by simp, fun h => absurd rfl h⟩
  · simp only [Value.cells, List.cons.injEq, and_true] at hcs
    injection hcs with h1 h2 h3
    subst h1; subst h2; subst h3
    have hml : len ≤ m := by rw [hmm]; split <;> omega
    obtain ⟨F, hF⟩ := Go.Deep.choose_lt (α := α) (n := len) (p := fun i x => ok x ∧ ∀ j, j < k → w.cell? (a.add (i * k + j)) = (cells x)[j]?) (fun i hi => by
      obtain ⟨cs', h1, h2⟩ := hx i (by omega)
      obtain ⟨y, hy, hcs⟩ := he n cs' _ h2
      subst hcs
      obtain ⟨_, hcl, hat⟩ := World.cells?_some h1
      rw [hk] at hat
      exact ⟨y, hy, fun j hj => by rw [← Go.Deep.add_add]; exact hat j hj⟩)
    have hlen : ((List.range len).map F).length = len := by simp
    refine ⟨some a, (List.range len).map F, cap, by rw [hlen], by rw [hlen]; exact hl, hm, ?_, ?_⟩
    · intro x hx
      obtain ⟨i, hi, rfl⟩ := List.mem_map.1 hx
      exact (hF i (by simpa using hi)).1
    · intro hne
      have h0 : 0 < len := by
        rcases Nat.eq_zero_or_pos len with h | h
        · subst h; simp at hne
        · exact h
      obtain ⟨cs', h1, h2⟩ := hx 0 (by omega)
      obtain ⟨_, hcl, hat⟩ := World.cells?_some h1
      rw [hk] at hat hcl
      have hc0 := hat 0 hk0
      rw [List.getElem?_eq_getElem (by omega)] at hc0
      obtain ⟨b, off, spot⟩ := a
      have hspot : spot = none := by
        have := World.cell?_spot hc0
        simpa [Addr.add] using this
      subst hspot
      rw [Go.WideShapes.add_plain, Go.WideShapes.add_plain] at hc0
      refine ⟨b, off, rfl, World.block_lt_of_cell? w _ hc0, fun i x hi j hj => ?_⟩
      have hi' : i < len := by
        have := (List.getElem?_eq_some_iff.1 hi).1
        rwa [hlen] at this
      rw [List.getElem?_map, List.getElem?_range hi'] at hi
      obtain rfl : F i = x := by simpa using hi
      rw [← (hF i hi').2 j hj, Go.WideShapes.add_plain]
end
end

section
open Go.RowKit

theorem block_of_add (a : Addr) (n : Nat) : (a.add n).block = a.block := by unfold Addr.add; split <;> rfl
theorem add_of_add (a : Addr) (i j : Nat) : (a.add i).add j = a.add (i + j) := by
  unfold Addr.add
  by_cases hi : i = 0 <;> by_cases hj : j = 0 <;> simp [hi, hj, Nat.add_assoc]

def Reads (w : World) (B size : Nat) (A : Option Addr) (n : Nat) (xs : List Value) : Prop :=
  xs.length = n * size ∧ (0 < n → ∃ ad, A = some ad ∧ ad.block < B ∧ ∀ j u, xs[j]? = some u → w.cell? (ad.add j) = some u)

section
variable {w w' : World} {B B' size n : Nat} {A : Option Addr} {xs : List Value}
theorem Reads.none_ : Reads w B size A 0 [] := ⟨by simp, fun h => absurd h (by omega)⟩
theorem Reads.at_ {k : Nat} (h : Reads w B 1 A n xs) (hk : k < n) : ∃ ad u, A = some ad ∧ ad.block < B ∧ xs[k]? = some u ∧ w.cell? (ad.add k) = some u := by
  obtain ⟨ad, e, hb, hc⟩ := h.2 (by omega)
  have hl : k < xs.length := by have := h.1; omega
  exact ⟨ad, xs[k], e, hb, List.getElem?_eq_getElem hl, hc k _ (List.getElem?_eq_getElem hl)⟩
theorem Reads.keep (h : Reads w B size A n xs) (hk : ∀ p : Addr, p.block < B → w'.cell? p = w.cell? p) : Reads w' B size A n xs :=
  ⟨h.1, fun hn => by
    obtain ⟨ad, e, hb, hc⟩ := h.2 hn
    exact ⟨ad, e, hb, fun j u hu => (hk _ (by rw [block_of_add]; exact hb)).trans (hc j u hu)⟩⟩
theorem Reads.more (h : Reads w B size A n xs) (hB : B ≤ B') : Reads w B' size A n xs :=
  ⟨h.1, fun hn => by
    obtain ⟨ad, e, hb, hc⟩ := h.2 hn
    exact ⟨ad, e, by omega, hc⟩⟩
theorem Reads.below (h : Reads w B size A n xs) (hb : Below B w w') : Reads w' B size A n xs := h.keep fun _ hp => hb.cell hp
theorem Reads.drew (h : Reads w B size A n xs) : Reads w.drew B size A n xs := h
theorem Reads.drewN (h : Reads w B size A n xs) (k : Nat) : Reads (w.drewN k) B size A n xs := h
theorem Reads.alloc (h : Reads w B size A n xs) (hB : B ≤ w.heap.size) (o : Obj) : Reads (w.alloc o) B size A n xs := h.keep fun p hp => World.cell?_alloc_lt w o p (by omega)
theorem Reads.setCell (h : Reads w B size A n xs) {p : Addr} (hB : B ≤ p.block) (u : Value) : Reads (w.setCell p u) B size A n xs :=
  h.keep fun q hq => World.cell?_setCell_other w p q u (fun e => by subst e; omega)
theorem Reads.grown (h : Reads w B size A n xs) {row : Option Nat} (hg : w.grownBy w' row) (hB : B ≤ w.heap.size) (hr : ∀ g, row = some g → B ≤ g) : Reads w' B size A n xs :=
  h.keep fun p hp => World.cell?_of_block (hg.block p.block (by omega) (fun e => by have := hr _ e.symm; omega))
theorem Reads.cut (h : Reads w B size A n xs) {k cap : Nat} (hk : k ≤ n) (hc : n ≤ cap) :
    Reads w B size (if cap = k then A else A.map (·.add (k * size))) (n - k) (xs.drop (k * size)) := by
  refine ⟨by rw [List.length_drop, h.1, Nat.sub_mul], fun hn => ?_⟩
  obtain ⟨ad, rfl, hb, hcell⟩ := h.2 (by omega)
  rw [if_neg (by omega)]
  refine ⟨ad.add (k * size), rfl, by rw [block_of_add]; exact hb, fun j u hu => ?_⟩
  rw [add_of_add]
  exact hcell _ u (by rw [← hu, List.getElem?_drop])
theorem Reads.of_own {base : Nat} {e : TypeId} {c : Nat} (h : w.ownsRow base e size (.slice A n c) n xs) : Reads w w.heap.size size A n xs := by
  refine ⟨h.1, fun hn => ?_⟩
  obtain ⟨g, cap, hv, _, hlt⟩ := h.form hn
  have hA : A = some ⟨g, 0, none⟩ := by injection hv
  subst hA
  exact ⟨_, rfl, hlt, h.cells (g := g) rfl⟩
end

section
variable {P : Program} (w : World)

theorem run_append_of_nil (base : Nat) (t ty e : TypeId) (i : TypeInfo) (size : Nat) (ht : P.underlying t = some (.slice e)) (hi : P.info? e = some i)
    (v : Value) (n : Nat) (xs : List Value) (hown : w.ownsRow base e size v n xs) (c : Nat) : (Builtin.append_ #[t, t] ty #[v, .slice none 0 c]).run P w = .ok v w := by
  rcases hown.2 with ⟨rfl, rfl⟩ | ⟨g, cap, cur, rfl, _, _, hnc, _⟩
  · simp [Builtin.append_, run_underlying ht, sizeOf, typeInfo, hi, Builtin.lenOf, Builtin.firstCells]
  · simp [Builtin.append_, run_underlying ht, sizeOf, typeInfo, hi, Builtin.lenOf, Builtin.firstCells, hnc, storeCells]

theorem run_append_any (base : Nat) (t ty e : TypeId) (i : TypeInfo) (z : Value) (size bytes : Nat) (ht : P.underlying t = some (.slice e)) (hi : P.info? e = some i) (hz : i.zero = some z)
    (hsize : i.size = size) (hby : i.bytes = bytes) (hzs : z.cells.size = size) (hsz : 0 < size)
    (v : Value) (n : Nat) (xs : List Value) (hown : w.ownsRow base e size v n xs)
    (B : Nat) (A : Option Addr) (m c : Nat) (news : List Value) (hr : Reads w B size A m news) (h1 : ∀ u ∈ news, u.oneCell' = true)
    (h63 : n + m ≤ maxLen) (hbytes : (n + m) * bytes ≤ 140737488355328) (hbase : base ≤ w.heap.size) :
    ∃ v' w', (Builtin.append_ #[t, t] ty #[v, .slice A m c]).run P w = .ok v' w' ∧ w'.ownsRow base e size v' (n + m) (xs ++ news) ∧ w.grownBy w' v.ownBlock ∧
      (v'.ownBlock = v.ownBlock ∨ v'.ownBlock = some w.heap.size) := by
  rcases A with _ | ad
  · have hm : m = 0 := by
      rcases Nat.eq_zero_or_pos m with h0 | h0
      · exact h0
      · obtain ⟨ad, h, _⟩ := hr.2 h0
        cases h
    subst hm
    have hn : news = [] := List.eq_nil_of_length_eq_zero (by simpa using hr.1)
    subst hn
    exact ⟨v, w, run_append_of_nil w base t ty e i size ht hi v n xs hown c, by simpa using hown, World.grownBy.refl w _, .inl rfl⟩
  · have hcells : ∀ j u, news[j]? = some u → w.cell? (ad.add j) = some u := by
      intro j u hu
      rcases Nat.eq_zero_or_pos m with h0 | h0
      · subst h0
        have hn : news = [] := List.eq_nil_of_length_eq_zero (by simpa using hr.1)
        subst hn
        simp at hu
      · obtain ⟨ad', h, _, hc⟩ := hr.2 h0
        injection h with h
        subst h
        exact hc j u hu
    obtain ⟨v', w', hrun, h2, h3, _, h5⟩ := run_append_own_at (P := P) w base t ty e i z size bytes ht hi hz hsize hby hzs hsz v n xs hown ad m c news hr.1 hcells h1 h63 hbytes hbase
    exact ⟨v', w', hrun, h2, h3, h5⟩

theorem wp_append_any {o : Oper} {a : Act} {K : Act → World → Prop} {Q : Exit → Act → World → Prop} (s x : Operand) (t : TypeId)
    (ho : o.op = .call { callee := .builtin .append, args := #[s, x], argTypes := #[t, t] })
    (base : Nat) (e : TypeId) (i : TypeInfo) (z : Value) (size bytes : Nat) (ht : P.underlying t = some (.slice e)) (hi : P.info? e = some i) (hz : i.zero = some z)
    (hsize : i.size = size) (hby : i.bytes = bytes) (hzs : z.cells.size = size) (hsz : 0 < size)
    (v : Value) (n : Nat) (xs : List Value) (hs : a.eval s = v) (hown : w.ownsRow base e size v n xs)
    (B : Nat) (A : Option Addr) (m c : Nat) (news : List Value) (hx : a.eval x = .slice A m c) (hr : Reads w B size A m news) (h1 : ∀ u ∈ news, u.oneCell' = true)
    (h63 : n + m ≤ maxLen) (hbytes : (n + m) * bytes ≤ 140737488355328) (hbase : base ≤ w.heap.size)
    (h : ∀ v' w', w'.ownsRow base e size v' (n + m) (xs ++ news) → w.grownBy w' v.ownBlock → (v'.ownBlock = v.ownBlock ∨ v'.ownBlock = some w.heap.size) → K (a.put o.dst v') w') : o.wp P a w K Q := by
  obtain ⟨v', w', hrun, h2, h3, h4⟩ := run_append_any (P := P) w base t o.type e i z size bytes ht hi hz hsize hby hzs hsz v n xs hown B A m c news hr h1 h63 hbytes hbase
  unfold Oper.wp execOp
  simp only [ho, resolve, invoke, builtin, Sem.run_bind, Sem.run_pure, Result.andThen_ok, List.map_toArray, List.map_cons, List.map_nil, hs, hx, hrun]
  exact h v' w' h2 h3 h4

theorem wpList_append_any {ops : Array Oper} {rest : List Oper} {o : Oper} {a : Act} {Q : Exit → Act → World → Prop} (hgd : o.guard = none) (s x : Operand) (t : TypeId)
    (ho : o.op = .call { callee := .builtin .append, args := #[s, x], argTypes := #[t, t] })
    (base : Nat) (e : TypeId) (i : TypeInfo) (z : Value) (size bytes : Nat) (ht : P.underlying t = some (.slice e)) (hi : P.info? e = some i) (hz : i.zero = some z)
    (hsize : i.size = size) (hby : i.bytes = bytes) (hzs : z.cells.size = size) (hsz : 0 < size)
    (v : Value) (n : Nat) (xs : List Value) (hs : a.eval s = v) (hown : w.ownsRow base e size v n xs)
    (B : Nat) (A : Option Addr) (m c : Nat) (news : List Value) (hx : a.eval x = .slice A m c) (hr : Reads w B size A m news) (h1 : ∀ u ∈ news, u.oneCell' = true)
    (h63 : n + m ≤ maxLen) (hbytes : (n + m) * bytes ≤ 140737488355328) (hbase : base ≤ w.heap.size)
    (h : ∀ v' w', w'.ownsRow base e size v' (n + m) (xs ++ news) → w.grownBy w' v.ownBlock → (v'.ownBlock = v.ownBlock ∨ v'.ownBlock = some w.heap.size) → wpList P ops Q rest (a.put o.dst v') w') : wpList P ops Q (o :: rest) a w :=
  wpList_plain hgd fun _ hK => wp_append_any w s x t ho base e i z size bytes ht hi hz hsize hby hzs hsz v n xs hs hown B A m c news hx hr h1 h63 hbytes hbase fun v' w' h2 h3 h4 => hK _ _ (h v' w' h2 h3 h4)

theorem step_append_any {ops : Array Oper} {o : Oper} {a : Act} {K : Act → World → Prop} {Q : Exit → Act → World → Prop} {E : Prop} (hgd : o.guard = none) (s x : Operand) (t : TypeId)
    (ho : o.op = .call { callee := .builtin .append, args := #[s, x], argTypes := #[t, t] })
    (base : Nat) (e : TypeId) (i : TypeInfo) (z : Value) (size bytes : Nat) (ht : P.underlying t = some (.slice e)) (hi : P.info? e = some i) (hz : i.zero = some z)
    (hsize : i.size = size) (hby : i.bytes = bytes) (hzs : z.cells.size = size) (hsz : 0 < size)
    (v : Value) (n : Nat) (xs : List Value) (hs : a.eval s = v) (hown : w.ownsRow base e size v n xs)
    (B : Nat) (A : Option Addr) (m c : Nat) (news : List Value) (hx : a.eval x = .slice A m c) (hr : Reads w B size A m news) (h1 : ∀ u ∈ news, u.oneCell' = true)
    (h63 : n + m ≤ maxLen) (hbytes : (n + m) * bytes ≤ 140737488355328) (hbase : base ≤ w.heap.size)
    (h : ∀ v' w', w'.ownsRow base e size v' (n + m) (xs ++ news) → w.grownBy w' v.ownBlock → (v'.ownBlock = v.ownBlock ∨ v'.ownBlock = some w.heap.size) → K (a.put o.dst v') w') :
    if Region.wanted o (yielded ops a.tmps) = true then Oper.wp P o a w K Q else E := by
  have hw : Region.wanted o (yielded ops a.tmps) = true := by simp [Region.wanted, hgd]
  rw [if_pos hw]
  exact wp_append_any w s x t ho base e i z size bytes ht hi hz hsize hby hzs hsz v n xs hs hown B A m c news hx hr h1 h63 hbytes hbase h
end

theorem RowsAt.reads {α : Type} {w : World} {k : Nat} {A : Option Addr} {cells : α → List Value} {L : List α} (h : RowsAt w k A cells L) (hk : ∀ a, (cells a).length = k) (hk0 : 0 < k) :
    Reads w w.heap.size k A L.length (L.flatMap cells) := by
  refine ⟨flat_len cells k hk L, fun hn => ?_⟩
  obtain ⟨b, off, rfl, hb, hc⟩ := h (by intro e; rw [e] at hn; simp at hn)
  refine ⟨_, rfl, hb, fun j u hj => ?_⟩
  rw [Go.WideShapes.add_plain]
  have hjl : j < L.length * k := by
    have := (List.getElem?_eq_some_iff.1 hj).1
    rwa [flat_len cells k hk] at this
  have hi : j / k < L.length := Nat.div_lt_of_lt_mul (by rw [Nat.mul_comm]; exact hjl)
  have hm : j % k < k := Nat.mod_lt _ hk0
  have hL : L[j / k]? = some L[j / k] := List.getElem?_eq_getElem hi
  have e : j = j / k * k + j % k := by rw [Nat.mul_comm]; exact (Nat.div_add_mod j k).symm
  have h1 := hc _ _ hL _ hm
  have h2 := flat_get cells k hk L (j / k) (j % k) _ hL hm
  rw [← e] at h1 h2
  rw [h1, ← h2]
  exact hj
end

section
open Go.RowKit

/-- A word turned right by n: as its operations have it. -/
def rotr (x : Int) (n : Nat) : Int := bits .or .u32 (IntKind.u32.wrap (x * 2 ^ (32 - n))) (x / 2 ^ n)

set_option maxHeartbeats 1000000 in
theorem right2 (x : Int) (w : World) : Calls Tryd.prog 96 #[.int .u32 x, .int .i64 2] w fun e w' => e = .returned (.int .u32 (rotr x 2)) ∧ w = w' := by
  have h1 : bits .and .u64 (IntKind.u64.wrap (-2)) 31 = 30 := by decide
  have hL : Calls Tryd.prog 98 #[.int .u32 x, .int .i64 (-2)] w fun e w' => e = .returned (.int .u32 (rotr x 2)) ∧ w = w' := by
    unfold rotr
    go_enter Tryd.func98, Tryd.ntmps98
    go_wp2
    go_ret
    exact ⟨by first | rfl | simp, rfl⟩
  go_enter Tryd.func96, Tryd.ntmps96
  go_wp2_with fail
  refine hL.mono ?_
  rintro e w' ⟨rfl, rfl⟩
  go_wp2_with fail
  go_ret
  exact ⟨rfl, rfl⟩

set_option maxHeartbeats 1000000 in
theorem right6 (x : Int) (w : World) : Calls Tryd.prog 96 #[.int .u32 x, .int .i64 6] w fun e w' => e = .returned (.int .u32 (rotr x 6)) ∧ w = w' := by
  have h1 : bits .and .u64 (IntKind.u64.wrap (-6)) 31 = 26 := by decide
  have hL : Calls Tryd.prog 98 #[.int .u32 x, .int .i64 (-6)] w fun e w' => e = .returned (.int .u32 (rotr x 6)) ∧ w = w' := by
    unfold rotr
    go_enter Tryd.func98, Tryd.ntmps98
    go_wp2
    go_ret
    exact ⟨by first | rfl | simp, rfl⟩
  go_enter Tryd.func96, Tryd.ntmps96
  go_wp2_with fail
  refine hL.mono ?_
  rintro e w' ⟨rfl, rfl⟩
  go_wp2_with fail
  go_ret
  exact ⟨rfl, rfl⟩

set_option maxHeartbeats 1000000 in
theorem right7 (x : Int) (w : World) : Calls Tryd.prog 96 #[.int .u32 x, .int .i64 7] w fun e w' => e = .returned (.int .u32 (rotr x 7)) ∧ w = w' := by
  have h1 : bits .and .u64 (IntKind.u64.wrap (-7)) 31 = 25 := by decide
  have hL : Calls Tryd.prog 98 #[.int .u32 x, .int .i64 (-7)] w fun e w' => e = .returned (.int .u32 (rotr x 7)) ∧ w = w' := by
    unfold rotr
    go_enter Tryd.func98, Tryd.ntmps98
    go_wp2
    go_ret
    exact ⟨by first | rfl | simp, rfl⟩
  go_enter Tryd.func96, Tryd.ntmps96
  go_wp2_with fail
  refine hL.mono ?_
  rintro e w' ⟨rfl, rfl⟩
  go_wp2_with fail
  go_ret
  exact ⟨rfl, rfl⟩

set_option maxHeartbeats 1000000 in
theorem right11 (x : Int) (w : World) : Calls Tryd.prog 96 #[.int .u32 x, .int .i64 11] w fun e w' => e = .returned (.int .u32 (rotr x 11)) ∧ w = w' := by
  have h1 : bits .and .u64 (IntKind.u64.wrap (-11)) 31 = 21 := by decide
  have hL : Calls Tryd.prog 98 #[.int .u32 x, .int .i64 (-11)] w fun e w' => e = .returned (.int .u32 (rotr x 11)) ∧ w = w' := by
    unfold rotr
    go_enter Tryd.func98, Tryd.ntmps98
    go_wp2
    go_ret
    exact ⟨by first | rfl | simp, rfl⟩
  go_enter Tryd.func96, Tryd.ntmps96
  go_wp2_with fail
  refine hL.mono ?_
  rintro e w' ⟨rfl, rfl⟩
  go_wp2_with fail
  go_ret
  exact ⟨rfl, rfl⟩

set_option maxHeartbeats 1000000 in
theorem right13 (x : Int) (w : World) : Calls Tryd.prog 96 #[.int .u32 x, .int .i64 13] w fun e w' => e = .returned (.int .u32 (rotr x 13)) ∧ w = w' := by
  have h1 : bits .and .u64 (IntKind.u64.wrap (-13)) 31 = 19 := by decide
  have hL : Calls Tryd.prog 98 #[.int .u32 x, .int .i64 (-13)] w fun e w' => e = .returned (.int .u32 (rotr x 13)) ∧ w = w' := by
    unfold rotr
    go_enter Tryd.func98, Tryd.ntmps98
    go_wp2
    go_ret
    exact ⟨by first | rfl | simp, rfl⟩
  go_enter Tryd.func96, Tryd.ntmps96
  go_wp2_with fail
  refine hL.mono ?_
  rintro e w' ⟨rfl, rfl⟩
  go_wp2_with fail
  go_ret
  exact ⟨rfl, rfl⟩

set_option maxHeartbeats 1000000 in
theorem right17 (x : Int) (w : World) : Calls Tryd.prog 96 #[.int .u32 x, .int .i64 17] w fun e w' => e = .returned (.int .u32 (rotr x 17)) ∧ w = w' := by
  have h1 : bits .and .u64 (IntKind.u64.wrap (-17)) 31 = 15 := by decide
  have hL : Calls Tryd.prog 98 #[.int .u32 x, .int .i64 (-17)] w fun e w' => e = .returned (.int .u32 (rotr x 17)) ∧ w = w' := by
    unfold rotr
    go_enter Tryd.func98, Tryd.ntmps98
    go_wp2
    go_ret
    exact ⟨by first | rfl | simp, rfl⟩
  go_enter Tryd.func96, Tryd.ntmps96
  go_wp2_with fail
  refine hL.mono ?_
  rintro e w' ⟨rfl, rfl⟩
  go_wp2_with fail
  go_ret
  exact ⟨rfl, rfl⟩

set_option maxHeartbeats 1000000 in
theorem right18 (x : Int) (w : World) : Calls Tryd.prog 96 #[.int .u32 x, .int .i64 18] w fun e w' => e = .returned (.int .u32 (rotr x 18)) ∧ w = w' := by
  have h1 : bits .and .u64 (IntKind.u64.wrap (-18)) 31 = 14 := by decide
  have hL : Calls Tryd.prog 98 #[.int .u32 x, .int .i64 (-18)] w fun e w' => e = .returned (.int .u32 (rotr x 18)) ∧ w = w' := by
    unfold rotr
    go_enter Tryd.func98, Tryd.ntmps98
    go_wp2
    go_ret
    exact ⟨by first | rfl | simp, rfl⟩
  go_enter Tryd.func96, Tryd.ntmps96
  go_wp2_with fail
  refine hL.mono ?_
  rintro e w' ⟨rfl, rfl⟩
  go_wp2_with fail
  go_ret
  exact ⟨rfl, rfl⟩

set_option maxHeartbeats 1000000 in
theorem right19 (x : Int) (w : World) : Calls Tryd.prog 96 #[.int .u32 x, .int .i64 19] w fun e w' => e = .returned (.int .u32 (rotr x 19)) ∧ w = w' := by
  have h1 : bits .and .u64 (IntKind.u64.wrap (-19)) 31 = 13 := by decide
  have hL : Calls Tryd.prog 98 #[.int .u32 x, .int .i64 (-19)] w fun e w' => e = .returned (.int .u32 (rotr x 19)) ∧ w = w' := by
    unfold rotr
    go_enter Tryd.func98, Tryd.ntmps98
    go_wp2
    go_ret
    exact ⟨by first | rfl | simp, rfl⟩
  go_enter Tryd.func96, Tryd.ntmps96
  go_wp2_with fail
  refine hL.mono ?_
  rintro e w' ⟨rfl, rfl⟩
  go_wp2_with fail
  go_ret
  exact ⟨rfl, rfl⟩

set_option maxHeartbeats 1000000 in
theorem right22 (x : Int) (w : World) : Calls Tryd.prog 96 #[.int .u32 x, .int .i64 22] w fun e w' => e = .returned (.int .u32 (rotr x 22)) ∧ w = w' := by
  have h1 : bits .and .u64 (IntKind.u64.wrap (-22)) 31 = 10 := by decide
  have hL : Calls Tryd.prog 98 #[.int .u32 x, .int .i64 (-22)] w fun e w' => e = .returned (.int .u32 (rotr x 22)) ∧ w = w' := by
    unfold rotr
    go_enter Tryd.func98, Tryd.ntmps98
    go_wp2
    go_ret
    exact ⟨by first | rfl | simp, rfl⟩
  go_enter Tryd.func96, Tryd.ntmps96
  go_wp2_with fail
  refine hL.mono ?_
  rintro e w' ⟨rfl, rfl⟩
  go_wp2_with fail
  go_ret
  exact ⟨rfl, rfl⟩

set_option maxHeartbeats 1000000 in
theorem right25 (x : Int) (w : World) : Calls Tryd.prog 96 #[.int .u32 x, .int .i64 25] w fun e w' => e = .returned (.int .u32 (rotr x 25)) ∧ w = w' := by
  have h1 : bits .and .u64 (IntKind.u64.wrap (-25)) 31 = 7 := by decide
  have hL : Calls Tryd.prog 98 #[.int .u32 x, .int .i64 (-25)] w fun e w' => e = .returned (.int .u32 (rotr x 25)) ∧ w = w' := by
    unfold rotr
    go_enter Tryd.func98, Tryd.ntmps98
    go_wp2
    go_ret
    exact ⟨by first | rfl | simp, rfl⟩
  go_enter Tryd.func96, Tryd.ntmps96
  go_wp2_with fail
  refine hL.mono ?_
  rintro e w' ⟨rfl, rfl⟩
  go_wp2_with fail
  go_ret
  exact ⟨rfl, rfl⟩
end

section
open Go.RowKit

theorem Blk.newAt {w : World} {n : Nat} (cs : Array Value) (T : TypeId) (h : n = w.heap.size) : Blk (w.alloc (.cells cs T)) n cs T := by
  rw [h]; exact Blk.new w cs T

def u32v (x : Int) : Value := .int .u32 x
def byteAt (bs : List UInt8) (i : Nat) : Int := ((bs.getD i 0).toNat : Int)

def wordAt (bs : List UInt8) (t : Nat) : Int :=
  bits .or .u32 (bits .or .u32 (bits .or .u32 (byteAt bs (4 * t) % 4294967296 * 16777216 % 4294967296) (byteAt bs (4 * t + 1) % 4294967296 * 65536 % 4294967296)) (byteAt bs (4 * t + 2) % 4294967296 * 256 % 4294967296)) (byteAt bs (4 * t + 3) % 4294967296)
def low (x : Int) : Int := bits .xor .u32 (bits .xor .u32 (rotr x 7) (rotr x 18)) (x / 8)
def high (x : Int) : Int := bits .xor .u32 (bits .xor .u32 (rotr x 17) (rotr x 19)) (x / 1024)
def expand (L : List Int) (n : Nat) : Int :=
  (L.getD (n - 16) 0 + low (L.getD (n - 15) 0) + L.getD (n - 7) 0 + high (L.getD (n - 2) 0)) % 4294967296
def schedN (bs : List UInt8) : Nat → List Int
  | 0 => []
  | n + 1 => schedN bs n ++ [if n < 16 then wordAt bs n else expand (schedN bs n) n]
theorem schedN_len (bs : List UInt8) : ∀ n, (schedN bs n).length = n
  | 0 => rfl
  | n + 1 => by rw [schedN, List.length_append, schedN_len bs n]; rfl
def wcells (bs : List UInt8) (k : Nat) : List Value := (schedN bs k).map u32v ++ List.replicate (64 - k) (.int .u32 0)
theorem wcells_len (bs : List UInt8) (k : Nat) (h : k ≤ 64) : (wcells bs k).length = 64 := by
  simp [wcells, schedN_len]; omega
theorem wcells_set (bs : List UInt8) (k : Nat) (h : k < 64) : (wcells bs k).set k (u32v (if k < 16 then wordAt bs k else expand (schedN bs k) k)) = wcells bs (k + 1) := by
  unfold wcells
  rw [List.set_append_right _ _ (by simp [schedN_len]), List.length_map, schedN_len, Nat.sub_self, show 64 - k = (64 - (k + 1)) + 1 by omega, List.replicate_succ, List.set_cons_zero, schedN, List.map_append, List.append_assoc]
  rfl
theorem wcells_at (bs : List UInt8) (k j : Nat) (h : j < k) : (wcells bs k)[j]? = some (u32v ((schedN bs k).getD j 0)) := by
  unfold wcells
  have hl : j < (schedN bs k).length := by rw [schedN_len]; exact h
  rw [List.getElem?_append_left (by simpa using hl), List.getElem?_map, List.getD_eq_getElem?_getD, List.getElem?_eq_getElem hl]
  rfl

set_option maxRecDepth 100000 in
set_option maxHeartbeats 4000000 in
theorem schedule_any (bs : List UInt8) (sb so sc : Nat) (w : World) (hl : bs.length = 64) (hsb : sb < w.heap.size)
    (hsrc : ∀ j c, bs[j]? = some c → w.cell? ⟨sb, so + j, none⟩ = some (.int .u8 c.toNat)) :
    Calls Tryd.prog 95 #[.slice (some ⟨sb, so, none⟩) 64 sc] w fun e w' => e = .returned (.agg ((schedN bs 64).map u32v).toArray) ∧ Chg none w w' := by
  have HS := Lib.hid (fun W (g : Chg none w W) i (hi : i < 64) => (show W.cell? ⟨sb, so + i, none⟩ = some (.int .u8 (byteAt bs i)) from World.grownBy.cell g (by
    rw [hsrc i _ (List.getElem?_eq_getElem (by omega))]
    simp [byteAt, List.getD_eq_getElem?_getD, hl, hi]) (by simp)))
  clear hsrc
  go_enter Tryd.func95, Tryd.ntmps95
  go_wp2_with fail
  go_loopw [10] (fun s10 wr => ∃ k : Nat, k ≤ 16 ∧ s10 = .int .i64 k ∧ BlkL wr (w.heap.size + 1) (wcells bs k) 26 ∧ w.heap.size < wr.heap.size ∧ BlkL wr w.heap.size (List.replicate 64 (Value.int .u32 0)) 26 ∧ Chg none w wr) (fun s10 _ => 16 - (intOf s10).toNat)
  case atStart => exact ⟨0, by omega, rfl, Blk.newAt _ _ (by simp), by simp; omega, Blk.alloc (Blk.newAt (List.replicate 64 (Value.int .u32 0)).toArray 26 rfl) _, ((Chg.refl _ _).alloc _).alloc _⟩
  case round =>
    obtain ⟨k, hk, rfl, hb, hz, hzr, hg⟩ := hrel
    by_cases hlt : k < 16
    · have hsz : sb < wr.heap.size := Nat.lt_of_lt_of_le hsb hg.size
      have c0 := HS.out _ hg (4 * k) (by omega)
      have c1 := HS.out _ hg (4 * k + 1) (by omega)
      have c2 := HS.out _ hg (4 * k + 2) (by omega)
      have c3 := HS.out _ hg (4 * k + 3) (by omega)
      have hbs := BlkL.set hb k (u32v (wordAt bs k))
      have hws := wcells_set bs k (by omega)
      rw [if_pos hlt] at hws
      rw [hws] at hbs
      have cw : wr.cell? ⟨w.heap.size + 1, k, none⟩ = some (.int .u32 0) := by
        rw [BlkL.cell hb, wcells, List.getElem?_append_right (by simp [schedN_len]), List.length_map, schedN_len, Nat.sub_self, show 64 - k = (64 - (k + 1)) + 1 by omega, List.replicate_succ]; rfl
      have hfz := Blk.frozen hb k
      have hbz := Blk.lt hb
      unfold wordAt at hbs
      clear hws
      go_wp2_with fail
      go_region
      all_goals
        go_wp2_with fail
        go_roundw
        case rel => exact ⟨k + 1, by omega, by go_num, hbs, by simpa [World.setCell] using hz, Blk.setOther hzr _ _ (by show w.heap.size ≠ w.heap.size + 1; omega), Chg.drew (hg.setNew _ (Nat.le_succ _) _)⟩
        case measure => first | (simp [intOf]; done) | (simp [intOf]; omega)
    · have hk16 : k = 16 := by omega
      rw [hk16] at hb
      have hd16 : decide ((k : Int) < 16) = false := by simp; omega
      clear hk16
      have hr7 := fun W x => right7 x W
      have hr18 := fun W x => right18 x W
      have hr17 := fun W x => right17 x W
      have hr19 := fun W x => right19 x W
      have H7 := Lib.hid hr7
      have H18 := Lib.hid hr18
      have H17 := Lib.hid hr17
      have H19 := Lib.hid hr19
      clear hr7 hr18 hr17 hr19
      go_wp2_with fail
      go_loopw [5] (fun s5 wq => ∃ k : Nat, 16 ≤ k ∧ k ≤ 64 ∧ s5 = .int .i64 k ∧ BlkL wq (w.heap.size + 1) (wcells bs k) 26 ∧ w.heap.size < wq.heap.size ∧ BlkL wq w.heap.size (List.replicate 64 (Value.int .u32 0)) 26 ∧ Chg none w wq) (fun s5 _ => 64 - (intOf s5).toNat)
      case atStart => exact ⟨16, by omega, by omega, rfl, hb, hz, hzr, hg⟩
      case round =>
        obtain ⟨k, hk0, hk1, rfl, hb, hz, hzr, hg⟩ := hrel
        by_cases hlt : k < 64
        · have q16 : wr.cell? ⟨w.heap.size + 1, k - 16, none⟩ = some (.int .u32 ((schedN bs k).getD (k - 16) 0)) := by rw [BlkL.cell hb]; exact wcells_at bs k (k - 16) (by omega)
          have q15 : wr.cell? ⟨w.heap.size + 1, k - 15, none⟩ = some (.int .u32 ((schedN bs k).getD (k - 15) 0)) := by rw [BlkL.cell hb]; exact wcells_at bs k (k - 15) (by omega)
          have q7 : wr.cell? ⟨w.heap.size + 1, k - 7, none⟩ = some (.int .u32 ((schedN bs k).getD (k - 7) 0)) := by rw [BlkL.cell hb]; exact wcells_at bs k (k - 7) (by omega)
          have q2 : wr.cell? ⟨w.heap.size + 1, k - 2, none⟩ = some (.int .u32 ((schedN bs k).getD (k - 2) 0)) := by rw [BlkL.cell hb]; exact wcells_at bs k (k - 2) (by omega)
          have hbs := BlkL.set hb k (u32v (expand (schedN bs k) k))
          have hws := wcells_set bs k (by omega)
          rw [if_neg (by omega)] at hws
          rw [hws] at hbs
          have cw : wr.cell? ⟨w.heap.size + 1, k, none⟩ = some (.int .u32 0) := by
            rw [BlkL.cell hb, wcells, List.getElem?_append_right (by simp [schedN_len]), List.length_map, schedN_len, Nat.sub_self, show 64 - k = (64 - (k + 1)) + 1 by omega, List.replicate_succ]; rfl
          have hfz := Blk.frozen hb k
          have hbz := Blk.lt hb
          have e16 : (k : Int) - 16 = ((k - 16 : Nat) : Int) := by omega
          have e15 : (k : Int) - 15 = ((k - 15 : Nat) : Int) := by omega
          have e7 : (k : Int) - 7 = ((k - 7 : Nat) : Int) := by omega
          have e2 : (k : Int) - 2 = ((k - 2 : Nat) : Int) := by omega
          unfold expand low high at hbs
          generalize (schedN bs k).getD (k - 16) 0 = x16 at *
          generalize (schedN bs k).getD (k - 15) 0 = x15 at *
          generalize (schedN bs k).getD (k - 7) 0 = x7 at *
          generalize (schedN bs k).getD (k - 2) 0 = x2 at *
          have l16 : k - 16 < 64 := by omega
          have l15 : k - 15 < 64 := by omega
          have l7 : k - 7 < 64 := by omega
          have l2 : k - 2 < 64 := by omega
          clear hws hb
          go_wp2_with fail
          go_region
          go_wp2_with fail
          refine (H7.out _ _).mono ?_
          rintro e w' ⟨rfl, rfl⟩
          go_wp2_with fail
          refine (H18.out _ _).mono ?_
          rintro e w' ⟨rfl, rfl⟩
          go_wp2_with fail
          refine (H17.out _ _).mono ?_
          rintro e w' ⟨rfl, rfl⟩
          go_wp2_with fail
          refine (H19.out _ _).mono ?_
          rintro e w' ⟨rfl, rfl⟩
          go_wp2_with fail
          go_region
          all_goals
            go_wp2_with fail
            go_roundw
            case rel => exact ⟨k + 1, by omega, by omega, by go_num, by exact hbs, by simpa [World.setCell] using hz, by exact (Blk.setOther hzr _ _ (by show w.heap.size ≠ w.heap.size + 1; omega)), by repeat (first | (with_reducible exact hg.setNew _ (Nat.le_succ _) _) | (with_reducible refine Chg.drew ?_))⟩
            case measure => first | (simp [intOf]; done) | (simp [intOf]; omega)
        · obtain rfl : k = 64 := by omega
          have hcs : (wcells bs 64).toArray.size = 64 := by simp [wcells_len]
          have hrow : wr.heap[w.heap.size + 1]? = some (.cells (wcells bs 64).toArray 26 (0, 0)) := hb
          have hfin : wcells bs 64 = (schedN bs 64).map u32v := by simp [wcells]
          have hres : wr.heap[w.heap.size]? = some (.cells (List.replicate 64 (Value.int .u32 0)).toArray 26 (0, 0)) := hzr
          have hone : (wcells bs 64).toArray.all (·.oneCell') = true := by
            simp [wcells, u32v]
            intro x _; rfl
          have hinf : (Tryd.prog.info? 26).map (·.size) = some (wcells bs 64).toArray.size := by rw [hcs]; kernel_rfl
          have HI := Lib.hid hinf
          have HO := Lib.hid hone
          have HC := Lib.hid hcs
          clear hinf hone hcs
          go_wp2_with (first | (refine wpList_load_row rfl 26 _ rfl (w.heap.size + 1) rfl 26 _ (0, 0) _ hrow Tryd.underlying26 rfl HI.out ?_) | (refine wpList_store_row rfl 26 _ _ rfl w.heap.size (wcells bs 64).toArray rfl rfl 26 _ hres HI.out (by rw [HC.out]; rfl) HO.out ?_))
          refine bodyPost_ret (results_cell_row (p := 2) (ty := 26) Tryd.results95 _ _ w.heap.size 26 (wcells bs 64).toArray (0, 0) _ rfl (setRow_heap _ _ _ _ _ _ hres) Tryd.underlying26 rfl HI.out) rfl ⟨by rw [hfin], ?_⟩
          exact Chg.own (b := w.heap.size) hg ⟨rfl, rfl, rfl, by simp [World.setRow], fun i _ hn => setRow_other _ _ i _ (by simpa using hn)⟩ (Nat.le_refl _)
end

section
open Go.RowKit

theorem index25_0 (w : World) (a b c d e f g h : Int) : (Instr.index 25 (.agg #[.int .u32 a, .int .u32 b, .int .u32 c, .int .u32 d, .int .u32 e, .int .u32 f, .int .u32 g, .int .u32 h]) (.int .i64 0)).run Tryd.prog w = .ok (.int .u32 a) w := by
  have u25 := Tryd.underlying25
  have z24 := Tryd.sizeOf24
  have a24 := Tryd.isAgg24
  unfold Instr.index part
  go_simp

theorem index25_1 (w : World) (a b c d e f g h : Int) : (Instr.index 25 (.agg #[.int .u32 a, .int .u32 b, .int .u32 c, .int .u32 d, .int .u32 e, .int .u32 f, .int .u32 g, .int .u32 h]) (.int .i64 1)).run Tryd.prog w = .ok (.int .u32 b) w := by
  have u25 := Tryd.underlying25
  have z24 := Tryd.sizeOf24
  have a24 := Tryd.isAgg24
  unfold Instr.index part
  go_simp

theorem index25_2 (w : World) (a b c d e f g h : Int) : (Instr.index 25 (.agg #[.int .u32 a, .int .u32 b, .int .u32 c, .int .u32 d, .int .u32 e, .int .u32 f, .int .u32 g, .int .u32 h]) (.int .i64 2)).run Tryd.prog w = .ok (.int .u32 c) w := by
  have u25 := Tryd.underlying25
  have z24 := Tryd.sizeOf24
  have a24 := Tryd.isAgg24
  unfold Instr.index part
  go_simp

theorem index25_3 (w : World) (a b c d e f g h : Int) : (Instr.index 25 (.agg #[.int .u32 a, .int .u32 b, .int .u32 c, .int .u32 d, .int .u32 e, .int .u32 f, .int .u32 g, .int .u32 h]) (.int .i64 3)).run Tryd.prog w = .ok (.int .u32 d) w := by
  have u25 := Tryd.underlying25
  have z24 := Tryd.sizeOf24
  have a24 := Tryd.isAgg24
  unfold Instr.index part
  go_simp

theorem index25_4 (w : World) (a b c d e f g h : Int) : (Instr.index 25 (.agg #[.int .u32 a, .int .u32 b, .int .u32 c, .int .u32 d, .int .u32 e, .int .u32 f, .int .u32 g, .int .u32 h]) (.int .i64 4)).run Tryd.prog w = .ok (.int .u32 e) w := by
  have u25 := Tryd.underlying25
  have z24 := Tryd.sizeOf24
  have a24 := Tryd.isAgg24
  unfold Instr.index part
  go_simp

theorem index25_5 (w : World) (a b c d e f g h : Int) : (Instr.index 25 (.agg #[.int .u32 a, .int .u32 b, .int .u32 c, .int .u32 d, .int .u32 e, .int .u32 f, .int .u32 g, .int .u32 h]) (.int .i64 5)).run Tryd.prog w = .ok (.int .u32 f) w := by
  have u25 := Tryd.underlying25
  have z24 := Tryd.sizeOf24
  have a24 := Tryd.isAgg24
  unfold Instr.index part
  go_simp

theorem index25_6 (w : World) (a b c d e f g h : Int) : (Instr.index 25 (.agg #[.int .u32 a, .int .u32 b, .int .u32 c, .int .u32 d, .int .u32 e, .int .u32 f, .int .u32 g, .int .u32 h]) (.int .i64 6)).run Tryd.prog w = .ok (.int .u32 g) w := by
  have u25 := Tryd.underlying25
  have z24 := Tryd.sizeOf24
  have a24 := Tryd.isAgg24
  unfold Instr.index part
  go_simp

theorem index25_7 (w : World) (a b c d e f g h : Int) : (Instr.index 25 (.agg #[.int .u32 a, .int .u32 b, .int .u32 c, .int .u32 d, .int .u32 e, .int .u32 f, .int .u32 g, .int .u32 h]) (.int .i64 7)).run Tryd.prog w = .ok (.int .u32 h) w := by
  have u25 := Tryd.underlying25
  have z24 := Tryd.sizeOf24
  have a24 := Tryd.isAgg24
  unfold Instr.index part
  go_simp

theorem index25_at (a b c d e f g h : Int) (j : Nat) (hj : j < 8) (w : World) : (Instr.index 25 (.agg #[.int .u32 a, .int .u32 b, .int .u32 c, .int .u32 d, .int .u32 e, .int .u32 f, .int .u32 g, .int .u32 h]) (.int .i64 j)).run Tryd.prog w = .ok (.int .u32 ([a, b, c, d, e, f, g, h].getD j 0)) w := by
  obtain rfl | rfl | rfl | rfl | rfl | rfl | rfl | rfl : j = 0 ∨ j = 1 ∨ j = 2 ∨ j = 3 ∨ j = 4 ∨ j = 5 ∨ j = 6 ∨ j = 7 := by omega
  · exact index25_0 w a b c d e f g h
  · exact index25_1 w a b c d e f g h
  · exact index25_2 w a b c d e f g h
  · exact index25_3 w a b c d e f g h
  · exact index25_4 w a b c d e f g h
  · exact index25_5 w a b c d e f g h
  · exact index25_6 w a b c d e f g h
  · exact index25_7 w a b c d e f g h

theorem wpList_moveTo {P : Program} {ops : Array Oper} {rest : List Oper} {o : Oper} {a : Act} {w : World} {Q : Exit → Act → World → Prop} (hg : o.guard = none) (x : Operand) (ho : o.op = .move x) (d : Option Tmp) (hd : o.dst = d) (v : Value) (hv : a.eval x = v)
    (h : wpList P ops Q rest (a.put d v) w) : wpList P ops Q (o :: rest) a w := by
  subst hd hv
  refine wpList_plain hg fun _ hK => ?_
  unfold Oper.wp execOp
  rw [ho]
  exact hK _ _ h

theorem built25 (a b c d e f g h : Int) : Tryd.prog.built 25 [(0, .int .u32 a), (1, .int .u32 b), (2, .int .u32 c), (3, .int .u32 d), (4, .int .u32 e), (5, .int .u32 f), (6, .int .u32 g), (7, .int .u32 h)] = some #[.int .u32 a, .int .u32 b, .int .u32 c, .int .u32 d, .int .u32 e, .int .u32 f, .int .u32 g, .int .u32 h] := by
  kernel_rfl

/-- The words, of which the first j have been added to. -/
def mixW (O X : List Int) (j : Nat) : List Int := (List.range 8).map fun i => if i < j then (O.getD i 0 + X.getD i 0) % 4294967296 else O.getD i 0
theorem mixW_len (O X : List Int) (j : Nat) : (mixW O X j).length = 8 := by simp [mixW]
theorem mixW_zero (O X : List Int) (h : O.length = 8) : mixW O X 0 = O := by
  apply List.ext_getElem?
  intro i
  by_cases hi : i < 8
  · simp [mixW, hi, List.getElem?_eq_getElem (show i < O.length by omega)]
  · rw [List.getElem?_eq_none (by rw [mixW_len]; omega), List.getElem?_eq_none (by omega)]
theorem mixW_at (O X : List Int) (j : Nat) (hj : j < 8) : (mixW O X j)[j]? = some (O.getD j 0) := by simp [mixW, hj]
theorem mixW_set (O X : List Int) (j : Nat) (hj : j < 8) : (mixW O X j).set j ((O.getD j 0 + X.getD j 0) % 4294967296) = mixW O X (j + 1) := by
  apply List.ext_getElem?
  intro i
  by_cases hi : i < 8
  · by_cases h : j = i
    · subst h
      rw [List.getElem?_set_self (by rw [mixW_len]; exact hj)]
      simp [mixW, hj]
    · rw [List.getElem?_set_ne h]
      simp only [mixW, List.getElem?_map, List.getElem?_range hi, Option.map_some, Option.some.injEq]
      by_cases h2 : i < j
      · rw [if_pos h2, if_pos (by omega)]
      · rw [if_neg h2, if_neg (by omega)]
  · rw [List.getElem?_eq_none (by rw [List.length_set, mixW_len]; omega), List.getElem?_eq_none (by rw [mixW_len]; omega)]
end

section
open Go.RowKit

def K0 : List Int := [1116352408, 1899447441, 3049323471, 3921009573, 961987163, 1508970993, 2453635748, 2870763221, 3624381080, 310598401, 607225278, 1426881987, 1925078388, 2162078206, 2614888103, 3248222580, 3835390401, 4022224774, 264347078, 604807628, 770255983, 1249150122, 1555081692, 1996064986, 2554220882, 2821834349, 2952996808, 3210313671, 3336571891, 3584528711, 113926993, 338241895, 666307205, 773529912, 1294757372, 1396182291, 1695183700, 1986661051, 2177026350, 2456956037, 2730485921, 2820302411, 3259730800, 3345764771, 3516065817, 3600352804, 4094571909, 275423344, 430227734, 506948616, 659060556, 883997877, 958139571, 1322822218, 1537002063, 1747873779, 1955562222, 2024104815, 2227730452, 2361852424, 2428436474, 2756734187, 3204031479, 3329325298]
def H0 : List Int := [1779033703, 3144134277, 1013904242, 2773480762, 1359893119, 2600822924, 528734635, 1541459225]

structure St where
  a : Int
  b : Int
  c : Int
  d : Int
  e : Int
  f : Int
  g : Int
  h : Int
def t1 (s : St) (k w : Int) : Int :=
  IntKind.u32.wrap (IntKind.u32.wrap (IntKind.u32.wrap (IntKind.u32.wrap (s.h + bits .xor .u32 (bits .xor .u32 (rotr s.e 6) (rotr s.e 11)) (rotr s.e 25)) + bits .xor .u32 (bits .and .u32 s.e s.f) (bits .and .u32 (bits .xor .u32 IntKind.u32.max s.e) s.g)) + k) + w)
def t2 (s : St) : Int := bits .xor .u32 (bits .xor .u32 (rotr s.a 2) (rotr s.a 13)) (rotr s.a 22) + bits .xor .u32 (bits .xor .u32 (bits .and .u32 s.a s.b) (bits .and .u32 s.a s.c)) (bits .and .u32 s.b s.c)
def step (s : St) (k w : Int) : St :=
  ⟨(t1 s k w + t2 s % 4294967296) % 4294967296, s.a, s.b, s.c, (s.d + t1 s k w) % 4294967296, s.e, s.f, s.g⟩
def rounds (s : St) (W : List Int) : Nat → St
  | 0 => s
  | n + 1 => step (rounds s W n) (K0.getD n 0) (W.getD n 0)

theorem rounds_step {s0 s s' : St} {W : List Int} {k : Nat} {kk ww : Int} (hs : s = rounds s0 W k) (hk : kk = K0.getD k 0) (hw : ww = W.getD k 0) (h' : s' = step s kk ww) : s' = rounds s0 W (k + 1) := by
  subst hs hk hw h'; rfl
theorem step_eq {xa xb xc xd xe xf xg xh kk ww T1 : Int} (hT : T1 = t1 ⟨xa, xb, xc, xd, xe, xf, xg, xh⟩ kk ww) :
    (⟨(T1 + (bits .xor .u32 (bits .xor .u32 (rotr xa 2) (rotr xa 13)) (rotr xa 22) + bits .xor .u32 (bits .xor .u32 (bits .and .u32 xa xb) (bits .and .u32 xa xc)) (bits .and .u32 xb xc)) % 4294967296) % 4294967296, xa, xb, xc, (xd + T1) % 4294967296, xe, xf, xg⟩ : St) = step ⟨xa, xb, xc, xd, xe, xf, xg, xh⟩ kk ww := by
  subst hT; rfl

def ofL (ws : List Int) : St := ⟨ws.getD 0 0, ws.getD 1 0, ws.getD 2 0, ws.getD 3 0, ws.getD 4 0, ws.getD 5 0, ws.getD 6 0, ws.getD 7 0⟩
def addW (ws : List Int) (s : St) : List Int :=
  [(ws.getD 0 0 + s.a) % 4294967296, (ws.getD 1 0 + s.b) % 4294967296, (ws.getD 2 0 + s.c) % 4294967296, (ws.getD 3 0 + s.d) % 4294967296,
    (ws.getD 4 0 + s.e) % 4294967296, (ws.getD 5 0 + s.f) % 4294967296, (ws.getD 6 0 + s.g) % 4294967296, (ws.getD 7 0 + s.h) % 4294967296]
/-- What a block makes of the eight words. -/
def compress (ws : List Int) (bs : List UInt8) : List Int := addW ws (rounds (ofL ws) (schedN bs 64) 64)

theorem compress_eq {a b c d e f g h : Int} {bs : List UInt8} {s : St} (hs : s = rounds ⟨a, b, c, d, e, f, g, h⟩ (schedN bs 64) 64) :
    compress [a, b, c, d, e, f, g, h] bs = [(a + s.a) % 4294967296, (b + s.b) % 4294967296, (c + s.c) % 4294967296, (d + s.d) % 4294967296, (e + s.e) % 4294967296, (f + s.f) % 4294967296, (g + s.g) % 4294967296, (h + s.h) % 4294967296] := by
  unfold compress addW ofL
  simp only [List.getD_cons_zero, List.getD_cons_succ]
  rw [← hs]

theorem mixW_compress {a b c d e f g h xa xb xc xd xe xf xg xh : Int} {bs : List UInt8} (hs : (⟨xa, xb, xc, xd, xe, xf, xg, xh⟩ : St) = rounds ⟨a, b, c, d, e, f, g, h⟩ (schedN bs 64) 64) :
    compress [a, b, c, d, e, f, g, h] bs = mixW [a, b, c, d, e, f, g, h] [xa, xb, xc, xd, xe, xf, xg, xh] 8 := by
  rw [compress_eq hs]
  simp [mixW, List.range_succ]

/-- The two tables, as the program's text has them. -/
structure Tabs (w : World) : Prop where
  h : ∀ i, i < 8 → w.cell? ⟨0, i, none⟩ = some (.int .u32 (H0.getD i 0))
  k : ∀ i, i < 64 → w.cell? ⟨1, i, none⟩ = some (.int .u32 (K0.getD i 0))
  lt : 2 ≤ w.heap.size

theorem Tabs.chg {w w' : World} {c : Option Nat} (h : Tabs w) (g : Chg c w w') (hc : ∀ b, c = some b → 2 ≤ b) : Tabs w' :=
  ⟨fun i hi => World.grownBy.cell g (h.h i hi) (fun e => by have := hc 0 e.symm; omega), fun i hi => World.grownBy.cell g (h.k i hi) (fun e => by have := hc 1 e.symm; omega), Nat.le_trans h.lt g.size⟩

set_option maxRecDepth 100000 in
set_option maxHeartbeats 8000000 in
theorem block_any (ws : List Int) (tl : List Value) (bs : List UInt8) (b sb so sc : Nat) (w : World) (hw : ws.length = 8) (hb : BlkL w b (ws.map u32v ++ tl) 94) (hT : Tabs w) (hl : bs.length = 64) (hsb : sb < w.heap.size)
    (hsrc : ∀ j c, bs[j]? = some c → w.cell? ⟨sb, so + j, none⟩ = some (.int .u8 c.toNat)) :
    Calls Tryd.prog 86 #[.pointer (some ⟨b, 0, none⟩), .slice (some ⟨sb, so, none⟩) 64 sc] w fun e w' => e = .returned (.tuple #[]) ∧ BlkL w' b ((compress ws bs).map u32v ++ tl) 94 ∧ Chg (some b) w w' := by
  have hSC := schedule_any bs sb so sc w hl hsb hsrc
  have hSl := schedN_len bs 64
  obtain ⟨SW, hSW⟩ : ∃ SW, SW = schedN bs 64 := ⟨_, rfl⟩
  have HSW := Lib.hid hSW
  rw [← hSW] at hSC hSl
  have HSC := Lib.hid hSC
  have HSL := Lib.hid hSl
  clear hSC hSl hSW
  have H2 := Lib.hid (fun W x => right2 x W)
  have H6 := Lib.hid (fun W x => right6 x W)
  have H11 := Lib.hid (fun W x => right11 x W)
  have H13 := Lib.hid (fun W x => right13 x W)
  have H22 := Lib.hid (fun W x => right22 x W)
  have H25 := Lib.hid (fun W x => right25 x W)
  have hinf : (Tryd.prog.info? 26).map (·.size) = some ((SW).map u32v).toArray.size := by
    rw [List.size_toArray, List.length_map, HSL.out]; kernel_rfl
  have hone : ((SW).map u32v).toArray.all (·.oneCell') = true := by
    simp [u32v]
    intro x _; rfl
  have hcs : ((SW).map u32v).toArray.size = 64 := by rw [List.size_toArray, List.length_map, HSL.out]
  have HI := Lib.hid hinf
  have HO := Lib.hid hone
  have HC := Lib.hid hcs
  clear hinf hone hcs hsrc
  obtain ⟨a0, b0, c0, d0, e0, f0, g0, h0, rfl⟩ : ∃ a b c d e f g h, ws = [a, b, c, d, e, f, g, h] := by
    match ws, hw with
    | [a, b, c, d, e, f, g, h], _ => exact ⟨a, b, c, d, e, f, g, h, rfl⟩
  go_enter Tryd.func86, Tryd.ntmps86
  go_wp2_with fail
  refine HSC.out.mono ?_
  rintro e w1 ⟨rfl, g1⟩
  have hb1 := Blk.chg hb g1 (by simp)
  have hT1 := hT.chg g1 (by simp)
  have hblt := Blk.lt hb1
  clear HSC
  go_wp2_with (refine wpList_store_row rfl 26 _ _ rfl w1.heap.size ((SW).map u32v).toArray rfl rfl 26 _ (heap_alloc_new _ _) HI.out (by rw [HC.out]; rfl) HO.out ?_)
  try simp only [Act.put]
  obtain ⟨w2, hw2⟩ : ∃ w2 : World, w2 = (w1.alloc (.cells (List.replicate 64 (Value.int .u32 0)).toArray 26)).setRow w1.heap.size ((SW).map u32v).toArray := ⟨_, rfl⟩
  have hsr : (w1.alloc (.cells (List.replicate 64 (Value.int .u32 0)).toArray 26)).setRow w1.heap.size ((SW).map u32v).toArray = w2 := hw2.symm
  have hwb : BlkL w2 w1.heap.size ((SW).map u32v) 26 := by rw [hw2]; exact setRow_heap _ _ _ _ _ _ (heap_alloc_new _ _)
  have g12 : Chg none w1 w2 := by
    rw [hw2]
    exact Chg.own (b := w1.heap.size) ((Chg.refl none w1).alloc _) ⟨rfl, rfl, rfl, by simp [World.setRow], fun i _ hn => setRow_other _ _ i _ (by simpa using hn)⟩ (Nat.le_refl _)
  have hb2 := Blk.chg hb1 g12 (by simp)
  have hT2 := hT1.chg g12 (by simp)
  have hne : b ≠ w1.heap.size := by omega
  generalize w1.heap.size = wb at *
  clear hw2 hb1 hT1 hblt
  show Code.wp _ _ _ _ ((w1.alloc (.cells (List.replicate 64 (Value.int .u32 0)).toArray 26)).setRow _ _)
  rw [hsr]
  have qa : w2.cell? ⟨b, 0, none⟩ = some (.int .u32 a0) := by rw [BlkL.cell hb2]; rfl
  have qb : w2.cell? ⟨b, 1, none⟩ = some (.int .u32 b0) := by rw [BlkL.cell hb2]; rfl
  have qc : w2.cell? ⟨b, 2, none⟩ = some (.int .u32 c0) := by rw [BlkL.cell hb2]; rfl
  have qd : w2.cell? ⟨b, 3, none⟩ = some (.int .u32 d0) := by rw [BlkL.cell hb2]; rfl
  have qe : w2.cell? ⟨b, 4, none⟩ = some (.int .u32 e0) := by rw [BlkL.cell hb2]; rfl
  have qf : w2.cell? ⟨b, 5, none⟩ = some (.int .u32 f0) := by rw [BlkL.cell hb2]; rfl
  have qg : w2.cell? ⟨b, 6, none⟩ = some (.int .u32 g0) := by rw [BlkL.cell hb2]; rfl
  have qh : w2.cell? ⟨b, 7, none⟩ = some (.int .u32 h0) := by rw [BlkL.cell hb2]; rfl
  go_wp2_with fail
  go_region
  go_wp2_with fail
  go_region
  go_wp2_with fail
  go_loopw [5, 6, 7, 8, 9, 10, 11, 12, 60] (fun s5 s6 s7 s8 s9 s10 s11 s12 s60 wr => ∃ (k : Nat) (s : St), k ≤ 64 ∧ s60 = .int .i64 k ∧ s = rounds ⟨a0, b0, c0, d0, e0, f0, g0, h0⟩ (SW) k ∧ s5 = .int .u32 s.a ∧ s6 = .int .u32 s.b ∧ s7 = .int .u32 s.c ∧ s8 = .int .u32 s.d ∧ s9 = .int .u32 s.e ∧ s10 = .int .u32 s.f ∧ s11 = .int .u32 s.g ∧ s12 = .int .u32 s.h ∧ Chg none w2 wr) (fun _ _ _ _ _ _ _ _ s60 _ => 64 - (intOf s60).toNat)
  case atStart => exact ⟨0, ⟨a0, b0, c0, d0, e0, f0, g0, h0⟩, by omega, rfl, rfl, rfl, rfl, rfl, rfl, rfl, rfl, rfl, rfl, by repeat (first | (with_reducible exact Chg.refl _ _) | (with_reducible refine Chg.drew ?_))⟩
  case round =>
    obtain ⟨k, s, hk, rfl, hs, rfl, rfl, rfl, rfl, rfl, rfl, rfl, rfl, hg⟩ := hrel
    by_cases hlt : k < 64
    · as_aux_lemma =>
        obtain ⟨kk, hkk⟩ : ∃ kk, kk = K0.getD k 0 := ⟨_, rfl⟩
        obtain ⟨ww, hww⟩ : ∃ ww, ww = (SW).getD k 0 := ⟨_, rfl⟩
        have HKK := Lib.hid hkk
        have HWW := Lib.hid hww
        have HS := Lib.hid hs
        have ck : wr.cell? ⟨1, k, none⟩ = some (.int .u32 kk) := by rw [hkk]; exact (hT2.chg hg (by simp)).k k hlt
        have cw : wr.cell? ⟨wb, k, none⟩ = some (.int .u32 ww) := by
          rw [hww, BlkL.cell (Blk.chg hwb hg (by simp)), List.getElem?_map, List.getD_eq_getElem?_getD, List.getElem?_eq_getElem (by rw [HSL.out]; exact hlt)]
          rfl
        clear hkk hww hs
        obtain ⟨xa, xb, xc, xd, xe, xf, xg, xh⟩ := s
        dsimp only
        go_wp2_with fail
        obtain ⟨T1, hT1⟩ : ∃ T1, T1 = t1 ⟨xa, xb, xc, xd, xe, xf, xg, xh⟩ kk ww := ⟨_, rfl⟩
        have HT1 := Lib.hid hT1
        unfold t1 at hT1
        dsimp only at hT1
        go_cut [14] (fun s14 wx => s14 = .int .u32 T1 ∧ wx = wr.drew)
        case first =>
          rename_i q1 k2 a4 q0 hh k1 a3 k0 a2 jj kp am an
          clear a2 a3 a4 HT1 HKK HWW HS hg hk qa qb qc qd qe qf qg qh hne hwb hsr hb2 hT2 g12 g1 hb hw HI HO HC H2 H13 H22 HSW HSL hT hl hsb
          as_aux_lemma =>
            refine wp_region_held_drew (S := fun w' => w'.cell? ⟨1, k, none⟩ = some (.int .u32 kk) ∧ w'.cell? ⟨wb, k, none⟩ = some (.int .u32 ww)) (by kernel_rfl) ⟨ck, cw⟩ (fun _ => ?_)
            refine wpAnyH_take (i := 0) (oi := ⟨some 63, _, _, _, _, _⟩) (v := ?_) rfl (by kernel_rfl) (by kernel_rfl) (by kernel_rfl) (fun _ _ _ h => h) (Or.inl ⟨by rfl, ?_⟩) (by assumption) ?_
            rotate_left
            · intro w hSw; (try dsimp only at hSw); go_simp; (try with_reducible rfl)
            try simp only [Act.put, List.setIfInBounds_toArray, List.set_cons_zero, List.set_cons_succ]
            refine wpAnyH_take (i := 1) (oi := ⟨some 64, _, _, _, _, _⟩) (v := ?_) rfl (by kernel_rfl) (by kernel_rfl) (by kernel_rfl) (fun _ _ _ h => h) (Or.inl ⟨by rfl, ?_⟩) (by assumption) ?_
            rotate_left
            · intro w hSw; (try dsimp only at hSw); go_simp; (try with_reducible rfl)
            try simp only [Act.put, List.setIfInBounds_toArray, List.set_cons_zero, List.set_cons_succ]
            refine wpAnyH_take (i := 3) (oi := ⟨some 66, _, _, _, _, _⟩) (v := ?_) rfl (by kernel_rfl) (by kernel_rfl) (by kernel_rfl) (fun _ _ _ h => h) (Or.inl ⟨by rfl, ?_⟩) (by assumption) ?_
            rotate_left
            · intro w hSw; (try dsimp only at hSw); go_simp; (try with_reducible rfl)
            try simp only [Act.put, List.setIfInBounds_toArray, List.set_cons_zero, List.set_cons_succ]
            refine wpAnyH_take (i := 6) (oi := ⟨some 69, _, _, _, _, _⟩) (v := ?_) rfl (by kernel_rfl) (by kernel_rfl) (by kernel_rfl) (fun _ _ _ h => h) (Or.inl ⟨by rfl, ?_⟩) (by assumption) ?_
            rotate_left
            · intro w hSw; (try dsimp only at hSw); go_simp; (try with_reducible rfl)
            try simp only [Act.put, List.setIfInBounds_toArray, List.set_cons_zero, List.set_cons_succ]
            refine wpAnyH_take (i := 10) (oi := ⟨some 73, _, _, _, _, _⟩) (v := ?_) rfl (by kernel_rfl) (by kernel_rfl) (by kernel_rfl) (fun _ _ _ h => h) (Or.inl ⟨by rfl, ?_⟩) (by assumption) ?_
            rotate_left
            · intro w hSw; (try dsimp only at hSw); go_simp; (try with_reducible rfl)
            try simp only [Act.put, List.setIfInBounds_toArray, List.set_cons_zero, List.set_cons_succ]
            refine wpAnyH_take (i := 11) (oi := ⟨some 74, _, _, _, _, _⟩) (v := ?_) rfl (by kernel_rfl) (by kernel_rfl) (by kernel_rfl) (fun _ _ _ h => h) (Or.inl ⟨by rfl, ?_⟩) (by assumption) ?_
            rotate_left
            · intro w hSw; (try dsimp only at hSw); go_simp; (try with_reducible rfl)
            try simp only [Act.put, List.setIfInBounds_toArray, List.set_cons_zero, List.set_cons_succ]
            refine wpAnyH_take (i := 12) (oi := ⟨some 75, _, _, _, _, _⟩) (v := ?_) rfl (by kernel_rfl) (by kernel_rfl) (by kernel_rfl) (fun _ _ _ h => h) (Or.inl ⟨by rfl, ?_⟩) (by assumption) ?_
            rotate_left
            · intro w hSw; (try dsimp only at hSw); go_simp; (try with_reducible rfl)
            try simp only [Act.put, List.setIfInBounds_toArray, List.set_cons_zero, List.set_cons_succ]
            refine wpAnyH_take (i := 13) (oi := ⟨some 76, _, _, _, _, _⟩) (v := ?_) rfl (by kernel_rfl) (by kernel_rfl) (by kernel_rfl) (fun _ _ _ h => h) (Or.inl ⟨by rfl, ?_⟩) (by assumption) ?_
            rotate_left
            · intro w hSw; (try dsimp only at hSw); go_simp; (try with_reducible rfl)
            try simp only [Act.put, List.setIfInBounds_toArray, List.set_cons_zero, List.set_cons_succ]
            refine wpAnyH_take (i := 14) (oi := ⟨some 77, _, _, _, _, _⟩) (v := ?_) rfl (by kernel_rfl) (by kernel_rfl) (by kernel_rfl) (fun _ _ _ h => h) (Or.inl ⟨by rfl, ?_⟩) (by assumption) ?_
            rotate_left
            · intro w hSw; (try dsimp only at hSw); go_simp; (try with_reducible rfl)
            try simp only [Act.put, List.setIfInBounds_toArray, List.set_cons_zero, List.set_cons_succ]
            refine wpAnyH_take (i := 15) (oi := ⟨some 78, _, _, _, _, _⟩) (v := ?_) rfl (by kernel_rfl) (by kernel_rfl) (by kernel_rfl) (fun _ _ _ h => h) (Or.inl ⟨by rfl, ?_⟩) (by assumption) ?_
            rotate_left
            · intro w hSw; (try dsimp only at hSw); go_simp; (try with_reducible rfl)
            try simp only [Act.put, List.setIfInBounds_toArray, List.set_cons_zero, List.set_cons_succ]
            refine wpAnyH_take (i := 16) (oi := ⟨some 79, _, _, _, _, _⟩) (v := ?_) rfl (by kernel_rfl) (by kernel_rfl) (by kernel_rfl) (fun _ _ _ h => h) (Or.inl ⟨by rfl, ?_⟩) (by assumption) ?_
            rotate_left
            · intro w hSw; (try dsimp only at hSw); go_simp; (try with_reducible rfl)
            try simp only [Act.put, List.setIfInBounds_toArray, List.set_cons_zero, List.set_cons_succ]
            refine wpAnyH_take (i := 17) (oi := ⟨some 80, _, _, _, _, _⟩) (v := ?_) rfl (by kernel_rfl) (by kernel_rfl) (by kernel_rfl) (fun _ _ _ h => h) (Or.inl ⟨by rfl, ?_⟩) (by assumption) ?_
            rotate_left
            · intro w hSw; (try dsimp only at hSw); go_simp; (try with_reducible rfl)
            try simp only [Act.put, List.setIfInBounds_toArray, List.set_cons_zero, List.set_cons_succ]
            refine wpAnyH_take (i := 19) (oi := ⟨some 82, _, _, _, _, _⟩) (v := ?_) rfl (by kernel_rfl) (by kernel_rfl) (by kernel_rfl) (fun _ _ _ h => h) (Or.inl ⟨by rfl, ?_⟩) (by assumption) ?_
            rotate_left
            · intro w hSw; (try dsimp only at hSw); go_simp; (try with_reducible rfl)
            try simp only [Act.put, List.setIfInBounds_toArray, List.set_cons_zero, List.set_cons_succ]
            refine wpAnyH_take (i := 20) (oi := ⟨some 83, _, _, _, _, _⟩) (v := ?_) rfl (by kernel_rfl) (by kernel_rfl) (by kernel_rfl) (fun _ _ _ h => h) (Or.inl ⟨by rfl, ?_⟩) (by assumption) ?_
            rotate_left
            · intro w hSw; (try dsimp only at hSw); go_simp; (try with_reducible rfl)
            try simp only [Act.put, List.setIfInBounds_toArray, List.set_cons_zero, List.set_cons_succ]
            refine wpAnyH_take (i := 21) (oi := ⟨some 84, _, _, _, _, _⟩) (v := ?_) rfl (by kernel_rfl) (by kernel_rfl) (by kernel_rfl) (fun _ _ _ h => h) (Or.inl ⟨by rfl, ?_⟩) (by assumption) ?_
            rotate_left
            · intro w hSw; (try dsimp only at hSw); go_simp; (try with_reducible rfl)
            try simp only [Act.put, List.setIfInBounds_toArray, List.set_cons_zero, List.set_cons_succ]
            refine wpAnyH_take (i := 23) (oi := ⟨some 86, _, _, _, _, _⟩) (v := ?_) rfl (by kernel_rfl) (by kernel_rfl) (by kernel_rfl) (fun _ _ _ h => h) (Or.inl ⟨by rfl, ?_⟩) (by assumption) ?_
            rotate_left
            · intro w hSw; (try dsimp only at hSw); go_simp; (try with_reducible rfl)
            try simp only [Act.put, List.setIfInBounds_toArray, List.set_cons_zero, List.set_cons_succ]
            refine wpAnyH_take (i := 24) (oi := ⟨some 87, _, _, _, _, _⟩) (v := ?_) rfl (by kernel_rfl) (by kernel_rfl) (by kernel_rfl) (fun _ _ _ h => h) (Or.inl ⟨by rfl, ?_⟩) (by assumption) ?_
            rotate_left
            · intro w hSw; (try dsimp only at hSw); go_simp; (try with_reducible rfl)
            try simp only [Act.put, List.setIfInBounds_toArray, List.set_cons_zero, List.set_cons_succ]
            refine wpAnyH_take (i := 25) (oi := ⟨some 88, _, _, _, _, _⟩) (v := ?_) rfl (by kernel_rfl) (by kernel_rfl) (by kernel_rfl) (fun _ _ _ h => h) (Or.inl ⟨by rfl, ?_⟩) (by assumption) ?_
            rotate_left
            · intro w hSw; (try dsimp only at hSw); go_simp; (try with_reducible rfl)
            try simp only [Act.put, List.setIfInBounds_toArray, List.set_cons_zero, List.set_cons_succ]
            refine wpAnyH_ready (rs := [2]) (by kernel_rfl) (by simp) ?_
            refine AllReadyH.cons (o := ⟨some 65, _, _, _, _, _⟩) rfl (fun K hK => ?_) ?_
            rotate_left
            · exact AllReadyH.nil
            go_simp
            go_at_call 96
            refine (H6.out _ _).mono ?_
            rintro e w' ⟨rfl, rfl⟩
            go_wp2_with fail
            refine hK.out _ _ ⟨ck, cw⟩ (fun _ => ?_)
            clear hK K
            try simp only [Act.put, List.setIfInBounds_toArray, List.set_cons_zero, List.set_cons_succ]
            refine wpAnyH_ready (rs := [4]) (by kernel_rfl) (by simp) ?_
            refine AllReadyH.cons (o := ⟨some 67, _, _, _, _, _⟩) rfl (fun K hK => ?_) ?_
            rotate_left
            · exact AllReadyH.nil
            go_simp
            go_at_call 96
            refine (H11.out _ _).mono ?_
            rintro e w' ⟨rfl, rfl⟩
            go_wp2_with fail
            refine hK.out _ _ ⟨ck, cw⟩ (fun _ => ?_)
            clear hK K
            try simp only [Act.put, List.setIfInBounds_toArray, List.set_cons_zero, List.set_cons_succ]
            refine wpAnyH_take (i := 5) (oi := ⟨some 68, _, _, _, _, _⟩) (v := ?_) rfl (by kernel_rfl) (by kernel_rfl) (by kernel_rfl) (fun _ _ _ h => h) (Or.inl ⟨by rfl, ?_⟩) (by assumption) ?_
            rotate_left
            · intro w hSw; (try dsimp only at hSw); go_simp; (try with_reducible rfl)
            try simp only [Act.put, List.setIfInBounds_toArray, List.set_cons_zero, List.set_cons_succ]
            refine wpAnyH_ready (rs := [7]) (by kernel_rfl) (by simp) ?_
            refine AllReadyH.cons (o := ⟨some 70, _, _, _, _, _⟩) rfl (fun K hK => ?_) ?_
            rotate_left
            · exact AllReadyH.nil
            go_simp
            go_at_call 96
            refine (H25.out _ _).mono ?_
            rintro e w' ⟨rfl, rfl⟩
            go_wp2_with fail
            refine hK.out _ _ ⟨ck, cw⟩ (fun _ => ?_)
            clear hK K
            try simp only [Act.put, List.setIfInBounds_toArray, List.set_cons_zero, List.set_cons_succ]
            refine wpAnyH_take (i := 8) (oi := ⟨some 71, _, _, _, _, _⟩) (v := ?_) rfl (by kernel_rfl) (by kernel_rfl) (by kernel_rfl) (fun _ _ _ h => h) (Or.inl ⟨by rfl, ?_⟩) (by assumption) ?_
            rotate_left
            · intro w hSw; (try dsimp only at hSw); go_simp; (try with_reducible rfl)
            try simp only [Act.put, List.setIfInBounds_toArray, List.set_cons_zero, List.set_cons_succ]
            refine wpAnyH_take (i := 9) (oi := ⟨some 72, _, _, _, _, _⟩) (v := ?_) rfl (by kernel_rfl) (by kernel_rfl) (by kernel_rfl) (fun _ _ _ h => h) (Or.inl ⟨by rfl, ?_⟩) (by assumption) ?_
            rotate_left
            · intro w hSw; (try dsimp only at hSw); go_simp; (try with_reducible rfl)
            try simp only [Act.put, List.setIfInBounds_toArray, List.set_cons_zero, List.set_cons_succ]
            refine wpAnyH_take (i := 18) (oi := ⟨some 81, _, _, _, _, _⟩) (v := ?_) rfl (by kernel_rfl) (by kernel_rfl) (by kernel_rfl) (fun _ _ _ h => h) (Or.inl ⟨by rfl, ?_⟩) (by assumption) ?_
            rotate_left
            · intro w hSw; (try dsimp only at hSw); go_simp; (try with_reducible rfl)
            try simp only [Act.put, List.setIfInBounds_toArray, List.set_cons_zero, List.set_cons_succ]
            refine wpAnyH_take (i := 22) (oi := ⟨some 85, _, _, _, _, _⟩) (v := ?_) rfl (by kernel_rfl) (by kernel_rfl) (by kernel_rfl) (fun _ _ _ h => h) (Or.inl ⟨by rfl, ?_⟩) (by assumption) ?_
            rotate_left
            · intro w hSw; (try dsimp only at hSw); go_simp; (try with_reducible rfl)
            try simp only [Act.put, List.setIfInBounds_toArray, List.set_cons_zero, List.set_cons_succ]
            refine wpAnyH_take (i := 26) (oi := ⟨some 89, _, _, _, _, _⟩) (v := ?_) rfl (by kernel_rfl) (by kernel_rfl) (by kernel_rfl) (fun _ _ _ h => h) (Or.inl ⟨by rfl, ?_⟩) (by assumption) ?_
            rotate_left
            · intro w hSw; (try dsimp only at hSw); go_simp; (try with_reducible rfl)
            try simp only [Act.put, List.setIfInBounds_toArray, List.set_cons_zero, List.set_cons_succ]
            refine wpAnyH_take (i := 27) (oi := ⟨some 14, _, _, _, _, _⟩) (v := ?_) rfl (by kernel_rfl) (by kernel_rfl) (by kernel_rfl) (fun _ _ _ h => h) (Or.inl ⟨by rfl, ?_⟩) (by assumption) ?_
            rotate_left
            · intro w hSw; (try dsimp only at hSw); go_simp; (try with_reducible rfl)
            try simp only [Act.put, List.setIfInBounds_toArray, List.set_cons_zero, List.set_cons_succ]
            refine wpAnyH_done (by kernel_rfl) ?_ _
            go_wp2_with fail
            go_meet
            exact ⟨by rw [hT1], rfl⟩
        case rest =>
          as_aux_lemma =>
            clear hT1
            obtain ⟨rfl, rfl⟩ := hcut
            go_wp2_with fail
            refine (H2.out _ _).mono ?_
            rintro e w' ⟨rfl, rfl⟩
            go_wp2_with fail
            refine (H13.out _ _).mono ?_
            rintro e w' ⟨rfl, rfl⟩
            go_wp2_with fail
            refine (H22.out _ _).mono ?_
            rintro e w' ⟨rfl, rfl⟩
            go_wp2_with fail
            go_roundw
            case rel =>
              have hst := rounds_step HS.out HKK.out HWW.out (step_eq HT1.out)
              exact ⟨k + 1, _, by omega, by go_num, hst, rfl, rfl, rfl, rfl, rfl, rfl, rfl, rfl, hg.drew⟩
            case measure => first | (simp [intOf]; done) | (simp [intOf]; omega)
    · as_aux_lemma =>
        have hd : decide ((k : Int) < 64) = false := by simp; omega
        have hk64 : k = 64 := by omega
        rw [hk64, HSW.out] at hs
        clear hk64
        have hbr := Blk.chg hb2 hg (by simp)
        have hfz := Blk.frozen hbr
        have ra := World.grownBy.cell hg qa (by simp)
        have rb := World.grownBy.cell hg qb (by simp)
        have rc := World.grownBy.cell hg qc (by simp)
        have rd := World.grownBy.cell hg qd (by simp)
        have re := World.grownBy.cell hg qe (by simp)
        have rf := World.grownBy.cell hg qf (by simp)
        have rg := World.grownBy.cell hg qg (by simp)
        have rh := World.grownBy.cell hg qh (by simp)
        have hgw : Chg (some b) w wr := ((g1.trans g12).trans hg).weaken
        have HS := Lib.hid hs
        clear hs qa qb qc qd qe qf qg qh
        obtain ⟨xa, xb, xc, xd, xe, xf, xg, xh⟩ := s
        dsimp only
        have hb25 := built25 xa xb xc xd xe xf xg xh
        go_upto_region 11 with fail
        go_cut [131, 132] (fun s131 s132 wx => s131 = .agg #[.int .u32 xa, .int .u32 xb, .int .u32 xc, .int .u32 xd, .int .u32 xe, .int .u32 xf, .int .u32 xg, .int .u32 xh] ∧ s132 = .int .i64 0 ∧ wx = wr)
        case first =>
          refine wp_region_list ?_
          refine wpList_moveTo rfl (.tmp 5) rfl (some 123) rfl (.int .u32 xa) rfl ?_
          try simp only [Act.put, List.setIfInBounds_toArray, List.set_cons_zero, List.set_cons_succ]
          refine wpList_moveTo rfl (.tmp 6) rfl (some 124) rfl (.int .u32 xb) rfl ?_
          try simp only [Act.put, List.setIfInBounds_toArray, List.set_cons_zero, List.set_cons_succ]
          refine wpList_moveTo rfl (.tmp 7) rfl (some 125) rfl (.int .u32 xc) rfl ?_
          try simp only [Act.put, List.setIfInBounds_toArray, List.set_cons_zero, List.set_cons_succ]
          refine wpList_moveTo rfl (.tmp 8) rfl (some 126) rfl (.int .u32 xd) rfl ?_
          try simp only [Act.put, List.setIfInBounds_toArray, List.set_cons_zero, List.set_cons_succ]
          refine wpList_moveTo rfl (.tmp 9) rfl (some 127) rfl (.int .u32 xe) rfl ?_
          try simp only [Act.put, List.setIfInBounds_toArray, List.set_cons_zero, List.set_cons_succ]
          refine wpList_moveTo rfl (.tmp 10) rfl (some 128) rfl (.int .u32 xf) rfl ?_
          try simp only [Act.put, List.setIfInBounds_toArray, List.set_cons_zero, List.set_cons_succ]
          refine wpList_moveTo rfl (.tmp 11) rfl (some 129) rfl (.int .u32 xg) rfl ?_
          try simp only [Act.put, List.setIfInBounds_toArray, List.set_cons_zero, List.set_cons_succ]
          refine wpList_moveTo rfl (.tmp 12) rfl (some 130) rfl (.int .u32 xh) rfl ?_
          try simp only [Act.put, List.setIfInBounds_toArray, List.set_cons_zero, List.set_cons_succ]
          refine wpList_buildTo rfl 25 _ rfl (some 131) rfl #[.int .u32 xa, .int .u32 xb, .int .u32 xc, .int .u32 xd, .int .u32 xe, .int .u32 xf, .int .u32 xg, .int .u32 xh] (by simp only [List.map_toArray, List.map_cons, List.map_nil]; exact hb25) ?_
          try simp only [Act.put, List.setIfInBounds_toArray, List.set_cons_zero, List.set_cons_succ]
          refine wpList_moveTo rfl (.const (.int .i64 0)) rfl (some 132) rfl (.int .i64 0) rfl ?_
          try simp only [Act.put, List.setIfInBounds_toArray, List.set_cons_zero, List.set_cons_succ]
          refine wpList_nil ?_
          go_wp2_with fail
          go_meet
          exact ⟨rfl, rfl, rfl⟩
        case rest =>
          obtain ⟨rfl, rfl, rfl⟩ := hcut
          clear hb25
          go_wp2_with fail
          have hm0 := mixW_zero [a0, b0, c0, d0, e0, f0, g0, h0] [xa, xb, xc, xd, xe, xf, xg, xh] rfl
          have HM0 := Lib.hid hm0
          clear hm0 ra rb rc rd re rf rg rh hfz
          go_loopw [132] (fun s132 wq => ∃ j : Nat, j ≤ 8 ∧ s132 = .int .i64 j ∧ BlkL wq b ((mixW [a0, b0, c0, d0, e0, f0, g0, h0] [xa, xb, xc, xd, xe, xf, xg, xh] j).map u32v ++ tl) 94 ∧ Chg (some b) w wq) (fun s132 _ => 8 - (intOf s132).toNat)
          case atStart => exact ⟨0, by omega, rfl, by rw [HM0.out]; exact hbr, hgw⟩
          case round =>
            obtain ⟨j, hj, rfl, hbq, hgq⟩ := hrel
            by_cases hlt2 : j < 8
            · as_aux_lemma =>
                have hjl : j < (mixW [a0, b0, c0, d0, e0, f0, g0, h0] [xa, xb, xc, xd, xe, xf, xg, xh] j).length := by rw [mixW_len]; exact hlt2
                have cj : wr.cell? ⟨b, j, none⟩ = some (.int .u32 ([a0, b0, c0, d0, e0, f0, g0, h0].getD j 0)) := by
                  rw [BlkL.cell hbq, List.getElem?_append_left (by simpa using hjl), List.getElem?_map, mixW_at _ _ _ hlt2]
                  rfl
                have hfz := Blk.frozen hbq j
                have ix := index25_at xa xb xc xd xe xf xg xh j hlt2
                have hset := BlkL.set hbq j (u32v (([a0, b0, c0, d0, e0, f0, g0, h0].getD j 0 + [xa, xb, xc, xd, xe, xf, xg, xh].getD j 0) % 4294967296))
                rw [List.set_append_left _ _ (by simpa using hjl), ← List.map_set, mixW_set _ _ _ hlt2] at hset
                generalize [a0, b0, c0, d0, e0, f0, g0, h0].getD j 0 = oj at *
                generalize [xa, xb, xc, xd, xe, xf, xg, xh].getD j 0 = xj at *
                clear hjl
                go_wp2_with fail
                go_region
                all_goals
                  go_wp2_with fail
                  go_roundw
                  case rel => exact ⟨j + 1, by omega, by go_num, by exact hset, by repeat (first | (with_reducible exact hgq) | (with_reducible refine Chg.drew ?_) | (with_reducible refine Chg.setCell ?_ _ _))⟩
                  case measure => first | (simp [intOf]; done) | (simp [intOf]; omega)
            · as_aux_lemma =>
                have hj8 : j = 8 := by omega
                have hd8 : decide ((j : Int) < 8) = false := by simp; omega
                rw [hj8] at hbq
                clear hj8
                go_wp2_with fail
                refine bodyPost_end (results_none rfl _ _ _) rfl ⟨rfl, ?_, hgq⟩
                have hcp := mixW_compress HS.out
                rw [hcp]
                exact hbq
end

section
open Go.RowKit

def byteVals (bs : List UInt8) : List Value := bs.map fun x => .int .u8 x.toNat
theorem byteVals_len (bs : List UInt8) : (byteVals bs).length = bs.length := by simp [byteVals]
theorem byteVals_append (a b : List UInt8) : byteVals a ++ byteVals b = byteVals (a ++ b) := by simp [byteVals]
theorem byteVals_take (a : List UInt8) (n : Nat) : (byteVals a).take n = byteVals (a.take n) := by simp [byteVals]
theorem byteVals_drop (a : List UInt8) (n : Nat) : (byteVals a).drop n = byteVals (a.drop n) := by simp [byteVals]
theorem byteVals_one (bs : List UInt8) : ∀ v ∈ byteVals bs, v.oneCell' = true := by
  intro v hv
  simp only [byteVals, List.mem_map] at hv
  obtain ⟨x, _, rfl⟩ := hv
  rfl
theorem byteVals_get {bs : List UInt8} {k : Nat} {c : UInt8} (h : bs[k]? = some c) : (byteVals bs)[k]? = some (.int .u8 c.toNat) := by
  simp [byteVals, h]

/-- The eight words behind the first n blocks of m. -/
def hashB (m : List UInt8) : Nat → List Int
  | 0 => H0
  | n + 1 => compress (hashB m n) ((m.drop (64 * n)).take 64)

theorem compress_len (ws : List Int) (bs : List UInt8) : (compress ws bs).length = 8 := rfl
theorem hashB_len (m : List UInt8) : ∀ n, (hashB m n).length = 8
  | 0 => rfl
  | _ + 1 => compress_len _ _

theorem hashB_append (m x : List UInt8) : ∀ n, 64 * n ≤ m.length → hashB (m ++ x) n = hashB m n
  | 0, _ => rfl
  | n + 1, h => by
    rw [hashB, hashB, hashB_append m x n (by omega), List.drop_append_of_le_length (by omega), List.take_append_of_le_length (by rw [List.length_drop]; omega)]

/-- The hasher in block b has taken in m. -/
structure HsAt (w : World) (b : Nat) (m : List UInt8) : Prop where
  cells : ∃ rest : List Value, rest.length = 64 ∧ (∀ v ∈ rest, v.oneCell' = true) ∧ rest.take (m.length % 64) = byteVals (m.drop (64 * (m.length / 64))) ∧
    BlkL w b ((hashB m (m.length / 64)).map u32v ++ (rest ++ [.int .i64 ((m.length % 64 : Nat) : Int), .int .u64 (m.length : Int)])) 94

theorem HsAt.lt {w : World} {b : Nat} {m : List UInt8} (h : HsAt w b m) : b < w.heap.size := by
  obtain ⟨_, _, _, _, hb⟩ := h.cells
  exact Blk.lt hb
theorem HsAt.chg {w w' : World} {b : Nat} {c : Option Nat} {m : List UInt8} (h : HsAt w b m) (g : Chg c w w') (hne : some b ≠ c) : HsAt w' b m := by
  obtain ⟨r, h1, h2, h3, hb⟩ := h.cells
  exact ⟨r, h1, h2, h3, Blk.chg hb g hne⟩
end

section
open Go.RowKit

theorem tail_len (m : List UInt8) : (m.drop (64 * (m.length / 64))).length = m.length % 64 := by
  rw [List.length_drop]; omega

/-- What does not fill the block that is begun. -/
theorem small_step (m x : List UInt8) (h : m.length % 64 + x.length < 64) :
    (m ++ x).length / 64 = m.length / 64 ∧ (m ++ x).length % 64 = m.length % 64 + x.length ∧
      (m ++ x).drop (64 * (m.length / 64)) = m.drop (64 * (m.length / 64)) ++ x ∧ hashB (m ++ x) (m.length / 64) = hashB m (m.length / 64) := by
  rw [List.length_append]
  refine ⟨by omega, by omega, List.drop_append_of_le_length (by omega), hashB_append m x _ (by omega)⟩

/-- What fills the block that is begun. -/
theorem fill_step (m y : List UInt8) (h : m.length % 64 + y.length = 64) :
    (m ++ y).length / 64 = m.length / 64 + 1 ∧ (m ++ y).length % 64 = 0 ∧
      hashB (m ++ y) (m.length / 64 + 1) = compress (hashB m (m.length / 64)) (m.drop (64 * (m.length / 64)) ++ y) := by
  rw [List.length_append]
  refine ⟨by omega, by omega, ?_⟩
  rw [hashB, hashB_append m y _ (by omega), List.drop_append_of_le_length (by omega), List.take_of_length_le (by rw [List.length_append, tail_len]; omega)]

theorem empty_known : hashB (128 :: List.replicate 63 0) 1 = [0xe3b0c442, 0x98fc1c14, 0x9afbf4c8, 0x996fb924, 0x27ae41e4, 0x649b934c, 0xa495991b, 0x7852b855] := by decide +kernel
end

section
open Go.RowKit

section
variable {P : Program} {w : World} {ops : Array Oper} {o : Oper} {a : Act} {Q : Exit → Act → World → Prop}

theorem chg_setRow (w : World) (g : Nat) (cs : Array Value) : Chg (some g) w (w.setRow g cs) :=
  ⟨rfl, rfl, rfl, by simp [World.setRow], fun i _ hn => setRow_other w g i _ (by simpa using hn)⟩

theorem wpList_copy_chg {rest : List Oper} (hgd : o.guard = none) (d s : Operand) (dT sT : TypeId)
    (ho : o.op = .call { callee := .builtin .copy, args := #[d, s], argTypes := #[dT, sT] }) (elem : TypeId) (hu : P.underlying dT = some (.slice elem)) (hsz : (P.info? elem).map (·.size) = some 1)
    (dp sp : Option Addr) (dLen dCap sLen sCap : Nat) (hd : a.eval d = .slice dp dLen dCap) (hs : a.eval s = .slice sp sLen sCap)
    (g off : Nat) (cur : List Value) (t : TypeId) (hg : BlkL w g cur t) (cs : List Value) (hn : cs.length = Nat.min sLen dLen)
    (hpos : 0 < cs.length → dp = some ⟨g, off, none⟩ ∧ ∃ ad, sp = some ad ∧ ∀ j v, cs[j]? = some v → w.cell? (ad.add j) = some v)
    (hfit : off + cs.length ≤ cur.length) (h1 : ∀ v ∈ cs, v.oneCell' = true)
    (h : ∀ w', Hid (BlkL w' g (splice cur off cs) t) → Chg (some g) w w' → wpList P ops Q rest (a.put o.dst (goInt cs.length)) w') :
    wpList P ops Q (o :: rest) a w := by
  by_cases h0 : cs.length = 0
  · obtain rfl : cs = [] := List.eq_nil_of_length_eq_zero h0
    refine wpList_copy_nothing hgd d s dT sT ho elem hu hsz dp sp dLen dCap sLen sCap hd hs (by simpa using hn.symm) ?_
    exact h w (show BlkL w g (splice cur off []) t by simpa [splice] using hg) (Chg.refl _ _)
  · obtain ⟨rfl, ad, rfl, hsrc⟩ := hpos (by omega)
    refine wpList_copy_own hgd d s dT sT ho elem hu hsz g off dLen dCap ad sLen sCap hd hs cur.toArray t hg cs hn hsrc (by simpa using hfit) h1 ?_
    exact h _ (show BlkL _ g (splice cur off cs) t by unfold BlkL Blk; simpa [splice] using setRow_heap w g _ _ t _ hg) (chg_setRow _ _ _)

theorem step_copy_chg {K : Act → World → Prop} {E : Prop} (hgd : o.guard = none) (d s : Operand) (dT sT : TypeId)
    (ho : o.op = .call { callee := .builtin .copy, args := #[d, s], argTypes := #[dT, sT] }) (elem : TypeId) (hu : P.underlying dT = some (.slice elem)) (hsz : (P.info? elem).map (·.size) = some 1)
    (dp sp : Option Addr) (dLen dCap sLen sCap : Nat) (hd : a.eval d = .slice dp dLen dCap) (hs : a.eval s = .slice sp sLen sCap)
    (g off : Nat) (cur : List Value) (t : TypeId) (hg : BlkL w g cur t) (cs : List Value) (hn : cs.length = Nat.min sLen dLen)
    (hpos : 0 < cs.length → dp = some ⟨g, off, none⟩ ∧ ∃ ad, sp = some ad ∧ ∀ j v, cs[j]? = some v → w.cell? (ad.add j) = some v)
    (hfit : off + cs.length ≤ cur.length) (h1 : ∀ v ∈ cs, v.oneCell' = true)
    (h : ∀ w', Hid (BlkL w' g (splice cur off cs) t) → Chg (some g) w w' → K (a.put o.dst (goInt cs.length)) w') :
    if Region.wanted o (yielded ops a.tmps) = true then Oper.wp P o a w K Q else E := by
  have hw : Region.wanted o (yielded ops a.tmps) = true := by simp [Region.wanted, hgd]
  rw [if_pos hw]
  by_cases h0 : cs.length = 0
  · obtain rfl : cs = [] := List.eq_nil_of_length_eq_zero h0
    have hrun := run_copy_none (P := P) w dT sT o.type elem dp sp dLen dCap sLen sCap hu hsz (by simpa using hn.symm)
    unfold Oper.wp
    simp [execOp, ho, resolve, invoke, builtin, hd, hs, hrun, Result.andThen]
    exact h w (show BlkL w g (splice cur off []) t by simpa [splice] using hg) (Chg.refl _ _)
  · obtain ⟨rfl, ad, rfl, hsrc⟩ := hpos (by omega)
    have hrun := run_copy_row (P := P) w dT sT o.type elem g off dLen dCap ad sLen sCap cur.toArray t cs hu hsz hg hn hsrc (by simpa using hfit) h1
    unfold Oper.wp
    simp [execOp, ho, resolve, invoke, builtin, hd, hs, hrun, Result.andThen]
    exact h _ (show BlkL _ g (splice cur off cs) t by unfold BlkL Blk; simpa [splice] using setRow_heap w g _ _ t _ hg) (chg_setRow _ _ _)
end
end

section
open Go.RowKit

theorem cells_taken (W8 rest : List Value) (L0 T0 T : Value) (h8 : W8.length = 8) (hr : rest.length = 64) :
    (W8 ++ (rest ++ [L0, T0])).set 73 T = W8 ++ (rest ++ [L0, T]) := by
  rw [List.set_append_right _ _ (by omega), h8, List.set_append_right _ _ (by omega), hr]
  rfl

theorem cells_end (W8 rest xs : List Value) (L0 T L : Value) (h8 : W8.length = 8) (hr : rest.length = 64) (hx : xs.length ≤ 64) :
    (splice (W8 ++ (rest ++ [L0, T])) 8 xs).set 72 L = W8 ++ ((xs ++ rest.drop xs.length) ++ [L, T]) := by
  have e1 : splice (W8 ++ (rest ++ [L0, T])) 8 xs = W8 ++ ((xs ++ rest.drop xs.length) ++ [L0, T]) := by
    unfold splice
    rw [List.take_append_of_le_length (by omega), List.take_of_length_le (by omega), List.drop_append, h8, show 8 + xs.length - 8 = xs.length by omega, List.drop_eq_nil_of_le (by omega), List.nil_append,
      List.drop_append_of_le_length (by omega), List.append_assoc]
  rw [e1, List.set_append_right _ _ (by omega), h8, List.set_append_right _ _ (by rw [List.length_append, List.length_drop]; omega), show 72 - 8 - (xs ++ rest.drop xs.length).length = 0 by rw [List.length_append, List.length_drop]; omega]
  rfl

theorem copy_runs {P : Program} {w : World} (dT sT ty elem : TypeId) (hu : P.underlying dT = some (.slice elem)) (hsz : (P.info? elem).map (·.size) = some 1)
    (dp sp : Option Addr) (dLen dCap sLen sCap : Nat) (g off : Nat) (cur : List Value) (t : TypeId) (hg : BlkL w g cur t) (cs : List Value) (hn : cs.length = Nat.min sLen dLen)
    (hpos : 0 < cs.length → dp = some ⟨g, off, none⟩ ∧ ∃ ad, sp = some ad ∧ ∀ j v, cs[j]? = some v → w.cell? (ad.add j) = some v)
    (hfit : off + cs.length ≤ cur.length) (h1 : ∀ v ∈ cs, v.oneCell' = true) :
    ∃ w', (Builtin.copy_ #[dT, sT] ty #[.slice dp dLen dCap, .slice sp sLen sCap]).run P w = .ok (goInt cs.length) w' ∧ BlkL w' g (splice cur off cs) t ∧ Chg (some g) w w' := by
  by_cases h0 : cs.length = 0
  · obtain rfl : cs = [] := List.eq_nil_of_length_eq_zero h0
    exact ⟨w, run_copy_none (P := P) w dT sT ty elem dp sp dLen dCap sLen sCap hu hsz (by simpa using hn.symm), by simpa [splice] using hg, Chg.refl _ _⟩
  · obtain ⟨rfl, ad, rfl, hsrc⟩ := hpos (by omega)
    exact ⟨_, run_copy_row (P := P) w dT sT ty elem g off dLen dCap ad sLen sCap cur.toArray t cs hu hsz hg hn hsrc (by simpa using hfit) h1, by unfold BlkL Blk; simpa [splice] using setRow_heap w g _ _ t _ hg, chg_setRow _ _ _⟩

set_option maxRecDepth 100000 in
set_option maxHeartbeats 2000000 in
theorem take_zero (b : Nat) (W8 : List Value) (rest : List Value) (tk : Nat) (A : Option Addr) (x : List UInt8) (c : Nat) (w : World) (h8 : W8.length = 8) (hr : rest.length = 64)
    (hb : BlkL w b (W8 ++ (rest ++ [.int .i64 0, .int .u64 tk])) 94) (ht : tk + x.length < 18446744073709551616) (hx : x.length < 64) (hA : Reads w b 1 A x.length (byteVals x)) :
    Calls Tryd.prog 62 #[.pointer (some ⟨b, 0, none⟩), .slice A x.length c] w fun e w' => e = .returned (.tuple #[]) ∧
      BlkL w' b (W8 ++ ((byteVals x ++ rest.drop x.length) ++ [.int .i64 x.length, .int .u64 ((tk : Int) + x.length)])) 94 ∧ Chg (some b) w w' := by
  have c72 : w.cell? ⟨b, 72, none⟩ = some (.int .i64 0) := by
    rw [BlkL.cell hb, List.getElem?_append_right (by omega), h8, List.getElem?_append_right (by omega), hr]; rfl
  have c73 : w.cell? ⟨b, 73, none⟩ = some (.int .u64 tk) := by
    rw [BlkL.cell hb, List.getElem?_append_right (by omega), h8, List.getElem?_append_right (by omega), hr]; rfl
  have hfz := Blk.frozen hb
  have hlt := Blk.lt hb
  have d64 : decide ((64 : Int) ≤ (x.length : Int)) = false := by simp; omega
  have hb1 := BlkL.set hb 73 (.int .u64 ((tk : Int) + x.length))
  rw [cells_taken _ _ _ _ _ h8 hr] at hb1
  have hA1 : Reads (w.setCell ⟨b, 73, none⟩ (.int .u64 ((tk : Int) + x.length))) b 1 A x.length (byteVals x) := hA.setCell (Nat.le_refl _) _
  have hg1 : Chg (some b) w (w.setCell ⟨b, 73, none⟩ (.int .u64 ((tk : Int) + x.length))) := (Chg.refl _ _).setCell _ _
  have hend := cells_end W8 rest (byteVals x) (.int .i64 0) (.int .u64 ((tk : Int) + x.length)) (.int .i64 x.length) h8 hr (by rw [byteVals_len]; omega)
  have hn : (byteVals x).length = Nat.min x.length 64 := by rw [byteVals_len]; exact (Nat.min_eq_left (by omega)).symm
  have hfit : 8 + (byteVals x).length ≤ (W8 ++ (rest ++ [Value.int .i64 0, .int .u64 ((tk : Int) + x.length)])).length := by
    rw [List.length_append, List.length_append, h8, hr, byteVals_len]; simp; omega
  have hpos : 0 < (byteVals x).length → (some (⟨b, 8, none⟩ : Addr)) = some ⟨b, 8, none⟩ ∧ ∃ ad, A = some ad ∧ ∀ j v, (byteVals x)[j]? = some v → (w.setCell ⟨b, 73, none⟩ (.int .u64 ((tk : Int) + x.length))).cell? (ad.add j) = some v := by
    intro h0
    rw [byteVals_len] at h0
    obtain ⟨ad, h1, _, h2⟩ := hA1.2 h0
    exact ⟨rfl, ad, h1, h2⟩
  have hone := byteVals_one x
  obtain ⟨w2, hrun, hb2, g2⟩ := copy_runs (P := Tryd.prog) 22 22 3 5 Tryd.underlying22 (by kernel_rfl) (some ⟨b, 8, none⟩) A 64 64 x.length c b 8 _ 94 hb1 (byteVals x) hn hpos hfit hone
  have hL2 : (byteVals x).length = x.length := byteVals_len x
  rw [show goInt (byteVals x).length = .int .i64 x.length by rw [hL2]; rfl] at hrun
  have hfz2 := Blk.frozen hb2 72
  have hlen2 : (splice (W8 ++ (rest ++ [Value.int .i64 0, .int .u64 ((tk : Int) + x.length)])) 8 (byteVals x)).length = 74 := by
    rw [length_splice _ _ _ hfit, List.length_append, List.length_append, h8, hr]; rfl
  obtain ⟨v72, c72'⟩ : ∃ v, w2.cell? ⟨b, 72, none⟩ = some v := ⟨_, by rw [BlkL.cell hb2]; exact List.getElem?_eq_getElem (by rw [hlen2]; omega)⟩
  have hfin := BlkL.set hb2 72 (.int .i64 x.length)
  rw [hend, hL2] at hfin
  have hgf : Chg (some b) w (w2.setCell ⟨b, 72, none⟩ (.int .i64 x.length)) := (hg1.trans g2).setCell _ _
  have HFIN := Lib.hid hfin
  have HGF := Lib.hid hgf
  clear hb1 hn hpos hfit hone hend hA hA1 hb2 g2 hfin hgf hlen2 hL2 hb hg1
  go_enter Tryd.func62, Tryd.ntmps62
  go_wp2_with fail
  refine wp_loop_rounds 1 ?_
  rw [rounds_succ]
  go_wp2_with fail
  refine bodyPost_end (results_none rfl _ _ _) rfl ⟨rfl, HFIN.out, HGF.out⟩
end

section
open Go.RowKit

/-- The bytes bs, as a slice of so many, in a block that is not b. -/
def Src (w : World) (b : Nat) (A : Option Addr) (bs : List UInt8) : Prop :=
  0 < bs.length → ∃ sb so, A = some ⟨sb, so, none⟩ ∧ sb ≠ b ∧ sb < w.heap.size ∧ ∀ j c, bs[j]? = some c → w.cell? ⟨sb, so + j, none⟩ = some (.int .u8 c.toNat)

section
variable {w w' : World} {b : Nat} {A : Option Addr} {bs : List UInt8}
theorem Src.chg (h : Src w b A bs) (g : Chg (some b) w w') : Src w' b A bs := fun h0 => by
  obtain ⟨sb, so, e, hne, hlt, hc⟩ := h h0
  exact ⟨sb, so, e, hne, Nat.lt_of_lt_of_le hlt g.size, fun j c hj => World.grownBy.cell g (hc j c hj) (by simpa using hne)⟩
theorem Src.cut (h : Src w b A bs) {k cap : Nat} (hk : k ≤ bs.length) (hc : bs.length ≤ cap) : Src w b (if cap = k then A else A.map (·.add k)) (bs.drop k) := fun h0 => by
  rw [List.length_drop] at h0
  obtain ⟨sb, so, rfl, hne, hlt, hcell⟩ := h (by omega)
  rw [if_neg (by omega)]
  refine ⟨sb, so + k, by rw [Option.map_some, Go.WideShapes.add_plain], hne, hlt, fun j c hj => ?_⟩
  rw [List.getElem?_drop] at hj
  have := hcell _ _ hj
  rwa [← Nat.add_assoc] at this
theorem Src.first (h : Src w b A bs) {k : Nat} (hk : 0 < k) : Src w b A (bs.take k) := fun h0 => by
  obtain ⟨sb, so, e, hne, hlt, hcell⟩ := h (by rw [List.length_take] at h0; omega)
  refine ⟨sb, so, e, hne, hlt, fun j c hj => hcell j c ?_⟩
  rw [List.getElem?_take] at hj
  split at hj
  · exact hj
  · cases hj
theorem Src.source (h : Src w b A bs) : 0 < (byteVals bs).length → ∃ ad, A = some ad ∧ ∀ j v, (byteVals bs)[j]? = some v → w.cell? (ad.add j) = some v := fun h0 => by
  obtain ⟨sb, so, e, _, _, hc⟩ := h (by rwa [byteVals_len] at h0)
  refine ⟨_, e, fun j v hj => ?_⟩
  rw [Go.WideShapes.add_plain]
  unfold byteVals at hj
  rw [List.getElem?_map, Option.map_eq_some_iff] at hj
  obtain ⟨c, h1, rfl⟩ := hj
  exact hc j c h1
end
end

section
open Go.RowKit

def hashX (ws : List Int) (x : List UInt8) : Nat → List Int
  | 0 => ws
  | j + 1 => compress (hashX ws x j) ((x.drop (64 * j)).take 64)
theorem hashX_len (ws : List Int) (x : List UInt8) (h : ws.length = 8) : ∀ j, (hashX ws x j).length = 8
  | 0 => h
  | _ + 1 => compress_len _ _
def sliceLen : Value → Nat
  | .slice _ n _ => n
  | _ => 0

set_option maxRecDepth 100000 in
set_option maxHeartbeats 4000000 in
theorem take_al (b : Nat) (ws : List Int) (rest : List Value) (tk : Nat) (A : Option Addr) (x : List UInt8) (c : Nat) (w : World) (h8 : ws.length = 8) (hr : rest.length = 64)
    (hb : BlkL w b (ws.map u32v ++ (rest ++ [.int .i64 0, .int .u64 tk])) 94) (ht : tk + x.length < 18446744073709551616) (hA : Src w b A x) (hc : x.length ≤ c) (hT : Tabs w) (hb2 : 2 ≤ b) :
    Calls Tryd.prog 62 #[.pointer (some ⟨b, 0, none⟩), .slice A x.length c] w fun e w' => e = .returned (.tuple #[]) ∧
      BlkL w' b ((hashX ws x (x.length / 64)).map u32v ++ ((byteVals (x.drop (64 * (x.length / 64))) ++ rest.drop (x.length - 64 * (x.length / 64))) ++ [.int .i64 ((x.length - 64 * (x.length / 64) : Nat) : Int), .int .u64 ((tk : Int) + x.length)])) 94 ∧ Chg (some b) w w' := by
  have hm8 : (ws.map u32v).length = 8 := by simpa using h8
  have c72 : w.cell? ⟨b, 72, none⟩ = some (.int .i64 0) := by
    rw [BlkL.cell hb, List.getElem?_append_right (by omega), hm8, List.getElem?_append_right (by omega), hr]; rfl
  have c73 : w.cell? ⟨b, 73, none⟩ = some (.int .u64 tk) := by
    rw [BlkL.cell hb, List.getElem?_append_right (by omega), hm8, List.getElem?_append_right (by omega), hr]; rfl
  have hfz := Blk.frozen hb
  have hlt := Blk.lt hb
  have hb1 := BlkL.set hb 73 (.int .u64 ((tk : Int) + x.length))
  rw [cells_taken _ _ _ _ _ hm8 hr] at hb1
  have hg1 : Chg (some b) w (w.setCell ⟨b, 73, none⟩ (.int .u64 ((tk : Int) + x.length))) := (Chg.refl _ _).setCell _ _
  have hA1 := hA.chg hg1
  have hT1 := hT.chg hg1 (by simp; omega)
  clear hb hA hT
  go_enter Tryd.func62, Tryd.ntmps62
  go_wp2_with fail
  go_loopw [1] (fun s1 wr => ∃ (j : Nat) (Aj : Option Addr) (cj : Nat), 64 * j ≤ x.length ∧ s1 = .slice Aj (x.length - 64 * j) cj ∧ x.length - 64 * j ≤ cj ∧ Src wr b Aj (x.drop (64 * j)) ∧
    BlkL wr b ((hashX ws x j).map u32v ++ (rest ++ [.int .i64 0, .int .u64 ((tk : Int) + x.length)])) 94 ∧ Tabs wr ∧ Chg (some b) w wr) (fun s1 _ => sliceLen s1)
  case atStart => exact ⟨0, A, c, by omega, rfl, by omega, hA1, hb1, hT1, hg1⟩
  case round =>
    obtain ⟨j, Aj, cj, hj, rfl, hcj, hS, hbj, hTj, hgj⟩ := hrel
    by_cases h64 : 64 ≤ x.length - 64 * j
    · have hlen : (x.drop (64 * j)).length = x.length - 64 * j := List.length_drop
      obtain ⟨sb, so, rfl, hne, hsb, hcell⟩ := hS (by omega)
      have hcut := Src.cut hS (k := 64) (cap := cj) (by omega) (by omega)
      have htl : ((x.drop (64 * j)).take 64).length = 64 := by rw [List.length_take, hlen]; omega
      have HBL := Lib.hid (block_any (hashX ws x j) (rest ++ [.int .i64 0, .int .u64 ((tk : Int) + x.length)]) ((x.drop (64 * j)).take 64) b sb so cj wr (hashX_len ws x h8 j) hbj hTj htl hsb (fun i v hi => hcell i v (by
        rw [List.getElem?_take] at hi
        split at hi
        · exact hi
        · cases hi)))
      have HCUT := Lib.hid hcut
      clear hcut htl hcell
      go_wp2_with fail
      refine HBL.out.mono ?_
      rintro e w6 ⟨rfl, h6, g6⟩
      have hT6 := hTj.chg g6 (by simp; omega)
      have hg6 := hgj.trans g6
      have hS6 := Src.chg HCUT.out g6
      rw [List.drop_drop] at hS6
      go_wp2_with fail
      go_roundw
      case rel =>
        refine ⟨j + 1, _, cj - 64, by omega, ?_, by omega, hS6, h6, hT6, hg6⟩
        rw [show x.length - 64 * (j + 1) = x.length - 64 * j - 64 by omega, Option.map_some, Go.WideShapes.add_plain]
      case measure => first | (simp [sliceLen]; done) | (simp [sliceLen]; omega)
    · have hlen : (x.drop (64 * j)).length = x.length - 64 * j := List.length_drop
      have hj64 : j = x.length / 64 := by omega
      have d64 : decide ((64 : Int) ≤ ((x.length - 64 * j : Nat) : Int)) = false := by simp; omega
      have hw8 : ((hashX ws x j).map u32v).length = 8 := by rw [List.length_map]; exact hashX_len ws x h8 j
      have hL2 : (byteVals (x.drop (64 * j))).length = x.length - 64 * j := by rw [byteVals_len, hlen]
      have hfit : 8 + (byteVals (x.drop (64 * j))).length ≤ ((hashX ws x j).map u32v ++ (rest ++ [Value.int .i64 0, .int .u64 ((tk : Int) + x.length)])).length := by
        rw [List.length_append, List.length_append, hw8, hr, hL2]; simp; omega
      obtain ⟨w2, hrun, hb2', g2⟩ := copy_runs (P := Tryd.prog) 22 22 3 5 Tryd.underlying22 (by kernel_rfl) (some ⟨b, 8, none⟩) Aj 64 64 (x.length - 64 * j) cj b 8 _ 94 hbj (byteVals (x.drop (64 * j)))
        (by rw [hL2]; exact (Nat.min_eq_left (by omega)).symm) (fun h0 => ⟨rfl, Src.source hS h0⟩) hfit (byteVals_one _)
      rw [show goInt (byteVals (x.drop (64 * j))).length = .int .i64 ((x.length - 64 * j : Nat) : Int) by rw [hL2]; rfl] at hrun
      have hfz2 := Blk.frozen hb2' 72
      have hlen2 : (splice ((hashX ws x j).map u32v ++ (rest ++ [Value.int .i64 0, .int .u64 ((tk : Int) + x.length)])) 8 (byteVals (x.drop (64 * j)))).length = 74 := by
        rw [length_splice _ _ _ hfit, List.length_append, List.length_append, hw8, hr]; rfl
      obtain ⟨v72, c72'⟩ : ∃ v, w2.cell? ⟨b, 72, none⟩ = some v := ⟨_, by rw [BlkL.cell hb2']; exact List.getElem?_eq_getElem (by rw [hlen2]; omega)⟩
      have hfin := BlkL.set hb2' 72 (.int .i64 ((x.length - 64 * j : Nat) : Int))
      rw [cells_end _ rest (byteVals (x.drop (64 * j))) _ _ _ hw8 hr (by rw [hL2]; omega), hL2] at hfin
      have hgf : Chg (some b) w (w2.setCell ⟨b, 72, none⟩ (.int .i64 ((x.length - 64 * j : Nat) : Int))) := (hgj.trans g2).setCell _ _
      have HFIN := Lib.hid hfin
      have HGF := Lib.hid hgf
      have HJ := Lib.hid hj64
      clear hfit hfin hgf hlen2 hL2 hbj hb2' g2 hS hj64 hlen
      go_wp2_with fail
      refine bodyPost_end (results_none rfl _ _ _) rfl ⟨rfl, ?_, HGF.out⟩
      rw [← HJ.out]
      exact HFIN.out
end

section
open Go.RowKit

theorem splice_mid (W8 rest xs : List Value) (h : Nat) (L0 T : Value) (h8 : W8.length = 8) (hr : rest.length = 64) (hx : h + xs.length ≤ 64) :
    splice (W8 ++ (rest ++ [L0, T])) (8 + h) xs = W8 ++ ((rest.take h ++ (xs ++ rest.drop (h + xs.length))) ++ [L0, T]) := by
  unfold splice
  rw [List.take_append, h8, show 8 + h - 8 = h by omega, List.take_of_length_le (by omega), List.take_append_of_le_length (by omega), List.drop_append, h8, show 8 + h + xs.length - 8 = h + xs.length by omega,
    List.drop_eq_nil_of_le (by omega), List.nil_append, List.drop_append_of_le_length (by omega)]
  simp only [List.append_assoc]
theorem mid_len (rest xs : List Value) (h : Nat) (hr : rest.length = 64) (hx : h + xs.length ≤ 64) : (rest.take h ++ (xs ++ rest.drop (h + xs.length))).length = 64 := by
  rw [List.length_append, List.length_append, List.length_take, List.length_drop]; omega
theorem cells_mid (W8 rest xs : List Value) (h : Nat) (L0 T L : Value) (h8 : W8.length = 8) (hr : rest.length = 64) (hx : h + xs.length ≤ 64) :
    (splice (W8 ++ (rest ++ [L0, T])) (8 + h) xs).set 72 L = W8 ++ ((rest.take h ++ (xs ++ rest.drop (h + xs.length))) ++ [L, T]) := by
  rw [splice_mid _ _ _ _ _ _ h8 hr hx, List.set_append_right _ _ (by omega), h8, List.set_append_right _ _ (by rw [mid_len _ _ _ hr hx]; omega), mid_len _ _ _ hr hx]
  rfl

set_option maxRecDepth 100000 in
set_option maxHeartbeats 4000000 in
theorem take_short (b : Nat) (W8 rest : List Value) (h0 tk : Nat) (A : Option Addr) (x : List UInt8) (c : Nat) (w : World) (h8 : W8.length = 8) (hr : rest.length = 64)
    (hb : BlkL w b (W8 ++ (rest ++ [.int .i64 h0, .int .u64 tk])) 94) (ht : tk + x.length < 18446744073709551616) (hA : Src w b A x) (_hc : x.length ≤ c) (hh : 0 < h0) (hx : h0 + x.length < 64) :
    Calls Tryd.prog 62 #[.pointer (some ⟨b, 0, none⟩), .slice A x.length c] w fun e w' => e = .returned (.tuple #[]) ∧
      BlkL w' b (W8 ++ ((rest.take h0 ++ (byteVals x ++ rest.drop (h0 + x.length))) ++ [.int .i64 ((h0 : Int) + x.length), .int .u64 ((tk : Int) + x.length)])) 94 ∧ Chg (some b) w w' := by
  have c72 : w.cell? ⟨b, 72, none⟩ = some (.int .i64 h0) := by
    rw [BlkL.cell hb, List.getElem?_append_right (by omega), h8, List.getElem?_append_right (by omega), hr]; rfl
  have c73 : w.cell? ⟨b, 73, none⟩ = some (.int .u64 tk) := by
    rw [BlkL.cell hb, List.getElem?_append_right (by omega), h8, List.getElem?_append_right (by omega), hr]; rfl
  have hfz := Blk.frozen hb
  have hlt := Blk.lt hb
  have hb1 := BlkL.set hb 73 (.int .u64 ((tk : Int) + x.length))
  rw [cells_taken _ _ _ _ _ h8 hr] at hb1
  have hg1 : Chg (some b) w (w.setCell ⟨b, 73, none⟩ (.int .u64 ((tk : Int) + x.length))) := (Chg.refl _ _).setCell _ _
  have hA1 := hA.chg hg1
  have hL2 : (byteVals x).length = x.length := byteVals_len x
  have hfit : 8 + h0 + (byteVals x).length ≤ (W8 ++ (rest ++ [Value.int .i64 h0, .int .u64 ((tk : Int) + x.length)])).length := by
    rw [List.length_append, List.length_append, h8, hr, hL2]; simp; omega
  obtain ⟨w2, hrun, hb2', g2⟩ := copy_runs (P := Tryd.prog) (w := (w.setCell ⟨b, 73, none⟩ (.int .u64 ((tk : Int) + x.length))).drew) 22 22 3 5 Tryd.underlying22 (by kernel_rfl) (some ⟨b, 8 + h0, none⟩) A (64 - h0) (64 - h0) x.length c b (8 + h0) _ 94 hb1 (byteVals x)
    (by rw [hL2]; exact (Nat.min_eq_left (by omega)).symm) (fun h0' => ⟨rfl, Src.source hA1 h0'⟩) hfit (byteVals_one _)
  rw [show goInt (byteVals x).length = .int .i64 x.length by rw [hL2]; rfl] at hrun
  have hfz2 := Blk.frozen hb2' 72
  have q72 : w2.cell? ⟨b, 72, none⟩ = some (.int .i64 h0) := by
    have hx64 : h0 + (byteVals x).length ≤ 64 := by rw [hL2]; omega
    rw [BlkL.cell hb2', splice_mid _ _ _ _ _ _ h8 hr hx64, List.getElem?_append_right (by omega), h8, List.getElem?_append_right (by rw [mid_len _ _ _ hr hx64]; omega), mid_len _ _ _ hr hx64]
    rfl
  have hfin := BlkL.set hb2' 72 (.int .i64 ((h0 : Int) + x.length))
  rw [cells_mid _ rest (byteVals x) h0 _ _ _ h8 hr (by rw [hL2]; omega), hL2] at hfin
  have hgf : Chg (some b) w (w2.setCell ⟨b, 72, none⟩ (.int .i64 ((h0 : Int) + x.length))) := ((hg1.drew).trans g2).setCell _ _
  have HFIN := Lib.hid hfin
  have HGF := Lib.hid hgf
  have d1 : decide ((h0 : Int) + (x.length : Int) < 64) = true := by simp; omega
  clear hfit hfin hgf hb2' g2 hb hb1 hg1 hA hA1 hL2
  have d2 : decide (h0 + x.length < 64) = true := by simp; omega
  have x1 : h0 ≤ 64 := by omega
  have x2 : (h0 : Int) ≤ 64 := by omega
  have x3 : ¬ 64 = h0 := by omega
  have x4 : ¬ 64 - h0 = 0 := by omega
  go_enter Tryd.func62, Tryd.ntmps62
  go_wp2_with fail
  go_region
  all_goals go_wp2_with fail
  all_goals
    first | (exfalso; omega) | (refine bodyPost_ret (results_none rfl _ _ _) rfl ⟨rfl, ?_, HGF.out⟩; have hf := HFIN.out; simpa only [List.append_assoc] using hf)
end

section
open Go.RowKit

set_option maxRecDepth 100000 in
set_option maxHeartbeats 8000000 in
theorem take_fill (b : Nat) (ws : List Int) (rest : List Value) (p : List UInt8) (h0 n tk : Nat) (A : Option Addr) (x : List UInt8) (c : Nat) (w : World) (h8 : ws.length = 8) (hr : rest.length = 64)
    (hrest : rest.take h0 = byteVals p) (hp : p.length = h0) (hn : h0 + n = 64) (hn0 : 0 < n) (hh : 0 < h0) (hnx : n ≤ x.length)
    (hb : BlkL w b (ws.map u32v ++ (rest ++ [.int .i64 h0, .int .u64 tk])) 94) (ht : tk + x.length < 18446744073709551616) (hA : Src w b A x) (hc : x.length ≤ c) (hT : Tabs w) (hb2 : 2 ≤ b) :
    Calls Tryd.prog 62 #[.pointer (some ⟨b, 0, none⟩), .slice A x.length c] w fun e w' => e = .returned (.tuple #[]) ∧
      BlkL w' b ((hashX (compress ws (p ++ x.take n)) (x.drop n) ((x.length - n) / 64)).map u32v ++ ((byteVals ((x.drop n).drop (64 * ((x.length - n) / 64))) ++ (byteVals (p ++ x.take n)).drop (x.length - n - 64 * ((x.length - n) / 64))) ++
        [.int .i64 ((x.length - n - 64 * ((x.length - n) / 64) : Nat) : Int), .int .u64 ((tk : Int) + x.length)])) 94 ∧ Chg (some b) w w' := by
  have hm8 : (ws.map u32v).length = 8 := by simpa using h8
  have c72 : w.cell? ⟨b, 72, none⟩ = some (.int .i64 h0) := by
    rw [BlkL.cell hb, List.getElem?_append_right (by omega), hm8, List.getElem?_append_right (by omega), hr]; rfl
  have c73 : w.cell? ⟨b, 73, none⟩ = some (.int .u64 tk) := by
    rw [BlkL.cell hb, List.getElem?_append_right (by omega), hm8, List.getElem?_append_right (by omega), hr]; rfl
  have hfz := Blk.frozen hb
  have hlt := Blk.lt hb
  have hb1 := BlkL.set hb 73 (.int .u64 ((tk : Int) + x.length))
  rw [cells_taken _ _ _ _ _ hm8 hr] at hb1
  have hg1 : Chg (some b) w (w.setCell ⟨b, 73, none⟩ (.int .u64 ((tk : Int) + x.length))) := (Chg.refl _ _).setCell _ _
  have hA1 := hA.chg hg1
  have hT1 := hT.chg hg1 (by simp; omega)
  have hxn : (x.take n).length = n := by rw [List.length_take]; omega
  have hL2 : (byteVals (x.take n)).length = n := by rw [byteVals_len, hxn]
  have hfit : 8 + h0 + (byteVals (x.take n)).length ≤ (ws.map u32v ++ (rest ++ [Value.int .i64 h0, .int .u64 ((tk : Int) + x.length)])).length := by
    rw [List.length_append, List.length_append, hm8, hr, hL2]; simp; omega
  have hsrc1 : 0 < (byteVals (x.take n)).length → (some (⟨b, 8 + h0, none⟩ : Addr)) = some ⟨b, 8 + h0, none⟩ ∧ ∃ ad, A = some ad ∧ ∀ j v, (byteVals (x.take n))[j]? = some v → (w.setCell ⟨b, 73, none⟩ (.int .u64 ((tk : Int) + x.length))).drew.cell? (ad.add j) = some v :=
    fun h0' => ⟨rfl, Src.source (hA1.first hn0) h0'⟩
  obtain ⟨w2, hrun, hb2', g2⟩ := copy_runs (P := Tryd.prog) (w := (w.setCell ⟨b, 73, none⟩ (.int .u64 ((tk : Int) + x.length))).drew) 22 22 3 5 Tryd.underlying22 (by kernel_rfl) (some ⟨b, 8 + h0, none⟩) A (64 - h0) (64 - h0) x.length c b (8 + h0) _ 94 hb1 (byteVals (x.take n))
    (by rw [hL2]; show n = min x.length (64 - h0); omega) hsrc1 hfit (byteVals_one _)
  rw [show goInt (byteVals (x.take n)).length = .int .i64 n by rw [hL2]; rfl] at hrun
  have hx64 : h0 + (byteVals (x.take n)).length ≤ 64 := by rw [hL2]; omega
  rw [splice_mid _ _ _ _ _ _ hm8 hr hx64] at hb2'
  have hmid : rest.take h0 ++ (byteVals (x.take n) ++ rest.drop (h0 + (byteVals (x.take n)).length)) = byteVals (p ++ x.take n) := by
    rw [List.drop_eq_nil_of_le (by rw [hL2]; omega), List.append_nil, hrest, byteVals_append]
  rw [hmid] at hb2'
  have hpl : (p ++ x.take n).length = 64 := by rw [List.length_append, hxn]; omega
  obtain ⟨q, hq⟩ : ∃ q, q = p ++ x.take n := ⟨_, rfl⟩
  rw [← hq] at hb2' hpl
  have hql : (byteVals q).length = 64 := by rw [byteVals_len, hpl]
  have hfz2 := Blk.frozen hb2' 72
  have q72 : w2.cell? ⟨b, 72, none⟩ = some (.int .i64 h0) := by
    rw [BlkL.cell hb2', List.getElem?_append_right (by omega), hm8, List.getElem?_append_right (by omega), hql]; rfl
  have hb3 := BlkL.set hb2' 72 (.int .i64 ((h0 : Int) + n))
  rw [List.set_append_right _ _ (by omega), hm8, List.set_append_right _ _ (by omega), hql, show (72 - 8 - 64) = 0 by rfl, List.set_cons_zero] at hb3
  have g3 : Chg (some b) w (w2.setCell ⟨b, 72, none⟩ (.int .i64 ((h0 : Int) + n))) := ((hg1.drew).trans g2).setCell _ _
  have g23 : Chg (some b) (w.setCell ⟨b, 73, none⟩ (.int .u64 ((tk : Int) + x.length))) (w2.setCell ⟨b, 72, none⟩ (.int .i64 ((h0 : Int) + n))) := (((Chg.refl _ _).drew).trans g2).setCell _ _
  have hT3 := hT1.chg g23 (by simp; omega)
  have hA3 := hA1.chg g23
  have hcut : Src (w2.setCell ⟨b, 72, none⟩ (.int .i64 ((h0 : Int) + n))) b (A.map (·.add n)) (x.drop n) := by
    by_cases hcn : c = n
    · intro h0'
      rw [List.length_drop] at h0'
      omega
    · have := Src.cut hA3 (k := n) (cap := c) hnx hc
      rwa [if_neg hcn] at this
  have HBL := Lib.hid (block_any ws (byteVals q ++ [.int .i64 ((h0 : Int) + n), .int .u64 ((tk : Int) + x.length)]) q b b 8 64 _ h8 hb3 hT3 hpl (Blk.lt hb3) (fun i v hi => by
    have hi64 : i < q.length := (List.getElem?_eq_some_iff.1 hi).1
    rw [BlkL.cell hb3, List.getElem?_append_right (by omega), hm8, show 8 + i - 8 = i by omega, List.getElem?_append_left (by omega)]
    exact byteVals_get hi))
  have c72' : (w2.setCell ⟨b, 72, none⟩ (.int .i64 ((h0 : Int) + n))).cell? ⟨b, 72, none⟩ = some (.int .i64 ((h0 : Int) + n)) := by
    rw [BlkL.cell hb3, List.getElem?_append_right (by omega), hm8, List.getElem?_append_right (by omega), hql]; rfl
  have hlt3 := Blk.lt hb3
  have HG3 := Lib.hid g3
  have HT3 := Lib.hid hT3
  have HCUT := Lib.hid hcut
  have HQ := Lib.hid hq
  have HQL := Lib.hid hql
  have HM8 := Lib.hid hm8
  have HN := Lib.hid hn
  have d1 : decide ((h0 : Int) + (n : Int) < 64) = false := by simp; omega
  have d2 : decide (h0 + n < 64) = false := by simp; omega
  have x1 : h0 ≤ 64 := by omega
  have x2 : (h0 : Int) ≤ 64 := by omega
  have x3 : ¬ 64 = h0 := by omega
  have x4 : ¬ 64 - h0 = 0 := by omega
  have x5 : (n : Int) ≤ (x.length : Int) := by omega
  have x6 : (h0 : Int) + n ≤ 64 := by omega
  clear hsrc1 hfit hb2' g2 hb hb1 hg1 hA hA1 hL2 hx64 hmid hT hT1 hT3 hA3 hcut hq hql hm8 g3 g23 hrest hp hb3 hxn hn hpl
  go_enter Tryd.func62, Tryd.ntmps62
  go_wp2_with fail
  go_region
  all_goals go_wp2_with fail
  all_goals
    refine HBL.out.mono ?_
    rintro e w6 ⟨rfl, h6, g6⟩
    have hT6 := HT3.out.chg g6 (by simp; omega)
    have hg6 := HG3.out.trans g6
    have hS6 := Src.chg HCUT.out g6
    have hlt6 := Blk.lt h6
    have hcn : n ≤ c := by omega
    clear HBL HCUT HT3 HG3 hrun c72 c73 q72 c72' hfz hfz2
    have HCS : Hid ((compress ws q).length = 8) := compress_len _ _
    obtain ⟨cw, hcw⟩ : ∃ cw, cw = compress ws q := ⟨_, rfl⟩
    rw [← hcw] at HCS h6
    have HCW := Lib.hid hcw
    obtain ⟨y, hy⟩ : ∃ y, y = x.drop n := ⟨_, rfl⟩
    rw [← hy] at hS6
    have HYL : Hid (y.length = x.length - n) := by rw [hy]; exact List.length_drop
    have HY := Lib.hid hy
    clear hcw hy
  all_goals go_wp2_with fail
  all_goals
    go_loopw [1] (fun s1 wr => ∃ (j : Nat) (Aj : Option Addr) (cj : Nat), 64 * j ≤ x.length - n ∧ s1 = .slice Aj (x.length - n - 64 * j) cj ∧ x.length - n - 64 * j ≤ cj ∧ Src wr b Aj (y.drop (64 * j)) ∧
      BlkL wr b ((hashX cw y j).map u32v ++ (byteVals q ++ [.int .i64 ((h0 : Int) + n), .int .u64 ((tk : Int) + x.length)])) 94 ∧ Tabs wr ∧ Chg (some b) w wr) (fun s1 _ => sliceLen s1)
    case atStart =>
      first
        | exact ⟨0, _, _, by omega, rfl, by omega, hS6, h6, hT6, hg6⟩
        | exact ⟨0, _, _, by omega, rfl, by omega, fun h0' => absurd h0' (by rw [List.length_drop, HYL.out]; omega), h6, hT6, hg6⟩
    case round =>
      obtain ⟨j, Aj, cj, hj, rfl, hcj, hS, hbj, hTj, hgj⟩ := hrel
      clear h6 hT6 hg6 hS6 g6 hlt6
      have hlen : (y.drop (64 * j)).length = x.length - n - 64 * j := by rw [List.length_drop, HYL.out]
      have hql := HQL.out
      by_cases h64 : 64 ≤ x.length - n - 64 * j
      · obtain ⟨sb, so, rfl, hne, hsb, hcell⟩ := hS (by omega)
        have hcut := Src.cut hS (k := 64) (cap := cj) (by omega) (by omega)
        have htl : ((y.drop (64 * j)).take 64).length = 64 := by rw [List.length_take, hlen]; omega
        have HBL := Lib.hid (block_any (hashX cw y j) (byteVals q ++ [.int .i64 ((h0 : Int) + n), .int .u64 ((tk : Int) + x.length)]) ((y.drop (64 * j)).take 64) b sb so cj wr (hashX_len cw y HCS.out j) hbj hTj htl hsb (fun i v hi => hcell i v (by
          rw [List.getElem?_take] at hi
          split at hi
          · exact hi
          · cases hi)))
        have HCUT := Lib.hid hcut
        clear hcut htl hcell hql hlen
        go_wp2_with fail
        all_goals
          refine HBL.out.mono ?_
          rintro e w6 ⟨rfl, h6, g6⟩
          have hT6 := hTj.chg g6 (by simp; omega)
          have hg6 := hgj.trans g6
          have hS6 := Src.chg HCUT.out g6
          rw [List.drop_drop] at hS6
          go_wp2_with fail
          go_roundw
          case rel =>
            refine ⟨j + 1, _, cj - 64, by omega, ?_, by omega, hS6, h6, hT6, hg6⟩
            rw [show x.length - n - 64 * (j + 1) = x.length - n - 64 * j - 64 by omega, Option.map_some, Go.WideShapes.add_plain]
          case measure => first | (simp [sliceLen]; done) | (simp [sliceLen]; omega)
      · have hj64 : j = (x.length - n) / 64 := by omega
        have d64 : decide ((64 : Int) ≤ ((x.length - n - 64 * j : Nat) : Int)) = false := by simp; omega
        have hw8 : ((hashX cw y j).map u32v).length = 8 := by rw [List.length_map]; exact hashX_len cw y HCS.out j
        have hL2 : (byteVals (y.drop (64 * j))).length = x.length - n - 64 * j := by rw [byteVals_len, hlen]
        have hfit : 8 + (byteVals (y.drop (64 * j))).length ≤ ((hashX cw y j).map u32v ++ (byteVals q ++ [Value.int .i64 ((h0 : Int) + n), .int .u64 ((tk : Int) + x.length)])).length := by
          rw [List.length_append, List.length_append, hw8, hql, hL2]; simp; omega
        obtain ⟨w2', hrun, hb2', g2⟩ := copy_runs (P := Tryd.prog) 22 22 3 5 Tryd.underlying22 (by kernel_rfl) (some ⟨b, 8, none⟩) Aj 64 64 (x.length - n - 64 * j) cj b 8 _ 94 hbj (byteVals (y.drop (64 * j)))
          (by rw [hL2]; exact (Nat.min_eq_left (by omega)).symm) (fun h0 => ⟨rfl, Src.source hS h0⟩) hfit (byteVals_one _)
        rw [show goInt (byteVals (y.drop (64 * j))).length = .int .i64 ((x.length - n - 64 * j : Nat) : Int) by rw [hL2]; rfl] at hrun
        have hfz2 := Blk.frozen hb2' 72
        have hlen2 : (splice ((hashX cw y j).map u32v ++ (byteVals q ++ [Value.int .i64 ((h0 : Int) + n), .int .u64 ((tk : Int) + x.length)])) 8 (byteVals (y.drop (64 * j)))).length = 74 := by
          rw [length_splice _ _ _ hfit, List.length_append, List.length_append, hw8, hql]; rfl
        obtain ⟨v72, c72'⟩ : ∃ v, w2'.cell? ⟨b, 72, none⟩ = some v := ⟨_, by rw [BlkL.cell hb2']; exact List.getElem?_eq_getElem (by rw [hlen2]; omega)⟩
        have hfin := BlkL.set hb2' 72 (.int .i64 ((x.length - n - 64 * j : Nat) : Int))
        rw [cells_end _ (byteVals q) (byteVals (y.drop (64 * j))) _ _ _ hw8 hql (by rw [hL2]; omega), hL2] at hfin
        have hgf : Chg (some b) w (w2'.setCell ⟨b, 72, none⟩ (.int .i64 ((x.length - n - 64 * j : Nat) : Int))) := (hgj.trans g2).setCell _ _
        have HFIN := Lib.hid hfin
        have HGF := Lib.hid hgf
        have HJ := Lib.hid hj64
        clear hfit hfin hgf hlen2 hL2 hbj hb2' g2 hS hj64 hlen hw8 hql
        go_wp2_with fail
        refine bodyPost_end (results_none rfl _ _ _) rfl ⟨rfl, ?_, HGF.out⟩
        rw [← HJ.out, ← HQ.out, ← HCW.out, ← HY.out]
        exact HFIN.out
end

section
open Go.RowKit

theorem hashX_hashB (m x : List UInt8) (q : Nat) (hq : m.length = 64 * q) : ∀ j, 64 * j ≤ x.length → hashX (hashB m q) x j = hashB (m ++ x) (q + j)
  | 0, _ => (hashB_append m x q (by omega)).symm
  | j + 1, h => by
    have h1 : m.drop (64 * (q + j)) = [] := List.drop_eq_nil_of_le (by omega)
    rw [hashX, hashX_hashB m x q hq j (by omega), ← Nat.add_assoc, hashB, List.drop_append, h1, List.nil_append, show 64 * (q + j) - m.length = 64 * j by omega]

theorem take_append_len (l r : List Value) (k n : Nat) (h : l.length = n) (hk : k = n) : (l ++ r).take k = l := by
  subst hk; subst h; simp

theorem take_any (b : Nat) (m x : List UInt8) (A : Option Addr) (c : Nat) (w : World) (hH : HsAt w b m) (ht : m.length + x.length < 18446744073709551616) (hA : Src w b A x) (hc : x.length ≤ c) (hT : Tabs w) (hb2 : 2 ≤ b) :
    Calls Tryd.prog 62 #[.pointer (some ⟨b, 0, none⟩), .slice A x.length c] w fun e w' => e = .returned (.tuple #[]) ∧ HsAt w' b (m ++ x) ∧ Chg (some b) w w' := by
  obtain ⟨rest, hr, hone, hrest, hb⟩ := hH.cells
  have h8 := hashB_len m (m.length / 64)
  have hxl : (m ++ x).length = m.length + x.length := List.length_append
  by_cases h0 : m.length % 64 = 0
  · rw [h0] at hb
    refine (take_al b _ rest m.length A x c w h8 hr hb ht hA hc hT hb2).mono fun e w' ⟨he, hb', g⟩ => ⟨he, ⟨byteVals (x.drop (64 * (x.length / 64))) ++ rest.drop (x.length - 64 * (x.length / 64)), ?_, ?_, ?_, ?_⟩, g⟩
    · rw [List.length_append, List.length_drop, byteVals_len, List.length_drop]; omega
    · intro v hv
      rcases List.mem_append.1 hv with h | h
      · exact byteVals_one _ v h
      · exact hone v (List.mem_of_mem_drop h)
    · rw [take_append_len _ _ _ (x.length - 64 * (x.length / 64)) (by rw [byteVals_len, List.length_drop]) (by omega)]
      congr 1
      have hnil : m.drop (64 * ((m ++ x).length / 64)) = [] := List.drop_eq_nil_of_le (by omega)
      rw [List.drop_append, hnil, List.nil_append]
      congr 1
      omega
    · rw [show (m ++ x).length / 64 = m.length / 64 + x.length / 64 by omega, ← hashX_hashB m x _ (by omega) _ (by omega), show (m ++ x).length % 64 = x.length - 64 * (x.length / 64) by omega, hxl]
      rw [Int.natCast_add]
      exact hb'
  · by_cases hs : m.length % 64 + x.length < 64
    · obtain ⟨s1, s2, s3, s4⟩ := small_step m x hs
      have htl := tail_len m
      refine (take_short b _ rest (m.length % 64) m.length A x c w (by rw [List.length_map]; exact h8) hr hb ht hA hc (by omega) hs).mono fun e w' ⟨he, hb', g⟩ => ⟨he, ⟨rest.take (m.length % 64) ++ (byteVals x ++ rest.drop (m.length % 64 + x.length)), ?_, ?_, ?_, ?_⟩, g⟩
      · rw [List.length_append, List.length_append, List.length_take, List.length_drop, byteVals_len]; omega
      · intro v hv
        rcases List.mem_append.1 hv with h | h
        · exact hone v (List.mem_of_mem_take h)
        · rcases List.mem_append.1 h with h | h
          · exact byteVals_one _ v h
          · exact hone v (List.mem_of_mem_drop h)
      · rw [s1, s2, s3, hrest, ← List.append_assoc, byteVals_append]
        exact take_append_len _ _ _ _ (by rw [byteVals_len, List.length_append, htl]) rfl
      · rw [s1, s2, s4, hxl, Int.natCast_add, Int.natCast_add]
        exact hb'
    · have htl := tail_len m
      have hfs := fill_step m (x.take (64 - m.length % 64)) (by rw [List.length_take]; omega)
      have hml : (m ++ x.take (64 - m.length % 64)).length = 64 * (m.length / 64 + 1) := by rw [List.length_append, List.length_take]; omega
      have hdl : (x.drop (64 - m.length % 64)).length = x.length - (64 - m.length % 64) := List.length_drop
      have hmx : m ++ x = (m ++ x.take (64 - m.length % 64)) ++ x.drop (64 - m.length % 64) := by rw [List.append_assoc, List.take_append_drop]
      refine (take_fill b _ rest (m.drop (64 * (m.length / 64))) (m.length % 64) (64 - m.length % 64) m.length A x c w h8 hr hrest htl (by omega) (by omega) (by omega) (by omega) hb ht hA hc hT hb2).mono
        fun e w' ⟨he, hb', g⟩ => ⟨he, ⟨byteVals ((x.drop (64 - m.length % 64)).drop (64 * ((x.length - (64 - m.length % 64)) / 64))) ++
          (byteVals (m.drop (64 * (m.length / 64)) ++ x.take (64 - m.length % 64))).drop (x.length - (64 - m.length % 64) - 64 * ((x.length - (64 - m.length % 64)) / 64)), ?_, ?_, ?_, ?_⟩, g⟩
      · rw [List.length_append, List.length_drop, byteVals_len, byteVals_len, List.length_append, List.length_drop, hdl, htl, List.length_take]; omega
      · intro v hv
        rcases List.mem_append.1 hv with h | h
        · exact byteVals_one _ v h
        · exact byteVals_one _ v (List.mem_of_mem_drop h)
      · rw [take_append_len _ _ _ (x.length - (64 - m.length % 64) - 64 * ((x.length - (64 - m.length % 64)) / 64)) (by rw [byteVals_len, List.length_drop, hdl]) (by omega)]
        have hl : 64 * ((m ++ x).length / 64) = 64 * (m.length / 64 + 1) + 64 * ((x.length - (64 - m.length % 64)) / 64) := by rw [hxl]; omega
        have hnil : (m ++ x.take (64 - m.length % 64)).drop (64 * (m.length / 64 + 1) + 64 * ((x.length - (64 - m.length % 64)) / 64)) = [] := List.drop_eq_nil_of_le (by rw [hml]; omega)
        rw [hl, hmx, List.drop_append, hnil, List.nil_append, hml, Nat.add_sub_cancel_left]
      · rw [show (m ++ x).length / 64 = (m.length / 64 + 1) + (x.length - (64 - m.length % 64)) / 64 by omega, hmx, ← hashX_hashB _ (x.drop (64 - m.length % 64)) _ hml _ (by omega), hfs.2.2,
          ← hmx, show (m ++ x).length % 64 = x.length - (64 - m.length % 64) - 64 * ((x.length - (64 - m.length % 64)) / 64) by omega, hxl, Int.natCast_add]
        exact hb'
end

section
open Go.RowKit

theorem Tryd.info5 : (Tryd.prog.info? 5).map (fun i => (i.zero, i.size, i.bytes)) = some (some (.int .u8 0), 1, 1) := by kernel_rfl

/-- The last k bytes of n, the highest first. -/
def be : Nat → Nat → List UInt8
  | 0, _ => []
  | k + 1, n => UInt8.ofNat (n / 2 ^ (8 * k)) :: be k n
theorem be_len : ∀ k n, (be k n).length = k
  | 0, _ => rfl
  | k + 1, n => by rw [be, List.length_cons, be_len k n]
theorem be_get : ∀ (k n j : Nat), j < k → (be k n)[j]? = some (UInt8.ofNat (n / 2 ^ (8 * (k - 1 - j))))
  | 0, _, _, h => by omega
  | k + 1, n, 0, _ => by rw [be]; simp
  | k + 1, n, j + 1, h => by
    rw [be, List.getElem?_cons_succ, be_get k n j (by omega)]
    congr 5
    omega
theorem be_take_succ (k n j : Nat) (h : j < k) : (be k n).take (j + 1) = (be k n).take j ++ [UInt8.ofNat (n / 2 ^ (8 * (k - 1 - j)))] := by
  rw [List.take_succ_eq_append_getElem (by rw [be_len]; exact h)]
  congr 2
  have := be_get k n j h
  rw [List.getElem?_eq_getElem (by rw [be_len]; exact h)] at this
  simpa using this
theorem byte_shr (n k : Nat) : ((UInt8.ofNat (n / 2 ^ k)).toNat : Int) = (n : Int) / 2 ^ k % 256 := by
  simp [UInt8.toNat_ofNat']

def noughts (n : Nat) : Nat := (119 - n % 64) % 64
def padHead (n : Nat) : List UInt8 := 128 :: List.replicate (noughts n) 0
def padOf (n : Nat) : List UInt8 := padHead n ++ be 8 (n * 8)
def padded (m : List UInt8) : List UInt8 := m ++ padOf m.length
theorem padHead_len (n : Nat) : (padHead n).length = noughts n + 1 := by simp [padHead]
theorem padOf_len (n : Nat) : (padOf n).length = noughts n + 9 := by rw [padOf, List.length_append, padHead_len, be_len]
theorem padded_mod (m : List UInt8) : (padded m).length % 64 = 0 := by
  rw [padded, List.length_append, padOf_len, noughts]; omega

def byteOf (x : Int) : UInt8 := UInt8.ofNat (x % 256).toNat
theorem byteOf_val (x : Int) : ((byteOf x).toNat : Int) = x % 256 := by
  unfold byteOf
  have h1 : 0 ≤ x % 256 := Int.emod_nonneg _ (by omega)
  have h2 : x % 256 < 256 := Int.emod_lt_of_pos _ (by omega)
  rw [UInt8.toNat_ofNat', Nat.mod_eq_of_lt (by omega)]
  omega
def wordBytes (x : Int) : List UInt8 := [byteOf (x / 16777216), byteOf (x / 65536), byteOf (x / 256), byteOf x]
def wordsBytes (ws : List Int) : List UInt8 := ws.flatMap wordBytes
/-- The digest of m. -/
def dig (m : List UInt8) : List UInt8 := wordsBytes (hashB (padded m) ((padded m).length / 64))
theorem wordsBytes_len : ∀ ws : List Int, (wordsBytes ws).length = 4 * ws.length
  | [] => rfl
  | x :: ws => by
    have := wordsBytes_len ws
    unfold wordsBytes at *
    rw [List.flatMap_cons, List.length_append, this]; simp [wordBytes]; omega
theorem dig_len (m : List UInt8) : (dig m).length = 32 := by rw [dig, wordsBytes_len, hashB_len]

theorem dig_empty : dig [] = [0xe3, 0xb0, 0xc4, 0x42, 0x98, 0xfc, 0x1c, 0x14, 0x9a, 0xfb, 0xf4, 0xc8, 0x99, 0x6f, 0xb9, 0x24, 0x27, 0xae, 0x41, 0xe4, 0x64, 0x9b, 0x93, 0x4c, 0xa4, 0x95, 0x99, 0x1b, 0x78, 0x52, 0xb8, 0x55] := by decide +kernel
theorem dig_abc : dig [97, 98, 99] = [0xba, 0x78, 0x16, 0xbf, 0x8f, 0x01, 0xcf, 0xea, 0x41, 0x41, 0x40, 0xde, 0x5d, 0xae, 0x22, 0x23, 0xb0, 0x03, 0x61, 0xa3, 0x96, 0x17, 0x7a, 0x9c, 0xb4, 0x10, 0xff, 0x61, 0xf2, 0x00, 0x15, 0xad] := by decide +kernel

section
variable {w : World} {b : Nat} {m : List UInt8}
theorem HsAt.held (h : HsAt w b m) : w.cell? ⟨b, 72, none⟩ = some (.int .i64 ((m.length % 64 : Nat) : Int)) := by
  obtain ⟨rest, hr, _, _, hb⟩ := h.cells
  have h8 : ((hashB m (m.length / 64)).map u32v).length = 8 := by rw [List.length_map, hashB_len]
  rw [BlkL.cell hb, List.getElem?_append_right (by omega), h8, List.getElem?_append_right (by omega), hr]; rfl
theorem HsAt.taken (h : HsAt w b m) : w.cell? ⟨b, 73, none⟩ = some (.int .u64 (m.length : Int)) := by
  obtain ⟨rest, hr, _, _, hb⟩ := h.cells
  have h8 : ((hashB m (m.length / 64)).map u32v).length = 8 := by rw [List.length_map, hashB_len]
  rw [BlkL.cell hb, List.getElem?_append_right (by omega), h8, List.getElem?_append_right (by omega), hr]; rfl
theorem HsAt.word (h : HsAt w b m) {i : Nat} (hi : i < 8) : w.cell? ⟨b, i, none⟩ = some (u32v ((hashB m (m.length / 64)).getD i 0)) := by
  obtain ⟨rest, hr, _, _, hb⟩ := h.cells
  have h8 := hashB_len m (m.length / 64)
  rw [BlkL.cell hb, List.getElem?_append_left (by rw [List.length_map]; omega), List.getElem?_map, List.getElem?_eq_getElem (by omega), List.getD_eq_getElem?_getD, List.getElem?_eq_getElem (by omega)]
  rfl
end

/-- The value of a row of so many: a slice of that length. -/
theorem own_slice {w : World} {b : Nat} {e : TypeId} {size : Nat} {v : Value} {n : Nat} {xs : List Value} (h : w.ownsRow b e size v n xs) : ∃ A c, v = .slice A n c := by
  rcases h.2 with ⟨h1, h2⟩ | ⟨g, cap, cur, h1, _⟩
  · exact ⟨none, 0, by rw [h1, h2]⟩
  · exact ⟨_, cap, h1⟩

theorem reads_one (w : World) (x : UInt8) : Reads (w.alloc (.cells #[.int .u8 x.toNat] 5 (0, 0))) (w.alloc (.cells #[.int .u8 x.toNat] 5 (0, 0))).heap.size 1 (some ⟨w.heap.size, 0, none⟩) 1 (byteVals [x]) :=
  ⟨rfl, fun _ => ⟨_, rfl, by simp, fun j u hu => by
    match j, hu with
    | 0, hu =>
      simp only [byteVals, List.map_cons, List.map_nil, List.getElem?_cons_zero, Option.some.injEq] at hu
      subst hu
      rw [Go.WideShapes.add_plain, Nat.zero_add, (Blk.new w _ 5).cell]; rfl⟩⟩
end

section
open Go.RowKit

def zero32 : Array Value := #[Value.int IntKind.u8 0, Value.int IntKind.u8 0, Value.int IntKind.u8 0, Value.int IntKind.u8 0, Value.int IntKind.u8 0, Value.int IntKind.u8 0, Value.int IntKind.u8 0, Value.int IntKind.u8 0, Value.int IntKind.u8 0, Value.int IntKind.u8 0, Value.int IntKind.u8 0, Value.int IntKind.u8 0, Value.int IntKind.u8 0, Value.int IntKind.u8 0, Value.int IntKind.u8 0, Value.int IntKind.u8 0, Value.int IntKind.u8 0, Value.int IntKind.u8 0, Value.int IntKind.u8 0, Value.int IntKind.u8 0, Value.int IntKind.u8 0, Value.int IntKind.u8 0, Value.int IntKind.u8 0, Value.int IntKind.u8 0, Value.int IntKind.u8 0, Value.int IntKind.u8 0, Value.int IntKind.u8 0, Value.int IntKind.u8 0, Value.int IntKind.u8 0, Value.int IntKind.u8 0, Value.int IntKind.u8 0, Value.int IntKind.u8 0]

theorem made_zero (n : Nat) : madeCells (Value.int .u8 0).cells n = (List.replicate n (Value.int .u8 0)).toArray := by
  apply Array.ext
  · simp [size_madeCells]
  · intro i h1 h2
    have h0 : (Value.int .u8 0).cells = #[.int .u8 0] := rfl
    simp [madeCells, h0, Nat.mod_one]

theorem made_pad (n : Nat) : (((Array.replicate (1 + noughts n + 8) (Value.int .u8 0)).setIfInBounds 0 (.int .u8 128)).toList).take ((1 + noughts n) * 1) = byteVals (padHead n) := by
  unfold padHead
  generalize noughts n = k
  have e1 : ((Array.replicate (1 + k + 8) (Value.int .u8 0)).setIfInBounds 0 (.int .u8 128)).toList = .int .u8 128 :: List.replicate (k + 8) (.int .u8 0) := by
    rw [Array.toList_setIfInBounds, Array.toList_replicate, show 1 + k + 8 = (k + 8) + 1 by omega, List.replicate_succ, List.set_cons_zero]
  rw [e1, show (1 + k) * 1 = k + 1 by omega, List.take_succ_cons, List.take_replicate, show min k (k + 8) = k by omega]
  simp [byteVals]

theorem own_chg {u w w' : World} {c : Option Nat} {base : Nat} {e : TypeId} {size : Nat} {v : Value} {n : Nat} {xs : List Value} (h : Chg c u w) (hown : w.ownsRow base e size v n xs) (hb : u.heap.size ≤ base) (g : w.grownBy w' v.ownBlock) : Chg c u w' := by
  cases hv : v.ownBlock with
  | none => rw [hv] at g; exact h.trans (Chg.weaken g)
  | some k => rw [hv] at g; exact Chg.own (b := k) h g (Nat.le_trans hb (hown.lt k hv).1)

def byteV (x : Int) : Value := .int .u8 (x % 256)
theorem wordBytes_vals (x : Int) : byteVals (wordBytes x) = [byteV (x / 16777216), byteV (x / 65536), byteV (x / 256), byteV x] := by
  simp [wordBytes, byteVals, byteOf_val, byteV]
theorem words_take (ws : List Int) (k : Nat) (h : k < ws.length) : wordsBytes (ws.take (k + 1)) = wordsBytes (ws.take k) ++ wordBytes (ws.getD k 0) := by
  rw [List.take_succ_eq_append_getElem h, List.getD_eq_getElem?_getD, List.getElem?_eq_getElem h]
  unfold wordsBytes
  rw [List.flatMap_append, List.flatMap_cons, List.flatMap_nil, List.append_nil]
  rfl
theorem set_four (P : List Value) (z x0 x1 x2 x3 : Value) (k n : Nat) (hP : P.length = 4 * k) :
    ((((P ++ List.replicate (n + 4) z).set (4 * k) x0).set (4 * k + 1) x1).set (4 * k + 2) x2).set (4 * k + 3) x3 = P ++ ([x0, x1, x2, x3] ++ List.replicate n z) := by
  rw [List.replicate_succ, List.replicate_succ, List.replicate_succ, List.replicate_succ]
  rw [List.set_append_right _ _ (by omega), List.set_append_right _ _ (by omega), List.set_append_right _ _ (by omega), List.set_append_right _ _ (by omega), hP, Nat.sub_self,
    show 4 * k + 1 - 4 * k = 1 by omega, show 4 * k + 2 - 4 * k = 2 by omega, show 4 * k + 3 - 4 * k = 3 by omega]
  rfl

theorem src_of_own {w : World} {base n c b : Nat} {A : Option Addr} {bs : List UInt8} (h : w.ownsRow base 5 1 (.slice A n c) n (byteVals bs)) (hb : b < base) : Src w b A bs ∧ n = bs.length ∧ n ≤ c := by
  have hl := h.1
  rw [byteVals_len, Nat.mul_one] at hl
  rcases h.2 with ⟨h1, h2⟩ | ⟨g, cap, cur, h1, h2, h3, h4, h5, h6, h7⟩
  · exact ⟨fun h0 => by omega, hl.symm, by omega⟩
  · injection h1 with e1 e2 e3
    refine ⟨fun _ => ⟨g, 0, e1, by omega, (Array.getElem?_eq_some_iff.1 h3).1, fun j x hj => ?_⟩, hl.symm, by omega⟩
    have := h.cells (g := g) (by rw [e1]; rfl) j _ (byteVals_get hj)
    rwa [Go.WideShapes.add_plain] at this

theorem make22 (nn : Nat) (hn : nn < 1000000) (W : World) : (Instr.makeSlice 22 (.int .i64 (1 + (nn : Int))) (.int .i64 (1 + (nn : Int) + 8))).run Tryd.prog W =
    .ok (.slice (some ⟨W.heap.size, 0, none⟩) (1 + nn) (1 + nn + 8)) (W.alloc (.cells (List.replicate (1 + nn + 8) (.int .u8 0)).toArray 5)) := by
  obtain ⟨i0, hi, hz0, hz1, hz2⟩ := info_parts Tryd.info5
  have hr := run_make (P := Tryd.prog) W 22 5 i0 (.int .u8 0) Tryd.underlying22 hi hz0 .i64 .i64 (1 + (nn : Int)) (1 + (nn : Int) + 8) (by omega) (by omega) (by rw [hz2]; omega) (by omega)
  rw [hr]
  have e1 : (1 + (nn : Int)).toNat = 1 + nn := by omega
  have e2 : (1 + (nn : Int) + 8).toNat = 1 + nn + 8 := by omega
  rw [e1, e2, hz1, Nat.mul_one, made_zero]

set_option maxRecDepth 100000 in
set_option maxHeartbeats 4000000 in
theorem digest_any (b : Nat) (m : List UInt8) (w : World) (hH : HsAt w b m) (hm : m.length < 1000000000000000) (hT : Tabs w) (hb2 : 2 ≤ b) :
    Calls Tryd.prog 63 #[.pointer (some ⟨b, 0, none⟩)] w fun e w' => e = .returned (.agg (byteVals (dig m)).toArray) ∧ Chg (some b) w w' := by
  have hlt := hH.lt
  have c72 := hH.held
  have c73 := hH.taken
  obtain ⟨h0, hh0⟩ : ∃ h0, h0 = m.length % 64 := ⟨_, rfl⟩
  obtain ⟨tk, htk⟩ : ∃ tk, tk = m.length := ⟨_, rfl⟩
  rw [← hh0] at c72
  rw [← htk] at c73
  have hh64 : h0 < 64 := by omega
  have htk1 : tk < 1000000000000000 := by omega
  have hnn : (119 - (h0 : Int)) % 64 = ((noughts m.length : Nat) : Int) := by unfold noughts; omega
  have hnn64 : noughts m.length < 64 := by unfold noughts; omega
  obtain ⟨nn, hn⟩ : ∃ nn, nn = noughts m.length := ⟨_, rfl⟩
  rw [← hn] at hnn hnn64
  have HN := Lib.hid hn
  have HT := Lib.hid htk
  have HH := Lib.hid hh0
  clear hn htk hh0
  go_enter Tryd.func63, Tryd.ntmps63
  go_upto_region 3 with (fail)
  obtain ⟨W1, hW1⟩ : ∃ W1, W1 = w.alloc (.cells zero32 30) := ⟨_, rfl⟩
  have hsr : w.alloc (.cells #[Value.int IntKind.u8 0, Value.int IntKind.u8 0, Value.int IntKind.u8 0, Value.int IntKind.u8 0, Value.int IntKind.u8 0, Value.int IntKind.u8 0, Value.int IntKind.u8 0, Value.int IntKind.u8 0, Value.int IntKind.u8 0, Value.int IntKind.u8 0, Value.int IntKind.u8 0, Value.int IntKind.u8 0, Value.int IntKind.u8 0, Value.int IntKind.u8 0, Value.int IntKind.u8 0, Value.int IntKind.u8 0, Value.int IntKind.u8 0, Value.int IntKind.u8 0, Value.int IntKind.u8 0, Value.int IntKind.u8 0, Value.int IntKind.u8 0, Value.int IntKind.u8 0, Value.int IntKind.u8 0, Value.int IntKind.u8 0, Value.int IntKind.u8 0, Value.int IntKind.u8 0, Value.int IntKind.u8 0, Value.int IntKind.u8 0, Value.int IntKind.u8 0, Value.int IntKind.u8 0, Value.int IntKind.u8 0, Value.int IntKind.u8 0] 30) = W1 := hW1.symm
  rw [hsr]
  have g1 : Chg none w W1 := by rw [hW1]; exact (Chg.refl _ _).alloc _
  have hR : Blk W1 w.heap.size zero32 30 := by rw [hW1]; exact Blk.new _ _ _
  have hs1 : W1.heap.size = w.heap.size + 1 := by rw [hW1]; simp
  have hmk := make22 nn (by omega) W1
  have hH1 := hH.chg g1 (by simp)
  have hT1 := hT.chg g1 (by simp)
  clear hsr hW1 hH hT
  have HS1 := Lib.hid hs1
  have hlt1 : b < W1.heap.size := by omega
  clear hs1
  go_wp2_with fail
  obtain ⟨W3, hW3⟩ : ∃ W3, W3 = W1.alloc (.cells ((Array.replicate (1 + nn + 8) (Value.int .u8 0)).setIfInBounds 0 (Value.int .u8 128)) 5) := ⟨_, rfl⟩
  have hsr : W1.alloc (.cells ((Array.replicate (1 + nn + 8) (Value.int .u8 0)).setIfInBounds 0 (Value.int .u8 128)) 5) = W3 := hW3.symm
  rw [hsr]
  have g3 : Chg none w W3 := by rw [hW3]; exact g1.alloc _
  have g13 : Chg none W1 W3 := by rw [hW3]; exact (Chg.refl _ _).alloc _
  have hown : W3.ownsRow W1.heap.size 5 1 (.slice (some ⟨W1.heap.size, 0, none⟩) (1 + nn) (1 + nn + 8)) (1 + nn) (byteVals (padHead m.length ++ (be 8 (m.length * 8)).take 0)) := by
    refine ⟨?_, .inr ⟨W1.heap.size, 1 + nn + 8, _, rfl, Nat.le_refl _, by rw [hW3]; exact heap_alloc_new _ _, by omega, by unfold maxLen; omega, by simp, ?_⟩⟩
    · rw [byteVals_len, List.take_zero, List.append_nil, padHead_len, ← HN.out]; omega
    · rw [List.take_zero, List.append_nil, HN.out]; exact made_pad _
  have hH3 := hH1.chg g13 (by simp)
  have hT3 := hT1.chg g13 (by simp)
  have hR3 := hR.chg g13 (by simp)
  have hsz3 : W1.heap.size < W3.heap.size := by rw [hW3]; simp
  have HOWN := Lib.hid hown
  clear hsr hW3 hown g13 hH1 hT1 hR hmk
  obtain ⟨i0, hi, hz0, hz1, hz2⟩ := info_parts Tryd.info5
  go_loopw [5, 6] (fun s5 s6 wr => ∃ j : Nat, j ≤ 8 ∧ s6 = .int .i64 (56 - 8 * (j : Int)) ∧ wr.ownsRow W1.heap.size 5 1 s5 (1 + nn + j) (byteVals (padHead m.length ++ (be 8 (m.length * 8)).take j)) ∧ HsAt wr b m ∧ Tabs wr ∧ Blk wr w.heap.size zero32 30 ∧ W1.heap.size < wr.heap.size ∧ Chg none w wr)
    (fun _ s6 _ => (intOf s6 + 8).toNat)
  case atStart => exact ⟨0, by omega, rfl, HOWN.out, hH3, hT3, hR3, hsz3, g3⟩
  case round =>
    obtain ⟨j, hj, rfl, hown, hHj, hTj, hRj, hsj, hgj⟩ := hrel
    obtain ⟨Aj, cj, rfl⟩ := own_slice hown
    clear hH3 hT3 hR3 g3 HOWN c72 c73 hnn
    by_cases hlt8 : j < 8
    · have hbe := be_take_succ 8 (m.length * 8) j hlt8
      rw [show 8 * (8 - 1 - j) = 56 - 8 * j by omega] at hbe
      obtain ⟨x, hx⟩ : ∃ x, x = UInt8.ofNat (m.length * 8 / 2 ^ (56 - 8 * j)) := ⟨_, rfl⟩
      rw [← hx] at hbe
      have hr1 := reads_one wr x
      have hv : (x.toNat : Int) = (tk : Int) * 8 / 2 ^ (56 - 8 * j) % 256 := by
        rw [hx, byte_shr, HT.out]; push_cast; rfl
      rw [hv] at hr1
      have HR1 := Lib.hid hr1
      have HO1 := Lib.hid (byteVals_one [x])
      have HBE := Lib.hid hbe
      have HOWN := Lib.hid hown
      have hjl : j ≤ 8 := hj
      clear hr1 hown hx hv hbe
      go_wp2_with (at_builtin; refine wpList_append_any _ rfl (.tmp 33) (.tmp 38) 22 rfl W1.heap.size 5 i0 (.int .u8 0) 1 1 Tryd.underlying22 hi hz0 hz1 hz2 rfl (by decide) _ (1 + nn + j) (byteVals (padHead m.length ++ (be 8 (m.length * 8)).take j)) rfl (HOWN.out.alloc _) _ _ 1 1 (byteVals [x]) rfl HR1.out HO1.out ?d1 ?d2 ?d3 ?_)
      case d1 => unfold maxLen; omega
      case d2 => omega
      case d3 => simp; omega
      intro v3 w3 hown3 hgr3 _
      rw [byteVals_append, List.append_assoc, ← HBE.out] at hown3
      have gal : Chg none w (wr.alloc (.cells #[.int .u8 ((tk : Int) * 8 / 2 ^ (56 - 8 * j) % 256)] 5)) := hgj.alloc _
      have ga : Chg none wr (wr.alloc (.cells #[.int .u8 ((tk : Int) * 8 / 2 ^ (56 - 8 * j) % 256)] 5)) := (Chg.refl _ _).alloc _
      have g3 := own_chg gal (HOWN.out.alloc _) (by rw [HS1.out]; omega) hgr3
      have gr3 : Chg (Value.slice Aj (1 + nn + j) cj).ownBlock wr w3 := (ga.weaken).trans hgr3
      have hne : ∀ k, k < W1.heap.size → some k ≠ (Value.slice Aj (1 + nn + j) cj).ownBlock := fun k hk e => by
        have := (HOWN.out.lt k e.symm).1
        omega
      have hH3 := hHj.chg gr3 (hne b hlt1)
      have hR3 := hRj.chg gr3 (hne _ (by rw [HS1.out]; omega))
      have hT3 := hTj.chg gr3 (fun k hk => by
        have := (HOWN.out.lt k hk).1
        omega)
      have hsz3 : W1.heap.size < w3.heap.size := Nat.lt_of_lt_of_le hsj gr3.size
      have HOWN3 := Lib.hid hown3
      clear hown3 hgr3 gal ga gr3 hne HR1 HO1
      go_wp2_with fail
      go_roundw
      case rel => exact ⟨j + 1, by omega, by congr 1; omega, HOWN3.out, hH3, hT3, hR3, hsz3, g3⟩
      case measure => simp [intOf]; omega
    · obtain rfl : j = 8 := by omega
      have hgo : decide ((8 : Int) * ((8 : Nat) : Int) ≤ 56) = false := by decide
      have hb8 : (be 8 (m.length * 8)).take 8 = be 8 (m.length * 8) := List.take_of_length_le (by rw [be_len]; omega)
      rw [hb8] at hown
      change wr.ownsRow W1.heap.size 5 1 (.slice Aj (1 + nn + 8) cj) (1 + nn + 8) (byteVals (padOf m.length)) at hown
      obtain ⟨hsrc, hpl, hcap⟩ := src_of_own hown hlt1
      have htk := take_any b m (padOf m.length) Aj cj wr hHj (by omega) hsrc (by omega) hTj hb2
      rw [← hpl] at htk
      have HTK := Lib.hid htk
      clear htk hpl hsrc hown hb8
      go_wp2_with fail
      refine HTK.out.mono ?_
      rintro e w6 ⟨rfl, hH6, g6⟩
      have hT6 := hTj.chg g6 (by simp; omega)
      have hR6 := hRj.chg g6 (by simp; omega)
      have g6' : Chg (some b) w w6 := (hgj.weaken).trans g6
      have hsz6 : W1.heap.size < w6.heap.size := Nat.lt_of_lt_of_le hsj g6.size
      have hlt6 := hH6.lt
      clear g6 hHj hTj hRj hgj HTK
      go_upto_region 11 with (fail)
      obtain ⟨W7, hW7⟩ : ∃ W7, W7 = w6.alloc (.cells zero32 30) := ⟨_, rfl⟩
      have hsr : w6.alloc (.cells #[Value.int IntKind.u8 0, Value.int IntKind.u8 0, Value.int IntKind.u8 0, Value.int IntKind.u8 0, Value.int IntKind.u8 0, Value.int IntKind.u8 0, Value.int IntKind.u8 0, Value.int IntKind.u8 0, Value.int IntKind.u8 0, Value.int IntKind.u8 0, Value.int IntKind.u8 0, Value.int IntKind.u8 0, Value.int IntKind.u8 0, Value.int IntKind.u8 0, Value.int IntKind.u8 0, Value.int IntKind.u8 0, Value.int IntKind.u8 0, Value.int IntKind.u8 0, Value.int IntKind.u8 0, Value.int IntKind.u8 0, Value.int IntKind.u8 0, Value.int IntKind.u8 0, Value.int IntKind.u8 0, Value.int IntKind.u8 0, Value.int IntKind.u8 0, Value.int IntKind.u8 0, Value.int IntKind.u8 0, Value.int IntKind.u8 0, Value.int IntKind.u8 0, Value.int IntKind.u8 0, Value.int IntKind.u8 0, Value.int IntKind.u8 0] 30) = W7 := hW7.symm
      rw [hsr]
      have g67 : Chg none w6 W7 := by rw [hW7]; exact (Chg.refl _ _).alloc _
      have g7 : Chg (some b) w W7 := g6'.trans g67.weaken
      have hD : BlkL W7 w6.heap.size (byteVals (wordsBytes []) ++ List.replicate (32 - 4 * 0) (Value.int .u8 0)) 30 := by rw [hW7]; exact Blk.new _ _ _
      have hH7 := hH6.chg g67 (by simp)
      have hR7 := hR6.chg g67 (by simp)
      have hw8 := hashB_len (padded m) ((padded m).length / 64)
      have hwd : ∀ i, i < 8 → W7.cell? ⟨b, i, none⟩ = some (u32v ((hashB (padded m) ((padded m).length / 64)).getD i 0)) := fun i hi => hH7.word hi
      obtain ⟨ws, hws⟩ : ∃ ws, ws = hashB (padded m) ((padded m).length / 64) := ⟨_, rfl⟩
      rw [← hws] at hw8 hwd
      have HWS : Hid (dig m = wordsBytes ws) := by rw [hws]; rfl
      clear hws hsr hW7 g67 hH6 hR6 g6' hT6 hH7
      obtain ⟨x0, x1, x2, x3, x4, x5, x6, x7, rfl⟩ : ∃ a b c d e f g h, ws = [a, b, c, d, e, f, g, h] := by
        match ws, hw8 with
        | [a, b, c, d, e, f, g, h], _ => exact ⟨a, b, c, d, e, f, g, h, rfl⟩
      have hrange : W7.rangeAt b 0 [.int .u32 x0, .int .u32 x1, .int .u32 x2, .int .u32 x3, .int .u32 x4, .int .u32 x5, .int .u32 x6, .int .u32 x7] := by
        intro j v hj
        have hj8 : j < 8 := (List.getElem?_eq_some_iff.1 hj).1
        rw [Nat.zero_add, hwd j hj8]
        match j, hj8 with
        | 0, _ => exact hj
        | 1, _ => exact hj
        | 2, _ => exact hj
        | 3, _ => exact hj
        | 4, _ => exact hj
        | 5, _ => exact hj
        | 6, _ => exact hj
        | 7, _ => exact hj
      have HRG := Lib.hid hrange
      have HI25 : Hid ((Tryd.prog.info? 25).map (·.size) = some 8) := by show _ = _; kernel_rfl
      clear hrange hwd hw8
      have hszD : w.heap.size < w6.heap.size := by have := HS1.out; omega
      obtain ⟨wo, rfl⟩ : ∃ wo : World, wo = wr := ⟨_, rfl⟩
      generalize hDD : w6.heap.size = D at *
      have hne : w.heap.size ≠ D := by omega
      clear hDD
      go_wp2_with (refine wpList_load_mid rfl 25 _ rfl b 0 rfl [.int .u32 x0, .int .u32 x1, .int .u32 x2, .int .u32 x3, .int .u32 x4, .int .u32 x5, .int .u32 x6, .int .u32 x7] _ HRG.out Tryd.underlying25 rfl HI25.out ?_)
      go_loopw [47] (fun s47 wq => ∃ k : Nat, k ≤ 8 ∧ s47 = .int .i64 k ∧ BlkL wq D (byteVals (wordsBytes ([x0, x1, x2, x3, x4, x5, x6, x7].take k)) ++ List.replicate (32 - 4 * k) (Value.int .u8 0)) 30 ∧ Blk wq w.heap.size zero32 30 ∧ Chg (some b) w wq) (fun s47 _ => 8 - (intOf s47).toNat)
      case atStart => exact ⟨0, by omega, rfl, hD, hR7, g7⟩
      case round =>
        obtain ⟨k, hk, rfl, hDk, hRk, hgk⟩ := hrel
        clear hD hR7 g7 HRG
        by_cases hlt2 : k < 8
        · have ix := index25_at x0 x1 x2 x3 x4 x5 x6 x7 k hlt2
          have hwt := words_take [x0, x1, x2, x3, x4, x5, x6, x7] k hlt2
          have hPl : (byteVals (wordsBytes ([x0, x1, x2, x3, x4, x5, x6, x7].take k))).length = 4 * k := by
            rw [byteVals_len, wordsBytes_len, List.length_take]
            show 4 * min k 8 = 4 * k
            omega
          generalize [x0, x1, x2, x3, x4, x5, x6, x7].getD k 0 = X at *
          have hset := (((BlkL.set hDk (4 * k) (byteV (X / 16777216))).set (4 * k + 1) (byteV (X / 65536))).set (4 * k + 2) (byteV (X / 256))).set (4 * k + 3) (byteV X)
          rw [show 32 - 4 * k = (32 - 4 * (k + 1)) + 4 by omega, set_four _ _ _ _ _ _ _ _ hPl, ← List.append_assoc, ← wordBytes_vals, byteVals_append, ← hwt] at hset
          have hzc : ∀ i, 4 * k ≤ i → i < 4 * k + 4 → wr.cell? ⟨D, i, none⟩ = some (.int .u8 0) := fun i h1 h2 => by
            rw [BlkL.cell hDk, List.getElem?_append_right (by omega), hPl, List.getElem?_replicate, if_pos (by omega)]
          have z0 := hzc (4 * k) (by omega) (by omega)
          have z1 := hzc (4 * k + 1) (by omega) (by omega)
          have z2 := hzc (4 * k + 2) (by omega) (by omega)
          have z3 := hzc (4 * k + 3) (by omega) (by omega)
          have hfz := Blk.frozen hDk
          have HSET := Lib.hid hset
          have HWT := Lib.hid hwt
          have HPL := Lib.hid hPl
          clear hset hzc hwt hPl
          go_wp2_with fail
          go_roundw
          case rel => exact ⟨k + 1, by omega, by go_num, HSET.out, (((hRk.setOther _ _ hne).setOther _ _ hne).setOther _ _ hne).setOther _ _ hne, (((hgk.setNew _ (Nat.le_of_lt hszD) _).setNew _ (Nat.le_of_lt hszD) _).setNew _ (Nat.le_of_lt hszD) _).setNew _ (Nat.le_of_lt hszD) _⟩
          case measure => first | (simp [intOf]; done) | (simp [intOf]; omega)
        · obtain rfl : k = 8 := by omega
          have hd8 : decide (((8 : Nat) : Int) < 8) = false := by decide
          change BlkL wr D (byteVals (wordsBytes [x0, x1, x2, x3, x4, x5, x6, x7]) ++ []) 30 at hDk
          rw [List.append_nil, ← HWS.out] at hDk
          have hcs : (byteVals (dig m)).toArray.size = 32 := by rw [List.size_toArray, byteVals_len, dig_len]
          have hone : (byteVals (dig m)).toArray.all (·.oneCell') = true := Array.all_eq_true_iff_forall_mem.2 (fun v hv => byteVals_one _ v (by simpa using hv))
          have hinf : (Tryd.prog.info? 30).map (·.size) = some (byteVals (dig m)).toArray.size := by rw [hcs]; kernel_rfl
          have HI := Lib.hid hinf
          have HO := Lib.hid hone
          have HC := Lib.hid hcs
          have HZ : zero32.size = 32 := rfl
          clear hinf hone hcs
          go_wp2_with (first | (refine wpList_load_row rfl 30 _ rfl D rfl 30 _ (0, 0) _ hDk Tryd.underlying30 rfl HI.out ?_) | (refine wpList_store_row rfl 30 _ _ rfl w.heap.size (byteVals (dig m)).toArray rfl rfl 30 _ hRk HI.out (by rw [HC.out]; rfl) HO.out ?_))
          refine bodyPost_ret (results_cell_row (p := 2) (ty := 30) Tryd.results63 _ _ w.heap.size 30 (byteVals (dig m)).toArray (0, 0) _ rfl (setRow_heap _ _ _ _ _ _ hRk) Tryd.underlying30 rfl HI.out) rfl ⟨rfl, ?_⟩
          exact Chg.own (b := w.heap.size) hgk ⟨rfl, rfl, rfl, by simp [World.setRow], fun i _ hn => setRow_other _ _ i _ (by simpa using hn)⟩ (Nat.le_refl _)
end

section
open Go.RowKit

/-- The bytes bs, as a slice of so many. -/
def Txt (w : World) (A : Option Addr) (bs : List UInt8) : Prop :=
  0 < bs.length → ∃ sb so, A = some ⟨sb, so, none⟩ ∧ sb < w.heap.size ∧ ∀ j c, bs[j]? = some c → w.cell? ⟨sb, so + j, none⟩ = some (.int .u8 c.toNat)

theorem Txt.src {w w' : World} {A : Option Addr} {bs : List UInt8} {b : Nat} (h : Txt w A bs) (g : Chg none w w') (hb : w.heap.size ≤ b) : Src w' b A bs := fun h0 => by
  obtain ⟨sb, so, e, hlt, hc⟩ := h h0
  exact ⟨sb, so, e, by omega, Nat.lt_of_lt_of_le hlt g.size, fun j c hj => World.grownBy.cell g (hc j c hj) (by simp)⟩
theorem Txt.chg {w w' : World} {A : Option Addr} {bs : List UInt8} (h : Txt w A bs) (g : Chg none w w') : Txt w' A bs := fun h0 => by
  obtain ⟨sb, so, e, hlt, hc⟩ := h h0
  exact ⟨sb, so, e, Nat.lt_of_lt_of_le hlt g.size, fun j c hj => World.grownBy.cell g (hc j c hj) (by simp)⟩

def h0Cells : List Value := [.int .u32 1779033703, .int .u32 3144134277, .int .u32 1013904242, .int .u32 2773480762, .int .u32 1359893119, .int .u32 2600822924, .int .u32 528734635, .int .u32 1541459225]
def newCells : Array Value := (h0Cells ++ (List.replicate 64 (Value.int .u8 0) ++ [Value.int .i64 0, Value.int .u64 0])).toArray
theorem built68 : Tryd.prog.built 94 [(0, .agg h0Cells.toArray)] = some newCells := by kernel_rfl
theorem new_hs {w : World} {b : Nat} (h : Blk w b newCells 94) : HsAt w b [] :=
  ⟨List.replicate 64 (Value.int .u8 0), rfl, by intro v hv; rw [List.eq_of_mem_replicate hv]; rfl, rfl, h⟩
theorem Tabs.first {w : World} (h : Tabs w) : w.rangeAt 0 0 h0Cells := by
  intro j v hj
  have hj8 : j < 8 := (List.getElem?_eq_some_iff.1 hj).1
  rw [Nat.zero_add, h.h j hj8]
  match j, hj8 with
  | 0, _ => exact hj
  | 1, _ => exact hj
  | 2, _ => exact hj
  | 3, _ => exact hj
  | 4, _ => exact hj
  | 5, _ => exact hj
  | 6, _ => exact hj
  | 7, _ => exact hj

set_option maxRecDepth 100000 in
set_option maxHeartbeats 4000000 in
theorem sum_any (A : Option Addr) (x : List UInt8) (c : Nat) (w : World) (hA : Txt w A x) (hc : x.length ≤ c) (hx : x.length < 1000000000000000) (hT : Tabs w) :
    Calls Tryd.prog 23 #[.slice A x.length c] w fun e w' => e = .returned (.agg (byteVals (dig x)).toArray) ∧ Chg none w w' := by
  have hlt2 := hT.lt
  go_enter Tryd.func23, Tryd.ntmps23
  go_upto_region 1 with (fail)
  obtain ⟨W1, hW1⟩ : ∃ W1, W1 = w.alloc (.cells zero32 30) := ⟨_, rfl⟩
  have hsr : w.alloc (.cells #[Value.int IntKind.u8 0, Value.int IntKind.u8 0, Value.int IntKind.u8 0, Value.int IntKind.u8 0, Value.int IntKind.u8 0, Value.int IntKind.u8 0, Value.int IntKind.u8 0, Value.int IntKind.u8 0, Value.int IntKind.u8 0, Value.int IntKind.u8 0, Value.int IntKind.u8 0, Value.int IntKind.u8 0, Value.int IntKind.u8 0, Value.int IntKind.u8 0, Value.int IntKind.u8 0, Value.int IntKind.u8 0, Value.int IntKind.u8 0, Value.int IntKind.u8 0, Value.int IntKind.u8 0, Value.int IntKind.u8 0, Value.int IntKind.u8 0, Value.int IntKind.u8 0, Value.int IntKind.u8 0, Value.int IntKind.u8 0, Value.int IntKind.u8 0, Value.int IntKind.u8 0, Value.int IntKind.u8 0, Value.int IntKind.u8 0, Value.int IntKind.u8 0, Value.int IntKind.u8 0, Value.int IntKind.u8 0, Value.int IntKind.u8 0] 30) = W1 := hW1.symm
  rw [hsr]
  have g1 : Chg none w W1 := by rw [hW1]; exact (Chg.refl _ _).alloc _
  have hR : Blk W1 w.heap.size zero32 30 := by rw [hW1]; exact Blk.new _ _ _
  have hs1 : W1.heap.size = w.heap.size + 1 := by rw [hW1]; simp
  have hT1 := hT.chg g1 (by simp)
  have HRG := Lib.hid hT1.first
  have HI25 : Hid ((Tryd.prog.info? 25).map (·.size) = some h0Cells.length) := by show _ = _; kernel_rfl
  have HI68 : Hid ((Tryd.prog.info? 94).map (·.size) = some newCells.size) := by show _ = _; kernel_rfl
  have HB := Lib.hid built68
  have HO : Hid (newCells.all (·.oneCell') = true) := by show _ = _; kernel_rfl
  have HZ : Hid (Tryd.zeroCells94.size = newCells.size) := by show _ = _; kernel_rfl
  have HS1 := Lib.hid hs1
  have hZ68 : ∀ W : World, (W.alloc (.cells Tryd.zeroCells94 94)).heap[W.heap.size]? = some (.cells Tryd.zeroCells94 94 (0, 0)) := fun W => heap_alloc_new W _
  have HZ68 := Lib.hid hZ68
  clear hsr hW1 hs1 hZ68
  go_wp2_with (first
    | (refine wpList_load_mid rfl 25 _ rfl 0 0 rfl h0Cells _ HRG.out Tryd.underlying25 rfl HI25.out ?_)
    | (refine wpList_buildTo rfl 94 _ rfl (some 5) rfl newCells (by simp only [List.map_toArray, List.map_cons, List.map_nil]; exact HB.out) ?_)
    | (refine wpList_store_row rfl 94 _ _ rfl W1.heap.size newCells rfl rfl 94 _ (HZ68.out W1) HI68.out HZ.out HO.out ?_))
  obtain ⟨W2, hW2⟩ : ∃ W2, W2 = (W1.alloc (.cells Tryd.zeroCells94 94)).setRow W1.heap.size newCells := ⟨_, rfl⟩
  rw [← hW2]
  have hN2 : Blk W2 W1.heap.size newCells 94 := by rw [hW2]; exact setRow_heap _ _ _ _ _ _ (HZ68.out W1)
  have g12 : Chg none W1 W2 := by
    rw [hW2]
    exact Chg.own (b := W1.heap.size) ((Chg.refl none W1).alloc _) (chg_setRow _ _ _) (Nat.le_refl _)
  have hR2 := hR.chg g12 (by simp)
  have g2 := g1.trans g12
  have hA2 := Txt.src hA g2 (b := W1.heap.size) (by rw [HS1.out]; omega)
  have hT2 := hT1.chg g12 (by simp)
  have htk := take_any W1.heap.size [] x A c W2 (new_hs hN2) (by simp only [List.length_nil]; omega) hA2 hc hT2 (by rw [HS1.out]; omega)
  rw [List.nil_append] at htk
  have HTK := Lib.hid htk
  have hlt1 : w.heap.size < W1.heap.size := by rw [HS1.out]; omega
  have hb1 : 2 ≤ W1.heap.size := by omega
  clear hW2 htk hA2 hN2 g12 hR HRG HB HO HZ HZ68 hT1 hT
  generalize W1.heap.size = b at *
  refine HTK.out.mono ?_
  rintro e w3 ⟨rfl, hH3, g3⟩
  have hT3 := hT2.chg g3 (by simp; omega)
  have hR3 := hR2.chg g3 (by simp; omega)
  have HDG := Lib.hid (digest_any b x w3 hH3 hx hT3 hb1)
  clear hT2 hR2 HTK
  go_wp2_with fail
  refine HDG.out.mono ?_
  rintro e w4 ⟨rfl, g4⟩
  have hR4 := hR3.chg g4 (by simp; omega)
  have hcs : (byteVals (dig x)).toArray.size = 32 := by rw [List.size_toArray, byteVals_len, dig_len]
  have hone : (byteVals (dig x)).toArray.all (·.oneCell') = true := Array.all_eq_true_iff_forall_mem.2 (fun v hv => byteVals_one _ v (by simpa using hv))
  have hinf : (Tryd.prog.info? 30).map (·.size) = some (byteVals (dig x)).toArray.size := by rw [hcs]; kernel_rfl
  have HI := Lib.hid hinf
  have HO := Lib.hid hone
  have HC := Lib.hid hcs
  have g5 : Chg none w w4 := Chg.own (b := b) g2 (g3.trans g4) (by omega)
  clear hinf hone hcs hR3 hT3 hH3 g3 g4 HDG
  go_wp2_with (refine wpList_store_row rfl 30 _ _ rfl w.heap.size (byteVals (dig x)).toArray rfl rfl 30 _ hR4 HI.out (by rw [HC.out]; rfl) HO.out ?_)
  refine bodyPost_ret (results_cell_row (p := 2) (ty := 30) Tryd.results23 _ _ w.heap.size 30 (byteVals (dig x)).toArray (0, 0) _ rfl (setRow_heap _ _ _ _ _ _ hR4) Tryd.underlying30 rfl HI.out) rfl ⟨rfl, ?_⟩
  exact Chg.own (b := w.heap.size) g5 (chg_setRow _ _ _) (Nat.le_refl _)
end

section
open Go.RowKit

/-- A part: a slice of bytes. -/
structure Prt where
  A : Option Addr
  x : List UInt8
  c : Nat
instance : Inhabited Prt := ⟨⟨none, [], 0⟩⟩
def Prt.val (p : Prt) : Value := .slice p.A p.x.length p.c
def Prt.ok (w : World) (p : Prt) : Prop := Txt w p.A p.x ∧ p.x.length ≤ p.c
def joined (L : List Prt) : List UInt8 := L.flatMap (·.x)

/-- Parts, as a slice of slices. -/
structure PartsAt (w : World) (A : Option Addr) (L : List Prt) : Prop where
  at_ : 0 < L.length → ∃ b off, A = some ⟨b, off, none⟩ ∧ b < w.heap.size ∧ ∀ i p, L[i]? = some p → w.cell? ⟨b, off + i, none⟩ = some p.val
  all : ∀ p ∈ L, p.ok w
theorem PartsAt.chg {w w' : World} {A : Option Addr} {L : List Prt} (h : PartsAt w A L) (g : Chg none w w') : PartsAt w' A L :=
  ⟨fun h0 => by
    obtain ⟨b, off, e, hlt, hc⟩ := h.at_ h0
    exact ⟨b, off, e, Nat.lt_of_lt_of_le hlt g.size, fun i p hp => World.grownBy.cell g (hc i p hp) (by simp)⟩,
   fun p hp => ⟨(h.all p hp).1.chg g, (h.all p hp).2⟩⟩
theorem joined_take (L : List Prt) (k : Nat) (h : k < L.length) : joined (L.take (k + 1)) = joined (L.take k) ++ (L[k]).x := by
  rw [List.take_succ_eq_append_getElem h]
  unfold joined
  rw [List.flatMap_append, List.flatMap_cons, List.flatMap_nil, List.append_nil]
theorem joined_take_le (L : List Prt) (k : Nat) : (joined (L.take k)).length ≤ (joined L).length := by
  have h : joined L = joined (L.take k) ++ joined (L.drop k) := by
    unfold joined
    rw [← List.flatMap_append, List.take_append_drop]
  rw [h, List.length_append]; omega

set_option maxRecDepth 100000 in
set_option maxHeartbeats 4000000 in
theorem parts_any (tag : UInt8) (A : Option Addr) (L : List Prt) (c : Nat) (w : World) (hA : PartsAt w A L) (hx : (joined L).length < 1000000000) (hL : L.length ≤ 1000000000) (hT : Tabs w) :
    Calls Tryd.prog 25 #[.int .u8 tag.toNat, .slice A L.length c] w fun e w' => e = .returned (.agg (byteVals (dig (tag :: joined L))).toArray) ∧ Chg none w w' := by
  have hlt2 := hT.lt
  go_enter Tryd.func25, Tryd.ntmps25
  go_upto_region 1 with (fail)
  obtain ⟨W1, hW1⟩ : ∃ W1, W1 = w.alloc (.cells zero32 30) := ⟨_, rfl⟩
  have hsr : w.alloc (.cells #[Value.int IntKind.u8 0, Value.int IntKind.u8 0, Value.int IntKind.u8 0, Value.int IntKind.u8 0, Value.int IntKind.u8 0, Value.int IntKind.u8 0, Value.int IntKind.u8 0, Value.int IntKind.u8 0, Value.int IntKind.u8 0, Value.int IntKind.u8 0, Value.int IntKind.u8 0, Value.int IntKind.u8 0, Value.int IntKind.u8 0, Value.int IntKind.u8 0, Value.int IntKind.u8 0, Value.int IntKind.u8 0, Value.int IntKind.u8 0, Value.int IntKind.u8 0, Value.int IntKind.u8 0, Value.int IntKind.u8 0, Value.int IntKind.u8 0, Value.int IntKind.u8 0, Value.int IntKind.u8 0, Value.int IntKind.u8 0, Value.int IntKind.u8 0, Value.int IntKind.u8 0, Value.int IntKind.u8 0, Value.int IntKind.u8 0, Value.int IntKind.u8 0, Value.int IntKind.u8 0, Value.int IntKind.u8 0, Value.int IntKind.u8 0] 30) = W1 := hW1.symm
  rw [hsr]
  have g1 : Chg none w W1 := by rw [hW1]; exact (Chg.refl _ _).alloc _
  have hR : Blk W1 w.heap.size zero32 30 := by rw [hW1]; exact Blk.new _ _ _
  have hs1 : W1.heap.size = w.heap.size + 1 := by rw [hW1]; simp
  have hT1 := hT.chg g1 (by simp)
  have HRG := Lib.hid hT1.first
  have HI25 : Hid ((Tryd.prog.info? 25).map (·.size) = some h0Cells.length) := by show _ = _; kernel_rfl
  have HI68 : Hid ((Tryd.prog.info? 94).map (·.size) = some newCells.size) := by show _ = _; kernel_rfl
  have HB := Lib.hid built68
  have HO : Hid (newCells.all (·.oneCell') = true) := by show _ = _; kernel_rfl
  have HZ : Hid (Tryd.zeroCells94.size = newCells.size) := by show _ = _; kernel_rfl
  have HS1 := Lib.hid hs1
  have hZ68 : ∀ W : World, (W.alloc (.cells Tryd.zeroCells94 94)).heap[W.heap.size]? = some (.cells Tryd.zeroCells94 94 (0, 0)) := fun W => heap_alloc_new W _
  have HZ68 := Lib.hid hZ68
  clear hsr hW1 hs1 hZ68
  go_upto_region 2 with (first
    | (refine wpList_load_mid rfl 25 _ rfl 0 0 rfl h0Cells _ HRG.out Tryd.underlying25 rfl HI25.out ?_)
    | (refine wpList_buildTo rfl 94 _ rfl (some 9) rfl newCells (by simp only [List.map_toArray, List.map_cons, List.map_nil]; exact HB.out) ?_)
    | (refine wpList_store_row rfl 94 _ _ rfl W1.heap.size newCells rfl rfl 94 _ (HZ68.out W1) HI68.out HZ.out HO.out ?_))
  obtain ⟨W2, hW2⟩ : ∃ W2, W2 = (W1.alloc (.cells Tryd.zeroCells94 94)).setRow W1.heap.size newCells := ⟨_, rfl⟩
  rw [← hW2]
  have hN2 : Blk W2 W1.heap.size newCells 94 := by rw [hW2]; exact setRow_heap _ _ _ _ _ _ (HZ68.out W1)
  have g12 : Chg none W1 W2 := by
    rw [hW2]
    exact Chg.own (b := W1.heap.size) ((Chg.refl none W1).alloc _) (chg_setRow _ _ _) (Nat.le_refl _)
  have hR2 := hR.chg g12 (by simp)
  have g2 := g1.trans g12
  have hT2 := hT1.chg g12 (by simp)
  have hlt1 : w.heap.size < W1.heap.size := by rw [HS1.out]; omega
  have hb1 : 2 ≤ W1.heap.size := by omega
  have hH2 := new_hs hN2
  clear hW2 hN2 g12 hR HRG HB HO HZ HZ68 hT1 hT g1
  generalize W1.heap.size = b at *
  go_wp2_with fail
  have hlt2b := hH2.lt
  have gA : Chg none W2 (W2.alloc (.cells #[.int .u8 tag.toNat] 5)) := (Chg.refl _ _).alloc _
  have hS1 : Src (W2.alloc (.cells #[.int .u8 tag.toNat] 5)) b (some ⟨W2.heap.size, 0, none⟩) [tag] := fun _ => ⟨W2.heap.size, 0, rfl, by omega, by simp, fun j x hj => by
    match j, hj with
    | 0, hj =>
      simp only [List.getElem?_cons_zero, Option.some.injEq] at hj
      subst hj
      rw [(Blk.new W2 _ 5).cell]; rfl⟩
  have hTA := hT2.chg gA (by simp)
  have HTK := Lib.hid (take_any b [] [tag] (some ⟨W2.heap.size, 0, none⟩) 1 _ (hH2.chg gA (by simp)) (by simp) hS1 (Nat.le_refl _) hTA hb1)
  have hRA := hR2.chg gA (by simp)
  have g2A := g2.trans gA
  clear hS1 hH2 hR2 hT2 gA g2
  refine HTK.out.mono ?_
  rintro e w3 ⟨rfl, hH3, g3⟩
  have hT3 := hTA.chg g3 (by simp; omega)
  have hR3 := hRA.chg g3 (by simp; omega)
  have g3' : Chg none w w3 := Chg.own (b := b) g2A g3 (by omega)
  clear hTA hRA g2A g3 HTK
  go_wp2_with fail
  go_loopw [15] (fun s15 wr => ∃ k : Nat, k ≤ L.length ∧ s15 = .int .i64 k ∧ HsAt wr b (tag :: joined (L.take k)) ∧ Blk wr w.heap.size zero32 30 ∧ Tabs wr ∧ Chg none w wr) (fun s15 _ => L.length - (intOf s15).toNat)
  case atStart => exact ⟨0, by omega, rfl, hH3, hR3, hT3, g3'⟩
  case round =>
    obtain ⟨k, hk, rfl, hHk, hRk, hTk, hgk⟩ := hrel
    clear hH3 hR3 hT3 g3'
    by_cases hlt : k < L.length
    · have hAk := hA.chg hgk
      obtain ⟨pb, off, rfl, hpb, hcell⟩ := hAk.at_ (by omega)
      have hck := hcell k L[k] (List.getElem?_eq_getElem hlt)
      unfold Prt.val at hck
      have hjt := joined_take L k hlt
      have hjl := joined_take_le L (k + 1)
      rw [hjt, List.length_append] at hjl
      have hsrc := Txt.src (hA.all L[k] (List.getElem_mem hlt)).1 hgk (b := b) (by omega)
      have hcap := (hA.all L[k] (List.getElem_mem hlt)).2
      generalize L[k] = p at *
      have htk := take_any b (tag :: joined (L.take k)) p.x p.A p.c wr hHk (by rw [List.length_cons]; omega) hsrc hcap hTk hb1
      rw [List.cons_append, ← hjt] at htk
      have HTK := Lib.hid htk
      clear htk hjt hjl hsrc hAk hcell
      go_wp2_with fail
      refine HTK.out.mono ?_
      rintro e w4 ⟨rfl, hH4, g4⟩
      have hT4 := hTk.chg g4 (by simp; omega)
      have hR4 := hRk.chg g4 (by simp; omega)
      have g4' : Chg none w w4 := Chg.own (b := b) hgk g4 (by omega)
      clear HTK
      go_wp2_with fail
      go_roundw
      case rel => exact ⟨k + 1, by omega, by go_num, hH4, hR4, hT4, g4'⟩
      case measure => first | (simp [intOf]; done) | (simp [intOf]; omega)
    · have hkl : k = L.length := by omega
      have hnl : decide ((k : Int) < (L.length : Int)) = false := by simp; omega
      rw [hkl, List.take_length] at hHk
      clear hkl
      have HDG := Lib.hid (digest_any b _ wr hHk (by rw [List.length_cons]; omega) hTk hb1)
      clear hHk
      go_wp2_with fail
      refine HDG.out.mono ?_
      rintro e w4 ⟨rfl, g4⟩
      have hR4 := hRk.chg g4 (by simp; omega)
      have hcs : (byteVals (dig (tag :: joined L))).toArray.size = 32 := by rw [List.size_toArray, byteVals_len, dig_len]
      have hone : (byteVals (dig (tag :: joined L))).toArray.all (·.oneCell') = true := Array.all_eq_true_iff_forall_mem.2 (fun v hv => byteVals_one _ v (by simpa using hv))
      have hinf : (Tryd.prog.info? 30).map (·.size) = some (byteVals (dig (tag :: joined L))).toArray.size := by rw [hcs]; kernel_rfl
      have HI := Lib.hid hinf
      have HO := Lib.hid hone
      have HC := Lib.hid hcs
      have g5 : Chg none w w4 := Chg.own (b := b) hgk g4 (by omega)
      clear hinf hone hcs hRk hTk g4 HDG hgk
      go_wp2_with (refine wpList_store_row rfl 30 _ _ rfl w.heap.size (byteVals (dig (tag :: joined L))).toArray rfl rfl 30 _ hR4 HI.out (by rw [HC.out]; rfl) HO.out ?_)
      refine bodyPost_ret (results_cell_row (p := 4) (ty := 30) Tryd.results25 _ _ w.heap.size 30 (byteVals (dig (tag :: joined L))).toArray (0, 0) _ rfl (setRow_heap _ _ _ _ _ _ hR4) Tryd.underlying30 rfl HI.out) rfl ⟨rfl, ?_⟩
      exact Chg.own (b := w.heap.size) g5 (chg_setRow _ _ _) (Nat.le_refl _)
end

section
open Go.RowKit

def sameAt (a b : List UInt8) (i : Nat) : Bool := a.getD i 0 == b.getD i 0

theorem run_same_loop (f : Nat → Option Bool × Unit → Sem (ForInStep (Option Bool × Unit))) (P : Program) (w : World) (a b : List UInt8)
    (hf : ∀ i s, i < 32 → (f i s).run P w = .ok (if sameAt a b i then ForInStep.yield (none, ()) else ForInStep.done (some false, ())) w) :
    ∀ l : List Nat, (∀ i ∈ l, i < 32) → (forIn l (none, ()) f).run P w = .ok (if l.all (sameAt a b) then (none, ()) else (some false, ())) w
  | [], _ => by simp [List.forIn_nil, Sem.run_pure]
  | i :: l, h => by
    simp only [List.forIn_cons, Sem.run_bind, hf i (none, ()) (h i (by simp)), Result.andThen_ok]
    by_cases hs : sameAt a b i = true
    · simp only [hs, if_true, List.all_cons, Bool.true_and]
      exact run_same_loop f P w a b hf l (fun j hj => h j (by simp [hj]))
    · simp [hs, Sem.run_pure]

theorem all_same (a b : List UInt8) (ha : a.length = 32) (hb : b.length = 32) : (List.range' 0 32 1).all (sameAt a b) = (a == b) := by
  rw [Bool.eq_iff_iff, List.all_eq_true, beq_iff_eq]
  constructor
  · intro h
    apply List.ext_getElem (by omega)
    intro i h1 h2
    have := h i (by simp; omega)
    unfold sameAt at this
    rw [beq_iff_eq, List.getD_eq_getElem?_getD, List.getD_eq_getElem?_getD, List.getElem?_eq_getElem h1, List.getElem?_eq_getElem h2] at this
    simpa using this
  · rintro rfl i _
    simp [sameAt]

theorem part5 (a : List UInt8) (ha : a.length = 32) (i : Nat) (hi : i < 32) (w : World) : (part 5 (byteVals a).toArray (i * 1)).run Tryd.prog w = .ok (.int .u8 (a.getD i 0).toNat) w := by
  have hg : (byteVals a)[i]? = some (.int .u8 (a.getD i 0).toNat) := byteVals_get (by rw [List.getElem?_eq_getElem (by omega), List.getD_eq_getElem?_getD, List.getElem?_eq_getElem (by omega)]; rfl)
  have g5 := Tryd.isAgg5
  unfold part
  simp [Sem.run_bind, g5, hg, Sem.run_pure]

theorem equalIn30 (d : Nat) (a b : List UInt8) (ha : a.length = 32) (hb : b.length = 32) (w : World) :
    (Op.equalIn (d + 1 + 1) 30 (.agg (byteVals a).toArray) (.agg (byteVals b).toArray)).run Tryd.prog w = .ok (a == b) w := by
  have z5 := Tryd.sizeOf5
  have hin : ∀ x y : UInt8, (Op.equalIn (d + 1) 5 (.int .u8 x.toNat) (.int .u8 y.toNat)).run Tryd.prog w = .ok (x == y) w := fun x y => by
    rw [run_equalIn_int w d 5 .u8 .u8 _ _ Tryd.underlying5]
    congr 1
    rw [Bool.eq_iff_iff, beq_iff_eq, beq_iff_eq]
    constructor
    · intro h; exact UInt8.toNat_inj.1 (by omega)
    · rintro rfl; rfl
  generalize d + 1 = dd at *
  unfold Op.equalIn
  simp only [Sem.run_bind, run_underlying Tryd.underlying30, Result.andThen_ok, z5]
  rw [Std.Legacy.Range.forIn_eq_forIn_range', show List.range' [:32].start [:32].size [:32].step = List.range' 0 32 1 from rfl]
  rw [run_same_loop _ Tryd.prog w a b (fun i s hi => by
    simp only [Sem.run_bind, part5 a ha i hi, part5 b hb i hi, Result.andThen_ok, hin]
    unfold sameAt
    cases (a.getD i 0 == b.getD i 0) <;> rfl) _ (by intro i hi; simp at hi; omega)]
  rw [Result.andThen_ok, all_same a b ha hb]
  cases (a == b) <;> rfl

theorem eql30 (a b : List UInt8) (ha : a.length = 32) (hb : b.length = 32) (w : World) :
    (binOp .eql 30 (.agg (byteVals a).toArray) (.agg (byteVals b).toArray)).run Tryd.prog w = .ok (.bool (a == b)) w := by
  rw [run_eql_struct, show (10000 : Nat) = 9998 + 1 + 1 from rfl, equalIn30 9998 a b ha hb w]
  rfl
theorem neq30 (a b : List UInt8) (ha : a.length = 32) (hb : b.length = 32) (w : World) :
    (binOp .neq 30 (.agg (byteVals a).toArray) (.agg (byteVals b).toArray)).run Tryd.prog w = .ok (.bool (!(a == b))) w := by
  rw [run_neq_struct, show (10000 : Nat) = 9998 + 1 + 1 from rfl, equalIn30 9998 a b ha hb w]
  rfl
theorem guard30 : Tryd.prog.eqGuardType Tryd.prog.depth 30 = false := by kernel_rfl
end

end Go.Proofs.YtkcammaccgkflaaDoor
