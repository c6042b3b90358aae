/-
  Two who tell one another all that stands for them: plain facts.
-/
import Derived.Test.YtiehbbbncmdchaaJ
namespace Go.Proofs.Ytiehbbbncmdchaa

theorem hearAll_self : ∀ (L : List U) (m : M), (hearAll m L).self = m.self
  | [], _ => rfl
  | u :: L, m => by show (hearAll (heard m u) L).self = _; rw [hearAll_self L, heard_self]

theorem hearAll_count : ∀ (L : List U) (m : M), (hearAll m L).count = m.count
  | [], _ => rfl
  | u :: L, m => by show (hearAll (heard m u) L).count = _; rw [hearAll_count L, heard_count]

theorem hearAll_alive : ∀ (L : List U) (m : M), m.alive → (hearAll m L).alive
  | [], _, h => h
  | u :: L, m, h => hearAll_alive L (heard m u) (hear_alive m u h)

def atAll (s c i : Nat) (L : List U) (x : U) : U := L.foldl (fun x u => at_ s c i u x) x

theorem hearAll_get : ∀ (L : List U) (m : M) (i : Nat), (hearAll m L).stand[i]? = (m.stand[i]?).map (atAll m.self m.count i L)
  | [], m, i => by
    show m.stand[i]? = _
    cases m.stand[i]? <;> rfl
  | u :: L, m, i => by
    show (hearAll (heard m u) L).stand[i]? = _
    rw [hearAll_get L, heard_get, heard_self, heard_count, Option.map_map]
    rfl

theorem at_other (s c i : Nat) (u x : U) (h : u.node ≠ (i : Int)) : at_ s c i u x = x := by
  unfold at_
  rw [if_neg (fun k => h k.2.2.2)]

theorem atAll_other (s c i : Nat) : ∀ (L : List U) (x : U), (∀ u ∈ L, u.node ≠ (i : Int)) → atAll s c i L x = x
  | [], _, _ => rfl
  | u :: L, x, h => by
    show atAll s c i L (at_ s c i u x) = x
    rw [at_other s c i u x (h u (by simp))]
    exact atAll_other s c i L x fun v hv => h v (by simp [hv])

theorem atAll_one (s c i : Nat) (y : U) : ∀ (L : List U) (k j : Nat) (x : U), (∀ (j : Nat) u, L[j]? = some u → u.node = ((k + j : Nat) : Int)) → k + j = i → L[j]? = some y → atAll s c i L x = at_ s c i y x
  | [], _, _, _, _, _, h => by simp at h
  | u :: L, k, 0, x, hn, hk, h => by
    obtain rfl : u = y := by simpa using h
    show atAll s c i L (at_ s c i u x) = _
    refine atAll_other s c i L _ fun v hv => ?_
    obtain ⟨t, ht⟩ := List.mem_iff_getElem?.1 hv
    have := hn (t + 1) v (by simpa using ht)
    omega
  | u :: L, k, j + 1, x, hn, hk, h => by
    have h0 := hn 0 u rfl
    show atAll s c i L (at_ s c i u x) = _
    rw [at_other s c i u x (by omega)]
    refine atAll_one s c i y L (k + 1) j x (fun t v ht => ?_) (by omega) (by simpa using h)
    have := hn (t + 1) v (by simpa using ht)
    omega

def M.row (m : M) : List U := m.stand.take m.count

theorem M.row_get (m : M) (i : Nat) (hi : i < m.count) : m.row[i]? = m.stand[i]? := List.getElem?_take_of_lt hi

/-- One hears all that stands for another. -/
def told (a b : M) : M := hearAll b a.row

theorem M.row_node {m : M} (ho : m.ok) (j : Nat) (u : U) (h : m.row[j]? = some u) : j < m.count ∧ m.stand[j]? = some u ∧ u.node = (j : Int) := by
  unfold M.row at h
  rw [List.getElem?_take] at h
  split at h
  · rename_i hj
    exact ⟨hj, h, (ho.node j u h hj).1⟩
  · cases h

theorem told_get (a b : M) (ha : a.ok) (hc : a.count = b.count) (i : Nat) (hi : i < b.count) (x y : U) (hx : a.stand[i]? = some x) (hy : b.stand[i]? = some y) :
    (told a b).stand[i]? = some (at_ b.self b.count i x y) := by
  unfold told
  rw [hearAll_get, hy, Option.map_some]
  congr 1
  refine atAll_one _ _ _ _ _ 0 i _ (fun j u h => ?_) (by omega) ?_
  · rw [(a.row_node ha j u h).2.2]; simp
  · rw [M.row_get a i (by omega), hx]

theorem told_ok (a b : M) (ha : a.ok) (hb : b.ok) : (told a b).ok := by
  refine hearAll_ok _ _ hb fun u hu => ?_
  obtain ⟨j, hj⟩ := List.mem_iff_getElem?.1 hu
  obtain ⟨h1, h2, _⟩ := M.row_node ha j u hj
  exact (ha.node j u h2 h1).2.2.1

theorem told_self (a b : M) : (told a b).self = b.self := hearAll_self _ _
theorem told_count (a b : M) : (told a b).count = b.count := hearAll_count _ _
theorem told_alive (a b : M) (h : b.alive) : (told a b).alive := hearAll_alive _ _ h

def joinU (u x : U) : U := if greater u x then u else x

structure Fit (c i : Nat) (u : U) : Prop where
  node : u.node = (i : Int)
  st : 1 ≤ u.st ∧ u.st ≤ 3
  inc : 0 ≤ u.inc ∧ u.inc ≤ 1099511627776
  lt : i < c

theorem at_join {s c i : Nat} {u : U} (h : Fit c i u) (hs : i ≠ s) (x : U) : at_ s c i u x = joinU u x := by
  unfold at_ joinU
  have := h.node
  have := h.lt
  rw [if_pos ⟨by omega, h.st, h.inc.2, h.node⟩, if_neg (by omega)]

theorem at_ans {c i : Nat} {u : U} (h : Fit c i u) (x : U) : at_ i c i u x = { x with inc := answered x.inc u } := by
  unfold at_
  have := h.node
  have := h.lt
  rw [if_pos ⟨by omega, h.st, h.inc.2, h.node⟩, if_pos h.node]

theorem M.ok.fit {m : M} (h : m.ok) {i : Nat} {u : U} (hu : m.stand[i]? = some u) (hi : i < m.count) : Fit m.count i u :=
  ⟨(h.node i u hu hi).1, (h.node i u hu hi).2.1, (h.node i u hu hi).2.2, hi⟩

theorem greater_neither {c i : Nat} {u v : U} (hu : Fit c i u) (hv : Fit c i v) (h1 : greater u v = false) (h2 : greater v u = false) : u = v := by
  unfold greater at h1 h2
  rw [decide_eq_false_iff_not] at h1 h2
  exact U.ext_ (by rw [hu.node, hv.node]) (by omega) (by omega)

end Go.Proofs.Ytiehbbbncmdchaa
