/-
  What both tell of trees, held against one another.
-/
import Derived.Test.YtglfakglcoffkaaUH
import Derived.Test.YtglfakglcoffkaaTR
import Derived.Test.YtglfakglcoffkaaTSM
namespace Go.Proofs.Ytglfakglcoffkaa
open Go.RowKit

/-- A tree that was told with a number. -/
structure TV (w : World) (n : Int) (K : List (List UInt8 × List UInt8)) (A : Option Addr) (M : List Fil) : Prop where
  tree : TreeAt w A M
  len : M.length ≤ 16
  byt : ∀ m ∈ M, m.x.length ≤ 2000
  no : n ≠ 0 → keys M = []
  yes : n = 0 → Up (keys M) ∧ (keys M).Perm K
theorem TV.same {w w' : World} {n : Int} {K : List (List UInt8 × List UInt8)} {A A' : Option Addr} {M M' : List Fil} (h : TV w n K A M) (h' : TV w' n K A' M') : keys M = keys M' := by
  by_cases e : n = 0
  · exact up_unique (h.yes e).1 (h'.yes e).1 ((h.yes e).2.trans (h'.yes e).2.symm)
  · rw [h.no e, h'.no e]
def OwnB (w0 w : World) (M : List Fil) : Prop := ∀ m ∈ M, w.ownsRow w0.heap.size 5 1 (.slice m.A m.x.length m.c) m.x.length (byteVals m.x)
theorem OwnB.rows {w0 w : World} {M : List Fil} {b0 : Nat} (h : OwnB w0 w M) (hb : b0 ≤ w0.heap.size) : ∀ m ∈ M, RowC b0 w m.A m.x.length := fun m hm => RowC.of_own (h m hm) hb
theorem OwnB.chg {w0 w w' : World} {M : List Fil} (h : OwnB w0 w M) (g : Chg none w w') : OwnB w0 w' M := fun m hm => own_chgW (h m hm) g
theorem PTold.val {w w' : World} {n : Int} {K : List (List UInt8 × List UInt8)} {e : Ending} (h : PTold w n K e w') : ∃ (A : Option Addr) (c : Nat) (M : List Fil), e = .returned (.tuple #[.slice A M.length c, .int .i64 n]) ∧ Chg none w w' ∧ TV w' n K A M ∧ OwnB w w' M := by
  obtain ⟨g, h⟩ := h
  rcases h with ⟨h1, he⟩ | ⟨rfl, A, c, M, he, ht, ho, hk, hm⟩
  · exact ⟨none, 0, [], he, g, ⟨tree_nil _, by simp, fun m h => (by cases h), fun _ => rfl, fun h => absurd h h1⟩, fun m h => by cases h⟩
  · exact ⟨A, c, M, he, g, ⟨ht, (mayT_parts hm).1, fun m h => ((mayT_parts hm).2.1 m h).2, fun h => absurd rfl h, fun _ => ⟨((mayT_iff M).1 hm).2, hk⟩⟩, ho⟩
theorem RTold.val {w w' : World} {n : Int} {K : List (List UInt8 × List UInt8)} {e : Ending} (h : RTold w n K e w') : ∃ (A : Option Addr) (c : Nat) (M : List Fil), e = .returned (.tuple #[.slice A M.length c, .int .i64 n]) ∧ Chg none w w' ∧ TV w' n K A M := by
  obtain ⟨g, h⟩ := h
  rcases h with ⟨h1, he⟩ | ⟨rfl, A, c, M, he, ht, hk, hm⟩
  · exact ⟨none, 0, [], he, g, ⟨tree_nil _, by simp, fun m h => (by cases h), fun _ => rfl, fun h => absurd h h1⟩⟩
  · exact ⟨A, c, M, he, g, ⟨ht, (mayT_parts hm).1, fun m h => ((mayT_parts hm).2.1 m h).2, fun h => absurd rfl h, fun _ => ⟨((mayT_iff M).1 hm).2, hk⟩⟩⟩
/-- What the program's call tells, by its number. -/
def PVal (c2 c7 ok : Prop) (K : List (List UInt8 × List UInt8)) (w : World) (e : Ending) (w' : World) : Prop :=
  ∃ (n : Int) (A : Option Addr) (c : Nat) (M : List Fil), e = .returned (.tuple #[.slice A M.length c, .int .i64 n]) ∧ Chg none w w' ∧ CodeN c2 c7 ok n ∧ TV w' n K A M ∧ OwnB w w' M
def RVal (c2 c7 ok : Prop) (K : List (List UInt8 × List UInt8)) (w : World) (e : Ending) (w' : World) : Prop :=
  ∃ (n : Int) (A : Option Addr) (c : Nat) (M : List Fil), e = .returned (.tuple #[.slice A M.length c, .int .i64 n]) ∧ Chg none w w' ∧ CodeN c2 c7 ok n ∧ TV w' n K A M
theorem pval_of {c2 c7 ok : Prop} {K : List (List UInt8 × List UInt8)} {w w' : World} {e : Ending} (h : ∃ n, CodeN c2 c7 ok n ∧ PTold w n K e w') : PVal c2 c7 ok K w e w' := by
  obtain ⟨n, hc, h⟩ := h
  obtain ⟨A, c, M, he, g, ht, ho⟩ := h.val
  exact ⟨n, A, c, M, he, g, hc, ht, ho⟩
theorem rval_of {c2 c7 : Prop} {K : List (List UInt8 × List UInt8)} {w w' : World} {e : Ending} (h : RToldX w c2 c7 K e w') : RVal c2 c7 (okK K) K w e w' := by
  obtain ⟨n, hc, h⟩ := h
  obtain ⟨A, c, M, he, g, ht⟩ := h.val
  exact ⟨n, A, c, M, he, g, hc, ht⟩
theorem below_byt {L : List Fil} {dir : List UInt8} {M : List Fil} (h : keys M = belowA L dir) : ∀ m ∈ M, m.x.length ≤ 2000 := by
  intro m hm
  have h1 : keyF m ∈ belowA L dir := by rw [← h]; exact List.mem_map_of_mem hm
  unfold belowA at h1
  split at h1
  · rename_i hc
    rw [Bool.and_eq_true] at hc
    unfold belowK at h1
    obtain ⟨f, hf, e⟩ := List.mem_map.1 h1
    obtain ⟨m2, hm2, rfl⟩ := List.mem_map.1 (List.mem_filter.1 hf).1
    have h2 := ((mayT_parts hc.1).2.1 m2 hm2).2
    have h3 := congrArg Prod.snd e
    have h4 : m2.x = m.x := h3
    rw [← h4]; exact h2
  · cases h1

theorem meets_iff (L N : List Fil) : meetsT L N ↔ ∃ g ∈ keys N, ∃ k ∈ keys L, k.1 = g.1 := by
  unfold meetsT hasT
  constructor
  · rintro ⟨f, hf, h⟩
    obtain ⟨m, hm, e⟩ := List.any_eq_true.1 h
    rw [beq_iff_eq] at e
    exact ⟨keyF f, List.mem_map_of_mem hf, keyF m, List.mem_map_of_mem hm, e⟩
  · rintro ⟨g, hg, k, hk, e⟩
    obtain ⟨f, hf, rfl⟩ := List.mem_map.1 hg
    obtain ⟨m, hm, rfl⟩ := List.mem_map.1 hk
    exact ⟨f, hf, List.any_eq_true.2 ⟨m, hm, by rw [beq_iff_eq]; exact e⟩⟩
theorem meets_keys {L M N O : List Fil} (h : keys M = keys L) (k : keys O = keys N) : meetsT M O = meetsT L N := by
  rw [eq_iff_iff, meets_iff, meets_iff, h, k]

/-- What Get tells, in whatever case. -/
def PGet (w : World) (L : List Fil) (path : List UInt8) (e : Ending) (w' : World) : Prop :=
  Chg none w w' ∧ ((mayT L = false ∧ e = .returned (.tuple #[.slice none 0 0, .bool false])) ∨ (mayT L = true ∧ getK path (keys L) = none ∧ e = .returned (.tuple #[.slice none 0 0, .bool false])) ∨
    ∃ (x : List UInt8) (A : Option Addr) (c : Nat), mayT L = true ∧ getK path (keys L) = some x ∧ e = .returned (.tuple #[.slice A x.length c, .bool true]) ∧ w'.ownsRow w.heap.size 5 1 (.slice A x.length c) x.length (byteVals x))
theorem pget_any (L : List Fil) (A : Option Addr) (c : Nat) (path : List UInt8) (w : World) (hT : TreeAt w A L) (hl : L.length ≤ 9223372036854775807) :
    Calls Try.prog 18 #[.slice A L.length c, .string ⟨path.toArray⟩] w (PGet w L path) := by
  by_cases hm : mayT L = true
  · refine (get_yes L A c path w hT hm).mono fun e w' h => ?_
    obtain ⟨g, h⟩ := h
    rcases h with ⟨h1, h2⟩ | ⟨x, A', c', h1, h2, h3⟩
    · exact ⟨g, .inr (.inl ⟨hm, h1, h2⟩)⟩
    · exact ⟨g, .inr (.inr ⟨x, A', c', hm, h1, h2, h3⟩)⟩
  · have hm' : mayT L = false := by simpa using hm
    exact (get_no L A c path w hT hl hm').mono fun e w' h => ⟨h.2, .inl ⟨hm', h.1⟩⟩

end Go.Proofs.Ytglfakglcoffkaa
