/-
  Trees by what stands in them (plain): which files may be a tree, in whatever order they come.
-/
import Derived.Test.YtbadkkilblgpmaaDoorTH
import Derived.Test.YtbadkkilblgpmaaDoorTQ
namespace Go.Proofs.YtbadkkilblgpmaaDoor
open Go.RowKit

/-- Paths that rise. -/
def Up (K : List (List UInt8 × List UInt8)) : Prop := K.Pairwise fun a b => cmpB a.1 b.1 < 0
theorem up_unique {K K' : List (List UInt8 × List UInt8)} (h : Up K) (h' : Up K') (hp : K.Perm K') : K = K' :=
  List.Perm.eq_of_pairwise (fun _ _ _ _ h1 h2 => absurd h2 (cmp_asym _ _ h1)) h h' hp
def sumK (K : List (List UInt8 × List UInt8)) : Nat := (K.map fun f => f.2.length).sum
def okF (f : List UInt8 × List UInt8) : Bool := pathB f.1 && decide (f.2.length ≤ 2000)
/-- May these files be a tree, in some order? -/
def okK (K : List (List UInt8 × List UInt8)) : Prop := K.length ≤ 16 ∧ K.all okF = true ∧ (K.Pairwise fun a b => a.1 ≠ b.1) ∧ sumK K ≤ 4000
theorem okK_mp {K K' : List (List UInt8 × List UInt8)} (h : K.Perm K') (hk : okK K) : okK K' := by
  obtain ⟨h1, h2, h3, h4⟩ := hk
  refine ⟨by rw [← h.length_eq]; exact h1, by rw [← h.all_eq]; exact h2, (h.pairwise_iff (fun h => Ne.symm h)).1 h3, ?_⟩
  unfold sumK
  rw [← (h.map _).sum_nat]
  exact h4
theorem okK_perm {K K' : List (List UInt8 × List UInt8)} (h : K.Perm K') : okK K ↔ okK K' := ⟨okK_mp h, okK_mp h.symm⟩
theorem le_false {a b : List UInt8} : leB b a = false ↔ cmpB a b < 0 := by
  rw [leB_cmp, decide_eq_false_iff_not]
  constructor
  · intro h
    rcases cmp_tot a b with h1 | h1 | h1
    · exact h1
    · subst h1; rw [cmp_self] at h; exact absurd (by decide) h
    · exact absurd (by omega) h
  · intro h h2
    have h3 := cmp_asym _ _ h
    have h4 : cmpB b a = 0 := by omega
    rw [cmp_zero _ _ h4, cmp_self] at h
    exact absurd h (by decide)
theorem rise_up : ∀ L : List Fil, riseT L = true ↔ Up (keys L)
  | [] => by simp [riseT, Up, keys]
  | [f] => by simp [riseT, Up, keys]
  | f :: g :: L => by
    have ih := rise_up (g :: L)
    unfold riseT
    rw [Bool.and_eq_true, ih]
    show ((!leB g.p f.p) = true ∧ List.Pairwise _ ((g :: L).map keyF)) ↔ List.Pairwise (fun a b => cmpB a.1 b.1 < 0) (keyF f :: (g :: L).map keyF)
    rw [List.pairwise_cons]
    constructor
    · rintro ⟨h1, h2⟩
      have h3 : cmpB f.p g.p < 0 := le_false.1 (by simpa using h1)
      refine ⟨fun b hb => ?_, h2⟩
      rw [List.map_cons] at hb h2
      rcases List.mem_cons.1 hb with rfl | hb
      · exact h3
      · exact cmp_trans _ _ _ h3 ((List.pairwise_cons.1 h2).1 b hb)
    · rintro ⟨h1, h2⟩
      refine ⟨?_, h2⟩
      have h3 : cmpB f.p g.p < 0 := h1 (keyF g) (by simp)
      rw [le_false.2 h3]; rfl
theorem sum_acc : ∀ (L : List Fil) (n : Nat), L.foldl (fun n f => n + f.x.length) n = n + sumK (keys L)
  | [], n => by simp [sumK, keys]
  | f :: L, n => by
    rw [List.foldl_cons, sum_acc L]
    simp [sumK, keys, keyF]; omega
theorem sumT_sumK (L : List Fil) : sumT L = sumK (keys L) := by
  unfold sumT; rw [sum_acc]; omega
theorem all_keys (L : List Fil) : L.all fileT = (keys L).all okF := by
  unfold keys; rw [List.all_map]; rfl
theorem up_ne {K : List (List UInt8 × List UInt8)} (h : Up K) : K.Pairwise fun a b => a.1 ≠ b.1 :=
  List.Pairwise.imp (fun {a b} hab e => by rw [e, cmp_self] at hab; exact absurd hab (by decide)) h
theorem mayT_iff (L : List Fil) : mayT L = true ↔ okK (keys L) ∧ Up (keys L) := by
  unfold mayT okK
  simp only [Bool.and_eq_true, decide_eq_true_eq]
  rw [rise_up, all_keys, sumT_sumK]
  have hl : (keys L).length = L.length := by unfold keys; simp
  rw [hl]
  constructor
  · rintro ⟨h1, h2, h3, h4⟩
    exact ⟨⟨h1, h2, up_ne h3, h4⟩, h3⟩
  · rintro ⟨⟨h1, h2, -, h4⟩, h3⟩
    exact ⟨h1, h2, h3, h4⟩
theorem sort_up {M : List Fil} (hs : sortT M) (hn : (keys M).Pairwise fun a b => a.1 ≠ b.1) : Up (keys M) := by
  unfold Up keys
  unfold keys at hn
  rw [List.pairwise_map] at hn ⊢
  rw [List.pairwise_iff_getElem] at hn ⊢
  intro i j hi hj hij
  have h1 := hs i j M[i] M[j] hij (List.getElem?_eq_getElem hi) (List.getElem?_eq_getElem hj)
  have h2 := hn i j hi hj hij
  rcases cmp_tot (keyF M[i]).1 (keyF M[j]).1 with h | h | h
  · exact h
  · exact absurd h h2
  · exact absurd h h1
theorem may_sorted {M : List Fil} (hs : sortT M) : mayT M = true ↔ okK (keys M) := by
  rw [mayT_iff]
  exact ⟨fun h => h.1, fun h => ⟨h, sort_up hs h.2.2.1⟩⟩
theorem keys_perm {M M' : List Fil} (h : M.Perm M') : (keys M).Perm (keys M') := h.map _

/-- What is told of a tree that was put together: its files are K's, if they may be a tree. -/
def ToldK (w0 : World) (K : List (List UInt8 × List UInt8)) (e : Ending) (w' : World) : Prop :=
  Chg none w0 w' ∧ ((¬ okK K ∧ e = .returned (.tuple #[.slice none 0 0, .int .i64 8])) ∨
    (okK K ∧ ∃ (g cap : Nat) (M : List Fil), e = .returned (.tuple #[.slice (some ⟨g, 0, none⟩) M.length cap, .int .i64 0]) ∧ TreeAt w' (some ⟨g, 0, none⟩) M ∧
      (∀ m ∈ M, w'.ownsRow w0.heap.size 5 1 (.slice m.A m.x.length m.c) m.x.length (byteVals m.x)) ∧ (keys M).Perm K ∧ mayT M = true))
theorem ToldH.toldK {w0 w' : World} {g cap : Nat} {M : List Fil} {K : List (List UInt8 × List UInt8)} {e : Ending} (h : ToldH w0 g cap M e w') (hk : (keys M).Perm K) : ToldK w0 K e w' := by
  obtain ⟨M', hpm, hst, htr, hown, hch, hend⟩ := h
  have hp : (keys M').Perm K := (keys_perm hpm).trans hk
  refine ⟨hch, ?_⟩
  rcases hend with ⟨hm, he⟩ | ⟨hm, he⟩
  · exact .inr ⟨(okK_perm hp).1 ((may_sorted hst).1 hm), g, cap, M', he, htr, hown, hp, hm⟩
  · exact .inl ⟨(fun h => by rw [(may_sorted hst).2 ((okK_perm hp).2 h)] at hm; cases hm), he⟩
/-- The files under a directory. -/
def underK (dir : List UInt8) (K : List (List UInt8 × List UInt8)) : List (List UInt8 × List UInt8) := K.map fun f => (dir ++ ([47] ++ f.1), f.2)
theorem keys_put (dir : List UInt8) (M : List Fil) : keys (M.map (fun m => ({ m with p := dir ++ ([47] ++ m.p) } : Fil))) = underK dir (keys M) := by
  unfold keys underK; rw [List.map_map, List.map_map]; rfl
theorem keys_same {L M : List Fil} (hl : M.length = L.length) (h : ∀ (i : Nat) (m f : Fil), M[i]? = some m → L[i]? = some f → m.p = f.p ∧ m.x = f.x) : keys M = keys L := by
  unfold keys
  refine List.ext_getElem (by simpa using hl) fun i h1 h2 => ?_
  rw [List.getElem_map, List.getElem_map]
  have h3 : i < M.length := by simpa using h1
  have h4 : i < L.length := by simpa using h2
  obtain ⟨e1, e2⟩ := h i M[i] L[i] (List.getElem?_eq_getElem h3) (List.getElem?_eq_getElem h4)
  unfold keyF; rw [e1, e2]
/-- What stands at a path. -/
def getK (path : List UInt8) (K : List (List UInt8 × List UInt8)) : Option (List UInt8) := (K.find? fun f => f.1 == path).map (·.2)
theorem getK_none {path : List UInt8} {K : List (List UInt8 × List UInt8)} : getK path K = none ↔ ∀ f ∈ K, f.1 ≠ path := by
  unfold getK; rw [Option.map_eq_none_iff, List.find?_eq_none]; simp
theorem getK_mem {path x : List UInt8} : ∀ {K : List (List UInt8 × List UInt8)}, (K.Pairwise fun a b => a.1 ≠ b.1) → (path, x) ∈ K → getK path K = some x
  | [], _, h => by cases h
  | f :: K, hn, h => by
    rw [List.pairwise_cons] at hn
    unfold getK
    rw [List.find?_cons]
    rcases List.mem_cons.1 h with rfl | h
    · simp
    · have h1 : (f.1 == path) = false := by rw [beq_eq_false_iff_ne]; exact hn.1 _ h
      rw [h1]
      exact getK_mem hn.2 h

end Go.Proofs.YtbadkkilblgpmaaDoor
