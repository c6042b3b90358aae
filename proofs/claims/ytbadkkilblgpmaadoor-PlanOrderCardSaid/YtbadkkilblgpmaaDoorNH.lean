/-
  What is below in/dep and below src, of what a target is run on.
-/
import Derived.Test.YtbadkkilblgpmaaDoorNG
import Derived.Test.YtbadkkilblgpmaaDoorUD
import Derived.Test.YtbadkkilblgpmaaDoorUE
import Derived.Test.YtbadkkilblgpmaaDoorTCP
namespace Go.Proofs.YtbadkkilblgpmaaDoor
open Go.RowKit

theorem prefB_iff {s p : List UInt8} : prefB s p = true ↔ ∃ t, s = p ++ t := by
  unfold prefB
  rw [Bool.and_eq_true, decide_eq_true_eq, beq_iff_eq]
  constructor
  · rintro ⟨-, h⟩
    refine ⟨s.drop p.length, ?_⟩
    have h2 := (List.take_append_drop p.length s).symm
    rwa [h] at h2
  · rintro ⟨t, rfl⟩
    simp
theorem below_under (dir : List UInt8) : ∀ K, belowK dir (underK dir K) = K
  | [] => rfl
  | f :: K => by
    have ih := below_under dir K
    unfold belowK underK at ih ⊢
    have hp : prefB (dir ++ ([47] ++ f.1)) (dir ++ [47]) = true := prefB_iff.2 ⟨f.1, by simp⟩
    rw [List.map_cons, List.filter_cons_of_pos (by exact hp), List.map_cons, ih]
    congr 1
    have : (dir ++ ([47] ++ f.1)).drop (dir.length + 1) = f.1 := by
      rw [← List.append_assoc]
      exact List.drop_left' (by simp)
    show ((dir ++ ([47] ++ f.1)).drop (dir.length + 1), f.2) = f
    rw [this]
theorem below_append (dir : List UInt8) (K K' : List (List UInt8 × List UInt8)) : belowK dir (K ++ K') = belowK dir K ++ belowK dir K' := by
  unfold belowK; rw [List.filter_append, List.map_append]
theorem below_perm (dir : List UInt8) {K K' : List (List UInt8 × List UInt8)} (h : K.Perm K') : (belowK dir K).Perm (belowK dir K') := by
  unfold belowK; exact (h.filter _).map _
theorem below_up (dir : List UInt8) {K : List (List UInt8 × List UInt8)} (h : Up K) : Up (belowK dir K) := by
  unfold Up belowK at *
  rw [List.pairwise_map]
  refine (List.Pairwise.filter _ h).imp_of_mem ?_
  intro a b ha hb hab
  obtain ⟨s, hs⟩ := prefB_iff.1 (List.mem_filter.1 ha).2
  obtain ⟨t, ht⟩ := prefB_iff.1 (List.mem_filter.1 hb).2
  rw [hs, ht] at hab ⊢
  rw [cmp_pre] at hab
  show cmpB ((dir ++ [47] ++ s).drop (dir.length + 1)) ((dir ++ [47] ++ t).drop (dir.length + 1)) < 0
  rw [List.drop_left' (by simp), List.drop_left' (by simp)]
  exact hab
theorem below_other {dir dir' : List UInt8} (h : ∀ p, prefB (dir' ++ ([47] ++ p)) (dir ++ [47]) = false) : ∀ K, belowK dir (underK dir' K) = []
  | [] => rfl
  | f :: K => by
    have ih := below_other h K
    unfold belowK underK at ih ⊢
    rw [List.map_cons, List.filter_cons_of_neg (by rw [h f.1]; decide)]
    exact ih
theorem no_slash : ∀ {s s' p q : List UInt8}, (47 : UInt8) ∉ s → (47 : UInt8) ∉ s' → s ++ ([47] ++ p) = s' ++ ([47] ++ q) → s = s'
  | [], [], _, _, _, _, _ => rfl
  | [], y :: s', _, _, _, h', h => by
    have := (List.cons.inj h).1
    exact absurd (this ▸ List.mem_cons_self) h'
  | x :: s, [], _, _, h', _, h => by
    have := (List.cons.inj h).1
    exact absurd (this ▸ List.mem_cons_self) h'
  | x :: s, y :: s', p, q, h1, h2, h => by
    obtain ⟨rfl, ht⟩ := List.cons.inj h
    rw [no_slash (fun hm => h1 (List.mem_cons_of_mem _ hm)) (fun hm => h2 (List.mem_cons_of_mem _ hm)) ht]
theorem name_slash {s : List UInt8} (h : nameB s = true) : (47 : UInt8) ∉ s := by
  unfold nameB at h
  rw [Bool.and_eq_true, Bool.and_eq_true, List.all_eq_true] at h
  intro hm
  have := h.2.2 _ hm
  revert this
  decide
theorem other_in {s s' : List UInt8} (h : nameB s = true) (h' : nameB s' = true) (hne : s ≠ s') (p : List UInt8) : prefB (inD s' ++ ([47] ++ p)) (inD s ++ [47]) = false := by
  rw [Bool.eq_false_iff]
  intro hp
  obtain ⟨t, ht⟩ := prefB_iff.1 hp
  unfold inD at ht
  rw [List.append_assoc, List.append_assoc, List.append_assoc] at ht
  exact hne (no_slash (name_slash h) (name_slash h') (List.append_cancel_left ht).symm)
theorem other_src (s p : List UInt8) : prefB (inD s ++ ([47] ++ p)) (srcB ++ [47]) = false := by
  rw [Bool.eq_false_iff]
  intro hp
  obtain ⟨t, ht⟩ := prefB_iff.1 hp
  have := (List.cons.inj ht).1
  revert this
  decide
theorem src_other (s p : List UInt8) : prefB (srcB ++ ([47] ++ p)) (inD s ++ [47]) = false := by
  rw [Bool.eq_false_iff]
  intro hp
  obtain ⟨t, ht⟩ := prefB_iff.1 hp
  have := (List.cons.inj ht).1
  revert this
  decide
theorem inZ_cons (z : List UInt8 × Tr) (Z : List (List UInt8 × Tr)) : inZ (z :: Z) = underK (inD z.1) (keys z.2.L) ++ inZ Z := by unfold inZ; rw [List.flatMap_cons]
theorem below_src_inZ : ∀ Z, belowK srcB (inZ Z) = []
  | [] => rfl
  | z :: Z => by rw [inZ_cons, below_append, below_other (other_src z.1), below_src_inZ Z]; rfl
theorem below_src (L : List Fil) (Z : List (List UInt8 × Tr)) : belowK srcB (inK L Z) = keys L := by
  unfold inK
  rw [below_append, below_under, below_src_inZ, List.append_nil]
theorem below_in_none {s : List UInt8} (h : nameB s = true) : ∀ {Z : List (List UInt8 × Tr)}, (∀ z ∈ Z, nameB z.1 = true ∧ s ≠ z.1) → belowK (inD s) (inZ Z) = []
  | [], _ => rfl
  | z :: Z, hz => by
    have h0 := hz z (List.mem_cons_self)
    rw [inZ_cons, below_append, below_other (other_in h h0.1 h0.2), below_in_none h (fun y hy => hz y (List.mem_cons_of_mem _ hy))]
    rfl
theorem below_inZ : ∀ {Z : List (List UInt8 × Tr)} {s : List UInt8} {o : Tr}, (Z.Pairwise fun a b => a.1 ≠ b.1) → (∀ z ∈ Z, nameB z.1 = true) → (s, o) ∈ Z → belowK (inD s) (inZ Z) = keys o.L
  | [], _, _, _, _, h => by cases h
  | z :: Z, s, o, hp, hn, h => by
    rw [List.pairwise_cons] at hp
    rw [inZ_cons, below_append]
    rcases List.mem_cons.1 h with h | h
    · subst h
      rw [below_under, below_in_none (hn _ (List.mem_cons_self)) (fun y hy => ⟨hn y (List.mem_cons_of_mem _ hy), hp.1 y hy⟩), List.append_nil]
    · have hs : nameB s = true := hn (s, o) (List.mem_cons_of_mem _ h)
      rw [below_other (other_in hs (hn z (List.mem_cons_self)) (fun e => hp.1 _ h e.symm)), below_inZ hp.2 (fun y hy => hn y (List.mem_cons_of_mem _ hy)) h, List.nil_append]
theorem below_in {L : List Fil} {Z : List (List UInt8 × Tr)} {s : List UInt8} {o : Tr} (hp : Z.Pairwise fun a b => a.1 ≠ b.1) (hn : ∀ z ∈ Z, nameB z.1 = true) (h : (s, o) ∈ Z) : belowK (inD s) (inK L Z) = keys o.L := by
  unfold inK
  rw [below_append, below_other (src_other s), below_inZ hp hn h, List.nil_append]
/-! Lengths. -/
def lenO (O : List Tr) : Nat := (O.map fun o => o.L.length).sum
theorem lenO_step {O : List Tr} {k : Nat} {o : Tr} (h : O[k]? = some o) : lenO (O.take (k + 1)) = lenO (O.take k) + o.L.length := by
  unfold lenO
  rw [List.take_add_one, h]
  simp
theorem lenO_le (O : List Tr) (k : Nat) : lenO (O.take k) ≤ lenO O := by
  have h := List.take_append_drop k O
  have : lenO O = lenO (O.take k) + lenO (O.drop k) := by
    conv => lhs; rw [← h]
    unfold lenO; rw [List.map_append, List.sum_append]
  omega
theorem keys_length (L : List Fil) : (keys L).length = L.length := by unfold keys; simp
theorem inZ_length : ∀ {D : List (List UInt8)} {O : List Tr}, O.length = D.length → (inZ (D.zip O)).length = lenO O
  | [], [], _ => rfl
  | [], _ :: _, h => by simp at h
  | _ :: _, [], h => by simp at h
  | d :: D, o :: O, h => by
    rw [List.zip_cons_cons, inZ_cons, List.length_append, inZ_length (by simpa using h)]
    unfold lenO underK
    simp [keys_length]
theorem inK_length (L : List Fil) {D : List (List UInt8)} {O : List Tr} (h : O.length = D.length) : (inK L (D.zip O)).length = L.length + lenO O := by
  unfold inK
  rw [List.length_append, inZ_length h]
  unfold underK
  simp [keys_length]
theorem deps_apart {D : List (List UInt8)} (h : depsB D = true) : D.Pairwise fun a b => a ≠ b := by
  unfold depsB at h
  rw [Bool.and_eq_true, decide_eq_true_eq, List.all_eq_true] at h
  rw [List.pairwise_iff_getElem]
  intro i j hi hj hij e
  have h1 := h.2 j (by simpa using hj)
  unfold depOk at h1
  rw [Bool.and_eq_true, List.getD_eq_getElem?_getD, List.getElem?_eq_getElem hj, Bool.not_eq_true'] at h1
  have h2 := h1.2
  unfold hasS at h2
  rw [List.any_eq_false] at h2
  refine h2 D[i] ?_ ?_
  · rw [List.mem_take_iff_getElem]
    exact ⟨i, by omega, rfl⟩
  · rw [Option.getD_some, beq_iff_eq, e]
theorem zip_apart {D : List (List UInt8)} {O : List Tr} (h : depsB D = true) (hl : O.length = D.length) : (D.zip O).Pairwise fun a b => a.1 ≠ b.1 := by
  have h1 := deps_apart h
  have h2 : (D.zip O).map Prod.fst = D := List.map_fst_zip (by omega)
  rw [← h2, List.pairwise_map] at h1
  exact h1
theorem zip_names {D : List (List UInt8)} {O : List Tr} (h : depsB D = true) : ∀ z ∈ D.zip O, nameB z.1 = true := by
  rintro ⟨s, o⟩ hz
  exact (dep_name h).2 s (List.of_mem_zip hz).1
theorem zip_mem {D : List (List UInt8)} {O : List Tr} {k : Nat} {s : List UInt8} {o : Tr} (h1 : D[k]? = some s) (h2 : O[k]? = some o) : (s, o) ∈ D.zip O := by
  refine List.mem_of_getElem? (i := k) ?_
  rw [List.getElem?_zip_eq_some]
  exact ⟨h1, h2⟩

end Go.Proofs.YtbadkkilblgpmaaDoor
