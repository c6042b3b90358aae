/-
  Package adverts, the document's Add: what it has made between two rounds.
-/
import Derived.Test.YtkcammaccgkflaaDoorSQ
namespace Go.Proofs.YtkcammaccgkflaaDoor
open Go.RowKit

/-- What is made of the first k, where the place is p. -/
def outK (L : List Att) (a : Att) (p k : Nat) : List Att := if p < k then L.take p ++ a :: (L.drop p).take (k - p) else L.take k
theorem ref_less {L : List Att} {a x : Att} {k : Nat} (ok : OkA L) (ha : Big a.n) (hx : L[k]? = some x) (hne : x ≠ a) : lessB a x = decide (posA L a ≤ k) := by
  have h := sort_at ok.sort a
  rcases Nat.lt_or_ge k (posA L a) with hk | hk
  · rw [decide_eq_false (by omega)]
    exact lessB_asym _ _ (h.2.1 k x hk hx)
  · rw [decide_eq_true hk]
    have h1 := h.2.2 k x hk hx
    cases hq : lessB a x with
    | true => rfl
    | false => exact absurd (lessB_none _ _ (may_big (ok.may x (List.mem_of_getElem? hx))) ha h1 hq) hne
theorem outK_zero (L : List Att) (a : Att) (p : Nat) : outK L a p 0 = [] := by unfold outK; rw [if_neg (Nat.not_lt_zero _)]; rfl
theorem outK_before {L : List Att} {a x : Att} {p k : Nat} (hk : k < p) (hx : L[k]? = some x) : outK L a p (k + 1) = outK L a p k ++ [x] := by
  unfold outK
  rw [if_neg (by omega), if_neg (by omega), List.take_add_one, hx]; rfl
theorem outK_at {L : List Att} {a x : Att} {k : Nat} (hx : L[k]? = some x) : outK L a k (k + 1) = (outK L a k k ++ [a]) ++ [x] := by
  unfold outK
  rw [if_pos (Nat.lt_succ_self k), if_neg (Nat.lt_irrefl k), show k + 1 - k = 0 + 1 by omega, List.take_add_one, List.getElem?_drop, Nat.add_zero, hx]
  simp
theorem outK_behind {L : List Att} {a x : Att} {p k : Nat} (hk : p < k) (hx : L[k]? = some x) : outK L a p (k + 1) = outK L a p k ++ [x] := by
  unfold outK
  rw [if_pos (by omega), if_pos hk, show k + 1 - p = (k - p) + 1 by omega, List.take_add_one, List.getElem?_drop, show p + (k - p) = k by omega, hx]
  simp
/-- All rounds done: the whole set with the result in it, be it in its place already or laid behind. -/
theorem outK_end {L : List Att} {a : Att} (hs : SortA L) : (if posA L a < L.length then outK L a (posA L a) L.length else outK L a (posA L a) L.length ++ [a]) = L.take (posA L a) ++ a :: L.drop (posA L a) := by
  have h := (sort_at hs a).1
  unfold outK
  by_cases hp : posA L a < L.length
  · rw [if_pos hp, if_pos hp]
    have e : (L.drop (posA L a)).take (L.length - posA L a) = L.drop (posA L a) := List.take_of_length_le (by rw [List.length_drop]; exact Nat.le_refl _)
    rw [e]
  · rw [if_neg hp, if_neg hp, show posA L a = L.length by omega, List.drop_length, List.take_length]
/-- Full: the last one is the new one just if its place is behind two hundred. -/
theorem put_full {L : List Att} {a : Att} (hl : L.length = 200) (hn : a ∉ L) (hp : posA L a ≤ L.length) : (L.take (posA L a) ++ a :: L.drop (posA L a))[200]? = some a ↔ 200 ≤ posA L a := by
  generalize posA L a = p at *
  have htl : (L.take p).length = p := by rw [List.length_take]; omega
  constructor
  · intro h
    rcases Nat.lt_or_ge p 200 with hlt | hge
    · rw [List.getElem?_append_right (by omega), htl, show 200 - p = (200 - p - 1) + 1 by omega, List.getElem?_cons_succ] at h
      exact absurd (List.mem_of_mem_drop (List.mem_of_getElem? h)) hn
    · exact hge
  · intro h
    rw [List.getElem?_append_right (by omega), htl, show 200 - p = 0 by omega]; rfl

end Go.Proofs.YtkcammaccgkflaaDoor
