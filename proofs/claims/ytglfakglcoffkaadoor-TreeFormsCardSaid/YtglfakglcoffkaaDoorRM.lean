/-
  The document's merkle (carried over).
-/
import Derived.Test.YtglfakglcoffkaaDoorMM
import Derived.Test.YtglfakglcoffkaaDoorRS
namespace Go.Proofs.YtglfakglcoffkaaDoor
open Go.RowKit

def pairDg (a b : Dg) : Dg := ⟨pairB a.1 b.1, dig_len _⟩
/-- Which of two digests comes first: by the place of the first one. -/
def orderedDg (i : Nat) (d p : Dg) : Dg := if i % 2 = 0 then pairDg d p else pairDg p d
theorem half_lt (n : Nat) (h : 1 < n) : (n + 1) / 2 < n := by omega
/-- From the digest d, the i-th of a row of n, up by the proof P: none where the proof has not the right length. -/
def climb (n i : Nat) (d : Dg) (P : List Dg) : Option Dg :=
  if _h : 1 < n then
    (if aloneB n i = true then climb ((n + 1) / 2) (i / 2) d P
     else match P with
      | [] => none
      | p :: P' => climb ((n + 1) / 2) (i / 2) (orderedDg i d p) P')
  else if P = [] then some d else none
termination_by n
decreasing_by all_goals exact half_lt n (by assumption)
theorem climb_end (n i : Nat) (d : Dg) (P : List Dg) (h : n ≤ 1) : climb n i d P = if P = [] then some d else none := by
  rw [climb.eq_def, dif_neg (by omega)]
theorem climb_alone (n i : Nat) (d : Dg) (P : List Dg) (h : 1 < n) (ha : aloneB n i = true) : climb n i d P = climb ((n + 1) / 2) (i / 2) d P := by
  conv => lhs; rw [climb.eq_def]
  rw [dif_pos h, if_pos ha]
theorem climb_nil (n i : Nat) (d : Dg) (h : 1 < n) (ha : aloneB n i = false) : climb n i d [] = none := by
  rw [climb.eq_def, dif_pos h, if_neg (by rw [ha]; decide)]
theorem climb_cons (n i : Nat) (d p : Dg) (P : List Dg) (h : 1 < n) (ha : aloneB n i = false) : climb n i d (p :: P) = climb ((n + 1) / 2) (i / 2) (orderedDg i d p) P := by
  conv => lhs; rw [climb.eq_def]
  rw [dif_pos h, if_neg (by rw [ha]; decide)]
/-- How long a proof has to be. -/
def needN (n i : Nat) : Nat :=
  if _h : 1 < n then (if aloneB n i = true then 0 else 1) + needN ((n + 1) / 2) (i / 2) else 0
termination_by n
decreasing_by exact half_lt n (by assumption)
theorem need_end (n i : Nat) (h : n ≤ 1) : needN n i = 0 := by rw [needN, dif_neg (by omega)]
theorem need_step (n i : Nat) (h : 1 < n) : needN n i = (if aloneB n i = true then 0 else 1) + needN ((n + 1) / 2) (i / 2) := by
  conv => lhs; rw [needN]
  rw [dif_pos h]
theorem proofB_need : ∀ (m : Nat) (L : List Dg) (i : Nat), L.length ≤ m → (proofB L i).length = needN L.length i := by
  intro m
  induction m with
  | zero => intro L i h; rw [proofB_end L i (by omega), need_end _ _ (by omega)]; rfl
  | succ m ih =>
    intro L i h
    by_cases h1 : 1 < L.length
    · rw [proofB_step L i h1, need_step _ _ h1, List.length_append, ih (nextB L) (i / 2) (by rw [nextB_len]; omega), nextB_len]
      by_cases ha : aloneB L.length i = true
      · rw [if_pos ha, if_pos ha]; rfl
      · rw [if_neg ha, if_neg ha]; rfl
    · rw [proofB_end L i (by omega), need_end _ _ (by omega)]; rfl
section
variable {P : Program} {md : Region.Mode} {ops : Array Oper} {Q : Exit → Act → World → Prop} {S : World → Prop}
/-- Where orders meet again: what is left is walked once, for whatever they have in common. -/
theorem wpAnyH_meet {fuel : Nat} {listed : Array Bool} {a : Act} {w : World} (F0 : Nat) (L0 : Array Bool) (A : Act → Act → World → Prop)
    (hrest : ∀ a' w', A a a' w' → wpAnyH P md ops Q S F0 L0 a' w') (hgo : Hid (∀ a' w', A a a' w' → wpAnyH P md ops Q S F0 L0 a' w') → wpAnyH P md ops Q S fuel listed a w) : wpAnyH P md ops Q S fuel listed a w := hgo (Lib.hid hrest)
theorem wpAnyH_listed {fuel : Nat} {listed : Array Bool} {a : Act} {w : World} (L0 : Array Bool) (h : listed = L0) (h2 : wpAnyH P md ops Q S fuel L0 a w) : wpAnyH P md ops Q S fuel listed a w := by rw [h]; exact h2
end
/-- Digests in memory, in some block below B. -/
def DgsAt (w : World) (B : Nat) (A : Option Addr) (L : List Dg) : Prop := 0 < L.length → ∃ b o, A = some ⟨b, o, none⟩ ∧ b < B ∧ w.rangeAt b o (flat L)
theorem dgs_of_own {w : World} {base n c : Nat} {A : Option Addr} {L : List Dg} (h : w.ownsRow base 30 32 (.slice A n c) n (flat L)) : DgsAt w w.heap.size A L ∧ n = L.length ∧ n ≤ c := by
  have hl := h.1
  rw [flat_length] at hl
  have hn : n = L.length := by omega
  rcases h.2 with ⟨h1, h2⟩ | ⟨g, cap, cur, h1, h2, h3, h4, h5, h6, h7⟩
  · exact ⟨fun h0 => by omega, hn, by omega⟩
  · injection h1 with e1 e2 e3
    refine ⟨fun _ => ⟨g, 0, e1, (Array.getElem?_eq_some_iff.1 h3).1, fun j v hv => ?_⟩, hn, by omega⟩
    have := h.cells (g := g) (by rw [e1]; rfl) j _ hv
    rwa [Go.WideShapes.add_plain] at this

/-- All rows of digests, from this one up. -/
def rowsB (L : List Dg) : List (List Dg) := if _h : 1 < L.length then L :: rowsB (nextB L) else [L]
termination_by L.length
decreasing_by exact next_shorter L (by assumption)
theorem rowsB_end (L : List Dg) (h : L.length ≤ 1) : rowsB L = [L] := by rw [rowsB, dif_neg (by omega)]
theorem rowsB_step (L : List Dg) (h : 1 < L.length) : rowsB L = L :: rowsB (nextB L) := by
  conv => lhs; rw [rowsB]
  rw [dif_pos h]
theorem rowsB_head (L : List Dg) : ∃ M, rowsB L = L :: M := by
  by_cases h : 1 < L.length
  · exact ⟨_, rowsB_step L h⟩
  · exact ⟨[], rowsB_end L (by omega)⟩
theorem rowsB_pos (L : List Dg) : 1 ≤ (rowsB L).length := by
  obtain ⟨M, h⟩ := rowsB_head L
  rw [h]; simp
theorem rowsB_last : ∀ (m : Nat) (L : List Dg), L.length ≤ m → 1 ≤ L.length → (rowsB L)[(rowsB L).length - 1]? = some [topB L] := by
  intro m
  induction m with
  | zero => intro L h1 h2; omega
  | succ m ih =>
    intro L h1 h2
    by_cases h : 1 < L.length
    · rw [rowsB_step L h, topB_step L h]
      have hp := rowsB_pos (nextB L)
      have := ih (nextB L) (by rw [nextB_len]; omega) (by rw [nextB_len]; omega)
      rw [← this, List.length_cons, Nat.add_sub_cancel]
      obtain ⟨q, hq⟩ : ∃ q, (rowsB (nextB L)).length = q + 1 := ⟨(rowsB (nextB L)).length - 1, by omega⟩
      rw [hq, List.getElem?_cons_succ, Nat.add_sub_cancel]
    · rw [rowsB_end L (by omega), topB_end L (by omega)]
      match L, h2, h with
      | [d], _, _ => rfl
      | _ :: _ :: _, _, h => exact absurd (by simp) h
theorem rowsB_len_le : ∀ (m : Nat) (L : List Dg), L.length ≤ m → (rowsB L).length ≤ m + 1 := by
  intro m
  induction m with
  | zero => intro L h; rw [rowsB_end L (by omega)]; simp
  | succ m ih =>
    intro L h
    by_cases h1 : 1 < L.length
    · rw [rowsB_step L h1, List.length_cons]
      have := ih (nextB L) (by rw [nextB_len]; omega)
      omega
    · rw [rowsB_end L (by omega)]; simp
/-- What is digested where two digests meet. -/
def nodeB (i : Nat) (d p : Dg) : List UInt8 := if i % 2 = 0 then 1 :: (d.1 ++ p.1) else 1 :: (p.1 ++ d.1)
def digDg (b : List UInt8) : Dg := ⟨dig b, dig_len _⟩
theorem ordered_node (i : Nat) (d p : Dg) : orderedDg i d p = digDg (nodeB i d p) := by
  unfold orderedDg nodeB digDg
  apply Subtype.ext
  by_cases h : i % 2 = 0
  · simp only [h, if_true]; rfl
  · simp only [h, if_false]; rfl
/-- The bytes that are digested on the way up, and the digest at its end. -/
def pathN (n i : Nat) (d : Dg) (P : List Dg) : Option (List (List UInt8) × Dg) :=
  if _h : 1 < n then
    (if aloneB n i = true then pathN ((n + 1) / 2) (i / 2) d P
     else match P with
      | [] => none
      | p :: P' => (pathN ((n + 1) / 2) (i / 2) (digDg (nodeB i d p)) P').map fun r => (nodeB i d p :: r.1, r.2))
  else some ([], d)
termination_by n
decreasing_by all_goals exact half_lt n (by assumption)
/-- How many digests of the proof are left behind the way up. -/
theorem pathN_end (n i : Nat) (d : Dg) (P : List Dg) (h : n ≤ 1) : pathN n i d P = some ([], d) := by
  rw [pathN.eq_def, dif_neg (by omega)]
theorem pathN_alone (n i : Nat) (d : Dg) (P : List Dg) (h : 1 < n) (ha : aloneB n i = true) : pathN n i d P = pathN ((n + 1) / 2) (i / 2) d P := by
  conv => lhs; rw [pathN.eq_def]
  rw [dif_pos h, if_pos ha]
theorem pathN_nil (n i : Nat) (d : Dg) (h : 1 < n) (ha : aloneB n i = false) : pathN n i d [] = none := by
  rw [pathN.eq_def, dif_pos h, if_neg (by rw [ha]; decide)]
theorem pathN_cons (n i : Nat) (d p : Dg) (P : List Dg) (h : 1 < n) (ha : aloneB n i = false) :
    pathN n i d (p :: P) = (pathN ((n + 1) / 2) (i / 2) (digDg (nodeB i d p)) P).map fun r => (nodeB i d p :: r.1, r.2) := by
  conv => lhs; rw [pathN.eq_def]
  rw [dif_pos h, if_neg (by rw [ha]; decide)]
/-- The way up is there just where the proof is long enough, and is the climb where it has just the right length. -/
theorem pathN_some : ∀ (m n i : Nat) (d : Dg) (P : List Dg), n ≤ m → needN n i ≤ P.length → ∃ l t, pathN n i d P = some (l, t) ∧ climb n i d (P.take (needN n i)) = some t := by
  intro m
  induction m with
  | zero =>
    intro n i d P hn _
    exact ⟨[], d, pathN_end n i d P (by omega), by rw [need_end n i (by omega), List.take_zero, climb_end n i d _ (by omega), if_pos rfl]⟩
  | succ m ih =>
    intro n i d P hn hp
    by_cases h1 : 1 < n
    · have hs := need_step n i h1
      by_cases ha : aloneB n i = true
      · rw [if_pos ha, Nat.zero_add] at hs
        rw [pathN_alone n i d P h1 ha, climb_alone n i d _ h1 ha, hs]
        exact ih _ _ _ _ (by omega) (by omega)
      · rw [if_neg ha] at hs
        have ha' : aloneB n i = false := by simpa using ha
        match P, hp with
        | [], hp => simp at hp; omega
        | p :: P', hp =>
          rw [List.length_cons] at hp
          obtain ⟨l, t, h2, h3⟩ := ih ((n + 1) / 2) (i / 2) (digDg (nodeB i d p)) P' (by omega) (by omega)
          refine ⟨nodeB i d p :: l, t, ?_, ?_⟩
          · rw [pathN_cons n i d p P' h1 ha', h2]; rfl
          · rw [hs, show 1 + needN ((n + 1) / 2) (i / 2) = needN ((n + 1) / 2) (i / 2) + 1 by omega, List.take_succ_cons, climb_cons n i d p _ h1 ha', ordered_node]; exact h3
    · exact ⟨[], d, pathN_end n i d P (by omega), by rw [need_end n i (by omega), List.take_zero, climb_end n i d _ (by omega), if_pos rfl]⟩
theorem pathN_none : ∀ (m n i : Nat) (d : Dg) (P : List Dg), n ≤ m → P.length < needN n i → pathN n i d P = none := by
  intro m
  induction m with
  | zero => intro n i d P hn hp; rw [need_end n i (by omega)] at hp; omega
  | succ m ih =>
    intro n i d P hn hp
    by_cases h1 : 1 < n
    · have hs := need_step n i h1
      by_cases ha : aloneB n i = true
      · rw [if_pos ha, Nat.zero_add] at hs
        rw [pathN_alone n i d P h1 ha]
        exact ih _ _ _ _ (by omega) (by omega)
      · rw [if_neg ha] at hs
        have ha' : aloneB n i = false := by simpa using ha
        match P, hp with
        | [], _ => exact pathN_nil n i d h1 ha'
        | p :: P', hp =>
          rw [List.length_cons] at hp
          rw [pathN_cons n i d p P' h1 ha', ih _ _ _ _ (by omega) (by omega)]; rfl
    · rw [need_end n i (by omega)] at hp; omega
/-- Of two rows of bytes, going up: where the one above is alike, the digests are. -/
def Linked : List (List UInt8) → List (List UInt8) → Prop
  | [_], [_] => True
  | x :: x' :: p, y :: y' :: q => (x' = y' → dig x = dig y) ∧ Linked (x' :: p) (y' :: q)
  | _, _ => False
theorem Linked.len : ∀ {p q : List (List UInt8)}, Linked p q → p.length = q.length
  | [_], [_], _ => rfl
  | _ :: x' :: p, _ :: y' :: q, h => by
    have := Linked.len (p := x' :: p) (q := y' :: q) h.2
    simpa using this
  | [], _, h => by simp [Linked] at h
  | [_], [], h => by simp [Linked] at h
  | [_], _ :: _ :: _, h => by simp [Linked] at h
  | _ :: _ :: _, [], h => by simp [Linked] at h
  | _ :: _ :: _, [_], h => by simp [Linked] at h
theorem Linked.at_ : ∀ {p q : List (List UInt8)}, Linked p q → ∀ k x y x' y', p[k]? = some x → q[k]? = some y → p[k + 1]? = some x' → q[k + 1]? = some y' → x' = y' → dig x = dig y
  | [_], [_], _, _, _, _, _, _, _, _, h3, _, _ => by simp at h3
  | _ :: x' :: p, _ :: y' :: q, h, k, a, b, a', b', h1, h2, h3, h4, he => by
    match k with
    | 0 =>
      simp at h1 h2 h3 h4
      subst h1; subst h2; subst h3; subst h4
      exact h.1 he
    | k + 1 => exact Linked.at_ (p := x' :: p) (q := y' :: q) h.2 k a b a' b' (by simpa using h1) (by simpa using h2) (by simpa using h3) (by simpa using h4) he
  | [], _, h, _, _, _, _, _, _, _, _, _, _ => by simp [Linked] at h
  | [_], [], h, _, _, _, _, _, _, _, _, _, _ => by simp [Linked] at h
  | [_], _ :: _ :: _, h, _, _, _, _, _, _, _, _, _, _ => by simp [Linked] at h
  | _ :: _ :: _, [], h, _, _, _, _, _, _, _, _, _, _ => by simp [Linked] at h
  | _ :: _ :: _, [_], h, _, _, _, _, _, _, _, _, _, _ => by simp [Linked] at h
def rootBytes (N : Nat) (t : Dg) : List UInt8 := 2 :: (be 8 N ++ t.1)
theorem node_inj (i : Nat) (d p e q : Dg) (h : nodeB i d p = nodeB i e q) : d.1 = e.1 := by
  unfold nodeB at h
  by_cases hi : i % 2 = 0
  · simp only [hi, if_true, List.cons.injEq, true_and] at h
    exact (List.append_inj h (by rw [d.2, e.2])).1
  · simp only [hi, if_false, List.cons.injEq, true_and] at h
    exact (List.append_inj h (by rw [p.2, q.2])).2
theorem root_inj (N : Nat) (t u : Dg) (h : rootBytes N t = rootBytes N u) : t.1 = u.1 := by
  unfold rootBytes at h
  simp only [List.cons.injEq, true_and] at h
  exact (List.append_inj h rfl).2
theorem path_linked : ∀ (m n i : Nat) (b c : List UInt8) (P Q : List Dg) (N : Nat) l t k u, n ≤ m → pathN n i (digDg b) P = some (l, t) → pathN n i (digDg c) Q = some (k, u) →
    Linked (b :: (l ++ [rootBytes N t])) (c :: (k ++ [rootBytes N u])) := by
  intro m
  have hend : ∀ (n i : Nat) (b c : List UInt8) (P Q : List Dg) (N : Nat) l t k u, n ≤ 1 → pathN n i (digDg b) P = some (l, t) → pathN n i (digDg c) Q = some (k, u) →
    Linked (b :: (l ++ [rootBytes N t])) (c :: (k ++ [rootBytes N u])) := by
    intro n i b c P Q N l t k u hn h1 h2
    rw [pathN_end _ _ _ _ hn] at h1 h2
    simp only [Option.some.injEq, Prod.mk.injEq] at h1 h2
    obtain ⟨rfl, rfl⟩ := h1
    obtain ⟨rfl, rfl⟩ := h2
    exact ⟨fun h => root_inj N _ _ h, trivial⟩
  induction m with
  | zero => intro n i b c P Q N l t k u hn; exact hend n i b c P Q N l t k u (by omega)
  | succ m ih =>
    intro n i b c P Q N l t k u hn h1 h2
    by_cases hn1 : 1 < n
    · by_cases ha : aloneB n i = true
      · rw [pathN_alone _ _ _ _ hn1 ha] at h1 h2
        exact ih _ _ b c P Q N l t k u (by omega) h1 h2
      · have ha' : aloneB n i = false := by simpa using ha
        match P, Q with
        | [], _ => rw [pathN_nil _ _ _ hn1 ha'] at h1; cases h1
        | _ :: _, [] => rw [pathN_nil _ _ _ hn1 ha'] at h2; cases h2
        | p :: P', q :: Q' =>
          rw [pathN_cons _ _ _ _ _ hn1 ha'] at h1 h2
          obtain ⟨⟨l', t'⟩, h3, h4⟩ := Option.map_eq_some_iff.1 h1
          obtain ⟨⟨k', u'⟩, h5, h6⟩ := Option.map_eq_some_iff.1 h2
          simp only [Prod.mk.injEq] at h4 h6
          obtain ⟨rfl, rfl⟩ := h4
          obtain ⟨rfl, rfl⟩ := h6
          exact ⟨fun h => node_inj i _ _ _ _ h, ih _ _ _ _ P' Q' N l' t' k' u' (by omega) h3 h5⟩
    · exact hend n i b c P Q N l t k u (by omega) h1 h2
end Go.Proofs.YtglfakglcoffkaaDoor

namespace Go.Proofs.YtglfakglcoffkaaDoor
open Go.RowKit

theorem countr_nat (n : Nat) (hn : n < 9223372036854775808) (w : World) : Calls Tryd.prog 102 #[.int .i64 n] w fun e w' => e = .returned (.int .i64 (cntN n)) ∧ w = w' := by
  by_cases h0 : n = 0
  · subst h0
    go_enter Tryd.func102, Tryd.ntmps102
    go_wp2
    go_ret
    exact ⟨rfl, rfl⟩
  · have h1 : decide ((n : Int) < 0) = false := by simp
    have h2 : ((n : Int) == 0) = false := by simp; omega
    by_cases h3 : n % 64 = 0
    · have h4 : ((n : Int) % 64 == 0) = true := by simp; omega
      have hc : ((cntN n : Nat) : Int) = (n : Int) / 64 := by unfold cntN; omega
      have HC := Lib.hid hc
      clear hc
      go_enter Tryd.func102, Tryd.ntmps102
      go_wp2
      go_ret
      exact ⟨by rw [HC.out]; rfl, rfl⟩
    · have h4 : ((n : Int) % 64 == 0) = false := by simp; omega
      have hc : ((cntN n : Nat) : Int) = (n : Int) / 64 + 1 := by unfold cntN; omega
      have HC := Lib.hid hc
      clear hc
      go_enter Tryd.func102, Tryd.ntmps102
      go_wp2
      go_ret
      exact ⟨by rw [HC.out]; rfl, rfl⟩
theorem countr_neg (n : Int) (hn : n < 0) (w : World) : Calls Tryd.prog 102 #[.int .i64 n] w fun e w' => e = .returned (.int .i64 0) ∧ w = w' := by
  have h1 : decide ((n : Int) < 0) = true := by simp; omega
  go_enter Tryd.func102, Tryd.ntmps102
  go_wp2
  go_ret
  exact ⟨rfl, rfl⟩
theorem sizer_nat (n i : Nat) (hn : n < 9223372036854775808) (hi : 64 * i ≤ n) (w : World) : Calls Tryd.prog 121 #[.int .i64 n, .int .i64 i] w fun e w' => e = .returned (.int .i64 (chunkN n i)) ∧ w = w' := by
  by_cases h : 64 < n - 64 * i
  · have hh : ((chunkN n i : Nat) : Int) = 64 := by unfold chunkN; omega
    rw [hh]
    clear hh
    go_enter Tryd.func121, Tryd.ntmps121
    go_wp2
    go_ret
    exact ⟨rfl, rfl⟩
  · have hh : ((chunkN n i : Nat) : Int) = (n : Int) - 64 * (i : Int) := by unfold chunkN; omega
    rw [hh]
    clear hh
    go_enter Tryd.func121, Tryd.ntmps121
    go_wp2
    go_ret
    exact ⟨rfl, rfl⟩
set_option maxRecDepth 100000 in
set_option maxHeartbeats 4000000 in
theorem eightr_any (n : Nat) (hn : n < 9223372036854775808) (w : World) : Calls Tryd.prog 106 #[.int .i64 n] w (OwnPost w (be 8 n)) := by
  obtain ⟨i0, hi, hz0, hz1, hz2⟩ := info_parts Tryd.info5
  obtain ⟨H, hH⟩ : ∃ H, H = w.heap.size := ⟨_, rfl⟩
  have HH := Lib.hid hH
  have HB8 := Lib.hid (be_len 8 n)
  unfold OwnPost
  rw [be_len, ← hH]
  clear hH
  go_enter Tryd.func106, Tryd.ntmps106
  go_wp2_with fail
  go_loopw [3, 4] (fun s3 s4 wr => ∃ (k : Nat) (A : Option Addr) (c : Nat), k ≤ 8 ∧ s4 = .int .i64 (7 - (k : Int)) ∧ s3 = .slice A k c ∧ wr.ownsRow H 5 1 (.slice A k c) k (byteVals ((be 8 n).take k)) ∧ Chg none w wr) (fun _ s4 _ => (intOf s4 + 1).toNat)
  case atStart => exact ⟨0, none, 0, by omega, rfl, rfl, by rw [List.take_zero]; exact World.ownsRow_nil _ _ _ _, Chg.refl _ _⟩
  case round =>
    obtain ⟨k, A, c, hk, rfl, rfl, hown, gk⟩ := hrel
    have hbase : H ≤ wr.heap.size := by rw [HH.out]; exact gk.size
    by_cases hlt : k < 8
    · obtain ⟨x, hx⟩ : ∃ x, x = UInt8.ofNat (n / 2 ^ (8 * (8 - 1 - k))) := ⟨_, rfl⟩
      have hv : (x.toNat : Int) = (n : Int) / 2 ^ (8 * (8 - 1 - k)) % 256 := by rw [hx, byte_shr]
      have hts := be_take_succ 8 n k hlt
      rw [← hx] at hts
      have hd : decide ((7 - (k : Int)) ≥ 0) = true := by simp; omega
      have hr3 := reads_one wr x
      rw [show 8 - 1 - k = 7 - k by omega] at hv
      rw [hv] at hr3
      have HR3 := Lib.hid hr3
      have HO3 := Lib.hid (byteVals_one [x])
      have HOWN := Lib.hid hown
      have HSU : Hid (byteVals ((be 8 n).take k) ++ byteVals [x] = byteVals ((be 8 n).take (k + 1))) := by
        show _ = _; rw [byteVals_append, hts]
      clear hown hx hts hv hr3
      go_wp2_with (at_builtin; refine wpList_append_any _ rfl (.tmp 9) (.tmp 17) 22 rfl H 5 i0 (.int .u8 0) 1 1 Tryd.underlying22 hi hz0 hz1 hz2 rfl (by decide) _ k (byteVals ((be 8 n).take k)) rfl (HOWN.out.alloc _) _ (some ⟨wr.heap.size, 0, none⟩) 1 1 (byteVals [x]) rfl HR3.out HO3.out (by unfold maxLen; omega) (by omega) (by simp; omega) ?_)
      intro v6 w6 hown6 hgr6 _
      rw [HSU.out] at hown6
      have g6 : Chg none w w6 := own_chg (gk.alloc _) (HOWN.out.alloc _) (by rw [HH.out]; exact Nat.le_refl _) hgr6
      obtain ⟨A6, c6, rfl⟩ := own_slice hown6
      have HOWN6 := Lib.hid hown6
      clear hown6 hgr6 HOWN HR3
      go_wp2_with fail
      go_roundw
      case rel => exact ⟨k + 1, A6, c6, by omega, by congr 1; omega, rfl, HOWN6.out, g6⟩
      case measure => simp only [intOf]; omega
    · have hk8 : k = 8 := by omega
      have hd : decide ((7 - (k : Int)) ≥ 0) = false := by simp; omega
      have hfin : (be 8 n).take k = be 8 n := List.take_of_length_le (by rw [HB8.out]; omega)
      rw [hfin] at hown
      have HFN := Lib.hid hown
      have HK8 := Lib.hid hk8
      clear hown hfin hk8
      go_wp2_with fail
      go_ret
      exact ⟨A, c, by rw [← HK8.out]; rfl, by have := HFN.out; rw [HK8.out] at this; exact this, gk⟩
end Go.Proofs.YtglfakglcoffkaaDoor

namespace Go.Proofs.YtglfakglcoffkaaDoor
open Go.RowKit

theorem own_oneB (w : World) (B : Nat) (hB : B ≤ w.heap.size) (x : UInt8) : (w.alloc (.cells #[.int .u8 x.toNat] 5 (0, 0))).ownsRow B 5 1 (.slice (some ⟨w.heap.size, 0, none⟩) 1 1) 1 (byteVals [x]) :=
  ⟨rfl, .inr ⟨w.heap.size, 1, #[.int .u8 x.toNat], rfl, hB, heap_alloc_new w _, Nat.le_refl _, by unfold maxLen; decide, rfl, rfl⟩⟩
theorem cut30 (w : World) (b : Nat) : (Instr.sliceAt 30 (.pointer (some ⟨b, 0, none⟩)) none none none).run Tryd.prog w = .ok (.slice (some ⟨b, 0, none⟩) 32 32) w := by
  have u30 := Tryd.underlying30
  go_simp
set_option maxRecDepth 100000 in
set_option maxHeartbeats 4000000 in
theorem leafr_any (i : Nat) (p : Prt) (w : World) (hp : p.ok w) (hi : i < 9223372036854775808) (hn : p.x.length ≤ 1000000) :
    Calls Tryd.prog 103 #[.int .i64 i, .slice p.A p.x.length p.c] w (OwnPost w (0 :: (be 8 i ++ p.x))) := by
  obtain ⟨i0, hi0, hz0, hz1, hz2⟩ := info_parts Tryd.info5
  obtain ⟨A0, x, c0⟩ := p
  have hA := hp.1
  have hcp := hp.2
  dsimp only at hA hcp hn ⊢
  obtain ⟨n, hnn⟩ : ∃ n, n = x.length := ⟨_, rfl⟩
  have hlen : (0 :: (be 8 i ++ x)).length = 1 + 8 + n := by rw [List.length_cons, List.length_append, be_len, hnn]; omega
  have hE : Hid (∀ v, Calls Tryd.prog 106 #[.int .i64 i] v fun e w' => ∃ A c, e = .returned (.slice A 8 c) ∧ w'.ownsRow v.heap.size 5 1 (.slice A 8 c) 8 (byteVals (be 8 i)) ∧ Chg none v w') := fun v => by
    have := eightr_any i hi v
    unfold OwnPost at this
    rwa [be_len] at this
  unfold OwnPost
  rw [hlen, ← hnn]
  rw [← hnn] at hn
  have gA : Chg none w (w.alloc (.cells #[.int .u8 0] 5 (0, 0))) := (Chg.refl _ _).alloc _
  have HOWN0 := Lib.hid (own_oneB w w.heap.size (Nat.le_refl _) 0)
  have HA := Lib.hid hA
  have HN := Lib.hid hnn
  have HO8 := Lib.hid (byteVals_one (be 8 i))
  have HOX := Lib.hid (byteVals_one x)
  clear hA hcp hp hlen hnn hi
  go_enter Tryd.func103, Tryd.ntmps103
  go_wp2_with fail
  refine (hE.out _).mono ?_
  rintro e w2 ⟨A2, c2, rfl, hown2, g2⟩
  have g02 := gA.trans g2
  obtain ⟨hT2, -, -⟩ := own_txt hown2
  have hr2 := txt_reads hT2
  rw [be_len] at hr2
  have HR2 := Lib.hid hr2
  have HOWN := Lib.hid (HOWN0.out.kept g2 (.inr (by simp [Value.ownBlock])))
  have hsz := Lib.hid g02.size
  clear hown2 hT2 hr2 HOWN0 gA hE g2
  go_wp2_with (at_builtin; refine wpList_append_any _ rfl (.tmp 5) (.tmp 7) 22 rfl w.heap.size 5 i0 (.int .u8 0) 1 1 Tryd.underlying22 hi0 hz0 hz1 hz2 rfl (by decide) _ 1 (byteVals [0]) rfl HOWN.out _ A2 8 c2 (byteVals (be 8 i)) rfl HR2.out HO8.out (by unfold maxLen; decide) (by decide) hsz.out ?_)
  intro v3 w3 hown3 hgr3 _
  have g3 := own_chg g02 HOWN.out (Nat.le_refl _) hgr3
  obtain ⟨A3, c3, rfl⟩ := own_slice hown3
  have HOWN3 := Lib.hid hown3
  have hr3 := txt_reads (HA.out.chg g3)
  rw [← HN.out] at hr3
  have HR3 := Lib.hid hr3
  have hsz3 := Lib.hid g3.size
  clear hown3 hgr3 hr3 HOWN HR2 g02 hsz
  go_wp2_with (at_builtin; refine wpList_append_any _ rfl (.tmp 8) (.tmp 9) 22 rfl w.heap.size 5 i0 (.int .u8 0) 1 1 Tryd.underlying22 hi0 hz0 hz1 hz2 rfl (by decide) _ (1 + 8) _ rfl HOWN3.out _ A0 n c0 (byteVals x) rfl HR3.out HOX.out (by unfold maxLen; omega) (by omega) hsz3.out ?_)
  intro v4 w4 hown4 hgr4 _
  have g4 := own_chg g3 HOWN3.out (Nat.le_refl _) hgr4
  obtain ⟨A4, c4, rfl⟩ := own_slice hown4
  rw [byteVals_append, byteVals_append] at hown4
  have HOWN4 := Lib.hid hown4
  clear hown4 hgr4 HOWN3 HR3 g3 hsz3
  go_wp2_with fail
  go_ret
  exact ⟨A4, c4, rfl, HOWN4.out, g4⟩
set_option maxRecDepth 100000 in
set_option maxHeartbeats 4000000 in
theorem noder_any (l r : Dg) (w : World) : Calls Tryd.prog 105 #[.agg (byteVals l.1).toArray, .agg (byteVals r.1).toArray] w (OwnPost w (1 :: (l.1 ++ r.1))) := by
  obtain ⟨i0, hi0, hz0, hz1, hz2⟩ := info_parts Tryd.info5
  obtain ⟨x, hxl⟩ := l
  obtain ⟨y, hyl⟩ := r
  dsimp only
  have hlen : (1 :: (x ++ y)).length = 1 + 32 + 32 := by rw [List.length_cons, List.length_append, hxl, hyl]
  unfold OwnPost
  rw [hlen]
  obtain ⟨W2, hW2⟩ : ∃ W2, W2 = (w.alloc (.cells (byteVals x).toArray 30)).alloc (.cells (byteVals y).toArray 30) := ⟨_, rfl⟩
  have HW2 : Hid ((w.alloc (.cells (byteVals x).toArray 30)).alloc (.cells (byteVals y).toArray 30) = W2) := hW2.symm
  have g0 : Chg none w W2 := by rw [hW2]; exact ((Chg.refl _ _).alloc _).alloc _
  have bA : BlkL W2 w.heap.size (byteVals x) 30 := by rw [hW2]; exact Blk.alloc (Blk.new _ _ _) _
  have bB : BlkL W2 (w.heap.size + 1) (byteVals y) 30 := by rw [hW2]; exact Blk.newAt _ _ (by simp)
  have HO1 := Lib.hid (byteVals_one x)
  have HO2 := Lib.hid (byteVals_one y)
  have hc30 := cut30
  have HXL := Lib.hid hxl
  have HYL := Lib.hid hyl
  obtain ⟨CA, hCA⟩ : ∃ CA, CA = (byteVals x).toArray := ⟨_, rfl⟩
  obtain ⟨CB, hCB⟩ : ∃ CB, CB = (byteVals y).toArray := ⟨_, rfl⟩
  rw [← hCA, ← hCB]
  rw [← hCA, ← hCB] at HW2
  clear hW2 hlen hxl hyl hCA hCB
  go_enter Tryd.func105, Tryd.ntmps105
  go_upto_region 1 with fail
  rw [HW2.out]
  clear HW2
  generalize hH : w.heap.size = H at *
  have HH := Lib.hid hH
  generalize H + 1 = pB at *
  have bA0 : BlkL W2.drew H (byteVals x) 30 := bA.drew
  have bB0 : BlkL W2.drew pB (byteVals y) 30 := bB.drew
  have E0 : Chg none w W2.drew := g0.drew
  clear bA bB g0 hH
  refine wp_region_held_drew (S := fun _ => True) (by kernel_rfl) trivial (fun _ => ?_)
  generalize W2.drew = v0 at *
  refine wpAnyH_take (i := 1) (oi := ⟨some 6, _, _, _, _, _⟩) (v := ?_) rfl (by kernel_rfl) (by kernel_rfl) (by kernel_rfl) (fun _ _ _ h => h) (Or.inl ⟨by rfl, ?_⟩) (by assumption) ?_
  rotate_left
  · intro w hSw; (try dsimp only at hSw); go_simp; (try with_reducible rfl)
  try simp only [Act.put, List.setIfInBounds_toArray, List.set_cons_zero, List.set_cons_succ]
  refine wpAnyH_take (i := 3) (oi := ⟨some 8, _, _, _, _, _⟩) (v := ?_) rfl (by kernel_rfl) (by kernel_rfl) (by kernel_rfl) (fun _ _ _ h => h) (Or.inl ⟨by rfl, ?_⟩) (by assumption) ?_
  rotate_left
  · intro w hSw; (try dsimp only at hSw); go_simp; (try with_reducible rfl)
  try simp only [Act.put, List.setIfInBounds_toArray, List.set_cons_zero, List.set_cons_succ]
  refine wpAnyH_ready (rs := [0]) (by kernel_rfl) (by simp) ?_
  refine AllReadyH.cons (o := ⟨some 5, _, _, _, _, _⟩) rfl (fun K hK => ?_) (AllReadyH.nil)
  go_simp
  refine hK.out _ _ trivial (fun _ => ?_)
  clear hK K
  try simp only [Act.put, List.setIfInBounds_toArray, List.set_cons_zero, List.set_cons_succ]
  have O1 := Lib.hid (own_oneB v0 H (by rw [← HH.out]; exact E0.size) 1)
  have g1 : Chg none v0 (World.alloc v0 (Obj.cells #[Value.int IntKind.u8 1] 5)) := (Chg.refl _ _).alloc _
  have E1 := E0.trans g1
  have bA1 := bA0.alloc (.cells #[.int .u8 1] 5)
  have bB1 := bB0.alloc (.cells #[.int .u8 1] 5)
  refine wpAnyH_ready (rs := [2]) (by kernel_rfl) (by simp) ?_
  refine AllReadyH.cons (o := ⟨some 7, _, _, _, _, _⟩) rfl (fun K hK => ?_) (AllReadyH.nil)
  have hr2 := txt_reads (prt_of_row (n := 32) bA1 (by rw [HXL.out]; exact Nat.le_refl _)).1
  rw [HXL.out] at hr2
  refine step_append_any _ (by rfl) (.tmp 5) (.tmp 6) 22 (by rfl) H 5 i0 (.int .u8 0) 1 1 Tryd.underlying22 hi0 hz0 hz1 hz2 rfl (by decide) _ 1 (byteVals [1]) (by rfl) O1.out _ (some ⟨H, 0, none⟩) 32 32 (byteVals x) (by rfl) hr2 HO1.out (by unfold maxLen; decide) (by decide) (by rw [← HH.out]; exact E1.size) ?_
  intro u2 v2 hown2 hgr2 _
  have E2 := own_chg E1 O1.out (by rw [HH.out]; exact Nat.le_refl _) hgr2
  have bB2 : BlkL v2 pB (byteVals y) 30 := Blk.chg bB1 hgr2 (by simp [Value.ownBlock]; have := Blk.lt bB0; omega)
  obtain ⟨A2, c2, rfl⟩ := own_slice hown2
  have O2 := Lib.hid hown2
  clear hown2 hgr2 hr2
  refine hK.out _ _ trivial (fun _ => ?_)
  clear hK K
  try simp only [Act.put, List.setIfInBounds_toArray, List.set_cons_zero, List.set_cons_succ]
  refine wpAnyH_ready (rs := [4]) (by kernel_rfl) (by simp) ?_
  refine AllReadyH.cons (o := ⟨some 9, _, _, _, _, _⟩) rfl (fun K hK => ?_) (AllReadyH.nil)
  have hr3 := txt_reads (prt_of_row (n := 32) bB2 (by rw [HYL.out]; exact Nat.le_refl _)).1
  rw [HYL.out] at hr3
  refine step_append_any _ (by rfl) (.tmp 7) (.tmp 8) 22 (by rfl) H 5 i0 (.int .u8 0) 1 1 Tryd.underlying22 hi0 hz0 hz1 hz2 rfl (by decide) _ (1 + 32) _ (by rfl) O2.out _ (some ⟨pB, 0, none⟩) 32 32 (byteVals y) (by rfl) hr3 HO2.out (by unfold maxLen; decide) (by decide) (by rw [← HH.out]; exact E2.size) ?_
  intro u3 v3 hown3 hgr3 _
  have E3 := own_chg E2 O2.out (by rw [HH.out]; exact Nat.le_refl _) hgr3
  obtain ⟨A3, c3, rfl⟩ := own_slice hown3
  have O3 := Lib.hid hown3
  clear hown3 hgr3 hr3
  refine hK.out _ _ trivial (fun _ => ?_)
  clear hK K
  try simp only [Act.put, List.setIfInBounds_toArray, List.set_cons_zero, List.set_cons_succ]
  refine wpAnyH_take (i := 5) (oi := ⟨some 4, _, _, _, _, _⟩) (v := ?_) rfl (by kernel_rfl) (by kernel_rfl) (by kernel_rfl) (fun _ _ _ h => h) (Or.inl ⟨by rfl, ?_⟩) (by assumption) ?_
  rotate_left
  · intro w hSw; (try dsimp only at hSw); go_simp; (try with_reducible rfl)
  try simp only [Act.put, List.setIfInBounds_toArray, List.set_cons_zero, List.set_cons_succ]
  refine wpAnyH_done (by kernel_rfl) ?_ _
  try simp only [Act.put]
  have ho := O3.out
  rw [byteVals_append, byteVals_append] at ho
  have HF := Lib.hid ho
  clear ho
  go_wp2_with fail
  go_ret
  exact ⟨A3, c3, rfl, by rw [HH.out]; exact HF.out, E3⟩
set_option maxRecDepth 100000 in
set_option maxHeartbeats 4000000 in
theorem rootr_bytes (n : Nat) (d : Dg) (w : World) (hn : n < 9223372036854775808) : Calls Tryd.prog 80 #[.int .i64 n, .agg (byteVals d.1).toArray] w (OwnPost w (2 :: (be 8 n ++ d.1))) := by
  obtain ⟨i0, hi0, hz0, hz1, hz2⟩ := info_parts Tryd.info5
  obtain ⟨y, hyl⟩ := d
  dsimp only
  have hlen : (2 :: (be 8 n ++ y)).length = 1 + 8 + 32 := by rw [List.length_cons, List.length_append, be_len, hyl]
  have HE : Hid (∀ v, Calls Tryd.prog 106 #[.int .i64 n] v fun e w' => ∃ A c, e = .returned (.slice A 8 c) ∧ w'.ownsRow v.heap.size 5 1 (.slice A 8 c) 8 (byteVals (be 8 n)) ∧ Chg none v w') := fun v => by
    have := eightr_any n hn v
    unfold OwnPost at this
    rwa [be_len] at this
  unfold OwnPost
  rw [hlen]
  obtain ⟨W2, hW2⟩ : ∃ W2, W2 = w.alloc (.cells (byteVals y).toArray 30) := ⟨_, rfl⟩
  have HW2 : Hid (w.alloc (.cells (byteVals y).toArray 30) = W2) := hW2.symm
  have g0 : Chg none w W2 := by rw [hW2]; exact (Chg.refl _ _).alloc _
  have bA : BlkL W2 w.heap.size (byteVals y) 30 := by rw [hW2]; exact Blk.new _ _ _
  have HO2 := Lib.hid (byteVals_one y)
  have HO8 := Lib.hid (byteVals_one (be 8 n))
  have hc30 := cut30
  have HYL := Lib.hid hyl
  obtain ⟨CA, hCA⟩ : ∃ CA, CA = (byteVals y).toArray := ⟨_, rfl⟩
  rw [← hCA]
  rw [← hCA] at HW2
  clear hW2 hlen hyl hCA hn
  go_enter Tryd.func80, Tryd.ntmps80
  go_upto_region 1 with fail
  rw [HW2.out]
  clear HW2
  generalize hH : w.heap.size = H at *
  have HH := Lib.hid hH
  have bB0 : BlkL W2.drew H (byteVals y) 30 := bA.drew
  have E0 : Chg none w W2.drew := g0.drew
  clear bA g0 hH
  refine wp_region_held_drew (S := fun _ => True) (by kernel_rfl) trivial (fun _ => ?_)
  generalize W2.drew = v0 at *
  refine wpAnyH_take (i := 1) (oi := ⟨some 6, _, _, _, _, _⟩) (v := ?_) rfl (by kernel_rfl) (by kernel_rfl) (by kernel_rfl) (fun _ _ _ h => h) (Or.inl ⟨by rfl, ?_⟩) (by assumption) ?_
  rotate_left
  · intro w hSw; (try dsimp only at hSw); go_simp; (try with_reducible rfl)
  try simp only [Act.put, List.setIfInBounds_toArray, List.set_cons_zero, List.set_cons_succ]
  refine wpAnyH_take (i := 4) (oi := ⟨some 9, _, _, _, _, _⟩) (v := ?_) rfl (by kernel_rfl) (by kernel_rfl) (by kernel_rfl) (fun _ _ _ h => h) (Or.inl ⟨by rfl, ?_⟩) (by assumption) ?_
  rotate_left
  · intro w hSw; (try dsimp only at hSw); go_simp; (try with_reducible rfl)
  try simp only [Act.put, List.setIfInBounds_toArray, List.set_cons_zero, List.set_cons_succ]
  refine wpAnyH_ready (rs := [0, 2]) (by kernel_rfl) (by simp) ?_
  refine AllReadyH.cons (o := ⟨some 5, _, _, _, _, _⟩) rfl (fun K hK => ?_) (AllReadyH.cons (o := ⟨some 7, _, _, _, _, _⟩) rfl (fun K hK => ?_) (AllReadyH.nil))
  · as_aux_lemma =>
      go_simp
      refine hK.out _ _ trivial (fun _ => ?_)
      clear hK K
      try simp only [Act.put, List.setIfInBounds_toArray, List.set_cons_zero, List.set_cons_succ]
      have L4 := Blk.lt bB0
      generalize hx4 : World.alloc v0 (Obj.cells #[Value.int IntKind.u8 2] 5) = v4
      have O4 := Lib.hid (own_oneB v0 H (by rw [← HH.out]; exact E0.size) 2)
      have g4 : Chg none v0 v4 := by rw [← hx4]; exact (Chg.refl _ _).alloc _
      have E4 := E0.trans g4
      have bB4 := Blk.chg bB0 g4 (by simp)
      change Hid (World.ownsRow (World.alloc v0 (Obj.cells #[Value.int IntKind.u8 2] 5)) _ _ _ _ _ _) at O4
      rw [hx4] at O4
      clear hx4
      refine wpAnyH_ready (rs := [2]) (by kernel_rfl) (by simp) ?_
      refine AllReadyH.cons (o := ⟨some 7, _, _, _, _, _⟩) rfl (fun K hK => ?_) (AllReadyH.nil)
      go_simp
      go_at_call 106
      refine (HE.out _).mono ?_
      rintro e v5 ⟨A8, c8, rfl, hown5, g5⟩
      obtain ⟨hT5, -, -⟩ := own_txt hown5
      have T5 := Lib.hid hT5
      have E5 := E4.trans g5
      have bB5 := Blk.chg bB4 g5 (by simp)
      have O5 := Lib.hid (O4.out.kept g5 (.inr (by simp [Value.ownBlock])))
      clear hown5 hT5 g5
      go_wp2_with fail
      refine hK.out _ _ trivial (fun _ => ?_)
      clear hK K
      try simp only [Act.put, List.setIfInBounds_toArray, List.set_cons_zero, List.set_cons_succ]
      refine wpAnyH_ready (rs := [3]) (by kernel_rfl) (by simp) ?_
      refine AllReadyH.cons (o := ⟨some 8, _, _, _, _, _⟩) rfl (fun K hK => ?_) (AllReadyH.nil)
      have hr6 := txt_reads T5.out
      rw [be_len] at hr6
      refine step_append_any _ (by rfl) (.tmp 5) (.tmp 7) 22 (by rfl) H 5 i0 (.int .u8 0) 1 1 Tryd.underlying22 hi0 hz0 hz1 hz2 rfl (by decide) _ 1 (byteVals [2]) (by rfl) O5.out _ A8 8 c8 (byteVals (be 8 n)) (by rfl) hr6 HO8.out (by unfold maxLen; decide) (by decide) (by rw [← HH.out]; exact E5.size) ?_
      intro u6 v6 hown6 hgr6 _
      have E6 := own_chg E5 O5.out (by rw [HH.out]; exact Nat.le_refl _) hgr6
      have bB6 : BlkL v6 H (byteVals y) 30 := Blk.chg bB5 hgr6 (by simp [Value.ownBlock]; omega)
      obtain ⟨A6, c6, rfl⟩ := own_slice hown6
      have O6 := Lib.hid hown6
      clear hown6 hgr6 hr6
      refine hK.out _ _ trivial (fun _ => ?_)
      clear hK K
      try simp only [Act.put, List.setIfInBounds_toArray, List.set_cons_zero, List.set_cons_succ]
      refine wpAnyH_ready (rs := [5]) (by kernel_rfl) (by simp) ?_
      refine AllReadyH.cons (o := ⟨some 10, _, _, _, _, _⟩) rfl (fun K hK => ?_) (AllReadyH.nil)
      have hr7 := txt_reads (prt_of_row (n := 32) bB6 (by rw [HYL.out]; exact Nat.le_refl _)).1
      rw [HYL.out] at hr7
      refine step_append_any _ (by rfl) (.tmp 8) (.tmp 9) 22 (by rfl) H 5 i0 (.int .u8 0) 1 1 Tryd.underlying22 hi0 hz0 hz1 hz2 rfl (by decide) _ (1 + 8) _ (by rfl) O6.out _ (some ⟨H, 0, none⟩) 32 32 (byteVals y) (by rfl) hr7 HO2.out (by unfold maxLen; decide) (by decide) (by rw [← HH.out]; exact E6.size) ?_
      intro u7 v7 hown7 hgr7 _
      have E7 := own_chg E6 O6.out (by rw [HH.out]; exact Nat.le_refl _) hgr7
      obtain ⟨A7, c7, rfl⟩ := own_slice hown7
      have O7 := Lib.hid hown7
      clear hown7 hgr7 hr7
      refine hK.out _ _ trivial (fun _ => ?_)
      clear hK K
      try simp only [Act.put, List.setIfInBounds_toArray, List.set_cons_zero, List.set_cons_succ]
      refine wpAnyH_take (i := 6) (oi := ⟨some 4, _, _, _, _, _⟩) (v := ?_) rfl (by kernel_rfl) (by kernel_rfl) (by kernel_rfl) (fun _ _ _ h => h) (Or.inl ⟨by rfl, ?_⟩) (by assumption) ?_
      rotate_left
      · intro w hSw; (try dsimp only at hSw); go_simp; (try with_reducible rfl)
      try simp only [Act.put, List.setIfInBounds_toArray, List.set_cons_zero, List.set_cons_succ]
      refine wpAnyH_done (by kernel_rfl) ?_ _
      try simp only [Act.put]
      have ho := O7.out
      rw [byteVals_append, byteVals_append] at ho
      have HF := Lib.hid ho
      clear ho
      go_wp2_with fail
      go_ret
      exact ⟨A7, c7, rfl, by rw [HH.out]; exact HF.out, E7⟩
  · as_aux_lemma =>
      go_simp
      go_at_call 106
      refine (HE.out _).mono ?_
      rintro e v8 ⟨A8, c8, rfl, hown8, g8⟩
      obtain ⟨hT8, -, -⟩ := own_txt hown8
      have T8 := Lib.hid hT8
      have E8 := E0.trans g8
      have bB8 := Blk.chg bB0 g8 (by simp)
      clear hown8 hT8 g8
      go_wp2_with fail
      refine hK.out _ _ trivial (fun _ => ?_)
      clear hK K
      try simp only [Act.put, List.setIfInBounds_toArray, List.set_cons_zero, List.set_cons_succ]
      refine wpAnyH_ready (rs := [0]) (by kernel_rfl) (by simp) ?_
      refine AllReadyH.cons (o := ⟨some 5, _, _, _, _, _⟩) rfl (fun K hK => ?_) (AllReadyH.nil)
      go_simp
      refine hK.out _ _ trivial (fun _ => ?_)
      clear hK K
      try simp only [Act.put, List.setIfInBounds_toArray, List.set_cons_zero, List.set_cons_succ]
      have L9 := Blk.lt bB8
      generalize hx9 : World.alloc v8 (Obj.cells #[Value.int IntKind.u8 2] 5) = v9
      have O9 := Lib.hid (own_oneB v8 H (by rw [← HH.out]; exact E8.size) 2)
      have g9 : Chg none v8 v9 := by rw [← hx9]; exact (Chg.refl _ _).alloc _
      have E9 := E8.trans g9
      have bB9 := Blk.chg bB8 g9 (by simp)
      have T9 := Lib.hid (T8.out.chg g9)
      change Hid (World.ownsRow (World.alloc v8 (Obj.cells #[Value.int IntKind.u8 2] 5)) _ _ _ _ _ _) at O9
      rw [hx9] at O9
      clear hx9
      refine wpAnyH_ready (rs := [3]) (by kernel_rfl) (by simp) ?_
      refine AllReadyH.cons (o := ⟨some 8, _, _, _, _, _⟩) rfl (fun K hK => ?_) (AllReadyH.nil)
      have hr10 := txt_reads T9.out
      rw [be_len] at hr10
      refine step_append_any _ (by rfl) (.tmp 5) (.tmp 7) 22 (by rfl) H 5 i0 (.int .u8 0) 1 1 Tryd.underlying22 hi0 hz0 hz1 hz2 rfl (by decide) _ 1 (byteVals [2]) (by rfl) O9.out _ A8 8 c8 (byteVals (be 8 n)) (by rfl) hr10 HO8.out (by unfold maxLen; decide) (by decide) (by rw [← HH.out]; exact E9.size) ?_
      intro u10 v10 hown10 hgr10 _
      have E10 := own_chg E9 O9.out (by rw [HH.out]; exact Nat.le_refl _) hgr10
      have bB10 : BlkL v10 H (byteVals y) 30 := Blk.chg bB9 hgr10 (by simp [Value.ownBlock]; omega)
      obtain ⟨A10, c10, rfl⟩ := own_slice hown10
      have O10 := Lib.hid hown10
      clear hown10 hgr10 hr10
      refine hK.out _ _ trivial (fun _ => ?_)
      clear hK K
      try simp only [Act.put, List.setIfInBounds_toArray, List.set_cons_zero, List.set_cons_succ]
      refine wpAnyH_ready (rs := [5]) (by kernel_rfl) (by simp) ?_
      refine AllReadyH.cons (o := ⟨some 10, _, _, _, _, _⟩) rfl (fun K hK => ?_) (AllReadyH.nil)
      have hr11 := txt_reads (prt_of_row (n := 32) bB10 (by rw [HYL.out]; exact Nat.le_refl _)).1
      rw [HYL.out] at hr11
      refine step_append_any _ (by rfl) (.tmp 8) (.tmp 9) 22 (by rfl) H 5 i0 (.int .u8 0) 1 1 Tryd.underlying22 hi0 hz0 hz1 hz2 rfl (by decide) _ (1 + 8) _ (by rfl) O10.out _ (some ⟨H, 0, none⟩) 32 32 (byteVals y) (by rfl) hr11 HO2.out (by unfold maxLen; decide) (by decide) (by rw [← HH.out]; exact E10.size) ?_
      intro u11 v11 hown11 hgr11 _
      have E11 := own_chg E10 O10.out (by rw [HH.out]; exact Nat.le_refl _) hgr11
      obtain ⟨A11, c11, rfl⟩ := own_slice hown11
      have O11 := Lib.hid hown11
      clear hown11 hgr11 hr11
      refine hK.out _ _ trivial (fun _ => ?_)
      clear hK K
      try simp only [Act.put, List.setIfInBounds_toArray, List.set_cons_zero, List.set_cons_succ]
      refine wpAnyH_take (i := 6) (oi := ⟨some 4, _, _, _, _, _⟩) (v := ?_) rfl (by kernel_rfl) (by kernel_rfl) (by kernel_rfl) (fun _ _ _ h => h) (Or.inl ⟨by rfl, ?_⟩) (by assumption) ?_
      rotate_left
      · intro w hSw; (try dsimp only at hSw); go_simp; (try with_reducible rfl)
      try simp only [Act.put, List.setIfInBounds_toArray, List.set_cons_zero, List.set_cons_succ]
      refine wpAnyH_done (by kernel_rfl) ?_ _
      try simp only [Act.put]
      have ho := O11.out
      rw [byteVals_append, byteVals_append] at ho
      have HF := Lib.hid ho
      clear ho
      go_wp2_with fail
      go_ret
      exact ⟨A11, c11, rfl, by rw [HH.out]; exact HF.out, E11⟩
end Go.Proofs.YtglfakglcoffkaaDoor

namespace Go.Proofs.YtglfakglcoffkaaDoor
open Go.RowKit

/-- Block x holds the words of layer 1. -/
def HashAt (w : World) (x : Nat) : Prop := w.rangeAt x 0 (H0.map u32v) ∧ w.rangeAt x 8 (K0.map u32v)
theorem HashAt.chg {v w : World} {x : Nat} {c : Option Nat} (h : HashAt v x) (g : Chg c v w) (hx : some x ≠ c) : HashAt w x := ⟨rangeAt_chg h.1 g hx, rangeAt_chg h.2 g hx⟩
def laidA (w : World) : World := (w.alloc (.cells noW8.toArray 25)).alloc (.cells (List.replicate 64 (Value.int .u32 0)).toArray 26)
def laidB (w : World) : World := ((laidA w).setRow w.heap.size (H0.map u32v).toArray).setRow (w.heap.size + 1) (K0.map u32v).toArray
theorem laid_4 (w : World) : (laidA w).heap[w.heap.size]? = some (.cells noW8.toArray 25 (0, 0)) :=
  Blk.alloc (Blk.new w noW8.toArray 25) _
theorem laid_5 (w : World) : ((laidA w).setRow w.heap.size (H0.map u32v).toArray).heap[w.heap.size + 1]? = some (.cells (List.replicate 64 (Value.int .u32 0)).toArray 26 (0, 0)) := by
  have h : Blk (laidA w) (w.heap.size + 1) (List.replicate 64 (Value.int .u32 0)).toArray 26 := Blk.newAt _ _ (by simp)
  exact Blk.chg h (chg_setRow _ w.heap.size _) (by simp)
theorem laid_H (w : World) : BlkL (laidB w) w.heap.size (H0.map u32v) 25 := by
  have h : Blk ((laidA w).setRow w.heap.size (H0.map u32v).toArray) w.heap.size (H0.map u32v).toArray 25 := setRow_heap _ _ _ _ _ _ (laid_4 w)
  exact Blk.chg h (chg_setRow _ (w.heap.size + 1) _) (by simp)
theorem laid_K (w : World) : BlkL (laidB w) (w.heap.size + 1) (K0.map u32v) 26 := setRow_heap _ _ _ _ _ _ (laid_5 w)
theorem laid_chg (w : World) : Chg none w (laidB w) := by
  have h1 : Chg none w (laidA w) := ((Chg.refl _ _).alloc _).alloc _
  have h2 : Chg none w ((laidA w).setRow w.heap.size (H0.map u32v).toArray) := Chg.own h1 (chg_setRow _ _ _) (Nat.le_refl _)
  exact Chg.own h2 (chg_setRow _ _ _) (by omega)
theorem built79 : Tryd.prog.built 110 [(0, .agg (H0.map u32v).toArray), (1, .agg (K0.map u32v).toArray)] = some ((H0 ++ K0).map u32v).toArray := by kernel_rfl
theorem hash_new (w : World) : HashAt (w.alloc (.cells ((H0 ++ K0).map u32v).toArray 110)) w.heap.size := by
  have hb : BlkL (w.alloc (.cells ((H0 ++ K0).map u32v).toArray 110)) w.heap.size ((H0 ++ K0).map u32v) 110 := Blk.new _ _ _
  have hl : (H0.map u32v).length = 8 := rfl
  refine ⟨fun j v hj => ?_, fun j v hj => ?_⟩
  · rw [Nat.zero_add, BlkL.cell hb, List.map_append, List.getElem?_append_left (List.getElem?_eq_some_iff.1 hj).1]; exact hj
  · rw [BlkL.cell hb, List.map_append, List.getElem?_append_right (by rw [hl]; omega), hl, Nat.add_sub_cancel_left]; exact hj
set_option maxRecDepth 100000 in
set_option maxHeartbeats 8000000 in
theorem newr_any (w : World) : Calls Tryd.prog 48 #[] w fun e w' => ∃ x, e = .returned (.pointer (some ⟨x, 0, none⟩)) ∧ HashAt w' x ∧ Chg none w w' := by
  obtain ⟨HH, hHH⟩ : ∃ HH, HH = (H0.map u32v).toArray := ⟨_, rfl⟩
  obtain ⟨KK, hKK⟩ : ∃ KK, KK = (K0.map u32v).toArray := ⟨_, rfl⟩
  obtain ⟨HK, hHK⟩ : ∃ HK, HK = ((H0 ++ K0).map u32v).toArray := ⟨_, rfl⟩
  have HJ25 : Hid ((Tryd.prog.info? 25).map (·.size) = some HH.size) := by rw [hHH]; show _ = _; kernel_rfl
  have HJ26 : Hid ((Tryd.prog.info? 26).map (·.size) = some KK.size) := by rw [hKK]; show _ = _; kernel_rfl
  have HO25 : Hid (HH.all (·.oneCell') = true) := by rw [hHH]; show _ = _; kernel_rfl
  have HO26 : Hid (KK.all (·.oneCell') = true) := by rw [hKK]; show _ = _; kernel_rfl
  have HZ25 : Hid (noW8.toArray.size = HH.size) := by rw [hHH]; show _ = _; kernel_rfl
  have HZ26 : Hid ((List.replicate 64 (Value.int .u32 0)).toArray.size = KK.size) := by rw [hKK]; show _ = _; kernel_rfl
  have HK4 : Hid (∀ v : World, ((v.alloc (.cells #[Value.int IntKind.u32 0, Value.int IntKind.u32 0, Value.int IntKind.u32 0, Value.int IntKind.u32 0, Value.int IntKind.u32 0, Value.int IntKind.u32 0, Value.int IntKind.u32 0, Value.int IntKind.u32 0] 25)).alloc (.cells #[Value.int IntKind.u32 0, Value.int IntKind.u32 0, Value.int IntKind.u32 0, Value.int IntKind.u32 0, Value.int IntKind.u32 0, Value.int IntKind.u32 0, Value.int IntKind.u32 0, Value.int IntKind.u32 0, Value.int IntKind.u32 0, Value.int IntKind.u32 0, Value.int IntKind.u32 0, Value.int IntKind.u32 0, Value.int IntKind.u32 0, Value.int IntKind.u32 0, Value.int IntKind.u32 0, Value.int IntKind.u32 0, Value.int IntKind.u32 0, Value.int IntKind.u32 0, Value.int IntKind.u32 0, Value.int IntKind.u32 0, Value.int IntKind.u32 0, Value.int IntKind.u32 0, Value.int IntKind.u32 0, Value.int IntKind.u32 0, Value.int IntKind.u32 0, Value.int IntKind.u32 0, Value.int IntKind.u32 0, Value.int IntKind.u32 0, Value.int IntKind.u32 0, Value.int IntKind.u32 0, Value.int IntKind.u32 0, Value.int IntKind.u32 0, Value.int IntKind.u32 0, Value.int IntKind.u32 0, Value.int IntKind.u32 0, Value.int IntKind.u32 0, Value.int IntKind.u32 0, Value.int IntKind.u32 0, Value.int IntKind.u32 0, Value.int IntKind.u32 0, Value.int IntKind.u32 0, Value.int IntKind.u32 0, Value.int IntKind.u32 0, Value.int IntKind.u32 0, Value.int IntKind.u32 0, Value.int IntKind.u32 0, Value.int IntKind.u32 0, Value.int IntKind.u32 0, Value.int IntKind.u32 0, Value.int IntKind.u32 0, Value.int IntKind.u32 0, Value.int IntKind.u32 0, Value.int IntKind.u32 0, Value.int IntKind.u32 0, Value.int IntKind.u32 0, Value.int IntKind.u32 0, Value.int IntKind.u32 0, Value.int IntKind.u32 0, Value.int IntKind.u32 0, Value.int IntKind.u32 0, Value.int IntKind.u32 0, Value.int IntKind.u32 0, Value.int IntKind.u32 0, Value.int IntKind.u32 0] 26)).heap[v.heap.size]? = some (.cells noW8.toArray 25 (0, 0))) := fun v => laid_4 v
  have HK5 : Hid (∀ v : World, (((v.alloc (.cells #[Value.int IntKind.u32 0, Value.int IntKind.u32 0, Value.int IntKind.u32 0, Value.int IntKind.u32 0, Value.int IntKind.u32 0, Value.int IntKind.u32 0, Value.int IntKind.u32 0, Value.int IntKind.u32 0] 25)).alloc (.cells #[Value.int IntKind.u32 0, Value.int IntKind.u32 0, Value.int IntKind.u32 0, Value.int IntKind.u32 0, Value.int IntKind.u32 0, Value.int IntKind.u32 0, Value.int IntKind.u32 0, Value.int IntKind.u32 0, Value.int IntKind.u32 0, Value.int IntKind.u32 0, Value.int IntKind.u32 0, Value.int IntKind.u32 0, Value.int IntKind.u32 0, Value.int IntKind.u32 0, Value.int IntKind.u32 0, Value.int IntKind.u32 0, Value.int IntKind.u32 0, Value.int IntKind.u32 0, Value.int IntKind.u32 0, Value.int IntKind.u32 0, Value.int IntKind.u32 0, Value.int IntKind.u32 0, Value.int IntKind.u32 0, Value.int IntKind.u32 0, Value.int IntKind.u32 0, Value.int IntKind.u32 0, Value.int IntKind.u32 0, Value.int IntKind.u32 0, Value.int IntKind.u32 0, Value.int IntKind.u32 0, Value.int IntKind.u32 0, Value.int IntKind.u32 0, Value.int IntKind.u32 0, Value.int IntKind.u32 0, Value.int IntKind.u32 0, Value.int IntKind.u32 0, Value.int IntKind.u32 0, Value.int IntKind.u32 0, Value.int IntKind.u32 0, Value.int IntKind.u32 0, Value.int IntKind.u32 0, Value.int IntKind.u32 0, Value.int IntKind.u32 0, Value.int IntKind.u32 0, Value.int IntKind.u32 0, Value.int IntKind.u32 0, Value.int IntKind.u32 0, Value.int IntKind.u32 0, Value.int IntKind.u32 0, Value.int IntKind.u32 0, Value.int IntKind.u32 0, Value.int IntKind.u32 0, Value.int IntKind.u32 0, Value.int IntKind.u32 0, Value.int IntKind.u32 0, Value.int IntKind.u32 0, Value.int IntKind.u32 0, Value.int IntKind.u32 0, Value.int IntKind.u32 0, Value.int IntKind.u32 0, Value.int IntKind.u32 0, Value.int IntKind.u32 0, Value.int IntKind.u32 0, Value.int IntKind.u32 0] 26)).setRow v.heap.size HH).heap[v.heap.size + 1]? = some (.cells (List.replicate 64 (Value.int .u32 0)).toArray 26 (0, 0))) := by rw [hHH]; exact fun v => laid_5 v
  have HKB : Hid (∀ v : World, ((((v.alloc (.cells #[Value.int IntKind.u32 0, Value.int IntKind.u32 0, Value.int IntKind.u32 0, Value.int IntKind.u32 0, Value.int IntKind.u32 0, Value.int IntKind.u32 0, Value.int IntKind.u32 0, Value.int IntKind.u32 0] 25)).alloc (.cells #[Value.int IntKind.u32 0, Value.int IntKind.u32 0, Value.int IntKind.u32 0, Value.int IntKind.u32 0, Value.int IntKind.u32 0, Value.int IntKind.u32 0, Value.int IntKind.u32 0, Value.int IntKind.u32 0, Value.int IntKind.u32 0, Value.int IntKind.u32 0, Value.int IntKind.u32 0, Value.int IntKind.u32 0, Value.int IntKind.u32 0, Value.int IntKind.u32 0, Value.int IntKind.u32 0, Value.int IntKind.u32 0, Value.int IntKind.u32 0, Value.int IntKind.u32 0, Value.int IntKind.u32 0, Value.int IntKind.u32 0, Value.int IntKind.u32 0, Value.int IntKind.u32 0, Value.int IntKind.u32 0, Value.int IntKind.u32 0, Value.int IntKind.u32 0, Value.int IntKind.u32 0, Value.int IntKind.u32 0, Value.int IntKind.u32 0, Value.int IntKind.u32 0, Value.int IntKind.u32 0, Value.int IntKind.u32 0, Value.int IntKind.u32 0, Value.int IntKind.u32 0, Value.int IntKind.u32 0, Value.int IntKind.u32 0, Value.int IntKind.u32 0, Value.int IntKind.u32 0, Value.int IntKind.u32 0, Value.int IntKind.u32 0, Value.int IntKind.u32 0, Value.int IntKind.u32 0, Value.int IntKind.u32 0, Value.int IntKind.u32 0, Value.int IntKind.u32 0, Value.int IntKind.u32 0, Value.int IntKind.u32 0, Value.int IntKind.u32 0, Value.int IntKind.u32 0, Value.int IntKind.u32 0, Value.int IntKind.u32 0, Value.int IntKind.u32 0, Value.int IntKind.u32 0, Value.int IntKind.u32 0, Value.int IntKind.u32 0, Value.int IntKind.u32 0, Value.int IntKind.u32 0, Value.int IntKind.u32 0, Value.int IntKind.u32 0, Value.int IntKind.u32 0, Value.int IntKind.u32 0, Value.int IntKind.u32 0, Value.int IntKind.u32 0, Value.int IntKind.u32 0, Value.int IntKind.u32 0] 26)).setRow v.heap.size HH).setRow (v.heap.size + 1) KK) = laidB v) := by rw [hHH, hKK]; exact fun v => rfl
  have HWD : Hid (∀ v : World, Calls Tryd.prog 16 #[] v fun e w' => e = .returned (.tuple #[.agg HH, .agg KK]) ∧ Chg none v w') := by rw [hHH, hKK]; exact fun v => words_any v
  have HBU : Hid (Tryd.prog.built 110 [(0, .agg HH), (1, .agg KK)] = some HK) := by rw [hHH, hKK, hHK]; exact built79
  have HNW : Hid (∀ v : World, HashAt (v.alloc (.cells HK 110)) v.heap.size) := by rw [hHK]; exact fun v => hash_new v
  have HHH := Lib.hid hHH
  have HKK := Lib.hid hKK
  clear hHH hKK hHK
  go_enter Tryd.func48, Tryd.ntmps48
  go_wp2_with fail
  refine (HWD.out w).mono ?_
  rintro e w2 ⟨rfl, g2⟩
  clear HWD
  go_upto_region 2 with (first
    | (refine wpList_store_row rfl 25 _ _ rfl w2.heap.size HH rfl rfl 25 _ (HK4.out w2) HJ25.out HZ25.out HO25.out ?_)
    | (refine wpList_store_row rfl 26 _ _ rfl (w2.heap.size + 1) KK rfl rfl 26 _ (HK5.out w2) HJ26.out HZ26.out HO26.out ?_))
  rw [HKB.out w2]
  have b4 : Blk (laidB w2) w2.heap.size HH 25 := by rw [HHH.out]; exact laid_H w2
  have b5 : Blk (laidB w2) (w2.heap.size + 1) KK 26 := by rw [HKK.out]; exact laid_K w2
  have g03 := g2.trans (laid_chg w2)
  clear HK4 HK5 HKB HO25 HO26 HZ25 HZ26 g2
  generalize laidB w2 = w3 at *
  generalize w2.heap.size + 1 = q5 at *
  generalize w2.heap.size = q4 at *
  have HR4 : Hid (w3.heap[q4]? = some (.cells HH 25 (0, 0))) := b4
  have HR5 : Hid (w3.heap[q5]? = some (.cells KK 26 (0, 0))) := b5
  have HN3 := Lib.hid (HNW.out w3)
  have g04 : Chg none w (w3.alloc (.cells HK 110)) := g03.alloc _
  clear b4 b5 HNW
  go_wp2_with (first
    | (refine wpList_load_row rfl 25 _ rfl q4 rfl 25 _ (0, 0) _ HR4.out Tryd.underlying25 rfl HJ25.out ?_)
    | (refine wpList_load_row rfl 26 _ rfl q5 rfl 26 _ (0, 0) _ HR5.out Tryd.underlying26 rfl HJ26.out ?_)
    | (refine wpList_buildTo rfl 110 _ rfl (some 9) rfl HK (by simp only [List.map_toArray, List.map_cons, List.map_nil]; exact HBU.out) ?_))
  go_ret
  exact ⟨_, rfl, HN3.out, g04⟩
set_option maxRecDepth 100000 in
set_option maxHeartbeats 8000000 in
theorem hsum_any (px : Nat) (p : Prt) (w : World) (hh : HashAt w px) (hp : p.ok w) (hn : p.x.length ≤ 1000000) :
    Calls Tryd.prog 78 #[.pointer (some ⟨px, 0, none⟩), .slice p.A p.x.length p.c] w fun e w' => e = .returned (.agg (byteVals (dig p.x)).toArray) ∧ Chg none w w' := by
  obtain ⟨W1, hW1⟩ : ∃ W1, W1 = w.alloc (.cells zero32 30) := ⟨_, rfl⟩
  have HW1 : Hid (w.alloc (.cells #[Value.int IntKind.u8 0, Value.int IntKind.u8 0, Value.int IntKind.u8 0, Value.int IntKind.u8 0, Value.int IntKind.u8 0, Value.int IntKind.u8 0, Value.int IntKind.u8 0, Value.int IntKind.u8 0, Value.int IntKind.u8 0, Value.int IntKind.u8 0, Value.int IntKind.u8 0, Value.int IntKind.u8 0, Value.int IntKind.u8 0, Value.int IntKind.u8 0, Value.int IntKind.u8 0, Value.int IntKind.u8 0, Value.int IntKind.u8 0, Value.int IntKind.u8 0, Value.int IntKind.u8 0, Value.int IntKind.u8 0, Value.int IntKind.u8 0, Value.int IntKind.u8 0, Value.int IntKind.u8 0, Value.int IntKind.u8 0, Value.int IntKind.u8 0, Value.int IntKind.u8 0, Value.int IntKind.u8 0, Value.int IntKind.u8 0, Value.int IntKind.u8 0, Value.int IntKind.u8 0, Value.int IntKind.u8 0, Value.int IntKind.u8 0] 30) = W1) := hW1.symm
  have g0 : Chg none w W1 := by rw [hW1]; exact (Chg.refl _ _).alloc _
  have bR : Blk W1 w.heap.size zero32 30 := by rw [hW1]; exact Blk.new _ _ _
  obtain ⟨T, hT⟩ : ∃ T, T = dig p.x := ⟨_, rfl⟩
  have hTl : T.length = 32 := by rw [hT, dig_len]
  obtain ⟨hts, hto⟩ := row_facts T 32 hTl
  have HIT := Lib.hid (show (Tryd.prog.info? 30).map (·.size) = some (byteVals T).toArray.size by rw [hts]; kernel_rfl)
  have HZT := Lib.hid (show zero32.size = (byteVals T).toArray.size by rw [hts]; rfl)
  have HOT := Lib.hid hto
  obtain ⟨HH, hHH⟩ : ∃ HH, HH = (H0.map u32v).toArray := ⟨_, rfl⟩
  obtain ⟨KK, hKK⟩ : ∃ KK, KK = (K0.map u32v).toArray := ⟨_, rfl⟩
  have HTG : Hid (∀ v, Chg none w v → Calls Tryd.prog 18 #[.agg HH, .agg KK, .slice p.A p.x.length p.c] v fun e w' => e = .returned (.agg (byteVals T).toArray) ∧ Chg none v w') := by
    rw [hHH, hKK, hT]; exact fun v g => sumr_any p v (hp.chg g) hn
  have HL25 : Hid ((Tryd.prog.info? 25).map (·.size) = some (H0.map u32v).length) := by show _ = _; kernel_rfl
  have HL26 : Hid ((Tryd.prog.info? 26).map (·.size) = some (K0.map u32v).length) := by show _ = _; kernel_rfl
  have hS := hh.chg g0 (by simp)
  have HNE : Hid (px ≠ w.heap.size) := by
    have h0 := hh.1 0 (u32v 1779033703) rfl
    have := World.block_lt_of_cell? w _ h0
    show px ≠ w.heap.size
    exact Nat.ne_of_lt this
  have HHH := Lib.hid hHH
  have HKK := Lib.hid hKK
  have HTT := Lib.hid hT
  clear hHH hKK hT hTl hts hto hW1 hp hh
  go_enter Tryd.func78, Tryd.ntmps78
  go_upto_region 1 with fail
  rw [HW1.out]
  clear HW1
  generalize hpR : w.heap.size = pR at *
  have HPR := Lib.hid hpR
  clear hpR
  have hS0 : HashAt W1.drew px := hS
  have E0 : Chg none w W1.drew := g0.drew
  have bR0 : Blk W1.drew pR zero32 30 := bR
  refine wp_region_held_drew (S := fun w' => HashAt w' px) (by kernel_rfl) hS0 (fun _ => ?_)
  clear hS g0 bR
  generalize W1.drew = v0 at *
  refine wpAnyH_take (i := 0) (oi := ⟨some 5, _, _, _, _, _⟩) (v := ?_) rfl (by kernel_rfl) (by kernel_rfl) (by kernel_rfl) (fun _ _ _ h => h) (Or.inl ⟨by rfl, ?_⟩) (by assumption) ?_
  rotate_left
  · intro w hSw; (try dsimp only at hSw); go_simp; (try with_reducible rfl)
  try simp only [Act.put, List.setIfInBounds_toArray, List.set_cons_zero, List.set_cons_succ]
  refine wpAnyH_take (i := 1) (oi := ⟨some 6, _, _, _, _, _⟩) (v := ?_) rfl (by kernel_rfl) (by kernel_rfl) (by kernel_rfl) (fun _ _ _ h => h) (Or.inl ⟨by rfl, ?_⟩) (by assumption) ?_
  rotate_left
  · intro w hSw; (try dsimp only at hSw); go_simp; (try with_reducible rfl)
  try simp only [Act.put, List.setIfInBounds_toArray, List.set_cons_zero, List.set_cons_succ]
  refine wpAnyH_take (i := 2) (oi := ⟨some 7, _, _, _, _, _⟩) (v := ?_) rfl (by kernel_rfl) (by kernel_rfl) (by kernel_rfl) (fun _ _ _ h => h) (Or.inl ⟨by rfl, ?_⟩) (by assumption) ?_
  rotate_left
  · intro w hSw; (try dsimp only at hSw); go_simp; (try with_reducible rfl)
  try simp only [Act.put, List.setIfInBounds_toArray, List.set_cons_zero, List.set_cons_succ]
  refine wpAnyH_take (i := 3) (oi := ⟨some 8, _, _, _, _, _⟩) (v := .agg HH) rfl (by kernel_rfl) (by kernel_rfl) (by kernel_rfl) (fun _ _ _ h => h) (by rw [HHH.out]; exact yieldsIf_load_mid (by rfl) 25 _ rfl px 0 rfl (H0.map u32v) _ (fun _ h => h.1) Tryd.underlying25 rfl HL25.out) (by assumption) ?_
  try simp only [Act.put, List.setIfInBounds_toArray, List.set_cons_zero, List.set_cons_succ]
  refine wpAnyH_take (i := 4) (oi := ⟨some 9, _, _, _, _, _⟩) (v := ?_) rfl (by kernel_rfl) (by kernel_rfl) (by kernel_rfl) (fun _ _ _ h => h) (Or.inl ⟨by rfl, ?_⟩) (by assumption) ?_
  rotate_left
  · intro w hSw; (try dsimp only at hSw); go_simp; (try with_reducible rfl)
  try simp only [Act.put, List.setIfInBounds_toArray, List.set_cons_zero, List.set_cons_succ]
  refine wpAnyH_take (i := 5) (oi := ⟨some 10, _, _, _, _, _⟩) (v := ?_) rfl (by kernel_rfl) (by kernel_rfl) (by kernel_rfl) (fun _ _ _ h => h) (Or.inl ⟨by rfl, ?_⟩) (by assumption) ?_
  rotate_left
  · intro w hSw; (try dsimp only at hSw); go_simp; (try with_reducible rfl)
  try simp only [Act.put, List.setIfInBounds_toArray, List.set_cons_zero, List.set_cons_succ]
  refine wpAnyH_take (i := 6) (oi := ⟨some 11, _, _, _, _, _⟩) (v := ?_) rfl (by kernel_rfl) (by kernel_rfl) (by kernel_rfl) (fun _ _ _ h => h) (Or.inl ⟨by rfl, ?_⟩) (by assumption) ?_
  rotate_left
  · intro w hSw; (try dsimp only at hSw); go_simp; (try with_reducible rfl)
  try simp only [Act.put, List.setIfInBounds_toArray, List.set_cons_zero, List.set_cons_succ]
  refine wpAnyH_take (i := 7) (oi := ⟨some 12, _, _, _, _, _⟩) (v := .agg KK) rfl (by kernel_rfl) (by kernel_rfl) (by kernel_rfl) (fun _ _ _ h => h) (by rw [HKK.out]; exact yieldsIf_load_mid (by rfl) 26 _ rfl px 8 rfl (K0.map u32v) _ (fun _ h => h.2) Tryd.underlying26 rfl HL26.out) (by assumption) ?_
  try simp only [Act.put, List.setIfInBounds_toArray, List.set_cons_zero, List.set_cons_succ]
  refine wpAnyH_take (i := 8) (oi := ⟨some 13, _, _, _, _, _⟩) (v := ?_) rfl (by kernel_rfl) (by kernel_rfl) (by kernel_rfl) (fun _ _ _ h => h) (Or.inl ⟨by rfl, ?_⟩) (by assumption) ?_
  rotate_left
  · intro w hSw; (try dsimp only at hSw); go_simp; (try with_reducible rfl)
  try simp only [Act.put, List.setIfInBounds_toArray, List.set_cons_zero, List.set_cons_succ]
  refine wpAnyH_ready (rs := [9]) (by kernel_rfl) (by simp) ?_
  refine AllReadyH.cons (o := ⟨some 14, _, _, _, _, _⟩) rfl (fun K hK => ?_) (AllReadyH.nil)
  go_simp
  go_at_call 18
  refine (HTG.out _ E0).mono ?_
  rintro e v1 ⟨rfl, g1⟩
  have E1 := E0.trans g1
  have hS1 : HashAt v1 px := HashAt.chg hS0 g1 (by simp)
  have bR1 := Blk.chg bR0 g1 (by simp)
  go_wp2_with fail
  refine hK.out _ _ hS1 (fun _ => ?_)
  clear hK K
  try simp only [Act.put, List.setIfInBounds_toArray, List.set_cons_zero, List.set_cons_succ]
  refine wpAnyH_ready (rs := [10]) (by kernel_rfl) (by simp) ?_
  refine AllReadyH.cons (o := ⟨none, _, _, _, _, _⟩) rfl (fun K hK => ?_) (AllReadyH.nil)
  rw [if_pos (by rfl)]
  have hne : pR ≠ px := fun h => HNE.out h.symm
  have hS2 : HashAt (World.setRow v1 pR (byteVals T).toArray) px := HashAt.chg hS1 (chg_setRow _ _ _) (by simp; exact fun h => hne h.symm)
  refine wp_store_row 30 (.tmp 4) (.tmp 14) (by rfl) pR (byteVals T).toArray (by rfl) (by rfl) 30 zero32 bR1 HIT.out HZT.out HOT.out ?_
  refine hK.out _ _ hS2 (fun _ => ?_)
  clear hK K
  refine wpAnyH_done (by kernel_rfl) ?_ _
  try simp only [Act.put]
  go_wp2_with fail
  refine bodyPost_ret (results_cell_row (p := 4) (ty := 30) Tryd.results78 _ _ pR 30 (byteVals T).toArray (0, 0) _ rfl (setRow_heap _ _ _ _ _ _ bR1) Tryd.underlying30 rfl HIT.out) rfl ⟨by rw [HTT.out], ?_⟩
  exact Chg.own (b := pR) E1 (chg_setRow _ _ _) (by rw [HPR.out]; exact Nat.le_refl _)
end Go.Proofs.YtglfakglcoffkaaDoor

namespace Go.Proofs.YtglfakglcoffkaaDoor
open Go.RowKit

set_option maxRecDepth 100000 in
set_option maxHeartbeats 4000000 in
theorem chunkr_any (p : Prt) (i : Nat) (w : World) (hp : p.ok w) (hi : i < cntN p.x.length) (hn : p.x.length ≤ 1000000) :
    Calls Tryd.prog 104 #[.slice p.A p.x.length p.c, .int .i64 i] w (OwnPost w (chunkB p.x i)) := by
  obtain ⟨i0, hi0, hz0, hz1, hz2⟩ := info_parts Tryd.info5
  have hlo := cnt_lo hi
  have HL := Lib.hid (fun v => sizer_nat p.x.length i (by omega) hlo v)
  have hch : 64 * i + chunkN p.x.length i ≤ p.x.length := by unfold chunkN; omega
  have hq : ∀ v : World, (Instr.sliceAt 22 (.slice p.A p.x.length p.c) (some (.int .i64 (64 * (i : Int)))) (some (.int .i64 (64 * (i : Int) + (chunkN p.x.length i : Nat)))) none).run Tryd.prog v = .ok (.slice (partPrt p i).A (chunkN p.x.length i) (partPrt p i).c) v := fun v => by
    have h := cut_lo_hi p.A p.x.length p.c (64 * i) (64 * i + chunkN p.x.length i) (by omega) (by have := hp.2; omega) v
    have e1 : ((64 * i : Nat) : Int) = 64 * (i : Int) := by omega
    have e2 : ((64 * i + chunkN p.x.length i : Nat) : Int) = 64 * (i : Int) + (chunkN p.x.length i : Nat) := by omega
    rw [e1, e2, Nat.add_sub_cancel_left] at h
    rw [h]
    rfl
  have hok := partPrt_ok hp i hi
  have hpx := partPrt_x p i
  have hcl : (chunkB p.x i).length = chunkN p.x.length i := chunkB_len p.x i hlo
  have gE : Chg none w (w.alloc (.cells #[] 5 (0, 0))) := (Chg.refl _ _).alloc _
  have hr := txt_reads (hok.1.chg gE)
  rw [hpx, hcl] at hr
  have hcn : chunkN p.x.length i ≤ 64 := by unfold chunkN; omega
  have HR := Lib.hid hr
  have HO := Lib.hid (byteVals_one (chunkB p.x i))
  have HOWN := Lib.hid (own_emptyB w)
  unfold OwnPost
  rw [hcl]
  clear hr hok hpx hcl hp hi
  generalize (partPrt p i).A = A1 at *
  generalize (partPrt p i).c = c1 at *
  generalize chunkB p.x i = bs at *
  generalize chunkN p.x.length i = cn at *
  generalize p.x.length = n at *
  have HSZ := Lib.hid gE.size
  go_enter Tryd.func104, Tryd.ntmps104
  go_wp2_with fail
  refine (HL.out _).mono ?_
  rintro e w' ⟨rfl, rfl⟩
  go_wp2_with (at_builtin; refine wpList_append_any _ rfl (.tmp 5) (.tmp 16) 22 rfl w.heap.size 5 i0 (.int .u8 0) 1 1 Tryd.underlying22 hi0 hz0 hz1 hz2 rfl (by decide) _ 0 (byteVals []) rfl HOWN.out _ A1 cn c1 (byteVals bs) rfl HR.out HO.out (by unfold maxLen; omega) (by omega) HSZ.out ?_)
  intro v1 w1 hown1 hgr1 _
  have g1 := own_chg gE HOWN.out (Nat.le_refl _) hgr1
  have e1 : byteVals [] ++ byteVals bs = byteVals bs := rfl
  rw [e1] at hown1
  obtain ⟨A2, c2, rfl⟩ := own_slice hown1
  have HOWN1 := Lib.hid hown1
  clear hown1 hgr1 HOWN HR HO gE
  go_wp2_with fail
  go_ret
  exact ⟨A2, c2, rfl, HOWN1.out, g1⟩
/-- A row of digests, as a slice of them. -/
structure Drw where
  A : Option Addr
  L : List Dg
  c : Nat
def Drw.val (d : Drw) : Value := .slice d.A d.L.length d.c
def drwVals (Q : List Drw) : List Value := Q.map Drw.val
theorem drw_one (Q : List Drw) : ∀ v ∈ drwVals Q, v.oneCell' = true := by
  intro v hv
  obtain ⟨p, _, rfl⟩ := List.mem_map.1 hv
  rfl
/-- The row is there, in a block other than g. -/
def RowOk (w : World) (g : Option Nat) (r : Drw) : Prop := r.L.length ≤ r.c ∧ (0 < r.L.length → ∃ b o, r.A = some ⟨b, o, none⟩ ∧ b < w.heap.size ∧ some b ≠ g ∧ w.rangeAt b o (flat r.L))
def RowsOk (w : World) (g : Option Nat) (Q : List Drw) : Prop := ∀ r ∈ Q, RowOk w g r
theorem RowOk.chg {w w' : World} {g c : Option Nat} {r : Drw} (h : RowOk w g r) (hg : Chg c w w') (hc : c = none ∨ c = g) : RowOk w' g r :=
  ⟨h.1, fun h0 => by
    obtain ⟨b, o, e, hb, hne, hr⟩ := h.2 h0
    exact ⟨b, o, e, Nat.lt_of_lt_of_le hb hg.size, hne, rangeAt_chg hr hg (by rcases hc with rfl | rfl; exact (by simp); exact hne)⟩⟩
theorem RowOk.move {w w' : World} {g g' : Option Nat} {r : Drw} (h : RowOk w g r) (hg : Chg g w w') (hc : g' = g ∨ g' = some w.heap.size) : RowOk w' g' r :=
  ⟨h.1, fun h0 => by
    obtain ⟨b, o, e, hb, hne, hr⟩ := h.2 h0
    refine ⟨b, o, e, Nat.lt_of_lt_of_le hb hg.size, ?_, rangeAt_chg hr hg hne⟩
    rcases hc with rfl | rfl
    · exact hne
    · simp; omega⟩
theorem RowOk.other {w : World} {g g' : Option Nat} {r : Drw} (h : RowOk w g r) (hg : ∀ b, b < w.heap.size → some b ≠ g → some b ≠ g') : RowOk w g' r :=
  ⟨h.1, fun h0 => by
    obtain ⟨b, o, e, hb, hne, hr⟩ := h.2 h0
    exact ⟨b, o, e, hb, hg b hb hne, hr⟩⟩
theorem RowsOk.chg {w w' : World} {g c : Option Nat} {Q : List Drw} (h : RowsOk w g Q) (hg : Chg c w w') (hc : c = none ∨ c = g) : RowsOk w' g Q := fun r hr => (h r hr).chg hg hc
theorem RowsOk.move {w w' : World} {g g' : Option Nat} {Q : List Drw} (h : RowsOk w g Q) (hg : Chg g w w') (hc : g' = g ∨ g' = some w.heap.size) : RowsOk w' g' Q := fun r hr => (h r hr).move hg hc
theorem RowsOk.snoc {w : World} {g : Option Nat} {Q : List Drw} {r : Drw} (h : RowsOk w g Q) (hr : RowOk w g r) : RowsOk w g (Q ++ [r]) := fun s hs => by
  rcases List.mem_append.1 hs with h1 | h1
  · exact h s h1
  · obtain rfl := List.mem_singleton.1 h1; exact hr
theorem row_of_own {w : World} {base n c : Nat} {A : Option Addr} {L : List Dg} (h : w.ownsRow base 30 32 (.slice A n c) n (flat L)) (h0 : 0 < n) :
    n = L.length ∧ n ≤ c ∧ ∃ b, A = some ⟨b, 0, none⟩ ∧ base ≤ b ∧ b < w.heap.size ∧ w.rangeAt b 0 (flat L) := by
  obtain ⟨hd, hn, hc⟩ := dgs_of_own h
  obtain ⟨g, cap, hv, _, hlt⟩ := h.form h0
  have hA : A = some ⟨g, 0, none⟩ := by injection hv
  subst hA
  refine ⟨hn, hc, g, rfl, (h.lt g rfl).1, hlt, fun j v hv => ?_⟩
  have := h.cells (g := g) rfl j v hv
  rwa [Go.WideShapes.add_plain] at this
theorem flat_part {w : World} {b o : Nat} {L : List Dg} (h : w.rangeAt b o (flat L)) (i : Nat) (hi : i < L.length) : w.rangeAt b (o + i * 32) (byteVals L[i].1) := fun j v hj => by
  have hj32 : j < 32 := by have := (List.getElem?_eq_some_iff.1 hj).1; rwa [byteVals_len, L[i].2] at this
  have := h (i * 32 + j) v (by rw [← hj]; exact flat_get dgCells 32 dgCells_len L i j _ (List.getElem?_eq_getElem hi) hj32)
  rwa [← Nat.add_assoc] at this
theorem own_one51 (w : World) (B : Nat) (hB : B ≤ w.heap.size) (v : Value) : (w.alloc (.cells #[v] 114 (0, 0))).ownsRow B 114 1 (.slice (some ⟨w.heap.size, 0, none⟩) 1 1) 1 [v] :=
  ⟨rfl, .inr ⟨w.heap.size, 1, #[v], rfl, hB, heap_alloc_new w _, Nat.le_refl _, by unfold maxLen; decide, rfl, rfl⟩⟩
theorem Tryd.info114 : (Tryd.prog.info? 114).map (fun i => (i.zero, i.size, i.bytes)) = some (some (.slice none 0 0), 1, 24) := by kernel_rfl
theorem reads_drow (w : World) (v : Value) : Reads (w.alloc (.cells #[v] 114 (0, 0))) (w.alloc (.cells #[v] 114 (0, 0))).heap.size 1 (some ⟨w.heap.size, 0, none⟩) 1 [v] :=
  ⟨rfl, fun _ => ⟨_, rfl, by simp, fun q u hu => by
    match q, hu with
    | 0, hu =>
      simp only [List.getElem?_cons_zero, Option.some.injEq] at hu
      subst hu
      rw [Go.WideShapes.add_plain, Nat.zero_add, (Blk.new w _ 114).cell]; rfl⟩⟩
theorem reads_dgw (w : World) (d : Dg) : Reads (w.alloc (.cells (byteVals d.1).toArray 30)) (w.alloc (.cells (byteVals d.1).toArray 30)).heap.size 32 (some ⟨w.heap.size, 0, none⟩) 1 (byteVals d.1) :=
  ⟨by rw [byteVals_len, d.2], fun _ => ⟨_, rfl, by simp, fun q u hu => by
    rw [Go.WideShapes.add_plain, Nat.zero_add, BlkL.cell (show BlkL _ w.heap.size (byteVals d.1) 30 from Blk.new _ _ _)]; exact hu⟩⟩
theorem next_take (L : List Dg) (k : Nat) (h : k < (nextB L).length) : flat ((nextB L).take k) ++ byteVals (nextDg L k).1 = flat ((nextB L).take (k + 1)) := by
  rw [List.take_succ_eq_append_getElem h, nextB_at, flat_append]; simp [flat, dgCells]
theorem leaf_take (x : List UInt8) (k : Nat) (h : k < cntN x.length) : flat ((leavesB x).take k) ++ byteVals (leafDg x k).1 = flat ((leavesB x).take (k + 1)) := by
  rw [leaves_take x k h, flat_append]; simp [flat, dgCells]
/-- What Rows tells. -/
def RowsPost (w : World) (R : List (List Dg)) (e : Ending) (w' : World) : Prop :=
  ∃ A n c Q, e = .returned (.slice A n c) ∧ Q.map Drw.L = R ∧ w'.ownsRow w.heap.size 114 1 (.slice A n c) n (drwVals Q) ∧ RowsOk w' none Q ∧ Chg none w w'
end Go.Proofs.YtglfakglcoffkaaDoor

namespace Go.Proofs.YtglfakglcoffkaaDoor
open Go.RowKit

/-- Rows under way: all but the last one are done. -/
def RowsInv (H : Nat) (w : World) (v : Value) (m b : Nat) (L : List Dg) (c : Nat) (R : List (List Dg)) : Prop :=
  ∃ Q0 : List Drw, w.ownsRow H 114 1 v m (drwVals (Q0 ++ [⟨some ⟨b, 0, none⟩, L, c⟩])) ∧ RowsOk w v.ownBlock (Q0 ++ [⟨some ⟨b, 0, none⟩, L, c⟩]) ∧ Q0.map Drw.L ++ rowsB L = R
theorem RowsInv.last {H : Nat} {w : World} {v : Value} {m b : Nat} {L : List Dg} {c : Nat} {R : List (List Dg)} (h : RowsInv H w v m b L c R) (h1 : 1 ≤ L.length) :
    b < w.heap.size ∧ w.rangeAt b 0 (flat L) ∧ L.length ≤ c := by
  obtain ⟨Q0, _, h2, _⟩ := h
  have h3 := h2 _ (List.mem_append_right _ (List.mem_singleton.2 rfl))
  obtain ⟨b', o', e, hb, _, hr⟩ := h3.2 h1
  injection e with e
  injection e with e1 e2
  subst e1; subst e2
  exact ⟨hb, hr, h3.1⟩
/-- A row more. -/
theorem RowsInv.more {H : Nat} {wA w' : World} {v v' : Value} {m b b' : Nat} {L : List Dg} {c c' : Nat} {R : List (List Dg)} (Q0 : List Drw) (hl : 1 < L.length)
    (h2 : RowsOk wA v.ownBlock (Q0 ++ [⟨some ⟨b, 0, none⟩, L, c⟩])) (h3 : Q0.map Drw.L ++ rowsB L = R)
    (hn : RowOk wA v.ownBlock ⟨some ⟨b', 0, none⟩, nextB L, c'⟩) (g : Chg v.ownBlock wA w') (hv : v'.ownBlock = v.ownBlock ∨ v'.ownBlock = some wA.heap.size)
    (ho : w'.ownsRow H 114 1 v' (m + 1) (drwVals (Q0 ++ [⟨some ⟨b, 0, none⟩, L, c⟩]) ++ [(⟨some ⟨b', 0, none⟩, nextB L, c'⟩ : Drw).val])) : RowsInv H w' v' (m + 1) b' (nextB L) c' R := by
  refine ⟨Q0 ++ [⟨some ⟨b, 0, none⟩, L, c⟩], ?_, (h2.snoc hn).move g hv, ?_⟩
  · unfold drwVals at ho ⊢
    rw [List.map_append (l₁ := Q0 ++ [_])]
    exact ho
  · rw [List.map_append, List.append_assoc, ← h3, rowsB_step L hl]; rfl
set_option maxRecDepth 100000 in
set_option maxHeartbeats 16000000 in
theorem rowsr_any (px : Nat) (p : Prt) (w : World) (hh : HashAt w px) (hp : p.ok w) (hn : p.x.length ≤ 100000) :
    Calls Tryd.prog 79 #[.pointer (some ⟨px, 0, none⟩), .slice p.A p.x.length p.c] w (RowsPost w (rowsB (leavesB p.x))) := by
  obtain ⟨i0, hi0, hz0, hz1, hz2⟩ := info_parts Tryd.info30
  obtain ⟨j0, hj0, hy0, hy1, hy2⟩ := info_parts Tryd.info114
  obtain ⟨x, hx⟩ : ∃ x, x = p.x := ⟨_, rfl⟩
  obtain ⟨n, hnn⟩ : ∃ n, n = p.x.length := ⟨_, rfl⟩
  obtain ⟨C, hC⟩ : ∃ C, C = cntN n := ⟨_, rfl⟩
  obtain ⟨H, hH⟩ : ∃ H, H = w.heap.size := ⟨_, rfl⟩
  have HCNT : Hid (∀ v, Calls Tryd.prog 102 #[.int .i64 n] v fun e w' => e = .returned (.int .i64 C) ∧ v = w') := fun v => by rw [hC]; exact countr_nat n (by omega) v
  have HCH : Hid (∀ (v : World) (k : Nat), Chg none w v → k < C → ∃ bs : List UInt8, bs.length ≤ 64 ∧ leafB k bs = (leafDg x k).1 ∧ Calls Tryd.prog 104 #[.slice p.A n p.c, .int .i64 k] v (OwnPost v bs)) := fun v k g hk => by
    have hk' : k < cntN p.x.length := by rw [← hnn, ← hC]; exact hk
    refine ⟨chunkB p.x k, by rw [chunkB_len _ _ (cnt_lo hk')]; unfold chunkN; omega, by rw [hx]; rfl, ?_⟩
    rw [hnn]
    exact chunkr_any p k v (hp.chg g) hk' (by omega)
  have HLF : Hid (∀ (v : World) (A : Option Addr) (bs : List UInt8) (k c : Nat), Txt v A bs → bs.length ≤ c → k < C → bs.length ≤ 64 → ∃ ls : List UInt8, dig ls = leafB k bs ∧ ls.length ≤ 100 ∧ Calls Tryd.prog 103 #[.int .i64 k, .slice A bs.length c] v (OwnPost v ls)) := fun v A bs k c h1 h2 h3 h4 =>
    ⟨0 :: (be 8 k ++ bs), rfl, by rw [List.length_cons, List.length_append, be_len]; omega, leafr_any k ⟨A, bs, c⟩ v ⟨h1, h2⟩ (by unfold cntN at hC; omega) (by show bs.length ≤ 1000000; omega)⟩
  have HSM : Hid (∀ (v : World) (A : Option Addr) (bs : List UInt8) (c : Nat), Chg none w v → Txt v A bs → bs.length ≤ c → bs.length ≤ 100 → Calls Tryd.prog 78 #[.pointer (some ⟨px, 0, none⟩), .slice A bs.length c] v fun e w' => e = .returned (.agg (byteVals (dig bs)).toArray) ∧ Chg none v w') := fun v A bs c g h1 h2 h3 =>
    hsum_any px ⟨A, bs, c⟩ v (hh.chg g (by simp)) ⟨h1, h2⟩ (by show bs.length ≤ 1000000; omega)
  have HND : Hid (∀ (v : World) (l r : Dg), ∃ ls : List UInt8, dig ls = pairB l.1 r.1 ∧ ls.length ≤ 100 ∧ Calls Tryd.prog 105 #[.agg (byteVals l.1).toArray, .agg (byteVals r.1).toArray] v (OwnPost v ls)) := fun v l r =>
    ⟨1 :: (l.1 ++ r.1), rfl, by rw [List.length_cons, List.length_append, l.2, r.2]; decide, noder_any l r v⟩
  have hL0 : (leavesB x).length = C := by rw [hx, leavesB_len, ← hnn, ← hC]
  have HLT : Hid (∀ k, k < C → flat ((leavesB x).take k) ++ byteVals (leafDg x k).1 = flat ((leavesB x).take (k + 1))) := fun k hk => leaf_take x k (by rw [hx, ← hnn, ← hC]; exact hk)
  have hC1 : 1 ≤ C := by rw [hC]; unfold cntN; omega
  have hC2 : C ≤ 100000 := by rw [hC]; unfold cntN; omega
  have hI30 : (Tryd.prog.info? 30).map (·.size) = some 32 := by kernel_rfl
  have HIL : Hid (∀ d : Dg, (Tryd.prog.info? 30).map (·.size) = some (byteVals d.1).length) := fun d => by rw [byteVals_len, d.2]; exact hI30
  have HFD : Hid (∀ d : Dg, Instr.fill (fun i => some (i * i0.size, i0.size)) ((Array.range (1 * i0.size)).map ((Value.agg zero32).cells[· % (Value.agg zero32).cells.size]!)) [(0, .agg (byteVals d.1).toArray)] = some (byteVals d.1).toArray) := fun d => fill_dg d.1 d.2 i0 hz1
  have HO1 : Hid (∀ d : Dg, ∀ v ∈ byteVals d.1, v.oneCell' = true) := fun d => byteVals_one d.1
  have HH := Lib.hid hH
  unfold RowsPost
  rw [← hnn, ← hx, ← hH]
  obtain ⟨R, hR⟩ : ∃ R, R = rowsB (leavesB x) := ⟨_, rfl⟩
  rw [← hR]
  have HR := Lib.hid hR
  have HL0 := Lib.hid hL0
  clear hx hnn hC hH hR hL0 hh hp hI30 hn
  go_enter Tryd.func79, Tryd.ntmps79
  go_wp2_with fail
  go_loopw [5, 6] (fun s5 s6 wr => ∃ (k : Nat) (A : Option Addr) (c : Nat), k ≤ C ∧ s6 = .int .i64 k ∧ s5 = .slice A k c ∧ wr.ownsRow H 30 32 (.slice A k c) k (flat ((leavesB x).take k)) ∧ Chg none w wr) (fun _ s6 _ => C - (intOf s6).toNat)
  case atStart => exact ⟨0, none, 0, by omega, rfl, rfl, World.ownsRow_nil _ _ _ _, Chg.refl _ _⟩
  case round =>
    obtain ⟨k, A, c, hk, rfl, rfl, hown, gk⟩ := hrel
    have HOWN := Lib.hid hown
    clear hown
    go_wp2_with fail
    refine (HCNT.out _).mono ?_
    rintro e w' ⟨rfl, rfl⟩
    by_cases hlt : k < C
    · have hdl : decide ((k : Int) < (C : Int)) = true := by simp; omega
      obtain ⟨bs, hbs, hlf, hch⟩ := HCH.out wr k gk hlt
      have HC1 := Lib.hid hch
      clear hch
      go_wp2_with fail
      refine HC1.out.mono ?_
      rintro e w2 ⟨A2, c2, rfl, hown2, g2⟩
      obtain ⟨hT2, -, hc2⟩ := own_txt hown2
      obtain ⟨ls, hls, hll, hlc⟩ := HLF.out w2 A2 bs k c2 hT2 hc2 hlt hbs
      have HC2 := Lib.hid hlc
      have g02 := gk.trans g2
      have HOWN2 := Lib.hid (HOWN.out.kept g2 (by cases (Value.slice A k c).ownBlock <;> simp))
      clear hown2 hT2 hc2 hlc g2 HC1 HOWN
      go_wp2_with fail
      refine HC2.out.mono ?_
      rintro e w3 ⟨A3, c3, rfl, hown3, g3⟩
      obtain ⟨hT3, -, hc3⟩ := own_txt hown3
      have g03 := g02.trans g3
      have HC3 := Lib.hid (HSM.out w3 A3 ls c3 g03 hT3 hc3 hll)
      rw [hls, hlf] at HC3
      have HOWN3 := Lib.hid (HOWN2.out.kept g3 (by cases (Value.slice A k c).ownBlock <;> simp))
      clear hown3 hT3 hc3 g3 HC2 HOWN2 g02
      obtain ⟨D, hD⟩ : ∃ D, D = leafDg x k := ⟨_, rfl⟩
      have htk := HLT.out k hlt
      rw [← hD] at HC3 htk
      have HTK := Lib.hid htk
      clear hls hlf hbs hll hD htk
      go_wp2_with fail
      refine HC3.out.mono ?_
      rintro e w4 ⟨rfl, g4⟩
      have g04 := g03.trans g4
      have HOWN4 := Lib.hid (HOWN3.out.kept g4 (by cases (Value.slice A k c).ownBlock <;> simp))
      have HSZ : Hid (H ≤ (w4.alloc (.cells (byteVals D.1).toArray 30)).heap.size) := by rw [HH.out]; exact (g04.alloc _).size
      have HRD := Lib.hid (reads_dgw w4 D)
      clear g4 HC3 HOWN3 g03
      go_wp2_with (first
        | (refine wpList_buildSlice rfl 114 30 1 _ rfl (byteVals D.1).toArray i0 (.agg zero32) Tryd.underlying114 hi0 hz0 (by rw [hz1]; decide) (by rw [hz1]; decide) (by simp only [List.map_toArray, List.map_cons, List.map_nil]; exact HFD.out D) ?_)
        | (at_builtin; refine wpList_append_any _ rfl (.tmp 17) (.tmp 25) 114 rfl H 30 i0 (.agg zero32) 32 32 Tryd.underlying114 hi0 hz0 hz1 hz2 rfl (by decide) _ k _ rfl (HOWN4.out.alloc _) _ (some ⟨w4.heap.size, 0, none⟩) 1 1 (byteVals D.1) rfl HRD.out (HO1.out D) (by unfold maxLen; omega) (by omega) HSZ.out ?_))
      intro v6 w6 hown6 hgr6 _
      rw [HTK.out] at hown6
      have g6 : Chg none w w6 := own_chg (g04.alloc (.cells (byteVals D.1).toArray 30)) (HOWN4.out.alloc _) (by rw [HH.out]; exact Nat.le_refl _) hgr6
      obtain ⟨A6, c6, rfl⟩ := own_slice hown6
      have HOWN6 := Lib.hid hown6
      clear hown6 hgr6 HOWN4 HRD HSZ g04
      go_wp2_with fail
      go_roundw
      case rel => exact ⟨k + 1, A6, c6, by omega, by go_num, rfl, HOWN6.out, g6⟩
      case measure => first | (simp [intOf]; done) | (simp [intOf]; omega)
    · obtain rfl : k = C := by omega
      have hown := HOWN.out
      rw [List.take_of_length_le (by rw [HL0.out]; exact Nat.le_refl _)] at hown
      obtain ⟨-, hkc, b0, rfl, hb0H, hb0, hr0⟩ := row_of_own hown (by omega)
      obtain ⟨w1, rfl⟩ : ∃ w1 : World, w1 = wr := ⟨_, rfl⟩
      have HHw : Hid (H ≤ w1.heap.size) := by rw [HH.out]; exact gk.size
      have gA : Chg none w1 (w1.alloc (.cells #[.slice (some ⟨b0, 0, none⟩) k c] 114)) := (Chg.refl _ _).alloc _
      have hdl : decide ((k : Int) < (k : Int)) = false := by simp
      obtain ⟨L0, hL0e⟩ : ∃ L0, L0 = leavesB x := ⟨_, rfl⟩
      rw [← hL0e] at HL0 hr0 HR
      have HQ7 : Hid (RowsInv H (w1.alloc (.cells #[.slice (some ⟨b0, 0, none⟩) k c] 114)) (.slice (some ⟨w1.heap.size, 0, none⟩) 1 1) 1 b0 L0 c R) := by
        refine ⟨[], ?_, ?_, HR.out.symm⟩
        · have := own_one51 w1 H HHw.out (.slice (some ⟨b0, 0, none⟩) k c)
          show World.ownsRow _ _ _ _ _ _ [Value.slice (some ⟨b0, 0, none⟩) L0.length c]
          rw [HL0.out]; exact this
        · intro r hr
          obtain rfl := List.mem_singleton.1 hr
          exact ⟨by show L0.length ≤ c; rw [HL0.out]; exact hkc, fun _ => ⟨b0, 0, rfl, Nat.lt_of_lt_of_le hb0 gA.size, by simp [Value.ownBlock]; omega, rangeAt_chg hr0 gA (by simp)⟩⟩
      have g1 := gk.trans gA
      obtain ⟨W1, hW1⟩ : ∃ W1, W1 = w1.alloc (.cells #[.slice (some ⟨b0, 0, none⟩) k c] 114) := ⟨_, rfl⟩
      rw [← hW1] at HQ7 g1
      have HW1 : Hid (w1.alloc (.cells #[.slice (some ⟨b0, 0, none⟩) k c] 114) = W1) := hW1.symm
      clear hown HOWN hr0 gA gk hL0e HR hW1 HLT HCH HLF hb0H hb0 hkc
      go_wp2_with fail
      rw [HW1.out]
      clear HW1 HHw
      generalize w1.heap.size = pQ at *
      go_loopw [5, 7] (fun s5 s7 wr => ∃ (L : List Dg) (l b c5 : Nat) (A7 : Option Addr) (m c7 : Nat), Hid (l = L.length) ∧ s5 = .slice (some ⟨b, 0, none⟩) l c5 ∧ s7 = .slice A7 m c7 ∧ Hid (RowsInv H wr (.slice A7 m c7) m b L c5 R) ∧ 1 ≤ l ∧ l + m ≤ 100010 ∧ Chg none w wr) (fun s5 _ _ => sliceLen s5)
      case atStart => exact ⟨L0, k, b0, c, some ⟨pQ, 0, none⟩, 1, 1, HL0.out.symm, rfl, rfl, HQ7.out, hC1, by omega, g1⟩
      case round =>
        obtain ⟨L, l, b, c5, A7, m, c7, HLl, rfl, rfl, HI, hl1, hlm, gr⟩ := hrel
        obtain ⟨w2, rfl⟩ : ∃ w2 : World, w2 = wr := ⟨_, rfl⟩
        clear HQ7 g1 HL0
        have hLl := HLl.out
        obtain ⟨hbs, hrb, hlc⟩ := HI.out.last (by omega)
        by_cases hlt : 1 < l
        · obtain ⟨M, hM⟩ : ∃ M, M = (nextB L).length := ⟨_, rfl⟩
          have hM2 : M = (l + 1) / 2 := by rw [hM, nextB_len, hLl]
          obtain ⟨B1, hB1⟩ : ∃ B1, B1 = w2.heap.size := ⟨_, rfl⟩
          have HB1 := Lib.hid hB1
          have HM := Lib.hid hM
          have HM2 := Lib.hid hM2
          have hMl : M < l := by omega
          have HRB := Lib.hid hrb
          have HNT : Hid (∀ k, k < M → flat ((nextB L).take k) ++ byteVals (nextDg L k).1 = flat ((nextB L).take (k + 1))) := fun k hk => next_take L k (by rw [← hM]; exact hk)
          have HBS : Hid (b < B1) := by rw [hB1]; exact hbs
          have hdt : decide ((1 : Int) < (l : Int)) = true := by simp; omega
          clear hM hM2 hB1 hrb hLl hbs hlc
          go_wp2_with fail
          go_loopw [8, 9] (fun s8 s9 wr => ∃ (k j : Nat) (A : Option Addr) (c : Nat), Hid (j = 2 * k) ∧ k ≤ M ∧ s9 = .int .i64 j ∧ s8 = .slice A k c ∧ Hid (wr.ownsRow B1 30 32 (.slice A k c) k (flat ((nextB L).take k))) ∧ Chg none w2 wr) (fun _ s9 _ => 2 * M - (intOf s9).toNat)
          case atStart => exact ⟨0, 0, none, 0, rfl, by omega, rfl, rfl, World.ownsRow_nil _ _ _ _, Chg.refl _ _⟩
          case round =>
            obtain ⟨k, j, A, c, HJ, hkM, rfl, rfl, HOWN, gk⟩ := hrel
            by_cases hjl : j < l
            · have hj := HJ.out
              have hM2 := HM2.out
              have hjL : j < L.length := by rw [← HLl.out]; exact hjl
              have hkM1 : k < M := by omega
              have hr0 := flat_part (rangeAt_chg HRB.out gk (by simp)) j hjL
              rw [Nat.zero_add] at hr0
              have g02 := gr.trans gk
              have hnt := HNT.out k hkM1
              have hg0 : L.getD j zeroDg = L[j] := by rw [List.getD_eq_getElem?_getD, List.getElem?_eq_getElem hjL]; rfl
              by_cases hj1 : j + 1 < l
              · have hjL1 : j + 1 < L.length := by rw [← HLl.out]; exact hj1
                have hr1 := flat_part (rangeAt_chg HRB.out gk (by simp)) (j + 1) hjL1
                rw [Nat.zero_add] at hr1
                have hg1 : L.getD (j + 1) zeroDg = L[j + 1] := by rw [List.getD_eq_getElem?_getD, List.getElem?_eq_getElem hjL1]; rfl
                have hnd : (nextDg L k).1 = pairB L[j].1 L[j + 1].1 := by
                  unfold nextDg
                  rw [if_neg (by unfold aloneB; rw [← HLl.out]; simp; omega)]
                  show pairB (L.getD (2 * k) zeroDg).1 (L.getD (2 * k + 1) zeroDg).1 = _
                  rw [← hj, hg0, hg1]
                generalize nextDg L k = D at *
                generalize L[j] = d0 at *
                generalize L[j + 1] = d1 at *
                have HNTK := Lib.hid hnt
                have HD := Lib.hid hnd
                have hS0 : wr.drew.rangeAt b (j * 32) (byteVals d0.1) ∧ wr.drew.rangeAt b ((j + 1) * 32) (byteVals d1.1) := ⟨hr0, hr1⟩
                clear hnt hr0 hr1 hnd hg0 hg1 hjL hjL1 hj hM2
                go_wp2_with fail
                have i1 : (0 : Int) ≤ (j : Int) + 1 := by omega
                have i2 : (j : Int) + 1 < (l : Int) := by omega
                have i3 : ((j : Int) + 1).toNat = j + 1 := by omega
                have i4 : IntKind.i64.wrap ((j : Int) + 1) = (j : Int) + 1 := by rw [IntKind.wrap_i64]; omega
                have E0 : Chg none w2 wr.drew := gk.drew
                have O0 := Lib.hid (HOWN.out.kept ((Chg.refl none wr).drew) (by cases (Value.slice A k c).ownBlock <;> simp))
                refine wp_region_held_drew (S := fun w' => w'.rangeAt b (j * 32) (byteVals d0.1) ∧ w'.rangeAt b ((j + 1) * 32) (byteVals d1.1)) (by kernel_rfl) hS0 (fun _ => ?_)
                clear HOWN gk g02
                generalize wr.drew = v0 at *
                refine wpAnyH_take (i := 0) (oi := ⟨some 43, _, _, _, _, _⟩) (v := ?_) rfl (by kernel_rfl) (by kernel_rfl) (by kernel_rfl) (fun _ _ _ h => h) (Or.inl ⟨by rfl, ?_⟩) (by assumption) ?_
                rotate_left
                · intro w hSw; (try dsimp only at hSw); go_simp; (try with_reducible rfl)
                try simp only [Act.put, List.setIfInBounds_toArray, List.set_cons_zero, List.set_cons_succ]
                refine wpAnyH_take (i := 1) (oi := ⟨some 44, _, _, _, _, _⟩) (v := ?_) rfl (by kernel_rfl) (by kernel_rfl) (by kernel_rfl) (fun _ _ _ h => h) (Or.inl ⟨by rfl, ?_⟩) (by assumption) ?_
                rotate_left
                · intro w hSw; (try dsimp only at hSw); go_simp; (try with_reducible rfl)
                try simp only [Act.put, List.setIfInBounds_toArray, List.set_cons_zero, List.set_cons_succ]
                refine wpAnyH_take (i := 2) (oi := ⟨some 45, _, _, _, _, _⟩) (v := ?_) rfl (by kernel_rfl) (by kernel_rfl) (by kernel_rfl) (fun _ _ _ h => h) (Or.inl ⟨by rfl, ?_⟩) (by assumption) ?_
                rotate_left
                · intro w hSw; (try dsimp only at hSw); go_simp; (try with_reducible rfl)
                try simp only [Act.put, List.setIfInBounds_toArray, List.set_cons_zero, List.set_cons_succ]
                refine wpAnyH_take (i := 3) (oi := ⟨some 46, _, _, _, _, _⟩) (v := ?_) rfl (by kernel_rfl) (by kernel_rfl) (by kernel_rfl) (fun _ _ _ h => h) (Or.inl ⟨by rfl, ?_⟩) (by assumption) ?_
                rotate_left
                · intro w hSw; (try dsimp only at hSw); go_simp; (try with_reducible rfl)
                try simp only [Act.put, List.setIfInBounds_toArray, List.set_cons_zero, List.set_cons_succ]
                refine wpAnyH_take (i := 4) (oi := ⟨some 47, _, _, _, _, _⟩) (v := ?_) rfl (by kernel_rfl) (by kernel_rfl) (by kernel_rfl) (fun _ _ _ h => h) (Or.inl ⟨by rfl, ?_⟩) (by assumption) ?_
                rotate_left
                · intro w hSw; (try dsimp only at hSw); go_simp; (try with_reducible rfl)
                try simp only [Act.put, List.setIfInBounds_toArray, List.set_cons_zero, List.set_cons_succ]
                refine wpAnyH_take (i := 5) (oi := ⟨some 48, _, _, _, _, _⟩) (v := .agg (byteVals d0.1).toArray) rfl (by kernel_rfl) (by kernel_rfl) (by kernel_rfl) (fun _ _ _ h => h) (yieldsIf_load_mid (by rfl) 30 _ rfl b (j * 32) rfl (byteVals d0.1) _ (fun _ h => h.1) Tryd.underlying30 rfl (HIL.out d0)) (by assumption) ?_
                try simp only [Act.put, List.setIfInBounds_toArray, List.set_cons_zero, List.set_cons_succ]
                refine wpAnyH_take (i := 6) (oi := ⟨some 49, _, _, _, _, _⟩) (v := ?_) rfl (by kernel_rfl) (by kernel_rfl) (by kernel_rfl) (fun _ _ _ h => h) (Or.inl ⟨by rfl, ?_⟩) (by assumption) ?_
                rotate_left
                · intro w hSw; (try dsimp only at hSw); go_simp; (try with_reducible rfl)
                try simp only [Act.put, List.setIfInBounds_toArray, List.set_cons_zero, List.set_cons_succ]
                refine wpAnyH_take (i := 7) (oi := ⟨some 50, _, _, _, _, _⟩) (v := ?_) rfl (by kernel_rfl) (by kernel_rfl) (by kernel_rfl) (fun _ _ _ h => h) (Or.inl ⟨by rfl, ?_⟩) (by assumption) ?_
                rotate_left
                · intro w hSw; (try dsimp only at hSw); go_simp; (try with_reducible rfl)
                try simp only [Act.put, List.setIfInBounds_toArray, List.set_cons_zero, List.set_cons_succ]
                refine wpAnyH_take (i := 8) (oi := ⟨some 51, _, _, _, _, _⟩) (v := ?_) rfl (by kernel_rfl) (by kernel_rfl) (by kernel_rfl) (fun _ _ _ h => h) (Or.inl ⟨by rfl, ?_⟩) (by assumption) ?_
                rotate_left
                · intro w hSw; (try dsimp only at hSw); go_simp; (try with_reducible rfl)
                try simp only [Act.put, List.setIfInBounds_toArray, List.set_cons_zero, List.set_cons_succ]
                refine wpAnyH_take (i := 9) (oi := ⟨some 52, _, _, _, _, _⟩) (v := ?_) rfl (by kernel_rfl) (by kernel_rfl) (by kernel_rfl) (fun _ _ _ h => h) (Or.inl ⟨by rfl, ?_⟩) (by assumption) ?_
                rotate_left
                · intro w hSw; (try dsimp only at hSw); go_simp; (try with_reducible rfl)
                try simp only [Act.put, List.setIfInBounds_toArray, List.set_cons_zero, List.set_cons_succ]
                refine wpAnyH_take (i := 10) (oi := ⟨some 53, _, _, _, _, _⟩) (v := .agg (byteVals d1.1).toArray) rfl (by kernel_rfl) (by kernel_rfl) (by kernel_rfl) (fun _ _ _ h => h) (yieldsIf_load_mid (by rfl) 30 _ rfl b ((j + 1) * 32) rfl (byteVals d1.1) _ (fun _ h => h.2) Tryd.underlying30 rfl (HIL.out d1)) (by assumption) ?_
                try simp only [Act.put, List.setIfInBounds_toArray, List.set_cons_zero, List.set_cons_succ]
                refine wpAnyH_ready (rs := [11]) (by kernel_rfl) (by simp) ?_
                refine AllReadyH.cons (o := ⟨some 54, _, _, _, _, _⟩) rfl (fun K hK => ?_) (AllReadyH.nil)
                obtain ⟨ls, hls, hll, hlc⟩ := HND.out v0 d0 d1
                have HC1 := Lib.hid hlc
                clear hlc
                rw [← HD.out] at hls
                go_simp
                go_at_call 105
                refine HC1.out.mono ?_
                rintro e v1 ⟨A1, c1, rfl, hown1, g1⟩
                obtain ⟨hT1, -, hc1⟩ := own_txt hown1
                have E1 := E0.trans g1
                have hS1 : v1.rangeAt b (j * 32) (byteVals d0.1) ∧ v1.rangeAt b ((j + 1) * 32) (byteVals d1.1) := ⟨rangeAt_chg hS0.1 g1 (by simp), rangeAt_chg hS0.2 g1 (by simp)⟩
                have HC2 := Lib.hid (HSM.out v1 A1 ls c1 (gr.trans E1) hT1 hc1 hll)
                rw [hls] at HC2
                have O1 := Lib.hid (O0.out.kept g1 (by cases (Value.slice A k c).ownBlock <;> simp))
                clear hown1 hT1 hc1 hls hll HC1 O0
                go_wp2_with fail
                refine hK.out _ _ hS1 (fun _ => ?_)
                clear hK K
                try simp only [Act.put, List.setIfInBounds_toArray, List.set_cons_zero, List.set_cons_succ]
                refine wpAnyH_ready (rs := [12]) (by kernel_rfl) (by simp) ?_
                refine AllReadyH.cons (o := ⟨some 55, _, _, _, _, _⟩) rfl (fun K hK => ?_) (AllReadyH.nil)
                go_simp
                go_at_call 78
                refine HC2.out.mono ?_
                rintro e v2 ⟨rfl, g2⟩
                have E2 := E1.trans g2
                have hS2 : v2.rangeAt b (j * 32) (byteVals d0.1) ∧ v2.rangeAt b ((j + 1) * 32) (byteVals d1.1) := ⟨rangeAt_chg hS1.1 g2 (by simp), rangeAt_chg hS1.2 g2 (by simp)⟩
                have O2 := Lib.hid (O1.out.kept g2 (by cases (Value.slice A k c).ownBlock <;> simp))
                clear HC2 O1
                go_wp2_with fail
                refine hK.out _ _ hS2 (fun _ => ?_)
                clear hK K
                try simp only [Act.put, List.setIfInBounds_toArray, List.set_cons_zero, List.set_cons_succ]
                refine wpAnyH_ready (rs := [13]) (by kernel_rfl) (by simp) ?_
                refine AllReadyH.cons (o := ⟨some 56, _, _, _, _, _⟩) rfl (fun K hK => ?_) (AllReadyH.nil)
                rw [if_pos (by rfl)]
                have g3 : Chg none v2 (v2.alloc (.cells (byteVals D.1).toArray 30)) := (Chg.refl _ _).alloc _
                have hS3 : (v2.alloc (.cells (byteVals D.1).toArray 30)).rangeAt b (j * 32) (byteVals d0.1) ∧ (v2.alloc (.cells (byteVals D.1).toArray 30)).rangeAt b ((j + 1) * 32) (byteVals d1.1) := ⟨rangeAt_chg hS2.1 g3 (by simp), rangeAt_chg hS2.2 g3 (by simp)⟩
                have E3 := E2.trans g3
                have HSZ : Hid (B1 ≤ (v2.alloc (.cells (byteVals D.1).toArray 30)).heap.size) := by rw [HB1.out]; exact E3.size
                have HRD := Lib.hid (reads_dgw v2 D)
                refine wp_buildSlice 114 30 1 _ (by rfl) (byteVals D.1).toArray i0 (.agg zero32) Tryd.underlying114 hi0 hz0 (by rw [hz1]; decide) (by rw [hz1]; decide) (by simp only [List.map_toArray, List.map_cons, List.map_nil]; exact HFD.out D) ?_
                refine hK.out _ _ hS3 (fun _ => ?_)
                clear hK K
                try simp only [Act.put, List.setIfInBounds_toArray, List.set_cons_zero, List.set_cons_succ]
                refine wpAnyH_ready (rs := [14]) (by kernel_rfl) (by simp) ?_
                refine AllReadyH.cons (o := ⟨some 57, _, _, _, _, _⟩) rfl (fun K hK => ?_) (AllReadyH.nil)
                refine step_append_any _ (by rfl) (.tmp 43) (.tmp 56) 114 (by rfl) B1 30 i0 (.agg zero32) 32 32 Tryd.underlying114 hi0 hz0 hz1 hz2 (by rfl) (by decide) _ k _ (by rfl) (O2.out.alloc _) _ (some ⟨v2.heap.size, 0, none⟩) 1 1 (byteVals D.1) (by rfl) HRD.out (HO1.out D) (by unfold maxLen; omega) (by omega) HSZ.out ?_
                intro v6 w6 hown6 hgr6 _
                rw [HNTK.out] at hown6
                have g6 : Chg none w2 w6 := own_chg E3 (O2.out.alloc _) (by rw [HB1.out]; exact Nat.le_refl _) hgr6
                have hlt6 : ∀ g, (Value.slice A k c).ownBlock = some g → B1 ≤ g := fun g hg => (O2.out.lt g hg).1
                have hne6 : some b ≠ (Value.slice A k c).ownBlock := fun h => by have := hlt6 b h.symm; have := HBS.out; omega
                have hS6 : w6.rangeAt b (j * 32) (byteVals d0.1) ∧ w6.rangeAt b ((j + 1) * 32) (byteVals d1.1) := ⟨rangeAt_chg hS3.1 hgr6 hne6, rangeAt_chg hS3.2 hgr6 hne6⟩
                obtain ⟨A6, c6, rfl⟩ := own_slice hown6
                have HOWN6 := Lib.hid hown6
                clear hown6 hgr6 HRD HSZ hlt6 hne6
                refine hK.out _ _ hS6 (fun _ => ?_)
                clear hK K
                try simp only [Act.put, List.setIfInBounds_toArray, List.set_cons_zero, List.set_cons_succ]
                refine wpAnyH_take (i := 15) (oi := ⟨some 8, _, _, _, _, _⟩) (v := ?_) rfl (by kernel_rfl) (by kernel_rfl) (by kernel_rfl) (fun _ _ _ h => h) (Or.inl ⟨by rfl, ?_⟩) (by assumption) ?_
                rotate_left
                · intro w hSw; (try dsimp only at hSw); go_simp; (try with_reducible rfl)
                try simp only [Act.put, List.setIfInBounds_toArray, List.set_cons_zero, List.set_cons_succ]
                refine wpAnyH_done (by kernel_rfl) ?_ _
                try simp only [Act.put]
                go_wp2_with fail
                go_roundw
                case rel => exact ⟨k + 1, j + 2, A6, c6, by show _ = _; have := HJ.out; omega, by omega, by go_num, rfl, HOWN6, g6⟩
                case measure => have := HJ.out; first | (simp [intOf]; done) | (simp [intOf]; omega)
              · have hnd : nextDg L k = L[j] := by
                  unfold nextDg
                  rw [if_pos (by unfold aloneB; rw [← HLl.out]; simp; omega), ← hj, hg0]
                rw [hnd] at hnt
                generalize L[j] = D at *
                have HNTK := Lib.hid hnt
                have HR0 := Lib.hid hr0
                have HSZ : Hid (B1 ≤ (wr.alloc (.cells (byteVals D.1).toArray 30)).heap.size) := by rw [HB1.out]; exact (gk.alloc _).size
                have HRD := Lib.hid (reads_dgw wr D)
                clear hnt hr0 hnd hg0 hjL hj hM2
                go_wp2_with (first
                  | (refine wpList_load_mid rfl 30 _ rfl b (j * 32) rfl (byteVals D.1) _ HR0.out Tryd.underlying30 rfl (HIL.out D) ?_)
                  | (refine wpList_buildSlice rfl 114 30 1 _ rfl (byteVals D.1).toArray i0 (.agg zero32) Tryd.underlying114 hi0 hz0 (by rw [hz1]; decide) (by rw [hz1]; decide) (by simp only [List.map_toArray, List.map_cons, List.map_nil]; exact HFD.out D) ?_)
                  | (at_builtin; refine wpList_append_any _ rfl (.tmp 58) (.tmp 63) 114 rfl B1 30 i0 (.agg zero32) 32 32 Tryd.underlying114 hi0 hz0 hz1 hz2 rfl (by decide) _ k _ rfl (HOWN.out.alloc _) _ (some ⟨wr.heap.size, 0, none⟩) 1 1 (byteVals D.1) rfl HRD.out (HO1.out D) (by unfold maxLen; omega) (by omega) HSZ.out ?_))
                intro v6 w6 hown6 hgr6 _
                rw [HNTK.out] at hown6
                have g6 : Chg none w2 w6 := own_chg (gk.alloc (.cells (byteVals D.1).toArray 30)) (HOWN.out.alloc _) (by rw [HB1.out]; exact Nat.le_refl _) hgr6
                obtain ⟨A6, c6, rfl⟩ := own_slice hown6
                have HOWN6 := Lib.hid hown6
                clear hown6 hgr6 HOWN HRD HSZ gk g02
                go_wp2_with fail
                go_roundw
                case rel => exact ⟨k + 1, j + 2, A6, c6, by show _ = _; have := HJ.out; omega, by omega, by go_num, rfl, HOWN6, g6⟩
                case measure => have := HJ.out; first | (simp [intOf]; done) | (simp [intOf]; omega)
            · have hkM1 : k = M := by have := HJ.out; have := HM2.out; omega
              have hown := HOWN.out
              rw [hkM1, List.take_of_length_le (by rw [HM.out]; exact Nat.le_refl _)] at hown
              have hlenM : (nextB L).length = M := HM.out.symm
              have hM1 : 1 ≤ M := by have := HM2.out; omega
              obtain ⟨-, hkc, b8, hA8, hb8B, hb8, hr8⟩ := row_of_own hown (by omega)
              subst hA8
              obtain ⟨w3, rfl⟩ : ∃ w3 : World, w3 = wr := ⟨_, rfl⟩
              obtain ⟨Q0, hq1, hq2, hq3⟩ := HI.out
              subst hkM1
              have gA : Chg none w3 (w3.alloc (.cells #[.slice (some ⟨b8, 0, none⟩) k c] 114)) := (Chg.refl _ _).alloc _
              have g3A := gk.trans gA
              have hown7 : (w3.alloc (.cells #[.slice (some ⟨b8, 0, none⟩) k c] 114)).ownsRow H 114 1 (.slice A7 m c7) m (drwVals (Q0 ++ [⟨some ⟨b, 0, none⟩, L, c5⟩])) := hq1.kept g3A (by cases (Value.slice A7 m c7).ownBlock <;> simp)
              have hq2A := hq2.chg g3A (.inl rfl)
              have hn8 : RowOk (w3.alloc (.cells #[.slice (some ⟨b8, 0, none⟩) k c] 114)) (Value.slice A7 m c7).ownBlock ⟨some ⟨b8, 0, none⟩, nextB L, c⟩ :=
                ⟨by show (nextB L).length ≤ c; rw [hlenM]; omega, fun _ => ⟨b8, 0, rfl, Nat.lt_of_lt_of_le hb8 gA.size, fun e => by
                  have := (hq1.lt b8 e.symm).2
                  rw [← HB1.out] at this
                  omega, rangeAt_chg hr8 gA (by simp)⟩⟩
              have HOWN7 := Lib.hid hown7
              have HQ2 := Lib.hid hq2A
              have HQ3 := Lib.hid hq3
              have HN8 := Lib.hid hn8
              have HV8 : Hid (Value.slice (some ⟨b8, 0, none⟩) k c = (⟨some ⟨b8, 0, none⟩, nextB L, c⟩ : Drw).val) := by
                show _ = Value.slice _ (nextB L).length _
                rw [hlenM]
              have HO7 : Hid (∀ v ∈ [Value.slice (some ⟨b8, 0, none⟩) k c], v.oneCell' = true) := fun v hv => by obtain rfl := List.mem_singleton.1 hv; rfl
              have HRD := Lib.hid (reads_drow w3 (.slice (some ⟨b8, 0, none⟩) k c))
              have HSZ : Hid (H ≤ (w3.alloc (.cells #[.slice (some ⟨b8, 0, none⟩) k c] 114)).heap.size) := by rw [HH.out]; exact (gr.trans g3A).size
              have HLL : Hid (1 < L.length) := by rw [← HLl.out]; exact hlt
              have HML : Hid (k = (nextB L).length) := HM.out
              have hdl : decide ((j : Int) < (l : Int)) = false := by simp; omega
              have gA3 := gr.trans g3A
              clear hown HOWN hlenM hb8B hb8 hr8 hq1 hq2 hq3 hn8 hown7 hq2A HNT HRB HI gA HM hkc
              go_wp2_with (at_builtin; refine wpList_append_any _ rfl (.tmp 65) (.tmp 67) 111 rfl H 114 j0 (.slice none 0 0) 1 24 Tryd.underlying111 hj0 hy0 hy1 hy2 rfl (by decide) _ m _ rfl HOWN7.out _ (some ⟨w3.heap.size, 0, none⟩) 1 1 [Value.slice (some ⟨b8, 0, none⟩) k c] rfl HRD.out HO7.out (by unfold maxLen; omega) (by omega) HSZ.out ?_)
              intro v9 w9 hown9 hgr9 hob9
              have hinv : RowsInv H w9 v9 (m + 1) b8 (nextB L) c R := RowsInv.more Q0 HLL.out HQ2.out HQ3.out HN8.out hgr9 (by simpa using hob9) (by rw [← HV8.out]; exact hown9)
              have g9 : Chg none w w9 := own_chg gA3 HOWN7.out (by rw [HH.out]; exact Nat.le_refl _) hgr9
              obtain ⟨A9, c9, rfl⟩ := own_slice hown9
              have HINV := Lib.hid hinv
              clear hown9 hgr9 hob9 hinv HOWN7 HQ2 HQ3 HN8 HRD HSZ gA3 g3A gk gr
              go_wp2_with fail
              go_roundw
              case rel => exact ⟨nextB L, k, b8, c, A9, m + 1, c9, HML.out, rfl, rfl, HINV.out, hM1, by omega, g9⟩
              case measure => simp only [sliceLen]; omega
        · have hdl : decide ((l : Int) > 1) = false := by simp; omega
          obtain ⟨Q0, hq1, hq2, hq3⟩ := HI.out
          rw [rowsB_end L (by omega)] at hq3
          have HQ1 := Lib.hid hq1
          have HQ2 : Hid (RowsOk w2 none (Q0 ++ [⟨some ⟨b, 0, none⟩, L, c5⟩])) := fun r hr => (hq2 r hr).other (fun _ _ _ => by simp)
          have HQ3 := Lib.hid hq3
          clear hq1 hq2 hq3 HI hrb hLl hbs hlc
          go_wp2_with fail
          go_ret
          exact ⟨A7, m, c7, Q0 ++ [⟨some ⟨b, 0, none⟩, L, c5⟩], rfl, by rw [List.map_append]; exact HQ3.out, HQ1.out, HQ2.out, gr⟩
end Go.Proofs.YtglfakglcoffkaaDoor

namespace Go.Proofs.YtglfakglcoffkaaDoor
open Go.RowKit

theorem rows_get {w : World} {base n c : Nat} {A : Option Addr} {Q : List Drw} (h : w.ownsRow base 114 1 (.slice A n c) n (drwVals Q)) (h0 : 1 ≤ n) :
    n = Q.length ∧ ∃ g, A = some ⟨g, 0, none⟩ ∧ g < w.heap.size ∧ ∀ j r, Q[j]? = some r → w.cell? ⟨g, j, none⟩ = some r.val := by
  have hl := h.1
  have hn : n = Q.length := by unfold drwVals at hl; rw [List.length_map] at hl; omega
  obtain ⟨g, cap, hv, _, hlt⟩ := h.form (by omega)
  have hA : A = some ⟨g, 0, none⟩ := by injection hv
  subst hA
  refine ⟨hn, g, rfl, hlt, fun j r hj => ?_⟩
  have := h.cells (g := g) rfl j r.val (by unfold drwVals; rw [List.getElem?_map, hj]; rfl)
  rwa [Go.WideShapes.add_plain, Nat.zero_add] at this
set_option maxRecDepth 100000 in
set_option maxHeartbeats 8000000 in
theorem rootr_any (px : Nat) (p : Prt) (w : World) (hh : HashAt w px) (hp : p.ok w) (hn : p.x.length ≤ 100000) :
    Calls Tryd.prog 51 #[.pointer (some ⟨px, 0, none⟩), .slice p.A p.x.length p.c] w fun e w' => e = .returned (.agg (byteVals (rootB p.x)).toArray) ∧ Chg none w w' := by
  obtain ⟨W1, hW1⟩ : ∃ W1, W1 = w.alloc (.cells zero32 30) := ⟨_, rfl⟩
  have HW1 : Hid (w.alloc (.cells #[Value.int IntKind.u8 0, Value.int IntKind.u8 0, Value.int IntKind.u8 0, Value.int IntKind.u8 0, Value.int IntKind.u8 0, Value.int IntKind.u8 0, Value.int IntKind.u8 0, Value.int IntKind.u8 0, Value.int IntKind.u8 0, Value.int IntKind.u8 0, Value.int IntKind.u8 0, Value.int IntKind.u8 0, Value.int IntKind.u8 0, Value.int IntKind.u8 0, Value.int IntKind.u8 0, Value.int IntKind.u8 0, Value.int IntKind.u8 0, Value.int IntKind.u8 0, Value.int IntKind.u8 0, Value.int IntKind.u8 0, Value.int IntKind.u8 0, Value.int IntKind.u8 0, Value.int IntKind.u8 0, Value.int IntKind.u8 0, Value.int IntKind.u8 0, Value.int IntKind.u8 0, Value.int IntKind.u8 0, Value.int IntKind.u8 0, Value.int IntKind.u8 0, Value.int IntKind.u8 0, Value.int IntKind.u8 0, Value.int IntKind.u8 0] 30) = W1) := hW1.symm
  have g0 : Chg none w W1 := by rw [hW1]; exact (Chg.refl _ _).alloc _
  have bR : Blk W1 w.heap.size zero32 30 := by rw [hW1]; exact Blk.new _ _ _
  obtain ⟨T, hT⟩ : ∃ T, T = rootB p.x := ⟨_, rfl⟩
  have hTl : T.length = 32 := by rw [hT, rootB_len]
  obtain ⟨hts, hto⟩ := row_facts T 32 hTl
  have HIT := Lib.hid (show (Tryd.prog.info? 30).map (·.size) = some (byteVals T).toArray.size by rw [hts]; kernel_rfl)
  have HZT := Lib.hid (show zero32.size = (byteVals T).toArray.size by rw [hts]; rfl)
  have HOT := Lib.hid hto
  have HRW := Lib.hid (rowsr_any px p W1 (hh.chg g0 (by simp)) (hp.chg g0) hn)
  obtain ⟨n, hnn⟩ : ∃ n, n = p.x.length := ⟨_, rfl⟩
  obtain ⟨L0, hL0⟩ : ∃ L0, L0 = leavesB p.x := ⟨_, rfl⟩
  have hl1 : 1 ≤ L0.length := by rw [hL0, leavesB_len]; unfold cntN; omega
  have hTt : dig (rootBytes n (topB L0)) = T := by rw [hT, hnn, hL0]; rfl
  have HRB : Hid (∀ v (d : Dg), ∃ ls : List UInt8, ls = rootBytes n d ∧ ls.length ≤ 100 ∧ Calls Tryd.prog 80 #[.int .i64 n, .agg (byteVals d.1).toArray] v (OwnPost v ls)) := fun v d =>
    ⟨rootBytes n d, rfl, by unfold rootBytes; rw [List.length_cons, List.length_append, be_len, d.2]; decide, rootr_bytes n d v (by omega)⟩
  have HSM : Hid (∀ (v : World) (A : Option Addr) (bs : List UInt8) (c : Nat), Chg none w v → Txt v A bs → bs.length ≤ c → bs.length ≤ 100 → Calls Tryd.prog 78 #[.pointer (some ⟨px, 0, none⟩), .slice A bs.length c] v fun e w' => e = .returned (.agg (byteVals (dig bs)).toArray) ∧ Chg none v w') := fun v A bs c g h1 h2 h3 =>
    hsum_any px ⟨A, bs, c⟩ v (hh.chg g (by simp)) ⟨h1, h2⟩ (by show bs.length ≤ 1000000; omega)
  rw [← hL0, ← hnn] at HRW
  rw [← hnn] at hn ⊢
  rw [← hT]
  have HT := Lib.hid hTt
  have HL1 := Lib.hid hl1
  have HL2 : Hid (L0.length ≤ 100000) := by show L0.length ≤ 100000; rw [hL0, leavesB_len]; unfold cntN; omega
  clear hW1 hT hTl hts hto hnn hL0 hTt hh hp hl1
  go_enter Tryd.func51, Tryd.ntmps51
  go_upto_region 1 with fail
  rw [HW1.out]
  clear HW1
  generalize hpR : w.heap.size = pR at *
  have HPR := Lib.hid hpR
  clear hpR
  go_wp2_with fail
  refine HRW.out.mono ?_
  rintro e w2 ⟨A, n2, c, Q, rfl, hQ, hown, hok, g2⟩
  have hlen : Q.length = (rowsB L0).length := by rw [← hQ, List.length_map]
  have hpos := rowsB_pos L0
  have hn1 : 1 ≤ n2 := by
    have := hown.1
    unfold drwVals at this
    rw [List.length_map] at this
    omega
  obtain ⟨hnQ, g, hA, hgl, hcells⟩ := rows_get hown hn1
  subst hA
  have hlast := rowsB_last _ L0 (Nat.le_refl _) HL1.out
  rw [← hQ, List.length_map, List.getElem?_map] at hlast
  obtain ⟨r, hr1, hr2⟩ := Option.map_eq_some_iff.1 hlast
  have hrok := hok r (List.mem_of_getElem? hr1)
  obtain ⟨rA, rL, rc⟩ := r
  dsimp only at hr2
  subst hr2
  obtain ⟨b, o, hrA, hbl, _, hrng⟩ := hrok.2 (by simp)
  dsimp only at hrA hrng
  subst hrA
  have hcl := hcells _ _ hr1
  obtain ⟨m, hm⟩ : ∃ m, n2 = m + 1 := ⟨n2 - 1, by omega⟩
  have hqm : Q.length - 1 = m := by omega
  rw [hqm] at hcl
  change w2.cell? ⟨g, m, none⟩ = some (.slice (some ⟨b, o, none⟩) 1 rc) at hcl
  subst hm
  obtain ⟨d, hd⟩ : ∃ d, d = topB L0 := ⟨_, rfl⟩
  rw [← hd] at hrng HT
  have hrd : w2.rangeAt b o (byteVals d.1) := by
    intro j v hj
    exact hrng j v (by simp only [flat, dgCells, List.flatMap_cons, List.flatMap_nil, List.append_nil]; exact hj)
  have g02 := g0.trans g2
  have bR2 := bR.chg g2 (by simp)
  obtain ⟨ls, hls, hll, hlc⟩ := HRB.out w2 d
  rw [← hls] at HT
  have HC1 := Lib.hid hlc
  have HRD := Lib.hid hrd
  have HIL : Hid ((Tryd.prog.info? 30).map (·.size) = some (byteVals d.1).length) := by rw [byteVals_len, d.2]; show _ = _; kernel_rfl
  have hm9 : m ≤ 100000 := by
    have h2 := rowsB_len_le _ L0 HL2.out
    omega
  clear hlen hpos hnQ hcells hlast hr1 hrok hqm hd hls hlc hrd hrng hQ hown hok HRW HRB HL1 g0 g2 bR hn1
  go_wp2_with (refine wpList_load_mid rfl 30 _ rfl b o rfl (byteVals d.1) _ HRD.out Tryd.underlying30 rfl HIL.out ?_)
  refine HC1.out.mono ?_
  rintro e w3 ⟨A3, c3, rfl, hown3, g3⟩
  obtain ⟨hT3, -, hc3⟩ := own_txt hown3
  have g03 := g02.trans g3
  have bR3 := bR2.chg g3 (by simp)
  have HC2 := Lib.hid (HSM.out w3 A3 ls c3 g03 hT3 hc3 hll)
  rw [HT.out] at HC2
  clear hown3 hT3 hc3 hll HC1 HSM g3 bR2 g02 hcl
  go_wp2_with fail
  refine HC2.out.mono ?_
  rintro e w4 ⟨rfl, g4⟩
  have bR4 := bR3.chg g4 (by simp)
  have HRR : Hid (w4.heap[pR]? = some (.cells zero32 30 (0, 0))) := bR4
  have g04 := g03.trans g4
  clear bR3 bR4 g03 g4
  go_wp2_with (refine wpList_store_row rfl 30 _ _ rfl pR (byteVals T).toArray rfl rfl 30 _ HRR.out HIT.out HZT.out HOT.out ?_)
  refine bodyPost_ret (results_cell_row (p := 4) (ty := 30) Tryd.results51 _ _ pR 30 (byteVals T).toArray (0, 0) _ rfl (setRow_heap _ _ _ _ _ _ HRR.out) Tryd.underlying30 rfl HIT.out) rfl ⟨rfl, ?_⟩
  exact Chg.own (b := pR) g04 (chg_setRow _ _ _) (by rw [HPR.out]; exact Nat.le_refl _)
end Go.Proofs.YtglfakglcoffkaaDoor

namespace Go.Proofs.YtglfakglcoffkaaDoor
open Go.RowKit

theorem rowsB_len_step (L : List Dg) : (1 < L.length → (rowsB L).length = (rowsB (nextB L)).length + 1) ∧ (L.length ≤ 1 → (rowsB L).length = 1) := by
  refine ⟨fun h => by rw [rowsB_step L h, List.length_cons], fun h => by rw [rowsB_end L h]; rfl⟩
theorem own_base {w : World} {B B' : Nat} {e : TypeId} {size : Nat} {v : Value} {n : Nat} {xs : List Value} (h : w.ownsRow B e size v n xs) (hb : B' ≤ B) : w.ownsRow B' e size v n xs := by
  refine ⟨h.1, ?_⟩
  rcases h.2 with h2 | ⟨g, cap, cur, h1, h2, h3⟩
  · exact .inl h2
  · exact .inr ⟨g, cap, cur, h1, Nat.le_trans hb h2, h3⟩

end Go.Proofs.YtglfakglcoffkaaDoor
