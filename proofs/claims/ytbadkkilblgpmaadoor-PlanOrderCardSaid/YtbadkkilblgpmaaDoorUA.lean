/-
  The document's tree: Find, put.
-/
import Derived.Test.YtbadkkilblgpmaaDoorTJ
import Derived.Test.YtbadkkilblgpmaaDoorTRM
import Derived.Test.YtbadkkilblgpmaaDoorTCP
import Derived.Deep.Cut
namespace Go.Proofs.YtbadkkilblgpmaaDoor
open Go.RowKit

set_option maxHeartbeats 4000000 in
theorem find_any (L : List Fil) (A : Option Addr) (c : Nat) (path : List UInt8) (w : World) (hT : TreeAt w A L) (hl : L.length ≤ 4611686018427387904) :
    Calls Tryd.prog 154 #[.slice A L.length c, .string ⟨path.toArray⟩] w fun e w' => ∃ z : Int, e = .returned (.int .i64 z) ∧ w = w' ∧ IdxOf L path z := by
  have HT := Lib.hid hT
  have HL := Lib.hid hl
  clear hT hl
  go_enter Tryd.func154, Tryd.ntmps154
  go_wp2_with fail
  go_loop [5] (fun s5 => ∃ k : Nat, s5 = .int .i64 k ∧ Hid (k ≤ L.length ∧ ∀ (j : Nat) g, j < k → L[j]? = some g → g.p ≠ path)) (fun s5 => L.length - (intOf s5).toNat)
  case atStart => exact ⟨0, rfl, Lib.hid ⟨Nat.zero_le _, fun j g h => absurd h (Nat.not_lt_zero _)⟩⟩
  case round =>
    obtain ⟨k, rfl, H1⟩ := hrel
    by_cases hlt : k < L.length
    · have hd : decide ((k : Int) < (L.length : Int)) = true := by rw [decide_eq_true_eq]; omega
      obtain ⟨x, hkx⟩ : ∃ x, L[k]? = some x := ⟨_, List.getElem?_eq_getElem hlt⟩
      have hne : L ≠ [] := by intro e; subst e; simp at hlt
      obtain ⟨b, off, rfl, -, -⟩ := HT.out.1 hne
      obtain ⟨hb, x0, x1⟩ := HT.out.1.two hkx
      have HLT := Lib.hid hlt
      have HKX := Lib.hid hkx
      have HLL := HL.out
      clear hkx hne x1
      obtain ⟨fp, fA, fx, fc⟩ := x
      dsimp only at x0
      by_cases e : fp = path
      · have e1 : (fp == path) = true := by rw [beq_iff_eq]; exact e
        have HE := Lib.hid e
        clear e
        go_wp2_with fail
        go_ret
        exact ⟨_, rfl, rfl, .inr ⟨k, ⟨fp, fA, fx, fc⟩, rfl, HKX.out, HE.out, H1.out.2⟩⟩
      · have e1 : (fp == path) = false := by rw [beq_eq_false_iff_ne]; exact e
        have e2 : ¬ fp = path := e
        have HE := Lib.hid e
        clear e
        go_wp2_with fail
        go_round
        case rel => exact ⟨k + 1, by first | rfl | go_num, Lib.hid ⟨HLT.out, fun j g hj hg => by
          rcases Nat.lt_or_ge j k with h | h
          · exact H1.out.2 j g h hg
          · obtain rfl : j = k := by omega
            obtain rfl := Option.some.inj (HKX.out.symm.trans hg)
            exact HE.out⟩⟩
        case measure => have := HLT.out; first | omega | (simp only [intOf]; omega) | (simp [intOf]; omega)
    · have hd : decide (k < L.length) = false := by rw [decide_eq_false_iff_not]; exact hlt
      have hd2 : decide ((k : Int) < (L.length : Int)) = false := by rw [decide_eq_false_iff_not]; omega
      have HE : Hid (∀ f ∈ L, f.p ≠ path) := Lib.hid fun f hf => by
        obtain ⟨i, hi, hif⟩ := List.getElem_of_mem hf
        exact H1.out.2 i f (by have := H1.out.1; omega) (by rw [List.getElem?_eq_getElem hi, hif])
      clear hlt
      go_wp2_with fail
      go_ret
      exact ⟨_, rfl, rfl, .inl ⟨rfl, HE.out⟩⟩

/-! ### put -/
def pst1 (f : Fil) (s : List Fil × Bool) (x : Fil) : List Fil × Bool := (if !s.2 && leB f.p x.p then s.1 ++ [f] else s.1, s.2 || leB f.p x.p)
def pst2 (f : Fil) (s : List Fil) (x : Fil) : List Fil := if x.p = f.p then s else s ++ [x]
def pst (f : Fil) (s : List Fil × Bool) (x : Fil) : List Fil × Bool := (pst2 f (pst1 f s x).1 x, (pst1 f s x).2)
def putS (f : Fil) (L : List Fil) : List Fil × Bool := L.foldl (pst f) ([], false)
def putL (L : List Fil) (f : Fil) : List Fil := if (putS f L).2 then (putS f L).1 else (putS f L).1 ++ [f]
theorem putS_step {f : Fil} {L : List Fil} {k : Nat} {x : Fil} (h : L[k]? = some x) : putS f (L.take (k + 1)) = pst f (putS f (L.take k)) x := by
  unfold putS
  rw [List.take_add_one, h, List.foldl_append]
  rfl
theorem pst1_len (f : Fil) (s : List Fil × Bool) (x : Fil) : (pst1 f s x).1.length ≤ s.1.length + 1 := by
  unfold pst1; dsimp only; split <;> simp
theorem pst2_len (f : Fil) (s : List Fil) (x : Fil) : (pst2 f s x).length ≤ s.length + 1 := by
  unfold pst2; split <;> simp

def isLt (f : Fil) (x : Fil) : Bool := decide (cmpB x.p f.p < 0)
def isGt (f : Fil) (x : Fil) : Bool := decide (cmpB f.p x.p < 0)
theorem le_lt (f x : Fil) : leB f.p x.p = !isLt f x := by
  unfold isLt
  rw [leB_cmp]
  by_cases h : cmpB x.p f.p < 0
  · rw [decide_eq_true h, decide_eq_false]; · rfl
    intro h1
    rcases Int.lt_or_eq_of_le h1 with h2 | h2
    · exact cmp_asym _ _ h h2
    · rw [cmp_zero _ _ h2, cmp_self] at h; omega
  · rw [decide_eq_false h, decide_eq_true]; · rfl
    rcases cmp_tot x.p f.p with h1 | h1 | h1
    · exact absurd h1 h
    · rw [h1, cmp_self]; omega
    · omega
theorem gt_ne {f x : Fil} (h : isLt f x = false) : isGt f x = !decide (x.p = f.p) := by
  unfold isLt at h
  unfold isGt
  rw [decide_eq_false_iff_not] at h
  rcases cmp_tot x.p f.p with h1 | h1 | h1
  · exact absurd h1 h
  · rw [h1, cmp_self]; simp
  · rw [decide_eq_true h1, decide_eq_false]; · rfl
    intro e; rw [e, cmp_self] at h1; omega
theorem lt_gt {f x : Fil} (h : isLt f x = true) : isGt f x = false ∧ x.p ≠ f.p := by
  unfold isLt at h
  unfold isGt
  rw [decide_eq_true_eq] at h
  refine ⟨by rw [decide_eq_false_iff_not]; exact cmp_asym _ _ h, fun e => ?_⟩
  rw [e, cmp_self] at h; omega

theorem putS_up (f : Fil) : ∀ L : List Fil, Up (keys L) → (L.all (isLt f) = true → putS f L = (L, false)) ∧ (L.all (isLt f) = false → putS f L = (L.filter (isLt f) ++ [f] ++ L.filter (isGt f), true)) := by
  intro L0
  rw [← List.reverse_reverse L0]
  generalize L0.reverse = R
  induction R with
  | nil => exact fun _ => ⟨fun _ => rfl, fun h => by simp at h⟩
  | cons x R ih =>
    rw [List.reverse_cons]
    generalize R.reverse = L at ih ⊢
    intro hu
    unfold Up keys at hu
    rw [List.map_append, List.pairwise_append] at hu
    obtain ⟨hu1, -, hu3⟩ := hu
    have ih := ih hu1
    have hs : putS f (L ++ [x]) = pst f (putS f L) x := by unfold putS; rw [List.foldl_append]; rfl
    have hlt : ∀ y ∈ L, cmpB y.p x.p < 0 := fun y hy => hu3 (keyF y) (List.mem_map_of_mem hy) (keyF x) (by simp)
    rw [hs, List.all_append]
    cases ha : L.all (isLt f) with
    | true =>
      rw [ih.1 ha]
      have hfl : L.filter (isLt f) = L := List.filter_eq_self.2 fun y hy => List.all_eq_true.1 ha y hy
      have hfg : L.filter (isGt f) = [] := List.filter_eq_nil_iff.2 fun y hy => by rw [(lt_gt (List.all_eq_true.1 ha y hy)).1]; simp
      cases hx : isLt f x with
      | true =>
        refine ⟨fun _ => ?_, fun h => by simp [hx] at h⟩
        unfold pst pst1 pst2
        rw [le_lt, hx]
        simp [(lt_gt hx).2]
      | false =>
        refine ⟨fun h => by simp [hx] at h, fun _ => ?_⟩
        unfold pst pst1 pst2
        rw [le_lt, hx, List.filter_append, List.filter_append, hfl, hfg]
        have hg := gt_ne hx
        by_cases e : x.p = f.p
        · simp [e, hx, hg]
        · simp [e, hx, hg]
    | false =>
      rw [ih.2 ha]
      have hx : isLt f x = false := by
        obtain ⟨y, hy, hyl⟩ : ∃ y ∈ L, isLt f y = false := by
          have h1 := List.all_eq_false.1 ha
          obtain ⟨y, hy, hyl⟩ := h1
          exact ⟨y, hy, by simpa using hyl⟩
        have h2 := hlt y hy
        unfold isLt at hyl ⊢
        rw [decide_eq_false_iff_not] at hyl ⊢
        intro h3
        exact hyl (cmp_trans _ _ _ h2 h3)
      refine ⟨fun h => by simp at h, fun _ => ?_⟩
      unfold pst pst1 pst2
      rw [List.filter_append, List.filter_append]
      have hg := gt_ne hx
      by_cases e : x.p = f.p
      · simp [e, hx, hg]
      · simp [e, hx, hg]

theorem putL_up {f : Fil} {L : List Fil} (h : Up (keys L)) : putL L f = L.filter (isLt f) ++ [f] ++ L.filter (isGt f) := by
  unfold putL
  cases ha : L.all (isLt f) with
  | true =>
    rw [(putS_up f L h).1 ha]
    have hfl : L.filter (isLt f) = L := List.filter_eq_self.2 fun y hy => List.all_eq_true.1 ha y hy
    have hfg : L.filter (isGt f) = [] := List.filter_eq_nil_iff.2 fun y hy => by rw [(lt_gt (List.all_eq_true.1 ha y hy)).1]; simp
    rw [hfl, hfg]; simp
  | false => rw [(putS_up f L h).2 ha]; rfl
theorem putL_mem {f : Fil} {L : List Fil} (h : Up (keys L)) : ∀ m ∈ putL L f, m = f ∨ m ∈ L := by
  intro m hm
  rw [putL_up h] at hm
  rcases List.mem_append.1 hm with h1 | h1
  · rcases List.mem_append.1 h1 with h2 | h2
    · exact .inr ((List.mem_filter.1 h2).1)
    · exact .inl (by simpa using h2)
  · exact .inr ((List.mem_filter.1 h1).1)
theorem putL_isUp {f : Fil} {L : List Fil} (h : Up (keys L)) : Up (keys (putL L f)) := by
  rw [putL_up h]
  unfold Up keys at *
  rw [List.map_append, List.map_append, List.pairwise_append, List.pairwise_append]
  rw [List.pairwise_map] at h
  refine ⟨⟨?_, by simp, ?_⟩, ?_, ?_⟩
  · rw [List.pairwise_map]; exact h.filter _
  · intro a ha b hb
    obtain ⟨x, hx, rfl⟩ := List.mem_map.1 ha
    obtain rfl : b = keyF f := by simpa using hb
    have := (List.mem_filter.1 hx).2
    unfold isLt at this
    exact of_decide_eq_true this
  · rw [List.pairwise_map]; exact h.filter _
  · intro a ha b hb
    obtain ⟨y, hy, rfl⟩ := List.mem_map.1 hb
    have h2 : cmpB f.p y.p < 0 := by have := (List.mem_filter.1 hy).2; unfold isGt at this; exact of_decide_eq_true this
    rcases List.mem_append.1 ha with h1 | h1
    · obtain ⟨x, hx, rfl⟩ := List.mem_map.1 h1
      have := (List.mem_filter.1 hx).2
      unfold isLt at this
      exact cmp_trans _ _ _ (of_decide_eq_true this) h2
    · obtain rfl : a = keyF f := by simpa using h1
      exact h2
theorem putL_perm {f : Fil} {L : List Fil} (h : Up (keys L)) : (keys (putL L f)).Perm ((keys L).filter (fun g => g.1 != f.p) ++ [keyF f]) := by
  rw [putL_up h]
  have h1 : (L.filter (isLt f) ++ L.filter (isGt f)).Perm (L.filter (fun x => x.p != f.p)) := by
    have h2 : L.filter (isLt f) = (L.filter (fun x => x.p != f.p)).filter (isLt f) := by
      rw [List.filter_filter]
      refine List.filter_congr fun x _ => ?_
      cases hx : isLt f x with
      | true => simp [(lt_gt hx).2]
      | false => simp
    have h3 : L.filter (isGt f) = (L.filter (fun x => x.p != f.p)).filter (fun x => !isLt f x) := by
      rw [List.filter_filter]
      refine List.filter_congr fun x _ => ?_
      cases hx : isLt f x with
      | true => simp [(lt_gt hx).1]
      | false => rw [gt_ne hx]; simp [bne, Bool.beq_eq_decide_eq]
    rw [h2, h3]
    exact List.filter_append_perm _ _
  have h4 : (keys L).filter (fun g => g.1 != f.p) = keys (L.filter (fun x => x.p != f.p)) := by
    unfold keys
    rw [List.filter_map]
    rfl
  rw [h4]
  unfold keys
  have h5 : (L.filter (isLt f) ++ [f] ++ L.filter (isGt f)).Perm (L.filter (fun x => x.p != f.p) ++ [f]) := by
    rw [List.append_assoc]
    refine (List.perm_append_comm.append_left _).trans ?_
    rw [← List.append_assoc]
    exact h1.append_right _
  have h6 := h5.map keyF
  rw [List.map_append (l₂ := [f])] at h6
  exact h6

end Go.Proofs.YtbadkkilblgpmaaDoor
