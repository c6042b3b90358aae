/-
  Package tree: slices.SortFunc at files, by their paths.
-/
import Derived.Test.YtbadkkilblgpmaaDoorTE
import Derived.Test.YtbadkkilblgpmaaDoorShelf
namespace Go.Proofs.YtbadkkilblgpmaaDoor
open Go.RowKit

def cmpB (x y : List UInt8) : Int := Lib.compareBytes x y
theorem cmp_cons (x y : UInt8) (a b : List UInt8) : cmpB (x :: a) (y :: b) = if x < y then -1 else if y < x then 1 else cmpB a b := rfl
theorem cmp_self : ∀ x, cmpB x x = 0
  | [] => rfl
  | x :: l => by rw [cmp_cons, if_neg (UInt8.lt_irrefl x), if_neg (UInt8.lt_irrefl x)]; exact cmp_self l
theorem cmp_tot : ∀ x y, cmpB x y < 0 ∨ x = y ∨ cmpB y x < 0
  | [], [] => .inr (.inl rfl)
  | [], _ :: _ => .inl (by show (-1 : Int) < 0; decide)
  | _ :: _, [] => .inr (.inr (by show (-1 : Int) < 0; decide))
  | x :: a, y :: b => by
    rw [cmp_cons, cmp_cons]
    by_cases h1 : x < y
    · rw [if_pos h1]; exact .inl (by decide)
    · by_cases h2 : y < x
      · simp only [if_neg h1, if_pos h2]; exact .inr (.inr (by decide))
      · have e : x = y := UInt8.le_antisymm (UInt8.not_lt.1 h2) (UInt8.not_lt.1 h1)
        rw [if_neg h1, if_neg h2, if_neg h2, if_neg h1]
        rcases cmp_tot a b with h | h | h
        · exact .inl h
        · exact .inr (.inl (by rw [e, h]))
        · exact .inr (.inr h)
theorem cmp_asym : ∀ x y, cmpB x y < 0 → ¬ cmpB y x < 0
  | [], [] => fun h => absurd h (by decide)
  | [], _ :: _ => fun _ => by show ¬ (1 : Int) < 0; decide
  | _ :: _, [] => fun h => absurd h (by show ¬ (1 : Int) < 0; decide)
  | x :: a, y :: b => by
    rw [cmp_cons, cmp_cons]
    by_cases h1 : x < y
    · rw [if_pos h1, if_neg (UInt8.not_lt.2 (UInt8.le_of_lt h1)), if_pos h1]; intro _; decide
    · by_cases h2 : y < x
      · rw [if_neg h1, if_pos h2]; intro h; exact absurd h (by decide)
      · rw [if_neg h1, if_neg h2, if_neg h2, if_neg h1]; exact cmp_asym a b
theorem cmp_trans : ∀ x y z, cmpB x y < 0 → cmpB y z < 0 → cmpB x z < 0
  | [], [], _ => fun h => absurd h (by decide)
  | [], _ :: _, [] => fun _ h => absurd h (by show ¬ (1 : Int) < 0; decide)
  | [], _ :: _, _ :: _ => fun _ _ => by show (-1 : Int) < 0; decide
  | _ :: _, [], _ => fun h => absurd h (by show ¬ (1 : Int) < 0; decide)
  | _ :: _, _ :: _, [] => fun _ h => absurd h (by show ¬ (1 : Int) < 0; decide)
  | x :: a, y :: b, z :: c => by
    rw [cmp_cons, cmp_cons, cmp_cons]
    have ih := cmp_trans a b c
    by_cases h1 : x < y
    · by_cases h2 : y < z
      · intro _ _; rw [if_pos (UInt8.lt_trans h1 h2)]; decide
      · by_cases h3 : z < y
        · rw [if_neg h2, if_pos h3]; intro _ h; exact absurd h (by decide)
        · have e : y = z := UInt8.le_antisymm (UInt8.not_lt.1 h3) (UInt8.not_lt.1 h2)
          subst e
          intro _ _; rw [if_pos h1]; decide
    · by_cases h2 : y < x
      · rw [if_neg h1, if_pos h2]; intro h; exact absurd h (by decide)
      · have e : x = y := UInt8.le_antisymm (UInt8.not_lt.1 h2) (UInt8.not_lt.1 h1)
        subst e
        rw [if_neg h1, if_neg h1]
        by_cases h4 : x < z
        · intro _ _; rw [if_pos h4]; decide
        · by_cases h5 : z < x
          · rw [if_neg h4, if_pos h5]; intro _ h; exact absurd h (by decide)
          · simp only [if_neg h4, if_neg h5]; exact ih
theorem less_cmp : ∀ (x y : List UInt8), Op.bytesLess x y = decide (cmpB x y < 0)
  | [], [] => rfl
  | _ :: _, [] => by symm; exact decide_eq_false (by show ¬ (1 : Int) < 0; decide)
  | [], _ :: _ => by symm; exact decide_eq_true (by show (-1 : Int) < 0; decide)
  | a :: x, b :: y => by
    rw [cmp_cons]
    show (decide (a < b) || (a == b && Op.bytesLess x y)) = _
    rw [less_cmp x y]
    by_cases h1 : a < b
    · simp [h1]
    · by_cases h2 : b < a
      · have h3 : (a == b) = false := by rw [beq_eq_false_iff_ne]; intro e; subst e; exact UInt8.lt_irrefl _ h2
        simp [h1, h2, h3]
      · have e : a = b := UInt8.le_antisymm (UInt8.not_lt.1 h2) (UInt8.not_lt.1 h1)
        subst e
        simp [h1]
theorem cmp_zero : ∀ x y, cmpB x y = 0 → x = y
  | [], [] => fun _ => rfl
  | [], _ :: _ => fun h => absurd h (by show ¬ (-1 : Int) = 0; decide)
  | _ :: _, [] => fun h => absurd h (by show ¬ (1 : Int) = 0; decide)
  | x :: a, y :: b => by
    rw [cmp_cons]
    by_cases h1 : x < y
    · rw [if_pos h1]; intro h; exact absurd h (by decide)
    · by_cases h2 : y < x
      · rw [if_neg h1, if_pos h2]; intro h; exact absurd h (by decide)
      · have e : x = y := UInt8.le_antisymm (UInt8.not_lt.1 h2) (UInt8.not_lt.1 h1)
        rw [if_neg h1, if_neg h2]
        intro h
        rw [e, cmp_zero a b h]
def cmpF (x y : Fil) : Int := cmpB x.p y.p
theorem swoF : Go.Sort.SWO (ltOf cmpF) where
  irrefl x := by unfold ltOf cmpF; rw [cmp_self]; rfl
  trans x y z h1 h2 := by
    unfold ltOf cmpF at *
    rw [decide_eq_true_eq] at *
    exact cmp_trans _ _ _ h1 h2
  ntrans x y z h1 h2 := by
    unfold ltOf cmpF at *
    rw [decide_eq_false_iff_not] at *
    intro h3
    rcases cmp_tot x.p y.p with h | h | h
    · exact h1 h
    · rw [h] at h3; exact h2 h3
    · exact h2 (cmp_trans _ _ _ h h3)
theorem leB_cmp (s t : List UInt8) : leB s t = decide (cmpB s t ≤ 0) := by
  unfold leB
  rw [less_cmp]
  by_cases e : s = t
  · subst e; rw [cmp_self]; simp
  · have h1 : (s == t) = false := by rw [beq_eq_false_iff_ne]; exact e
    rw [h1, Bool.or_false]
    rcases cmp_tot s t with h | h | h
    · rw [decide_eq_true h, decide_eq_true (by omega)]
    · exact absurd h e
    · have h2 := cmp_asym _ _ h
      rw [decide_eq_false h2]
      symm
      rw [decide_eq_false_iff_not]
      intro h3
      have h0 : cmpB s t ≠ 0 := by
        intro h0
        exact e (cmp_zero s t h0)
      omega

set_option maxHeartbeats 4000000 in
theorem clo58 (x y : Fil) (W : World) : Calls Tryd.prog 159 #[.agg (filCells x).toArray, .agg (filCells y).toArray] W fun e w' => e = .returned (.int .i64 (cmpF x y)) ∧ ∃ q os', w' = Go.Sort.grow (W.drewN q) os' := by
  have HC := Lib.hid (fun v => Tryd.strings_Compare ⟨x.p.toArray⟩ ⟨y.p.toArray⟩ v)
  obtain ⟨xp, xA, xx, xc⟩ := x
  obtain ⟨yp, yA, yx, yc⟩ := y
  unfold filCells
  dsimp only at HC ⊢
  have hz : Lib.compareBytes (⟨xp.toArray⟩ : ByteArray).data.toList (⟨yp.toArray⟩ : ByteArray).data.toList = cmpF ⟨xp, xA, xx, xc⟩ ⟨yp, yA, yx, yc⟩ := rfl
  rw [hz] at HC
  clear hz
  generalize cmpF ⟨xp, xA, xx, xc⟩ ⟨yp, yA, yx, yc⟩ = r at *
  go_enter Tryd.func159, Tryd.ntmps159
  go_wp2_with fail
  refine (HC.out _).mono ?_
  rintro e w' ⟨rfl, rfl⟩
  go_wp2_with fail
  go_ret
  exact ⟨rfl, 0, _, by rw [Go.Sort.alloc_eq_grow, Go.Sort.alloc_eq_grow, Go.Sort.grow_grow]; rfl⟩

theorem swk_chg {w W : World} {g : Nat} {d : Array Fil} (h : SWK filCells 2 w g 0 d W) : Chg (some g) w W := by
  obtain ⟨n, os, rfl⟩ := h
  refine ⟨rfl, rfl, rfl, by unfold sortWorldK; rw [Go.Sort.size_grow, Go.Sort.size_putRowK]; exact Nat.le_add_right _ _, fun i hi hn => ?_⟩
  unfold sortWorldK Go.Sort.grow Go.Sort.putRowK Go.Sort.putRow Go.Sort.mapBlock
  show (Array.modify w.heap g _ ++ os)[i]? = w.heap[i]?
  rw [Array.getElem?_append_left (by simpa using hi), Array.getElem?_modify, if_neg (fun e => hn (by rw [e]))]

set_option maxHeartbeats 8000000 in
set_option maxRecDepth 100000 in
theorem sort_any (d : Array Fil) (g cap : Nat) (w : World) (hH : Go.Sort.HoldsK filCells 2 w g 0 d) (hg : g < w.heap.size) (hsz : d.size < 1000000) :
    Calls Tryd.prog 158 #[.slice (some ⟨g, 0, none⟩) d.size cap, .func (.func 159) #[] #[]] w fun e w' => e = .returned (.tuple #[]) ∧
      ∃ d', Go.Sort.PermIn 0 d.size d d' ∧ Go.Sort.SortedIn (ltOf cmpF) 0 d.size d' ∧ Go.Sort.HoldsK filCells 2 w' g 0 d' ∧ Chg (some g) w w' := by
  have eg : ∀ args w, (callFunc 159 args).run Tryd.prog w = .ok (.enter 159 args) w := enters_of Tryd.func159 (by kernel_rfl) rfl
  have hlim : Lib.bitLen d.size < 4611686018427387904 := Nat.lt_of_le_of_lt (Lib.bitLen_le d.size 62 (by omega) (by omega)) (by omega)
  have R : RowK filCells 2 w g 0 d := ⟨fun _ => rfl, fun x v hv => by simp [filCells] at hv; rcases hv with rfl | rfl <;> rfl, hH, hg⟩
  have hp := AnyQ.pdqsortCmpFunc_all Tryd.pdqFile 2 Tryd.isAgg91 Tryd.sizeOf91 filCells cmpF 159 #[] swoF g 0 cap d w eg (fun m os dk hs x y => clo58 x y _) R (d.size + 1) 0 d.size (Lib.bitLen d.size) d w (by omega) rfl (SWK.start hH) (Nat.zero_le _) (Nat.le_refl _) (by omega) hlim (Or.inl rfl)
  change Calls Tryd.prog 202 _ _ _ at hp
  have hl := Tryd.bits_Len (d.size : Int) w (by omega) (by omega)
  rw [Int.toNat_natCast] at hl
  have hwr : IntKind.u64.wrap (d.size : Int) = d.size := by rw [IntKind.wrap_u64]; omega
  have hpost : ∀ w', SWK filCells 2 w g 0 (Go.Sort.pdq (ltOf cmpF) d 0 d.size (Lib.bitLen d.size) true true) w' →
      ∃ d', Go.Sort.PermIn 0 d.size d d' ∧ Go.Sort.SortedIn (ltOf cmpF) 0 d.size d' ∧ Go.Sort.HoldsK filCells 2 w' g 0 d' ∧ Chg (some g) w w' := fun w' h => by
    have hs := Go.Sort.pdq_sorts (ltOf cmpF) swoF d 0 d.size (Lib.bitLen d.size) true true (Nat.zero_le _) (Nat.le_refl _) (Or.inl rfl)
    refine ⟨_, hs.1, hs.2, h.holds hg hH hs.1.1, swk_chg h⟩
  have HP := Lib.hid hp
  have HL := Lib.hid hl
  have HQ := Lib.hid hpost
  clear hp hl hpost R hH eg
  generalize Lib.bitLen d.size = lim at *
  go_enter Tryd.func158, Tryd.ntmps158
  go_wp2_with fail
  refine HL.out.mono ?_
  rintro e w' ⟨rfl, rfl⟩
  go_wp2_with fail
  refine HP.out.mono ?_
  rintro e w' ⟨rfl, hsw⟩
  have HR := Lib.hid (HQ.out _ hsw)
  clear hsw
  go_wp2_with fail
  go_end0
  exact ⟨rfl, HR.out⟩

end Go.Proofs.YtbadkkilblgpmaaDoor
