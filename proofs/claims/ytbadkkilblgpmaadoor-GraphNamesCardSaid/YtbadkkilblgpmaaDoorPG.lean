/-
  Package program: May; the document's.
-/
import Derived.Test.YtbadkkilblgpmaaDoorPD
import Derived.Test.YtbadkkilblgpmaaDoorPE
namespace Go.Proofs.YtbadkkilblgpmaaDoor
open Go.RowKit

def mayB (L : List Ins) : Bool := decide (L.length ≤ 30) && L.all fun x => insB x L.length
theorem mayB_yes {L : List Ins} (h : L.length ≤ 30) (ha : ∀ (k : Nat) x, L[k]? = some x → insB x L.length = true) : mayB L = true := by
  unfold mayB
  rw [decide_eq_true h, Bool.true_and, List.all_eq_true]
  intro x hx
  obtain ⟨k, hk, rfl⟩ := List.mem_iff_getElem.1 hx
  exact ha k _ (List.getElem?_eq_getElem hk)
theorem mayB_no {L : List Ins} {k : Nat} {x : Ins} (hk : L[k]? = some x) (h : insB x L.length = false) : mayB L = false := by
  unfold mayB
  have : (L.all fun x => insB x L.length) = false := by
    rw [List.all_eq_false]
    exact ⟨x, List.mem_of_getElem? hk, by rw [h]; simp⟩
  rw [this, Bool.and_false]
theorem mayB_long {L : List Ins} (h : 30 < L.length) : mayB L = false := by
  unfold mayB
  rw [decide_eq_false (by omega), Bool.false_and]

set_option maxHeartbeats 8000000 in
set_option maxRecDepth 100000 in
theorem may_any (L : List Ins) (A : Option Addr) (c : Nat) (w : World) (hr : RowsAt w 6 A insCells L) (hx : ∀ x ∈ L, x.fits) (hl : L.length ≤ 9223372036854775807) (hF : Flds w) :
    Calls Tryd.prog 41 #[.slice A L.length c] w fun e w' => e = .returned (.bool (mayB L)) ∧ Chg none w w' := by
  by_cases h30 : 30 < L.length
  · have d1 : decide ((30 : Int) < (L.length : Int)) = true := by rw [decide_eq_true_eq]; omega
    rw [mayB_long h30]
    clear h30
    go_enter Tryd.func41, Tryd.ntmps41
    go_wp2_with fail
    go_ret
    exact ⟨rfl, Chg.refl _ _⟩
  have d1 : decide ((30 : Int) < (L.length : Int)) = false := by rw [decide_eq_false_iff_not]; omega
  have HR : Hid (∀ v, Chg none w v → RowsAt v 6 A insCells L) := fun v g => hr.chg g
  have HM : Hid (∀ x ∈ L, ∀ v, Chg none w v → Calls Tryd.prog 86 #[.agg (insCells x).toArray, .int .i64 L.length] v fun e w' => e = .returned (.bool (insB x L.length)) ∧ Chg none v w') := fun x h v g => mayins_any x _ v (hx x h) (hF.chg g)
  have HL3 : Hid (L.length ≤ 30) := by show _ ≤ _; omega
  clear hr hx h30 hF
  go_enter Tryd.func41, Tryd.ntmps41
  go_wp2_with fail
  go_loopw [10] (fun s10 wr => ∃ k : Nat, s10 = .int .i64 k ∧ Hid (k ≤ L.length ∧ ∀ (j : Nat) x, j < k → L[j]? = some x → insB x L.length = true) ∧ Hid (Chg none w wr)) (fun s10 _ => L.length - (intOf s10).toNat)
  case atStart => exact ⟨0, rfl, Lib.hid ⟨Nat.zero_le _, fun j x h => absurd h (Nat.not_lt_zero _)⟩, Lib.hid (Chg.refl _ _)⟩
  case round =>
    obtain ⟨k, rfl, H1, H2⟩ := hrel
    by_cases hlt : k < L.length
    · have hd : decide ((k : Int) < (L.length : Int)) = true := by rw [decide_eq_true_eq]; omega
      obtain ⟨x, hkx⟩ : ∃ x, L[k]? = some x := ⟨_, List.getElem?_eq_getElem hlt⟩
      have hne : L ≠ [] := by intro e; subst e; simp at hlt
      have HMX := Lib.hid (HM.out x (List.mem_of_getElem? hkx))
      have HRW := Lib.hid (HR.out wr H2.out)
      obtain ⟨b, off, rfl, -, -⟩ := HRW.out hne
      obtain ⟨hb, x0, x1, x2, x3, x4, x5⟩ := HRW.out.six hkx
      have HKX := Lib.hid hkx
      have HLT := Lib.hid hlt
      clear hkx hne HRW
      by_cases hi : insB x L.length = true
      · have HI := Lib.hid hi
        rw [hi] at HMX
        clear hi
        obtain ⟨op, sa, sb, sc, n, m⟩ := x
        unfold insCells at HMX
        dsimp only at HMX x0 x1 x2 x3 x4 x5
        go_wp2_with fail
        refine (HMX.out _ (by repeat (first | exact H2.out | refine Chg.drew ?_ | refine Chg.alloc ?_ _))).mono ?_
        rintro e w2 ⟨rfl, g2⟩
        have G2 : Hid (Chg none w w2) := Chg.trans (by repeat (first | exact H2.out | refine Chg.drew ?_ | refine Chg.alloc ?_ _)) g2
        clear g2
        go_wp2_with fail
        go_roundw
        case rel => exact ⟨k + 1, by first | rfl | (simp; done), Lib.hid ⟨HLT.out, fun j y hj hy => by
          rcases Nat.lt_or_ge j k with h | h
          · exact H1.out.2 j y h hy
          · obtain rfl : j = k := by omega
            obtain rfl := Option.some.inj (HKX.out.symm.trans hy)
            exact HI.out⟩, G2⟩
        case measure =>
          have := HLT.out
          first | omega | (simp only [intOf]; omega) | (simp [intOf]; omega)
      · have hi' : insB x L.length = false := by simpa using hi
        have HRES := Lib.hid (mayB_no HKX.out hi')
        rw [hi'] at HMX
        clear hi hi'
        obtain ⟨op, sa, sb, sc, n, m⟩ := x
        unfold insCells at HMX
        dsimp only at HMX x0 x1 x2 x3 x4 x5
        go_wp2_with fail
        refine (HMX.out _ (by repeat (first | exact H2.out | refine Chg.drew ?_ | refine Chg.alloc ?_ _))).mono ?_
        rintro e w2 ⟨rfl, g2⟩
        have G2 : Hid (Chg none w w2) := Chg.trans (by repeat (first | exact H2.out | refine Chg.drew ?_ | refine Chg.alloc ?_ _)) g2
        clear g2
        go_wp2_with fail
        go_ret
        exact ⟨by rw [HRES.out]; rfl, G2.out⟩
    · have hd : decide (k < L.length) = false := by rw [decide_eq_false_iff_not]; exact hlt
      have HRES := Lib.hid (mayB_yes HL3.out fun j x h => H1.out.2 j x (by have := (List.getElem?_eq_some_iff.1 h).1; omega) h)
      clear hlt
      go_wp2_with fail
      go_ret
      exact ⟨by rw [HRES.out]; rfl, H2.out⟩

set_option maxHeartbeats 8000000 in
set_option maxRecDepth 100000 in
theorem refmay_any (L : List Ins) (A : Option Addr) (c : Nat) (w : World) (hr : RowsAt w 6 A insCells L) (hx : ∀ x ∈ L, x.fits) (hl : L.length ≤ 9223372036854775807) :
    Calls Tryd.prog 42 #[.slice A L.length c] w fun e w' => e = .returned (.bool (mayB L)) ∧ Chg none w w' := by
  by_cases h30 : 30 < L.length
  · have d1 : decide ((30 : Int) < (L.length : Int)) = true := by rw [decide_eq_true_eq]; omega
    rw [mayB_long h30]
    clear h30
    go_enter Tryd.func42, Tryd.ntmps42
    go_wp2_with fail
    go_ret
    exact ⟨rfl, Chg.refl _ _⟩
  have d1 : decide ((30 : Int) < (L.length : Int)) = false := by rw [decide_eq_false_iff_not]; omega
  have HR : Hid (∀ v, Chg none w v → RowsAt v 6 A insCells L) := fun v g => hr.chg g
  have HM : Hid (∀ x ∈ L, ∀ v, Chg none w v → Calls Tryd.prog 87 #[.agg (insCells x).toArray, .int .i64 L.length] v fun e w' => e = .returned (.bool (insB x L.length)) ∧ Chg none v w') := fun x h v g => one_any x _ v (hx x h)
  have HL3 : Hid (L.length ≤ 30) := by show _ ≤ _; omega
  clear hr hx h30
  go_enter Tryd.func42, Tryd.ntmps42
  go_wp2_with fail
  go_loopw [3] (fun s10 wr => ∃ k : Nat, s10 = .int .i64 k ∧ Hid (k ≤ L.length ∧ ∀ (j : Nat) x, j < k → L[j]? = some x → insB x L.length = true) ∧ Hid (Chg none w wr)) (fun s10 _ => L.length - (intOf s10).toNat)
  case atStart => exact ⟨0, rfl, Lib.hid ⟨Nat.zero_le _, fun j x h => absurd h (Nat.not_lt_zero _)⟩, Lib.hid (Chg.refl _ _)⟩
  case round =>
    obtain ⟨k, rfl, H1, H2⟩ := hrel
    by_cases hlt : k < L.length
    · have hd : decide ((k : Int) < (L.length : Int)) = true := by rw [decide_eq_true_eq]; omega
      obtain ⟨x, hkx⟩ : ∃ x, L[k]? = some x := ⟨_, List.getElem?_eq_getElem hlt⟩
      have hne : L ≠ [] := by intro e; subst e; simp at hlt
      have HMX := Lib.hid (HM.out x (List.mem_of_getElem? hkx))
      have HRW := Lib.hid (HR.out wr H2.out)
      obtain ⟨b, off, rfl, -, -⟩ := HRW.out hne
      obtain ⟨hb, x0, x1, x2, x3, x4, x5⟩ := HRW.out.six hkx
      have HKX := Lib.hid hkx
      have HLT := Lib.hid hlt
      clear hkx hne HRW
      by_cases hi : insB x L.length = true
      · have HI := Lib.hid hi
        rw [hi] at HMX
        clear hi
        obtain ⟨op, sa, sb, sc, n, m⟩ := x
        unfold insCells at HMX
        dsimp only at HMX x0 x1 x2 x3 x4 x5
        go_wp2_with fail
        refine (HMX.out _ (by repeat (first | exact H2.out | refine Chg.drew ?_ | refine Chg.alloc ?_ _))).mono ?_
        rintro e w2 ⟨rfl, g2⟩
        have G2 : Hid (Chg none w w2) := Chg.trans (by repeat (first | exact H2.out | refine Chg.drew ?_ | refine Chg.alloc ?_ _)) g2
        clear g2
        go_wp2_with fail
        go_roundw
        case rel => exact ⟨k + 1, by first | rfl | (simp; done), Lib.hid ⟨HLT.out, fun j y hj hy => by
          rcases Nat.lt_or_ge j k with h | h
          · exact H1.out.2 j y h hy
          · obtain rfl : j = k := by omega
            obtain rfl := Option.some.inj (HKX.out.symm.trans hy)
            exact HI.out⟩, G2⟩
        case measure =>
          have := HLT.out
          first | omega | (simp only [intOf]; omega) | (simp [intOf]; omega)
      · have hi' : insB x L.length = false := by simpa using hi
        have HRES := Lib.hid (mayB_no HKX.out hi')
        rw [hi'] at HMX
        clear hi hi'
        obtain ⟨op, sa, sb, sc, n, m⟩ := x
        unfold insCells at HMX
        dsimp only at HMX x0 x1 x2 x3 x4 x5
        go_wp2_with fail
        refine (HMX.out _ (by repeat (first | exact H2.out | refine Chg.drew ?_ | refine Chg.alloc ?_ _))).mono ?_
        rintro e w2 ⟨rfl, g2⟩
        have G2 : Hid (Chg none w w2) := Chg.trans (by repeat (first | exact H2.out | refine Chg.drew ?_ | refine Chg.alloc ?_ _)) g2
        clear g2
        go_wp2_with fail
        go_ret
        exact ⟨by rw [HRES.out]; rfl, G2.out⟩
    · have hd : decide (k < L.length) = false := by rw [decide_eq_false_iff_not]; exact hlt
      have HRES := Lib.hid (mayB_yes HL3.out fun j x h => H1.out.2 j x (by have := (List.getElem?_eq_some_iff.1 h).1; omega) h)
      clear hlt
      go_wp2_with fail
      go_ret
      exact ⟨by rw [HRES.out]; rfl, H2.out⟩

end Go.Proofs.YtbadkkilblgpmaaDoor
