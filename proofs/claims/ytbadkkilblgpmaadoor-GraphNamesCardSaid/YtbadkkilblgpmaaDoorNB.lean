/-
  Package parser: slices.Contains of texts; mayDeps.
-/
import Derived.Test.YtbadkkilblgpmaaDoorNA
import Derived.Test.YtbadkkilblgpmaaDoorTA
import Derived.Lib.Hide
namespace Go.Proofs.YtbadkkilblgpmaaDoor
open Go.RowKit

def strC (s : List UInt8) : List Value := [.string ⟨s.toArray⟩]
/-- Texts, in a row. -/
def StrsAt (w : World) (A : Option Addr) (L : List (List UInt8)) : Prop := RowsAt w 1 A strC L ∧ ∀ s ∈ L, s.length ≤ 9223372036854775807
theorem StrsAt.chg {w w' : World} {A : Option Addr} {L : List (List UInt8)} (h : StrsAt w A L) (g : Chg none w w') : StrsAt w' A L := ⟨RowsAt.chg h.1 g, h.2⟩
theorem StrsAt.one {w : World} {A : Option Addr} {L : List (List UInt8)} (h : StrsAt w A L) {k : Nat} {s : List UInt8} (hk : L[k]? = some s) : ∃ b off, A = some ⟨b, off, none⟩ ∧ b < w.heap.size ∧ w.cell? ⟨b, off + k, none⟩ = some (.string ⟨s.toArray⟩) := by
  have hne : L ≠ [] := by intro e; subst e; simp at hk
  obtain ⟨b, off, rfl, hlt, hc⟩ := h.1 hne
  have h1 := hc k s hk 0 (by omega)
  rw [Nat.mul_one, Nat.add_zero] at h1
  exact ⟨b, off, rfl, hlt, h1⟩
theorem StrsAt.take {w : World} {A : Option Addr} {L : List (List UInt8)} (h : StrsAt w A L) (k : Nat) : StrsAt w A (L.take k) := by
  refine ⟨fun hne => ?_, fun s hs => h.2 s (List.mem_of_mem_take hs)⟩
  have hne' : L ≠ [] := by intro e; subst e; simp at hne
  obtain ⟨b, off, rfl, hlt, hc⟩ := h.1 hne'
  refine ⟨b, off, rfl, hlt, fun i a hi j hj => hc i a ?_ j hj⟩
  rw [List.getElem?_take] at hi
  split at hi
  · exact hi
  · cases hi
def hasS (L : List (List UInt8)) (x : List UInt8) : Bool := L.any (· == x)

/-- Where a text stands. -/
def IdxS (L : List (List UInt8)) (x : List UInt8) (z : Int) : Prop := (z = -1 ∧ hasS L x = false) ∨ ∃ i : Nat, z = i ∧ hasS L x = true
set_option maxHeartbeats 4000000 in
theorem index206 (L : List (List UInt8)) (A : Option Addr) (c : Nat) (x : List UInt8) (w : World) (hT : StrsAt w A L) (hl : L.length ≤ 1000) :
    Calls Tryd.prog 206 #[.slice A L.length c, .string ⟨x.toArray⟩] w fun e w' => ∃ z : Int, e = .returned (.int .i64 z) ∧ w = w' ∧ IdxS L x z := by
  have HT := Lib.hid hT
  have HL := Lib.hid hl
  clear hT hl
  go_enter Tryd.func206, Tryd.ntmps206
  go_wp2_with fail
  go_loop [8] (fun s8 => ∃ k : Nat, s8 = .int .i64 k ∧ Hid (k ≤ L.length ∧ ∀ (j : Nat) g, j < k → L[j]? = some g → g ≠ x)) (fun s8 => L.length - (intOf s8).toNat)
  case atStart => exact ⟨0, rfl, Lib.hid ⟨Nat.zero_le _, fun j g h => absurd h (Nat.not_lt_zero _)⟩⟩
  case round =>
    obtain ⟨k, rfl, H1⟩ := hrel
    by_cases hlt : k < L.length
    · have hd : decide ((k : Int) < (L.length : Int)) = true := by rw [decide_eq_true_eq]; omega
      obtain ⟨s, hks⟩ : ∃ s, L[k]? = some s := ⟨_, List.getElem?_eq_getElem hlt⟩
      obtain ⟨b, off, rfl, hb, x0⟩ := HT.out.one hks
      have HLT := Lib.hid hlt
      have HKX := Lib.hid hks
      have HLL := HL.out
      clear hks
      by_cases e : x = s
      · have e1 : (x == s) = true := by rw [beq_iff_eq]; exact e
        have HE : Hid (hasS L x = true) := Lib.hid (List.any_eq_true.2 ⟨s, List.mem_of_getElem? HKX.out, by rw [beq_iff_eq]; exact e.symm⟩)
        clear e
        go_wp2_with fail
        go_ret
        exact ⟨_, rfl, rfl, .inr ⟨k, rfl, HE.out⟩⟩
      · have e1 : (x == s) = false := by rw [beq_eq_false_iff_ne]; exact e
        have e2 : ¬ x = s := e
        have HE := Lib.hid e
        clear e
        go_wp2_with fail
        go_round
        case rel => exact ⟨k + 1, by first | rfl | go_num, Lib.hid ⟨HLT.out, fun j g hj hg => by
          rcases Nat.lt_or_ge j k with h | h
          · exact H1.out.2 j g h hg
          · obtain rfl : j = k := by omega
            obtain rfl := Option.some.inj (HKX.out.symm.trans hg)
            exact fun e => HE.out e.symm⟩⟩
        case measure => have := HLT.out; first | omega | (simp only [intOf]; omega) | (simp [intOf]; omega)
    · have hd : decide (k < L.length) = false := by rw [decide_eq_false_iff_not]; exact hlt
      have hd2 : decide ((k : Int) < (L.length : Int)) = false := by rw [decide_eq_false_iff_not]; omega
      have HE : Hid (hasS L x = false) := Lib.hid (List.any_eq_false.2 fun f hf => by
        obtain ⟨i, hi, hif⟩ := List.getElem_of_mem hf
        rw [beq_iff_eq]
        exact H1.out.2 i f (by have := H1.out.1; omega) (by rw [List.getElem?_eq_getElem hi, hif]))
      clear hlt
      go_wp2_with fail
      go_ret
      exact ⟨_, rfl, rfl, .inl ⟨rfl, HE.out⟩⟩

set_option maxHeartbeats 4000000 in
theorem contains175 (L : List (List UInt8)) (A : Option Addr) (c : Nat) (x : List UInt8) (w : World) (hT : StrsAt w A L) (hl : L.length ≤ 1000) :
    Calls Tryd.prog 175 #[.slice A L.length c, .string ⟨x.toArray⟩] w fun e w' => e = .returned (.bool (hasS L x)) ∧ w = w' := by
  have HI := Lib.hid (index206 L A c x w hT hl)
  clear hT hl
  go_enter Tryd.func175, Tryd.ntmps175
  go_wp2_with fail
  refine HI.out.mono ?_
  rintro e w' ⟨z, rfl, rfl, hz⟩
  rcases hz with ⟨rfl, hh⟩ | ⟨i, rfl, hh⟩
  · have HH := Lib.hid hh
    clear hh
    go_wp2_with fail
    go_ret
    exact ⟨by rw [HH.out]; rfl, rfl⟩
  · have HH := Lib.hid hh
    clear hh
    have hzi : decide ((0 : Int) ≤ (i : Int)) = true := by rw [decide_eq_true_eq]; omega
    go_wp2_with fail
    go_ret
    exact ⟨by rw [HH.out]; rfl, rfl⟩

/-! ### mayDeps -/
def depOk (D : List (List UInt8)) (k : Nat) : Bool := nameB (D.getD k []) && !hasS (D.take k) (D.getD k [])
def depsB (D : List (List UInt8)) : Bool := decide (D.length ≤ 5) && (List.range D.length).all (depOk D)
theorem cut_hi64 (g o k n c : Nat) (hn : k ≤ n) (hc : n ≤ c) (w : World) :
    (Instr.sliceAt 64 (.slice (some ⟨g, o, none⟩) n c) none (some (.int .i64 k)) none).run Tryd.prog w = .ok (.slice (some ⟨g, o, none⟩) k c) w := by
  have u25 := Tryd.underlying64
  have z38 := Tryd.sizeOf9
  have h4 : (k : Int) ≤ n := by omega
  have h5 : (k : Int) ≤ c := by omega
  go_simp

set_option maxHeartbeats 8000000 in
theorem maydeps_any (D : List (List UInt8)) (A : Option Addr) (c : Nat) (w : World) (hT : StrsAt w A D) (hl : D.length ≤ 9223372036854775807) (hcap : D.length ≤ c) (hcm : c ≤ 9223372036854775807) :
    Calls Tryd.prog 138 #[.slice A D.length c] w fun e w' => e = .returned (.bool (depsB D)) ∧ Chg none w w' := by
  by_cases h5 : 5 < D.length
  · have d1 : decide ((5 : Int) < (D.length : Int)) = true := by rw [decide_eq_true_eq]; omega
    have hr : depsB D = false := by unfold depsB; rw [decide_eq_false (by omega : ¬ D.length ≤ 5), Bool.false_and]
    rw [hr]
    clear hr h5 hT
    go_enter Tryd.func138, Tryd.ntmps138
    go_wp2_with fail
    go_ret
    exact ⟨rfl, Chg.refl _ _⟩
  have d1 : decide ((5 : Int) < (D.length : Int)) = false := by rw [decide_eq_false_iff_not]; omega
  have HR : Hid (depsB D = (List.range D.length).all (depOk D)) := Lib.hid (by unfold depsB; rw [decide_eq_true (by omega : D.length ≤ 5), Bool.true_and])
  have HT : Hid (∀ v, Chg none w v → StrsAt v A D) := Lib.hid fun v g => hT.chg g
  have HCAP := Lib.hid hcap
  have HL5 : Hid (D.length ≤ 5) := Lib.hid (by omega)
  have HCM := Lib.hid hcm
  clear hT h5 hcap hcm hl
  go_enter Tryd.func138, Tryd.ntmps138
  go_wp2_with fail
  go_loopw [10] (fun s10 wr => ∃ k : Nat, s10 = .int .i64 k ∧ Hid (k ≤ D.length ∧ ∀ j, j < k → depOk D j = true) ∧ Hid (Chg none w wr)) (fun s10 _ => D.length - (intOf s10).toNat)
  case atStart => exact ⟨0, rfl, Lib.hid ⟨Nat.zero_le _, fun j h => absurd h (Nat.not_lt_zero _)⟩, Lib.hid (Chg.refl _ _)⟩
  case round =>
    obtain ⟨k, rfl, H1, H2⟩ := hrel
    by_cases hlt : k < D.length
    · have hd : decide ((k : Int) < (D.length : Int)) = true := by rw [decide_eq_true_eq]; omega
      obtain ⟨s, hks⟩ : ∃ s, D[k]? = some s := ⟨_, List.getElem?_eq_getElem hlt⟩
      obtain ⟨b, off, rfl, hb, x0⟩ := (HT.out wr H2.out).one hks
      have HLT := Lib.hid hlt
      have hl5 := HL5.out
      have HNM := Lib.hid (isname_any s wr ((HT.out wr H2.out).2 s (List.mem_of_getElem? hks)))
      have hsd : D.getD k [] = s := by rw [List.getD_eq_getElem?_getD, hks]; rfl
      have HDO : Hid (depOk D k = (nameB s && !hasS (D.take k) s)) := Lib.hid (by unfold depOk; rw [hsd])
      have HFA : Hid (depOk D k = false → depsB D = false) := Lib.hid fun h => by
        rw [HR.out, List.all_eq_false]
        exact ⟨k, by simpa using HLT.out, by rw [h]; simp⟩
      have hcut := cut_hi64 b off k D.length c (by omega) HCAP.out
      have htl : (D.take k).length = k := by rw [List.length_take]; omega
      have HCT : Hid (∀ v, Chg none w v → Calls Tryd.prog 175 #[.slice (some ⟨b, off, none⟩) k c, .string ⟨s.toArray⟩] v fun e w' => e = .returned (.bool (hasS (D.take k) s)) ∧ v = w') := Lib.hid fun v g => by
        have h := contains175 (D.take k) (some ⟨b, off, none⟩) c s v ((HT.out v g).take k) (by omega)
        rw [htl] at h
        exact h
      clear hks hsd htl
      cases hn : nameB s with
      | false =>
        rw [hn] at HNM
        have HRES := Lib.hid (HFA.out (by rw [HDO.out, hn]; rfl))
        clear hn HFA HDO HCT
        go_wp2_with fail
        refine HNM.out.mono ?_
        rintro e w2 ⟨rfl, g2⟩
        have G2 := Lib.hid (H2.out.trans g2)
        clear g2
        go_wp2_with fail
        go_ret
        exact ⟨by rw [HRES.out]; rfl, G2.out⟩
      | true =>
        rw [hn] at HNM
        cases hh : hasS (D.take k) s with
        | true =>
          rw [hh] at HCT
          have HRES := Lib.hid (HFA.out (by rw [HDO.out, hn, hh]; rfl))
          clear hn hh HFA HDO
          go_wp2_with fail
          refine HNM.out.mono ?_
          rintro e w2 ⟨rfl, g2⟩
          have G2 := Lib.hid (H2.out.trans g2)
          clear g2
          go_wp2_with fail
          refine (HCT.out _ G2.out).mono ?_
          rintro e w3 ⟨rfl, rfl⟩
          go_wp2_with fail
          go_ret
          exact ⟨by rw [HRES.out]; rfl, G2.out⟩
        | false =>
          rw [hh] at HCT
          have HOK : Hid (depOk D k = true) := Lib.hid (by rw [HDO.out, hn, hh]; rfl)
          clear hn hh HFA HDO
          go_wp2_with fail
          refine HNM.out.mono ?_
          rintro e w2 ⟨rfl, g2⟩
          have G2 := Lib.hid (H2.out.trans g2)
          clear g2
          go_wp2_with fail
          refine (HCT.out _ G2.out).mono ?_
          rintro e w3 ⟨rfl, rfl⟩
          go_wp2_with fail
          go_roundw
          case rel => exact ⟨k + 1, by first | rfl | go_num, Lib.hid ⟨HLT.out, fun j hj => by
            rcases Nat.lt_or_ge j k with h | h
            · exact H1.out.2 j h
            · obtain rfl : j = k := by omega
              exact HOK.out⟩, G2⟩
          case measure => have := HLT.out; first | omega | (simp only [intOf]; omega) | (simp [intOf]; omega)
    · have hd : decide (k < D.length) = false := by rw [decide_eq_false_iff_not]; exact hlt
      have hd2 : decide ((k : Int) < (D.length : Int)) = false := by rw [decide_eq_false_iff_not]; omega
      have HRES : Hid (depsB D = true) := Lib.hid (by
        rw [HR.out, List.all_eq_true]
        intro j hj
        have hj' : j < D.length := by simpa using hj
        exact H1.out.2 j (by omega))
      clear hlt
      go_wp2_with fail
      go_ret
      exact ⟨by rw [HRES.out]; rfl, H2.out⟩

end Go.Proofs.YtbadkkilblgpmaaDoor
