/-
  Package tree: Get; the document's Great.
-/
import Derived.Test.YtglfakglcoffkaaTN
import Derived.Test.YtglfakglcoffkaaTW
namespace Go.Proofs.Ytglfakglcoffkaa
open Go.RowKit

set_option maxHeartbeats 8000000 in
set_option maxRecDepth 100000 in
/-- Great tells something, and changes nothing. -/
theorem great_any (L : List Fil) (A : Option Addr) (c : Nat) (w : World) (hT : TreeAt w A L) (hl : L.length ≤ 9223372036854775807) :
    Calls Try.prog 16 #[.slice A L.length c] w fun e w' => ∃ b : Bool, e = .returned (.bool b) ∧ Chg none w w' := by
  have HT : Hid (∀ v, Chg none w v → TreeAt v A L) := fun v g => hT.chg g
  clear hT
  go_enter Try.func16, Try.ntmps16
  go_wp2_with fail
  go_loopw [3, 4] (fun s3 s4 wr => ∃ (z : Int) (k : Nat), s3 = .int .i64 z ∧ s4 = .int .i64 k ∧ Hid (k ≤ L.length) ∧ Hid (Chg none w wr)) (fun _ s4 _ => L.length - (intOf s4).toNat)
  case atStart => exact ⟨0, 0, rfl, rfl, Lib.hid (Nat.zero_le _), Lib.hid (Chg.refl _ _)⟩
  case round =>
    obtain ⟨z, k, rfl, rfl, H1, H2⟩ := hrel
    by_cases hlt : k < L.length
    · have hd : decide ((k : Int) < (L.length : Int)) = true := by rw [decide_eq_true_eq]; omega
      obtain ⟨x, hkx⟩ : ∃ x, L[k]? = some x := ⟨_, List.getElem?_eq_getElem hlt⟩
      have hne : L ≠ [] := by intro e; subst e; simp at hlt
      have HRW := Lib.hid (HT.out wr H2.out)
      obtain ⟨b, off, rfl, -, -⟩ := HRW.out.1 hne
      obtain ⟨hb, x0, x1⟩ := HRW.out.1.two hkx
      have HLT := Lib.hid hlt
      have hkl : (k : Int) < (L.length : Int) := by omega
      clear hkx hne HRW HT
      obtain ⟨fp, fA, fx, fc⟩ := x
      dsimp only at x0 x1
      go_wp2_with fail
      go_region
      all_goals
        go_wp2_with fail
        go_roundw
        case rel => exact ⟨_, k + 1, rfl, by first | rfl | (simp; done), Lib.hid HLT.out, Lib.hid H2.out.drew⟩
        case measure =>
          have := HLT.out
          first | omega | (simp only [intOf]; omega) | (simp [intOf]; omega)
    · have hd : decide (k < L.length) = false := by rw [decide_eq_false_iff_not]; exact hlt
      have hd2 : decide ((k : Int) < (L.length : Int)) = false := by rw [decide_eq_false_iff_not]; omega
      clear hlt HT
      go_wp2_with fail
      go_ret
      exact ⟨_, rfl, H2.out⟩

set_option maxHeartbeats 8000000 in
set_option maxRecDepth 100000 in
theorem get_no (L : List Fil) (A : Option Addr) (c : Nat) (path : List UInt8) (w : World) (hT : TreeAt w A L) (hl : L.length ≤ 9223372036854775807) (hm : mayT L = false) :
    Calls Try.prog 18 #[.slice A L.length c, .string ⟨path.toArray⟩] w fun e w' => e = .returned (.tuple #[.slice none 0 0, .bool false]) ∧ Chg none w w' := by
  have HM := Lib.hid (mayt_any L A c w hT hl)
  rw [hm] at HM
  clear hT hl hm
  go_enter Try.func18, Try.ntmps18
  go_wp2_with fail
  refine HM.out.mono ?_
  rintro e w1 ⟨rfl, g1⟩
  go_wp2_with fail
  go_ret2
  exact ⟨rfl, g1⟩

/-- What Get tells of a tree that may be. -/
def ToldG (w0 : World) (K : List (List UInt8 × List UInt8)) (path : List UInt8) (e : Ending) (w' : World) : Prop :=
  Chg none w0 w' ∧ ((getK path K = none ∧ e = .returned (.tuple #[.slice none 0 0, .bool false])) ∨
    ∃ (x : List UInt8) (A : Option Addr) (c : Nat), getK path K = some x ∧ e = .returned (.tuple #[.slice A x.length c, .bool true]) ∧ w'.ownsRow w0.heap.size 5 1 (.slice A x.length c) x.length (byteVals x))

theorem getK_first {L : List Fil} {k : Nat} {f : Fil} (hk : L[k]? = some f) (h : ∀ (j : Nat) g, j < k → L[j]? = some g → g.p ≠ f.p) : getK f.p (keys L) = some f.x := by
  have hlt := (List.getElem?_eq_some_iff.1 hk).1
  have hd : L.drop k = f :: L.drop (k + 1) := by
    have h1 := List.getElem?_eq_some_iff.1 hk
    rw [← h1.2, ← List.drop_eq_getElem_cons h1.1]
  unfold getK keys
  rw [← List.take_append_drop k L, hd, List.map_append, List.find?_append]
  have h0 : ((L.take k).map keyF).find? (fun g => g.1 == f.p) = none := by
    rw [List.find?_eq_none]
    intro g hg
    obtain ⟨m, hm, rfl⟩ := List.mem_map.1 hg
    obtain ⟨j, hj, rfl⟩ := List.mem_iff_getElem.1 hm
    have hj' : j < k := by have := hj; rw [List.length_take] at this; omega
    have := h j L[j] hj' (List.getElem?_eq_getElem (by omega))
    rw [List.getElem_take]
    simpa [keyF] using this
  rw [h0]
  simp [keyF]

set_option maxHeartbeats 16000000 in
set_option maxRecDepth 100000 in
theorem get_yes (L : List Fil) (A : Option Addr) (c : Nat) (path : List UInt8) (w : World) (hT : TreeAt w A L) (hm : mayT L = true) :
    Calls Try.prog 18 #[.slice A L.length c, .string ⟨path.toArray⟩] w (ToldG w (keys L) path) := by
  obtain ⟨h16, hfl, -, -⟩ := mayT_parts hm
  have HM := Lib.hid (mayt_any L A c w hT (by omega))
  rw [hm] at HM
  have HT : Hid (∀ v, Chg none w v → TreeAt v A L) := fun v g => hT.chg g
  have HFL := Lib.hid hfl
  have HL16 := Lib.hid h16
  clear hT hm hfl h16
  go_enter Try.func18, Try.ntmps18
  go_wp2_with fail
  refine HM.out.mono ?_
  rintro e w1 ⟨rfl, g1⟩
  have G1 := Lib.hid g1
  clear g1 HM
  go_wp2_with fail
  go_loopw [13] (fun s13 wr => ∃ k : Nat, s13 = .int .i64 k ∧ Hid (k ≤ L.length ∧ ∀ (j : Nat) g, j < k → L[j]? = some g → g.p ≠ path) ∧ Hid (Chg none w wr)) (fun s13 _ => L.length - (intOf s13).toNat)
  case atStart => exact ⟨0, rfl, Lib.hid ⟨Nat.zero_le _, fun j g h => absurd h (Nat.not_lt_zero _)⟩, G1⟩
  case round =>
    obtain ⟨k, rfl, H1, H2⟩ := hrel
    by_cases hlt : k < L.length
    · have hd : decide ((k : Int) < (L.length : Int)) = true := by rw [decide_eq_true_eq]; omega
      obtain ⟨x, hkx⟩ : ∃ x, L[k]? = some x := ⟨_, List.getElem?_eq_getElem hlt⟩
      have hne : L ≠ [] := by intro e; subst e; simp at hlt
      have HRW := Lib.hid (HT.out wr H2.out)
      obtain ⟨b, off, rfl, -, -⟩ := HRW.out.1 hne
      obtain ⟨hb, x0, x1⟩ := HRW.out.1.two hkx
      have HLT := Lib.hid hlt
      have HKX := Lib.hid hkx
      have HTX : Hid (∀ v, Chg none w v → x.ok v) := fun v g => (HT.out v g).2 x (List.mem_of_getElem? hkx)
      have HXL := Lib.hid (HFL.out x (List.mem_of_getElem? hkx))
      clear hkx hne HRW HT hlt HFL
      obtain ⟨fp, fA, fx, fc⟩ := x
      dsimp only at x0 x1 HXL
      have HG1 : Hid (Chg none w (wr.alloc (.cells #[.string ⟨fp.toArray⟩, .slice fA fx.length fc] 38))) := H2.out.alloc _
      by_cases hp : fp = path
      · have HGK : Hid (getK path (keys L) = some fx) := by
          have h := getK_first (f := ⟨fp, fA, fx, fc⟩) HKX.out (fun j g hj hg => by rw [show (⟨fp, fA, fx, fc⟩ : Fil).p = path from hp]; exact H1.out.2 j g hj hg)
          rw [← hp]; exact h
        have HCL := Lib.hid (fun v (g : Chg none w v) => clone27 fA fx fc v (HTX.out v g).nil (txt_reads (HTX.out v g).t) (by have := HXL.out.2; omega))
        subst hp
        go_wp2_with fail
        refine (HCL.out _ HG1.out).mono ?_
        rintro e v1 ⟨A1, n1, c1, rfl, rfl, hown1, hb1⟩
        have G2 : Hid (Chg none w v1) := Chg.trans HG1.out ⟨hb1.os, hb1.tape, hb1.output, hb1.size, fun k hk _ => hb1.block k hk⟩
        have HOW := Lib.hid (World.ownsRow.mono hown1 HG1.out.size)
        clear hown1 hb1
        go_wp2_with fail
        go_ret2
        exact ⟨G2.out, .inr ⟨fx, A1, c1, HGK.out, rfl, HOW.out⟩⟩
      · have e1 : (fp == path) = false := by rw [beq_eq_false_iff_ne]; exact hp
        have h16 := HL16.out
        have hlk := HLT.out
        have HNE := Lib.hid hp
        clear hp
        go_wp2_with fail
        go_roundw
        case rel => exact ⟨k + 1, by first | rfl | (simp; done), Lib.hid ⟨HLT.out, fun j g hj hg => by
          rcases Nat.lt_or_ge j k with h | h
          · exact H1.out.2 j g h hg
          · obtain rfl : j = k := by omega
            obtain rfl := Option.some.inj (HKX.out.symm.trans hg)
            exact HNE.out⟩, HG1⟩
        case measure =>
          have := HLT.out
          first | omega | (simp only [intOf]; omega) | (simp [intOf]; omega)
    · have hd : decide (k < L.length) = false := by rw [decide_eq_false_iff_not]; exact hlt
      have hd2 : decide ((k : Int) < (L.length : Int)) = false := by rw [decide_eq_false_iff_not]; omega
      have HGN : Hid (getK path (keys L) = none) := getK_none.2 (fun f hf => by
        obtain ⟨m, hm, rfl⟩ := List.mem_map.1 hf
        obtain ⟨j, hj, rfl⟩ := List.mem_iff_getElem.1 hm
        exact H1.out.2 j L[j] (Nat.lt_of_lt_of_le hj (Nat.not_lt.1 hlt)) (List.getElem?_eq_getElem hj))
      clear hlt HT
      go_wp2_with fail
      go_ret2
      exact ⟨H2.out, .inl ⟨HGN.out, rfl⟩⟩

end Go.Proofs.Ytglfakglcoffkaa
