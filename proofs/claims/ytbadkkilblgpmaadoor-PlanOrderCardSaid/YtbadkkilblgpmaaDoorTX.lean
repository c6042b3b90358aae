/-
  Package tree: the closures of With and Join; slices.IndexFunc, slices.DeleteFunc.
-/
import Derived.Test.YtbadkkilblgpmaaDoorTG
import Derived.Lib.SliceRun
namespace Go.Proofs.YtbadkkilblgpmaaDoor
open Go.RowKit

/-- Where a path stands first; -1: nowhere. -/
def IdxOf (L : List Fil) (path : List UInt8) (z : Int) : Prop :=
  (z = -1 ∧ ∀ f ∈ L, f.p ≠ path) ∨ ∃ (i : Nat) (f : Fil), z = i ∧ L[i]? = some f ∧ f.p = path ∧ ∀ (j : Nat) g, j < i → L[j]? = some g → g.p ≠ path

set_option maxHeartbeats 4000000 in
theorem clo42 (f : Fil) (path : List UInt8) (b : Nat) (w : World) (hb : b < w.heap.size) (hc : w.cell? ⟨b, 0, none⟩ = some (.string ⟨path.toArray⟩)) :
    Calls Tryd.prog 115 #[.agg (filCells f).toArray, .pointer (some ⟨b, 0, none⟩)] w fun e w' => e = .returned (.bool (f.p == path)) ∧ Chg none w w' := by
  obtain ⟨fp, fA, fx, fc⟩ := f
  unfold filCells
  dsimp only
  have hne : b ≠ w.heap.size := by omega
  by_cases e : fp = path
  · have e1 : (fp == path) = true := by rw [beq_iff_eq]; exact e
    rw [e1]
    subst e
    clear e1
    go_enter Tryd.func115, Tryd.ntmps115
    go_wp2_with fail
    go_ret
    exact ⟨rfl, (Chg.refl _ _).alloc _⟩
  · have e1 : (fp == path) = false := by rw [beq_eq_false_iff_ne]; exact e
    have e2 : ¬ fp = path := e
    rw [e1]
    go_enter Tryd.func115, Tryd.ntmps115
    go_wp2_with fail
    go_ret
    exact ⟨rfl, (Chg.refl _ _).alloc _⟩

set_option maxHeartbeats 8000000 in
set_option maxRecDepth 100000 in
theorem index42 (L : List Fil) (A : Option Addr) (c : Nat) (path : List UInt8) (b : Nat) (w : World) (hT : TreeAt w A L) (hl : L.length ≤ 1000) (hb : ∀ v, Chg none w v → b < v.heap.size ∧ v.cell? ⟨b, 0, none⟩ = some (.string ⟨path.toArray⟩)) :
    Calls Tryd.prog 157 #[.slice A L.length c, .func (.func 115) #[] #[.pointer (some ⟨b, 0, none⟩)]] w fun e w' => ∃ z : Int, e = .returned (.int .i64 z) ∧ Chg none w w' ∧ IdxOf L path z := by
  have HT : Hid (∀ v, Chg none w v → TreeAt v A L) := fun v g => hT.chg g
  have HC : Hid (∀ (f : Fil) (v : World), Chg none w v → Calls Tryd.prog 115 #[.agg (filCells f).toArray, .pointer (some ⟨b, 0, none⟩)] v fun e w' => e = .returned (.bool (f.p == path)) ∧ Chg none v w') := fun f v g => clo42 f path b v (hb v g).1 (hb v g).2
  have HL := Lib.hid hl
  clear hT hb hl
  go_enter Tryd.func157, Tryd.ntmps157
  go_wp2_with fail
  go_loopw [8] (fun s8 wr => ∃ k : Nat, s8 = .int .i64 k ∧ Hid (k ≤ L.length ∧ ∀ (j : Nat) g, j < k → L[j]? = some g → g.p ≠ path) ∧ Hid (Chg none w wr)) (fun s8 _ => L.length - (intOf s8).toNat)
  case atStart => exact ⟨0, rfl, Lib.hid ⟨Nat.zero_le _, fun j g h => absurd h (Nat.not_lt_zero _)⟩, Lib.hid (Chg.refl _ _)⟩
  case round =>
    obtain ⟨k, rfl, H1, H2⟩ := hrel
    by_cases hlt : k < L.length
    · have hd : decide ((k : Int) < (L.length : Int)) = true := by rw [decide_eq_true_eq]; omega
      obtain ⟨x, hkx⟩ : ∃ x, L[k]? = some x := ⟨_, List.getElem?_eq_getElem hlt⟩
      have hne : L ≠ [] := by intro e; subst e; simp at hlt
      have HRW := Lib.hid (HT.out wr H2.out)
      obtain ⟨b2, off, rfl, -, -⟩ := HRW.out.1 hne
      obtain ⟨hb2, x0, x1⟩ := HRW.out.1.two hkx
      have HLT := Lib.hid hlt
      have HKX := Lib.hid hkx
      have HCX := Lib.hid (HC.out x)
      have hkb : (k : Int) ≤ 1000 := by have := HL.out; omega
      clear hkx hne HRW HT hlt HC
      obtain ⟨fp, fA, fx, fc⟩ := x
      unfold filCells at HCX
      dsimp only at x0 x1 HCX
      by_cases hp : fp = path
      · have e1 : (fp == path) = true := by rw [beq_iff_eq]; exact hp
        rw [e1] at HCX
        have HP := Lib.hid hp
        clear hp e1
        go_wp2_with fail
        refine (HCX.out _ (by repeat (first | exact H2.out | refine Chg.drew ?_ | refine Chg.alloc ?_ _))).mono ?_
        rintro e w2 ⟨rfl, g2⟩
        have G2 : Hid (Chg none w w2) := Chg.trans (by repeat (first | exact H2.out | refine Chg.drew ?_ | refine Chg.alloc ?_ _)) g2
        clear g2
        go_wp2_with fail
        go_ret
        exact ⟨_, rfl, G2.out, .inr ⟨k, _, rfl, HKX.out, HP.out, H1.out.2⟩⟩
      · have e1 : (fp == path) = false := by rw [beq_eq_false_iff_ne]; exact hp
        rw [e1] at HCX
        have HP := Lib.hid hp
        clear hp e1
        go_wp2_with fail
        refine (HCX.out _ (by repeat (first | exact H2.out | refine Chg.drew ?_ | refine Chg.alloc ?_ _))).mono ?_
        rintro e w2 ⟨rfl, g2⟩
        have G2 : Hid (Chg none w w2) := Chg.trans (by repeat (first | exact H2.out | refine Chg.drew ?_ | refine Chg.alloc ?_ _)) g2
        clear g2
        go_wp2_with fail
        go_roundw
        case rel => exact ⟨k + 1, by first | rfl | (simp; done), Lib.hid ⟨HLT.out, fun j g hj hg => by
          rcases Nat.lt_or_ge j k with h | h
          · exact H1.out.2 j g h hg
          · obtain rfl : j = k := by omega
            obtain rfl := Option.some.inj (HKX.out.symm.trans hg)
            exact HP.out⟩, G2⟩
        case measure =>
          have := HLT.out
          first | omega | (simp only [intOf]; omega) | (simp [intOf]; omega)
    · have hd : decide (k < L.length) = false := by rw [decide_eq_false_iff_not]; exact hlt
      have hd2 : decide ((k : Int) < (L.length : Int)) = false := by rw [decide_eq_false_iff_not]; omega
      have HGN : Hid (∀ f ∈ L, f.p ≠ path) := fun f hf => by
        obtain ⟨j, hj, rfl⟩ := List.mem_iff_getElem.1 hf
        exact H1.out.2 j L[j] (Nat.lt_of_lt_of_le hj (Nat.not_lt.1 hlt)) (List.getElem?_eq_getElem hj)
      clear hlt HT HC
      go_wp2_with fail
      go_ret
      exact ⟨_, rfl, H2.out, .inl ⟨rfl, HGN.out⟩⟩

set_option maxHeartbeats 4000000 in
theorem clo48 (f : Fil) (path : List UInt8) (b : Nat) (w : World) (hb : b < w.heap.size) (hc : w.cell? ⟨b, 0, none⟩ = some (.string ⟨path.toArray⟩)) :
    Calls Tryd.prog 200 #[.agg (filCells f).toArray, .pointer (some ⟨b, 0, none⟩)] w fun e w' => e = .returned (.bool (f.p == path)) ∧ Chg none w w' := by
  obtain ⟨fp, fA, fx, fc⟩ := f
  unfold filCells
  dsimp only
  have hne : b ≠ w.heap.size := by omega
  by_cases e : fp = path
  · have e1 : (fp == path) = true := by rw [beq_iff_eq]; exact e
    rw [e1]
    subst e
    clear e1
    go_enter Tryd.func200, Tryd.ntmps200
    go_wp2_with fail
    go_ret
    exact ⟨rfl, (Chg.refl _ _).alloc _⟩
  · have e1 : (fp == path) = false := by rw [beq_eq_false_iff_ne]; exact e
    have e2 : ¬ fp = path := e
    rw [e1]
    go_enter Tryd.func200, Tryd.ntmps200
    go_wp2_with fail
    go_ret
    exact ⟨rfl, (Chg.refl _ _).alloc _⟩

set_option maxHeartbeats 8000000 in
set_option maxRecDepth 100000 in
theorem index48 (L : List Fil) (A : Option Addr) (c : Nat) (path : List UInt8) (b : Nat) (w : World) (hT : TreeAt w A L) (hl : L.length ≤ 1000) (hb : ∀ v, Chg none w v → b < v.heap.size ∧ v.cell? ⟨b, 0, none⟩ = some (.string ⟨path.toArray⟩)) :
    Calls Tryd.prog 157 #[.slice A L.length c, .func (.func 200) #[] #[.pointer (some ⟨b, 0, none⟩)]] w fun e w' => ∃ z : Int, e = .returned (.int .i64 z) ∧ Chg none w w' ∧ IdxOf L path z := by
  have HT : Hid (∀ v, Chg none w v → TreeAt v A L) := fun v g => hT.chg g
  have HC : Hid (∀ (f : Fil) (v : World), Chg none w v → Calls Tryd.prog 200 #[.agg (filCells f).toArray, .pointer (some ⟨b, 0, none⟩)] v fun e w' => e = .returned (.bool (f.p == path)) ∧ Chg none v w') := fun f v g => clo48 f path b v (hb v g).1 (hb v g).2
  have HL := Lib.hid hl
  clear hT hb hl
  go_enter Tryd.func157, Tryd.ntmps157
  go_wp2_with fail
  go_loopw [8] (fun s8 wr => ∃ k : Nat, s8 = .int .i64 k ∧ Hid (k ≤ L.length ∧ ∀ (j : Nat) g, j < k → L[j]? = some g → g.p ≠ path) ∧ Hid (Chg none w wr)) (fun s8 _ => L.length - (intOf s8).toNat)
  case atStart => exact ⟨0, rfl, Lib.hid ⟨Nat.zero_le _, fun j g h => absurd h (Nat.not_lt_zero _)⟩, Lib.hid (Chg.refl _ _)⟩
  case round =>
    obtain ⟨k, rfl, H1, H2⟩ := hrel
    by_cases hlt : k < L.length
    · have hd : decide ((k : Int) < (L.length : Int)) = true := by rw [decide_eq_true_eq]; omega
      obtain ⟨x, hkx⟩ : ∃ x, L[k]? = some x := ⟨_, List.getElem?_eq_getElem hlt⟩
      have hne : L ≠ [] := by intro e; subst e; simp at hlt
      have HRW := Lib.hid (HT.out wr H2.out)
      obtain ⟨b2, off, rfl, -, -⟩ := HRW.out.1 hne
      obtain ⟨hb2, x0, x1⟩ := HRW.out.1.two hkx
      have HLT := Lib.hid hlt
      have HKX := Lib.hid hkx
      have HCX := Lib.hid (HC.out x)
      have hkb : (k : Int) ≤ 1000 := by have := HL.out; omega
      clear hkx hne HRW HT hlt HC
      obtain ⟨fp, fA, fx, fc⟩ := x
      unfold filCells at HCX
      dsimp only at x0 x1 HCX
      by_cases hp : fp = path
      · have e1 : (fp == path) = true := by rw [beq_iff_eq]; exact hp
        rw [e1] at HCX
        have HP := Lib.hid hp
        clear hp e1
        go_wp2_with fail
        refine (HCX.out _ (by repeat (first | exact H2.out | refine Chg.drew ?_ | refine Chg.alloc ?_ _))).mono ?_
        rintro e w2 ⟨rfl, g2⟩
        have G2 : Hid (Chg none w w2) := Chg.trans (by repeat (first | exact H2.out | refine Chg.drew ?_ | refine Chg.alloc ?_ _)) g2
        clear g2
        go_wp2_with fail
        go_ret
        exact ⟨_, rfl, G2.out, .inr ⟨k, _, rfl, HKX.out, HP.out, H1.out.2⟩⟩
      · have e1 : (fp == path) = false := by rw [beq_eq_false_iff_ne]; exact hp
        rw [e1] at HCX
        have HP := Lib.hid hp
        clear hp e1
        go_wp2_with fail
        refine (HCX.out _ (by repeat (first | exact H2.out | refine Chg.drew ?_ | refine Chg.alloc ?_ _))).mono ?_
        rintro e w2 ⟨rfl, g2⟩
        have G2 : Hid (Chg none w w2) := Chg.trans (by repeat (first | exact H2.out | refine Chg.drew ?_ | refine Chg.alloc ?_ _)) g2
        clear g2
        go_wp2_with fail
        go_roundw
        case rel => exact ⟨k + 1, by first | rfl | (simp; done), Lib.hid ⟨HLT.out, fun j g hj hg => by
          rcases Nat.lt_or_ge j k with h | h
          · exact H1.out.2 j g h hg
          · obtain rfl : j = k := by omega
            obtain rfl := Option.some.inj (HKX.out.symm.trans hg)
            exact HP.out⟩, G2⟩
        case measure =>
          have := HLT.out
          first | omega | (simp only [intOf]; omega) | (simp [intOf]; omega)
    · have hd : decide (k < L.length) = false := by rw [decide_eq_false_iff_not]; exact hlt
      have hd2 : decide ((k : Int) < (L.length : Int)) = false := by rw [decide_eq_false_iff_not]; omega
      have HGN : Hid (∀ f ∈ L, f.p ≠ path) := fun f hf => by
        obtain ⟨j, hj, rfl⟩ := List.mem_iff_getElem.1 hf
        exact H1.out.2 j L[j] (Nat.lt_of_lt_of_le hj (Nat.not_lt.1 hlt)) (List.getElem?_eq_getElem hj)
      clear hlt HT HC
      go_wp2_with fail
      go_ret
      exact ⟨_, rfl, H2.out, .inl ⟨rfl, HGN.out⟩⟩

theorem OwnT.set {w0 w : World} {g i : Nat} {M : List Fil} {m : Fil} (h : OwnT w0 w g M) (hi : i < M.length) (hm : m ∈ M) :
    OwnT w0 ((w.setCell ⟨g, i * 2, none⟩ (.string ⟨m.p.toArray⟩)).setCell ⟨g, i * 2 + 1, none⟩ (.slice m.A m.x.length m.c)) g (M.set i m) := by
  obtain ⟨cs, h1, h2, h3⟩ := h.blk
  have hgr : Chg (some g) w ((w.setCell ⟨g, i * 2, none⟩ (.string ⟨m.p.toArray⟩)).setCell ⟨g, i * 2 + 1, none⟩ (.slice m.A m.x.length m.c)) := ((Chg.refl _ _).setCell _ _).setCell _ _
  refine ⟨⟨_, (h1.set _ _).set _ _, by simpa using h2, fun j m' hj => ?_⟩, fun m' hm' => ?_, h.base, Chg.own (b := g) h.chg hgr h.base⟩
  · by_cases e : i = j
    · subst e
      rw [List.getElem?_set_self hi] at hj
      obtain rfl := Option.some.inj hj
      have hs1 : i * 2 < cs.size := by omega
      have hs2 : i * 2 + 1 < cs.size := by omega
      refine ⟨by simp [hs1], by simp [hs2]⟩
    · rw [List.getElem?_set_ne e] at hj
      rw [Array.getElem?_setIfInBounds_ne (by omega), Array.getElem?_setIfInBounds_ne (by omega), Array.getElem?_setIfInBounds_ne (by omega), Array.getElem?_setIfInBounds_ne (by omega)]
      exact h3 j m' hj
  · have hmem : m' ∈ M := by
      rcases List.mem_or_eq_of_mem_set hm' with h | h
      · exact h
      · rw [h]; exact hm
    exact World.ownsRow.kept (h.own m' hmem) hgr (.inr (own_other (h.own m' hmem) h1 (by decide)))
/-- A block of type 91 that is n rows long. -/
def CapAt (w : World) (g n : Nat) : Prop := ∃ cs : Array Value, Blk w g cs 91 ∧ cs.size = n * 2
theorem CapAt.chg {w w' : World} {g n : Nat} (h : CapAt w g n) (c : Chg none w w') : CapAt w' g n := by
  obtain ⟨cs, h1, h2⟩ := h
  exact ⟨cs, h1.chg c (by simp), h2⟩
theorem CapAt.set {w : World} {g n : Nat} (h : CapAt w g n) (i : Nat) (u v : Value) : CapAt ((w.setCell ⟨g, i * 2, none⟩ u).setCell ⟨g, i * 2 + 1, none⟩ v) g n := by
  obtain ⟨cs, h1, h2⟩ := h
  exact ⟨_, (h1.set _ _).set _ _, by simpa using h2⟩
/-- The row as it is being shortened: i taken out, up to k. -/
def delP (M : List Fil) (i k : Nat) : List Fil := (M.eraseIdx i).take k ++ M.drop k
theorem delP_start (M : List Fil) (i : Nat) : delP M i i = M := by
  have h : (M.eraseIdx i).take i = M.take i := by
    apply List.ext_getElem?
    intro n
    rw [List.getElem?_take, List.getElem?_take, List.getElem?_eraseIdx]
    by_cases hn : n < i
    · simp only [if_pos hn]
    · simp only [if_neg hn]
  unfold delP
  rw [h, List.take_append_drop]
theorem delP_len {M : List Fil} {i k : Nat} (hi : i < M.length) (hk : k < M.length) : (delP M i k).length = M.length := by
  unfold delP
  rw [List.length_append, List.length_take, List.length_drop, List.length_eraseIdx_of_lt hi]; omega
theorem delP_at {M : List Fil} {i k j : Nat} (hi : i < M.length) (hk : k < M.length) (hj : k ≤ j) : (delP M i k)[j]? = M[j]? := by
  unfold delP
  rw [List.getElem?_append_right (by rw [List.length_take, List.length_eraseIdx_of_lt hi]; omega), List.length_take, List.length_eraseIdx_of_lt hi, Nat.min_eq_left (by omega), List.getElem?_drop]
  congr 1; omega
theorem delP_succ {M : List Fil} {i k : Nat} {m : Fil} (hi : i ≤ k) (hm : M[k + 1]? = some m) : (delP M i k).set k m = delP M i (k + 1) := by
  have hk := (List.getElem?_eq_some_iff.1 hm).1
  have he : (M.eraseIdx i)[k]? = some m := by rw [List.getElem?_eraseIdx_of_ge (by omega)]; exact hm
  have hd : M.drop k = M[k]'(by omega) :: M.drop (k + 1) := List.drop_eq_getElem_cons (by omega)
  unfold delP
  have hl : ((M.eraseIdx i).take k).length = k := by rw [List.length_take, List.length_eraseIdx_of_lt (by omega)]; omega
  rw [List.set_append_right _ _ (by omega), hl, Nat.sub_self, hd, List.set_cons_zero, List.take_add_one, he]
  simp
theorem delP_sub {M : List Fil} {i k : Nat} : ∀ m ∈ delP M i k, m ∈ M := by
  intro m hm
  unfold delP at hm
  rcases List.mem_append.1 hm with h | h
  · exact List.mem_of_mem_eraseIdx (List.mem_of_mem_take h)
  · exact List.mem_of_mem_drop h
theorem filter_erase {path : List UInt8} : ∀ {M : List Fil} {i : Nat} {f : Fil}, ((keys M).Pairwise fun a b => a.1 ≠ b.1) → M[i]? = some f → f.p = path → keys (M.eraseIdx i) = (keys M).filter fun g => g.1 != path
  | [], _, _, _, h, _ => by simp at h
  | x :: M, 0, f, hn, h, hp => by
    obtain rfl : x = f := by simpa using h
    unfold keys at *
    rw [List.map_cons, List.pairwise_cons] at hn
    rw [List.eraseIdx_cons_zero, List.map_cons, List.filter_cons]
    have h1 : ((keyF x).1 != path) = false := by rw [bne_eq_false_iff_eq]; exact hp
    rw [h1, if_neg (by decide)]
    symm
    rw [List.filter_eq_self]
    intro a ha
    rw [bne_iff_ne, ← hp]
    exact (hn.1 a ha).symm
  | x :: M, i + 1, f, hn, h, hp => by
    unfold keys at hn
    rw [List.map_cons, List.pairwise_cons] at hn
    have ih := filter_erase (M := M) (i := i) hn.2 (by simpa using h) hp
    have hx : x.p ≠ path := by
      rw [← hp]
      exact hn.1 (keyF f) (List.mem_map.2 ⟨f, List.mem_of_getElem? (by simpa using h), rfl⟩)
    unfold keys at *
    rw [List.eraseIdx_cons_succ, List.map_cons, List.map_cons, List.filter_cons]
    have h1 : ((keyF x).1 != path) = true := by rw [bne_iff_ne]; exact hx
    rw [h1, if_pos rfl, ih]
theorem filter_none {path : List UInt8} {M : List Fil} (h : ∀ f ∈ M, f.p ≠ path) : keys M = (keys M).filter fun g => g.1 != path := by
  symm
  rw [List.filter_eq_self]
  intro a ha
  obtain ⟨m, hm, rfl⟩ := List.mem_map.1 ha
  rw [bne_iff_ne]
  exact h m hm
theorem clear_one (w : World) (g o c : Nat) (cs : Array Value) (hb : Blk w g cs 91) (ho : o + 2 ≤ cs.size) (ty : TypeId) :
    (Builtin.clear_ #[40] ty #[.slice (some ⟨g, o, none⟩) 1 c]).run Tryd.prog w = .ok (.tuple #[]) ((w.setCell ⟨g, o, none⟩ (.string ⟨#[]⟩)).setCell ⟨g, o + 1, none⟩ (.slice none 0 0)) := by
  have hz : (zeroValue 91).run Tryd.prog w = .ok (.agg #[.string ⟨#[]⟩, .slice none 0 0]) w := by kernel_rfl
  have hst := run_storeCells_cells (P := Tryd.prog) g o [.string ⟨#[]⟩, .slice none 0 0] 0 w
    (fun j hj => by
      have hj2 : j < 2 := hj
      rw [hb.cell, Array.getElem?_eq_getElem (by omega)]; rfl)
    (fun j _ => hb.frozen _) (by simp [Value.oneCell'])
  have hzc : (Builtin.zeroCells (Value.agg #[.string ⟨#[]⟩, .slice none 0 0]).cells 1).toList = [.string ⟨#[]⟩, .slice none 0 0] := by kernel_rfl
  have hst' : (storeCells ⟨g, o, none⟩ [.string ⟨#[]⟩, .slice none 0 0]).run Tryd.prog w = .ok () ((w.setCell ⟨g, o, none⟩ (.string ⟨#[]⟩)).setCell ⟨g, o + 1, none⟩ (.slice none 0 0)) := hst
  simp [Builtin.clear_, run_underlying Tryd.underlying40, hz, Result.andThen]
  rw [show (Builtin.zeroCells (Value.agg #[.string ⟨#[]⟩, .slice none 0 0]).cells 1).toList = [.string ⟨#[]⟩, .slice none 0 0] from hzc, hst']
theorem cut_lo25 (g k n : Nat) (hn : n = k + 1) (w : World) :
    (Instr.sliceAt 40 (.slice (some ⟨g, 0, none⟩) n n) (some (.int .i64 k)) none none).run Tryd.prog w = .ok (.slice (some ⟨g, k * 2, none⟩) 1 1) w := by
  subst hn
  have u25 := Tryd.underlying40
  have z38 := Tryd.sizeOf91
  have h4 : (k : Int) ≤ (k + 1 : Nat) := by omega
  go_simp
  intro h
  exact absurd h (by omega)
theorem cut_hi25 (g k n : Nat) (hn : k ≤ n) (w : World) :
    (Instr.sliceAt 40 (.slice (some ⟨g, 0, none⟩) n n) none (some (.int .i64 k)) none).run Tryd.prog w = .ok (.slice (some ⟨g, 0, none⟩) k n) w := by
  have u25 := Tryd.underlying40
  have z38 := Tryd.sizeOf91
  have h4 : (k : Int) ≤ n := by omega
  go_simp

/-- What DeleteFunc leaves: the same block, the files without that path. -/
def ToldD (w0 : World) (g n b : Nat) (path : List UInt8) (M : List Fil) (e : Ending) (w' : World) : Prop :=
  ∃ M' : List Fil, e = .returned (.slice (some ⟨g, 0, none⟩) M'.length n) ∧ OwnT w0 w' g M' ∧ CapAt w' g n ∧ M'.length ≤ n ∧ keys M' = ((keys M).filter fun f => f.1 != path) ∧ Blk w' b #[.string ⟨path.toArray⟩] 9 ∧ ∀ m ∈ M', m ∈ M

set_option maxHeartbeats 16000000 in
set_option maxRecDepth 100000 in
theorem delete_any (w0 w : World) (g b : Nat) (M : List Fil) (path : List UInt8) (hO : OwnT w0 w g M) (hcs : CapAt w g M.length) (hb : Blk w b #[.string ⟨path.toArray⟩] 9)
    (hn : (keys M).Pairwise fun a b => a.1 ≠ b.1) (hl : M.length ≤ 16) (hp : ∀ m ∈ M, m.p.length ≤ 40) :
    Calls Tryd.prog 113 #[.slice (some ⟨g, 0, none⟩) M.length M.length, .func (.func 115) #[] #[.pointer (some ⟨b, 0, none⟩)]] w (ToldD w0 g M.length b path M) := by
  have HIX := Lib.hid (index42 M (some ⟨g, 0, none⟩) M.length path b w (hO.tree (fun m hm => by have := hp m hm; omega)) (by omega) (fun v c => ⟨(hb.chg c (by simp)).lt, (hb.chg c (by simp)).cell 0⟩))
  have HO := Lib.hid hO
  have HCS := Lib.hid hcs
  have HB := Lib.hid hb
  have HN := Lib.hid hn
  have HL := Lib.hid hl
  have HP := Lib.hid hp
  have HBG : Hid (b ≠ g) := by
    rintro rfl
    obtain ⟨cs, h1, -⟩ := hcs
    unfold Blk at h1 hb
    rw [h1] at hb
    injection hb with hb
    injection hb with _ h2
    exact absurd h2 (by decide)
  clear hO hcs hb hn hl hp
  go_enter Tryd.func113, Tryd.ntmps113
  go_wp2_with fail
  refine HIX.out.mono ?_
  rintro e w1 ⟨z, rfl, g1, hix⟩
  have HO1 := Lib.hid (HO.out.on g1)
  have HC1 := Lib.hid (HCS.out.chg g1)
  have HB1 := Lib.hid (HB.out.chg g1 (by simp))
  clear g1 HO HCS HB HIX
  rcases hix with ⟨rfl, hno⟩ | ⟨i, f, rfl, hif, hfp, -⟩
  · have HNO := Lib.hid (filter_none hno)
    clear hno
    go_wp2_with fail
    go_ret
    exact ⟨M, rfl, HO1.out, HC1.out, Nat.le_refl _, HNO.out, HB1.out, fun m h => h⟩
  have hil := (List.getElem?_eq_some_iff.1 hif).1
  have HFE := Lib.hid (filter_erase HN.out hif hfp)
  have HNX : Hid (∀ (j : Nat) m, i < j → M[j]? = some m → m.p ≠ path) := fun j m hj hm => by
    have h := HN.out
    unfold keys at h
    rw [List.pairwise_map, List.pairwise_iff_getElem] at h
    have hjl := (List.getElem?_eq_some_iff.1 hm).1
    have h2 := h i j hil hjl hj
    rw [(List.getElem?_eq_some_iff.1 hif).2, (List.getElem?_eq_some_iff.1 hm).2] at h2
    rw [← hfp]
    exact fun e => h2 e.symm
  have HIL := Lib.hid hil
  have him : ((i : Int) == -1) = false := by rw [beq_eq_false_iff_ne]; omega
  have hib : (i : Int) ≤ 16 := by have := HL.out; omega
  have HI0 : Hid (OwnT w0 w1 g (delP M i i)) := by show OwnT _ _ _ _; rw [delP_start]; exact HO1.out
  obtain ⟨n, HNL⟩ : ∃ n, Hid (M.length = n) := ⟨_, rfl⟩
  rw [HNL.out] at HC1 ⊢
  clear hif hfp hil HO1
  go_wp2_with fail
  go_loopw [5, 6] (fun s5 s6 wr => ∃ k j : Nat, s5 = .int .i64 k ∧ s6 = .int .i64 j ∧ Hid (j = k + 1) ∧ Hid (i ≤ k ∧ k < M.length) ∧ Hid (OwnT w0 wr g (delP M i k)) ∧ Hid (CapAt wr g n) ∧ Hid (Blk wr b #[.string ⟨path.toArray⟩] 9)) (fun _ s6 _ => n - (intOf s6).toNat)
  case atStart => exact ⟨i, i + 1, rfl, by first | rfl | (simp; done), Lib.hid rfl, Lib.hid ⟨Nat.le_refl _, HIL.out⟩, HI0, HC1, HB1⟩
  case round =>
    obtain ⟨k, j, rfl, rfl, HJ, HK, H2, H3, H4⟩ := hrel
    by_cases hlt : j < n
    · have hd : decide ((j : Int) < (n : Int)) = true := by rw [decide_eq_true_eq]; omega
      have HLT := Lib.hid hlt
      obtain ⟨x, hjx⟩ : ∃ x, M[j]? = some x := ⟨_, List.getElem?_eq_getElem (by rw [HNL.out]; exact hlt)⟩
      have hjx' : (delP M i k)[j]? = some x := by rw [delP_at HIL.out HK.out.2 (by have := HJ.out; omega)]; exact hjx
      have hlen : (delP M i k).length = n := by rw [delP_len HIL.out HK.out.2, HNL.out]
      obtain ⟨x0, x1⟩ : wr.cell? ⟨g, j * 2, none⟩ = some (.string ⟨x.p.toArray⟩) ∧ wr.cell? ⟨g, j * 2 + 1, none⟩ = some (.slice x.A x.x.length x.c) := by
        obtain ⟨cs, h1, -, h3⟩ := H2.out.blk
        rw [h1.cell, h1.cell]
        exact h3 j x hjx'
      have HXM : Hid (x ∈ delP M i k) := List.mem_of_getElem? hjx'
      have HDS : Hid ((delP M i k).set k x = delP M i (k + 1)) := delP_succ HK.out.1 (by rw [← HJ.out]; exact hjx)
      have hne : x.p ≠ path := HNX.out j x (by have := HK.out.1; have := HJ.out; omega) hjx
      have hkl : (k : Int) < (n : Int) := by have := HJ.out; omega
      have hkn : k < n := by omega
      have hn16 : (n : Int) ≤ 16 := by have := HL.out; rw [HNL.out] at this; omega
      have hgl : g < wr.heap.size := by obtain ⟨cs, h1, -⟩ := H3.out; exact h1.lt
      have e1 : (x.p == path) = false := by rw [beq_eq_false_iff_ne]; exact hne
      have HCX := Lib.hid (fun v (c : Chg none wr v) => clo42 x path b v (H4.out.chg c (by simp)).lt ((H4.out.chg c (by simp)).cell 0))
      rw [e1] at HCX
      have HCL : Hid (k < (delP M i k).length) := by show _ < _; rw [hlen]; omega
      clear hjx hjx' hlen hne e1 hlt HI0 HC1 HB1
      obtain ⟨fp, fA, fx, fc⟩ := x
      unfold filCells at HCX
      dsimp only at x0 x1 HCX
      go_wp2_with fail
      refine (HCX.out _ (by repeat (first | exact Chg.refl _ _ | refine Chg.drew ?_ | refine Chg.alloc ?_ _))).mono ?_
      rintro e w2 ⟨rfl, g2⟩
      have hbx : Blk (wr.alloc (.cells #[.string ⟨fp.toArray⟩, .slice fA fx.length fc] 91)) wr.heap.size #[.string ⟨fp.toArray⟩, .slice fA fx.length fc] 91 := Blk.new _ _ _
      have G2 : Hid (Chg none wr w2) := Chg.trans (by repeat (first | exact Chg.refl _ _ | refine Chg.drew ?_ | refine Chg.alloc ?_ _)) g2
      have y0 : w2.cell? ⟨wr.heap.size, 0, none⟩ = some (.string ⟨fp.toArray⟩) := (hbx.chg g2 (by simp)).cell 0
      have y1 : w2.cell? ⟨wr.heap.size, 1, none⟩ = some (.slice fA fx.length fc) := (hbx.chg g2 (by simp)).cell 1
      have HO2 := Lib.hid (H2.out.on G2.out)
      have HC2 := Lib.hid (H3.out.chg G2.out)
      have HB2 := Lib.hid (H4.out.chg G2.out (by simp))
      obtain ⟨cs2, hcb, hcz⟩ := HC2.out
      have y2 : ∃ z, w2.cell? ⟨g, k * 2, none⟩ = some z := ⟨cs2[k * 2]'(by omega), by rw [hcb.cell, Array.getElem?_eq_getElem]⟩
      have y3 : ∃ z, w2.cell? ⟨g, k * 2 + 1, none⟩ = some z := ⟨cs2[k * 2 + 1]'(by omega), by rw [hcb.cell, Array.getElem?_eq_getElem]⟩
      obtain ⟨z0, y2⟩ := y2
      obtain ⟨z1, y3⟩ := y3
      have t0 : w2.frozen? ⟨g, k * 2, none⟩ = false := hcb.frozen _
      have t1 : w2.frozen? ⟨g, k * 2 + 1, none⟩ = false := hcb.frozen _
      have HO3 := Lib.hid (HO2.out.set (m := ⟨fp, fA, fx, fc⟩) HCL.out HXM.out)
      rw [HDS.out] at HO3
      have HC3 := Lib.hid (HC2.out.set k (.string ⟨fp.toArray⟩) (.slice fA fx.length fc))
      have HB3 := Lib.hid ((HB2.out.setOther ⟨g, k * 2, none⟩ (.string ⟨fp.toArray⟩) HBG.out).setOther ⟨g, k * 2 + 1, none⟩ (.slice fA fx.length fc) HBG.out)
      clear g2 hbx hcb hcz HCX x0 x1
      generalize wr.heap.size = PX at *
      go_wp2_with fail
      go_roundw
      case rel => exact ⟨k + 1, j + 1, by first | rfl | (simp; done), by first | rfl | (simp; done), Lib.hid (by rw [HJ.out]), Lib.hid ⟨by have := HK.out; omega, by have h1 := HJ.out; have h2 := HLT.out; have h3 := HNL.out; omega⟩, HO3, HC3, HB3⟩
      case measure =>
        have := HLT.out
        first | omega | (simp only [intOf]; omega) | (simp [intOf]; omega)
    · have hd : decide (j < n) = false := by rw [decide_eq_false_iff_not]; exact hlt
      have hd2 : decide ((j : Int) < (n : Int)) = false := by rw [decide_eq_false_iff_not]; omega
      have hnk : n = k + 1 := by have h1 := HJ.out; have h2 := HK.out.2; rw [HNL.out] at h2; omega
      have HNK := Lib.hid hnk
      have hc1 := fun v => cut_lo25 g k n hnk v
      have hc2 := fun v => cut_hi25 g k n (by omega) v
      obtain ⟨cs2, hcb, hcz⟩ := H3.out
      have hcl := fun ty => clear_one wr g (k * 2) 1 cs2 hcb (by omega) ty
      have HEL : Hid ((M.eraseIdx i).length = k) := by show _ = _; rw [List.length_eraseIdx_of_lt HIL.out, HNL.out]; omega
      have HFIN : Hid (ToldD w0 g n b path M (.returned (.slice (some ⟨g, 0, none⟩) k n)) ((wr.setCell ⟨g, k * 2, none⟩ (.string ⟨#[]⟩)).setCell ⟨g, k * 2 + 1, none⟩ (.slice none 0 0))) := by
        have hgr : Chg (some g) wr ((wr.setCell ⟨g, k * 2, none⟩ (.string ⟨#[]⟩)).setCell ⟨g, k * 2 + 1, none⟩ (.slice none 0 0)) := ((Chg.refl _ _).setCell _ _).setCell _ _
        refine ⟨M.eraseIdx i, by rw [HEL.out], ?_, H3.out.set _ _ _, by rw [HEL.out]; omega, HFE.out, (H4.out.setOther _ _ HBG.out).setOther _ _ HBG.out, fun m hm => List.mem_of_mem_eraseIdx hm⟩
        obtain ⟨cs, h1, h2, h3⟩ := H2.out.blk
        have hl := delP_len HIL.out HK.out.2 (k := k)
        rw [HNL.out] at hl
        refine ⟨⟨_, (h1.set _ _).set _ _, by rw [HEL.out]; simp; omega, fun j' m' hj => ?_⟩, fun m' hm' => ?_, H2.out.base, Chg.own (b := g) H2.out.chg hgr H2.out.base⟩
        · have hjk := (List.getElem?_eq_some_iff.1 hj).1
          rw [HEL.out] at hjk
          have hj2 : (delP M i k)[j']? = some m' := by
            unfold delP
            rw [List.getElem?_append_left (by rw [List.length_take, HEL.out]; omega), List.getElem?_take_of_lt hjk]
            exact hj
          rw [Array.getElem?_setIfInBounds_ne (by omega), Array.getElem?_setIfInBounds_ne (by omega), Array.getElem?_setIfInBounds_ne (by omega), Array.getElem?_setIfInBounds_ne (by omega)]
          exact h3 j' m' hj2
        · have hmem : m' ∈ delP M i k := by
            unfold delP
            rw [List.take_of_length_le (by rw [HEL.out]; exact Nat.le_refl _)]
            exact List.mem_append_left _ hm'
          exact World.ownsRow.kept (H2.out.own m' hmem) hgr (.inr (own_other (H2.out.own m' hmem) h1 (by decide)))
      clear hlt HI0 HC1 HB1 hnk hcb hcz
      go_wp2_with (simp only [hcl])
      go_ret
      rw [show ToldD w0 g M.length = ToldD w0 g n from by rw [HNL.out]]
      exact HFIN.out

end Go.Proofs.YtbadkkilblgpmaaDoor
