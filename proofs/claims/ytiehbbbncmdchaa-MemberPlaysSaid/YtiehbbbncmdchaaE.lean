/-
  Walks over package member: Hear, whatever is told; what is kept; New.
-/
import Derived.Test.YtiehbbbncmdchaaD
import Derived.Test.YtiehbbbncmdchaaC
namespace Go.Proofs.Ytiehbbbncmdchaa
open Go.RowKit

theorem ne_fields (u v : U) : decide (u ≠ v) = !(u.node == v.node && (u.st == v.st && u.inc == v.inc)) := by
  obtain ⟨a, b, c⟩ := u
  obtain ⟨x, y, z⟩ := v
  by_cases h1 : a = x <;> by_cases h2 : b = y <;> by_cases h3 : c = z <;> simp [h1, h2, h3]

theorem M.put_same (m : M) (n : Nat) (u : U) (h : m.stand[n]? = some u) : m.put n u = m := by
  obtain ⟨s, c, l⟩ := m
  unfold M.put
  congr 1
  obtain ⟨h1, h2⟩ := List.getElem?_eq_some_iff.1 h
  dsimp only at *
  rw [← h2]
  exact List.set_getElem_self h1

theorem hear_any (b : Nat) (m : M) (u : U) (w : World) (hm : MemAt w b m) (ho : m.ok) (hi : 0 ≤ u.inc) :
    Calls Try.prog 20 #[.pointer (some ⟨b, 0, none⟩), u.val] w (HearPost b w (hear m u)) := by
  by_cases hf : U.fine m u
  · obtain ⟨n, hn⟩ := Int.eq_ofNat_of_zero_le hf.1.1
    obtain ⟨v, hv⟩ := ho.get (n := n) (by have := hf.1.2; omega)
    have hg : m.stand.getD u.node.toNat default = v := by rw [hn, Int.toNat_natCast, List.getD_eq_getElem?_getD, hv]; rfl
    unfold hear
    rw [if_pos hf]
    dsimp only
    rw [hg]
    unfold hearU
    have hnode : v.node = n := (ho.node n v hv (by have := hf.1.2; omega)).1
    by_cases hs : u.node = m.self
    · have hnm : n = m.self := by omega
      subst hnm
      rw [if_pos hs, hs, Int.toNat_natCast]
      have := hear_self b m u v w hm ho hi hf hs hv
      rw [show decide (({ v with inc := answered v.inc u } : U) ≠ v) = decide (answered v.inc u ≠ v.inc) by
        obtain ⟨a, b, c⟩ := v
        simp]
      exact this
    · rw [if_neg hs, hn, Int.toNat_natCast]
      have := hear_other b m n u v w hm ho hn hf hs hv
      cases hgr : greater u v
      · rw [hgr] at this
        rw [if_neg (by simp), M.put_same m n v hv, show decide (v ≠ v) = false by simp]
        exact this
      · rw [hgr] at this
        rw [if_pos rfl, ne_fields]
        exact this
  · exact hear_wrong b m u w hm ho hi hf

theorem answered_rng (own : Int) (u : U) (h0 : 0 ≤ own ∧ own ≤ 1099511627776) (h1 : 0 ≤ u.inc ∧ u.inc ≤ 1099511627776) : 0 ≤ answered own u ∧ answered own u ≤ 1099511627776 := by
  unfold answered; repeat' split
  all_goals omega

theorem M.ok.put {m : M} (ho : m.ok) (n : Nat) (u : U) (hu : u.node = (n : Int) ∧ (1 ≤ u.st ∧ u.st ≤ 3) ∧ (0 ≤ u.inc ∧ u.inc ≤ 1099511627776)) : (m.put n u).ok := by
  refine ⟨by simp [M.put, ho.len], ho.one, ho.top, ho.own, ?_⟩
  intro i v hi hc
  by_cases h : n = i
  · subst h
    have hl : n < m.stand.length := by have := ho.len; have := ho.top; have : n < m.count := hc; omega
    simp [M.put, hl] at hi
    subst hi
    exact hu
  · simp [M.put, h] at hi
    exact ho.node i v hi hc

theorem hear_ok (m : M) (u : U) (ho : m.ok) (hi : 0 ≤ u.inc) : (hear m u).1.ok := by
  unfold hear
  split
  · rename_i hf
    obtain ⟨n, hn⟩ := Int.eq_ofNat_of_zero_le hf.1.1
    obtain ⟨v, hv⟩ := ho.get (n := n) (by have := hf.1.2; omega)
    have hg : m.stand.getD u.node.toNat default = v := by rw [hn, Int.toNat_natCast, List.getD_eq_getElem?_getD, hv]; rfl
    dsimp only
    rw [hg]
    have hvf := ho.node n v hv (by have := hf.1.2; omega)
    rw [hn, Int.toNat_natCast]
    refine ho.put n _ ?_
    unfold hearU
    split
    · exact ⟨hvf.1, hvf.2.1, answered_rng _ _ hvf.2.2 ⟨hi, hf.2.2⟩⟩
    · split
      · exact ⟨hn, hf.2.1, hi, hf.2.2⟩
      · exact hvf
  · exact ho

theorem turn_ok (m : M) (n f t : Int) (ho : m.ok) (ht : 1 ≤ t ∧ t ≤ 3) : (m.turn n f t).1.ok := by
  unfold M.turn
  split
  · rename_i h
    obtain ⟨k, rfl⟩ := Int.eq_ofNat_of_zero_le h.1
    obtain ⟨v, hv⟩ := ho.get (n := k) (by omega)
    have hg : m.stand.getD k default = v := by rw [List.getD_eq_getElem?_getD, hv]; rfl
    rw [Int.toNat_natCast, hg]
    have hvf := ho.node k v hv (by omega)
    exact ho.put k _ ⟨hvf.1, ht, hvf.2.2⟩
  · exact ho

/-- What is made: so far, the first k stand as alive. -/
def M.making (s c k : Nat) : M := ⟨s, c, (List.range 16).map fun i => if i < k then ⟨i, 1, 0⟩ else ⟨0, 0, 0⟩⟩
def M.fresh (s c : Nat) (inc : Int) : M := (M.making s c c).put s ⟨s, 1, inc⟩

theorem M.making_get (s c k i : Nat) (hi : i < 16) : (M.making s c k).stand[i]? = some (if i < k then ⟨i, 1, 0⟩ else ⟨0, 0, 0⟩) := by
  simp [M.making, hi]

theorem M.making_put (s c k : Nat) : (M.making s c k).put k ⟨k, 1, 0⟩ = M.making s c (k + 1) := by
  unfold M.put M.making
  congr 1
  apply List.ext_getElem?
  intro i
  by_cases hi : i < 16
  · by_cases h : k = i
    · subst h; simp [hi]
    · rw [List.getElem?_set_ne h]
      simp only [List.getElem?_map, List.getElem?_range hi, Option.map_some, Option.some.injEq]
      by_cases h2 : i < k
      · rw [if_pos h2, if_pos (by omega)]
      · rw [if_neg h2, if_neg (by omega)]
  · rw [List.getElem?_eq_none (by simp; omega), List.getElem?_eq_none (by simp; omega)]

theorem M.fresh_ok (s c : Nat) (inc : Int) (hs : s < c) (hc : c ≤ 16) (hi : 0 ≤ inc ∧ inc ≤ 1099511627776) : (M.fresh s c inc).ok := by
  have h0 : (M.making s c c).ok := by
    refine ⟨by simp [M.making], by show 1 ≤ c; omega, hc, hs, ?_⟩
    intro i u hu hlt
    have hic : i < c := hlt
    rw [M.making_get _ _ _ _ (by omega), if_pos hic] at hu
    obtain rfl := Option.some.inj hu
    refine ⟨rfl, ?_, ?_⟩ <;> (dsimp only; omega)
  refine h0.put s _ ⟨rfl, ?_, hi⟩
  dsimp only; omega

set_option maxRecDepth 100000 in
set_option maxHeartbeats 1000000 in
theorem new_yes (s c : Nat) (inc : Int) (w : World) (hs : s < c) (hc : c ≤ 16) (hi : 0 ≤ inc ∧ inc ≤ 1099511627776) :
    Calls Try.prog 13 #[.int .i64 s, .int .i64 c, .int .u64 inc] w fun e w' =>
      e = .returned (.pointer (some ⟨w.heap.size, 0, none⟩)) ∧ MemAt w' w.heap.size (M.fresh s c inc) ∧ Chg none w w' := by
  obtain ⟨hi0, hi1⟩ := hi
  have hz := Nat.le_refl w.heap.size
  have e1 : decide ((c : Int) < 1) = false := by simp; omega
  have e2 : decide ((16 : Int) < (c : Int)) = false := by simp; omega
  have e4 : decide (c ≤ s) = false := by simp; omega
  have e5 : decide (1099511627776 < inc) = false := by simp; omega
  go_enter Try.func13, Try.ntmps13
  go_wp2_with fail
  go_loopw [33] (fun s33 wr => ∃ k : Nat, k ≤ c ∧ s33 = .int .i64 k ∧ MemAt wr w.heap.size (M.making s c k) ∧ Chg none w wr) (fun s33 _ => c - (intOf s33).toNat)
  case atStart => exact ⟨0, by omega, rfl, Blk.new w _ _, (Chg.refl _ _).alloc _⟩
  case round =>
    obtain ⟨k, hk, rfl, hm, hg⟩ := hrel
    have hfz := Blk.frozen hm
    by_cases hlt : k < c
    · have hv := M.making_get s c k k (by omega)
      rw [if_neg (by omega)] at hv
      obtain ⟨c0, c1, c2⟩ := hm.at hv
      have hput := hm.put3 hv ⟨k, 1, 0⟩
      rw [M.making_put] at hput
      have hk16 : k < 16 := by omega
      clear hv
      go_wp2_with fail
      go_roundw
      case rel => exact ⟨k + 1, by omega, by go_num, hput, Chg.own hg (((Chg.refl _ _).setCell _ _).setCell _ _ |>.setCell _ _) hz⟩
      case measure => simp [intOf]; omega
    · obtain rfl : k = c := by omega
      have hv := M.making_get s k k s (by omega)
      rw [if_pos hs] at hv
      obtain ⟨c0, c1, c2⟩ := hm.at hv
      have hput := hm.put1 hv 2 (by omega) ⟨s, 1, inc⟩ (.int .u64 inc) rfl
      have hs16 : s < 16 := by omega
      clear hv
      go_wp2_with fail
      go_ret
      exact ⟨rfl, hput, Chg.own hg ((Chg.refl _ _).setCell _ _) hz⟩

set_option maxHeartbeats 1000000 in
theorem new_no (s c inc : Int) (w : World) (h : ¬ (0 ≤ s ∧ s < c ∧ c ≤ 16 ∧ inc ≤ 1099511627776)) :
    Calls Try.prog 13 #[.int .i64 s, .int .i64 c, .int .u64 inc] w fun e w' => e = .returned (.pointer none) ∧ w = w' := by
  by_cases h1 : c < 1
  · clear h
    go_enter Try.func13, Try.ntmps13
    go_wp2_with fail
    go_ret
    exact ⟨rfl, rfl⟩
  · by_cases h2 : 16 < c
    · clear h
      go_enter Try.func13, Try.ntmps13
      go_wp2_with fail
      go_ret
      exact ⟨rfl, rfl⟩
    · by_cases h3 : s < 0
      · clear h
        go_enter Try.func13, Try.ntmps13
        go_wp2_with fail
        go_ret
        exact ⟨rfl, rfl⟩
      · by_cases h4 : c ≤ s
        · clear h
          go_enter Try.func13, Try.ntmps13
          go_wp2_with fail
          go_ret
          exact ⟨rfl, rfl⟩
        · have h5 : 1099511627776 < inc := by omega
          clear h
          go_enter Try.func13, Try.ntmps13
          go_wp2_with fail
          go_ret
          exact ⟨rfl, rfl⟩

end Go.Proofs.Ytiehbbbncmdchaa
