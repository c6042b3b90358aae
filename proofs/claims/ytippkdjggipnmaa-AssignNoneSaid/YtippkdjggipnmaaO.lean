/-
  Walks over package assign: plans that are not there, or were not made; the law AssignNone.
-/
import Derived.Test.YtippkdjggipnmaaN
namespace Go.Proofs.Ytippkdjggipnmaa
open Go.RowKit Go.Maps

def IsNone (a : Option Addr) (w : World) : Prop := Calls Try.prog 26 #[.pointer a] w fun e w' => e = .returned (.bool true) ∧ w = w'

theorem hasChunk_none (a : Option Addr) (c : Int) (w : World) (H : IsNone a w) :
    Calls Try.prog 34 #[.pointer a, .int .i64 c] w fun e w' => e = .returned (.bool false) ∧ w = w' := by
  have HH : Hid (Calls Try.prog 26 #[.pointer a] w fun e w' => e = .returned (.bool true) ∧ w = w') := Lib.hid (H)
  clear H
  go_enter Try.func34, Try.ntmps34
  go_wp2_with fail
  refine HH.out.mono ?_
  rintro e w' ⟨rfl, rfl⟩
  go_wp2_with fail
  go_ret
  exact ⟨rfl, rfl⟩

theorem hasPeer_none (a : Option Addr) (c : Int) (w : World) (H : IsNone a w) :
    Calls Try.prog 35 #[.pointer a, .int .i64 c] w fun e w' => e = .returned (.bool false) ∧ w = w' := by
  have HH : Hid (Calls Try.prog 26 #[.pointer a] w fun e w' => e = .returned (.bool true) ∧ w = w') := Lib.hid (H)
  clear H
  go_enter Try.func35, Try.ntmps35
  go_wp2_with fail
  refine HH.out.mono ?_
  rintro e w' ⟨rfl, rfl⟩
  go_wp2_with fail
  go_ret
  exact ⟨rfl, rfl⟩

theorem next_none (a : Option Addr) (c : Int) (w : World) (H : IsNone a w) :
    Calls Try.prog 13 #[.pointer a, .int .i64 c] w fun e w' => e = .returned (.tuple #[.int .i64 0, .int .i64 0, .bool false]) ∧ w = w' := by
  have HH : Hid (Calls Try.prog 26 #[.pointer a] w fun e w' => e = .returned (.bool true) ∧ w = w') := Lib.hid (H)
  clear H
  go_enter Try.func13, Try.ntmps13
  go_wp2_with fail
  refine HH.out.mono ?_
  rintro e w' ⟨rfl, rfl⟩
  go_wp2_with fail
  go_ret3
  exact ⟨rfl, rfl⟩

theorem had_none (a : Option Addr) (c : Int) (w : World) (H : IsNone a w) :
    Calls Try.prog 15 #[.pointer a, .int .i64 c] w fun e w' => e = .returned (.int .i64 1) ∧ w = w' := by
  have HH : Hid (Calls Try.prog 26 #[.pointer a] w fun e w' => e = .returned (.bool true) ∧ w = w') := Lib.hid (H)
  clear H
  go_enter Try.func15, Try.ntmps15
  go_wp2_with fail
  refine HH.out.mono ?_
  rintro e w' ⟨rfl, rfl⟩
  go_wp2_with fail
  go_ret
  exact ⟨rfl, rfl⟩

theorem bad_none (a : Option Addr) (c k : Int) (w : World) (H : IsNone a w) :
    Calls Try.prog 17 #[.pointer a, .int .i64 c, .int .i64 k] w fun e w' => e = .returned (.int .i64 1) ∧ w = w' := by
  have HH : Hid (Calls Try.prog 26 #[.pointer a] w fun e w' => e = .returned (.bool true) ∧ w = w') := Lib.hid (H)
  clear H
  go_enter Try.func17, Try.ntmps17
  go_wp2_with fail
  refine HH.out.mono ?_
  rintro e w' ⟨rfl, rfl⟩
  go_wp2_with fail
  go_ret
  exact ⟨rfl, rfl⟩

theorem left_none (a : Option Addr) (w : World) (H : IsNone a w) :
    Calls Try.prog 24 #[.pointer a] w fun e w' => e = .returned (.int .i64 0) ∧ w = w' := by
  have HH : Hid (Calls Try.prog 26 #[.pointer a] w fun e w' => e = .returned (.bool true) ∧ w = w') := Lib.hid (H)
  clear H
  go_enter Try.func24, Try.ntmps24
  go_wp2_with fail
  refine HH.out.mono ?_
  rintro e w' ⟨rfl, rfl⟩
  go_wp2_with fail
  go_ret
  exact ⟨rfl, rfl⟩

theorem copy_none (a : Option Addr) (w : World) (H : IsNone a w) :
    Calls Try.prog 19 #[.pointer a] w fun e w' => e = .returned (.pointer none) ∧ w = w' := by
  have HH : Hid (Calls Try.prog 26 #[.pointer a] w fun e w' => e = .returned (.bool true) ∧ w = w') := Lib.hid (H)
  clear H
  go_enter Try.func19, Try.ntmps19
  go_wp2_with fail
  refine HH.out.mono ?_
  rintro e w' ⟨rfl, rfl⟩
  go_wp2_with fail
  go_ret
  exact ⟨rfl, rfl⟩

theorem state_none (a : Option Addr) (c : Int) (w : World) (H : IsNone a w) :
    Calls Try.prog 22 #[.pointer a, .int .i64 c] w fun e w' => e = .returned (.int .i64 0) ∧ w = w' := by
  have HH : Hid (Calls Try.prog 34 #[.pointer a, .int .i64 c] w fun e w' => e = .returned (.bool false) ∧ w = w') := Lib.hid (hasChunk_none a c w H)
  clear H
  go_enter Try.func22, Try.ntmps22
  go_wp2_with fail
  refine HH.out.mono ?_
  rintro e w' ⟨rfl, rfl⟩
  go_wp2_with fail
  go_ret
  exact ⟨rfl, rfl⟩

theorem dem_none (a : Option Addr) (c : Int) (w : World) (H : IsNone a w) :
    Calls Try.prog 23 #[.pointer a, .int .i64 c] w fun e w' => e = .returned (.int .i64 0) ∧ w = w' := by
  have HH : Hid (Calls Try.prog 35 #[.pointer a, .int .i64 c] w fun e w' => e = .returned (.bool false) ∧ w = w') := Lib.hid (hasPeer_none a c w H)
  clear H
  go_enter Try.func23, Try.ntmps23
  go_wp2_with fail
  refine HH.out.mono ?_
  rintro e w' ⟨rfl, rfl⟩
  go_wp2_with fail
  go_ret
  exact ⟨rfl, rfl⟩

theorem asked_none (a : Option Addr) (c : Int) (w : World) (H : IsNone a w) :
    Calls Try.prog 21 #[.pointer a, .int .i64 c] w fun e w' => e = .returned (.tuple #[.int .i64 0, .int .i64 0, .bool false]) ∧ w = w' := by
  have HH : Hid (Calls Try.prog 22 #[.pointer a, .int .i64 c] w fun e w' => e = .returned (.int .i64 0) ∧ w = w') := Lib.hid (state_none a c w H)
  clear H
  go_enter Try.func21, Try.ntmps21
  go_wp2_with fail
  refine HH.out.mono ?_
  rintro e w' ⟨rfl, rfl⟩
  go_wp2_with fail
  go_ret3
  exact ⟨rfl, rfl⟩

theorem stuck_none (a : Option Addr) (w : World) (H : IsNone a w) :
    Calls Try.prog 25 #[.pointer a] w fun e w' => e = .returned (.bool false) ∧ w = w' := by
  have HH : Hid (Calls Try.prog 24 #[.pointer a] w fun e w' => e = .returned (.int .i64 0) ∧ w = w') := Lib.hid (left_none a w H)
  clear H
  go_enter Try.func25, Try.ntmps25
  go_wp2_with fail
  refine HH.out.mono ?_
  rintro e w' ⟨rfl, rfl⟩
  go_wp2_with fail
  go_ret
  exact ⟨rfl, rfl⟩

set_option maxRecDepth 100000 in
set_option maxHeartbeats 4000000 in
theorem none_any (K0 I K N : Int) (w : World) : Calls Try.prog 4 #[.agg #[.int .i64 K0, .int .i64 I, .int .i64 K, .int .i64 N]] w fun e w' => e = .returned (.bool true) ∧ Chg none w w' := by
  go_enter Try.func4, Try.ntmps4
  go_wp2
  generalize hW : World.alloc _ (.cells #[Value.pointer none, Value.pointer _] _) = W at *
  have b0 : Blk W w.heap.size #[.int .i64 K0, .int .i64 I, .int .i64 K, .int .i64 N] 32 := by rw [← hW]; exact ((Blk.new w _ _).alloc _).alloc _
  have b1 : Blk W (w.heap.size + 1) #[.int .i64 0, .int .i64 0, .slice none 0 0, .slice none 0 0, .map none] 44 := by
    rw [← hW]
    have := (Blk.new (w.alloc (.cells #[.int .i64 K0, .int .i64 I, .int .i64 K, .int .i64 N] 32)) #[.int .i64 0, .int .i64 0, .slice none 0 0, .slice none 0 0, .map none] 44).alloc (.cells #[.pointer none, .pointer (some ⟨w.heap.size + 1, 0, none⟩)] 23)
    simpa using this
  have b2 : Blk W (w.heap.size + 2) #[.pointer none, .pointer (some ⟨w.heap.size + 1, 0, none⟩)] 23 := by
    rw [← hW]
    have := Blk.new ((w.alloc (.cells #[.int .i64 K0, .int .i64 I, .int .i64 K, .int .i64 N] 32)).alloc (.cells #[.int .i64 0, .int .i64 0, .slice none 0 0, .slice none 0 0, .map none] 44)) #[.pointer none, .pointer (some ⟨w.heap.size + 1, 0, none⟩)] 23
    simpa using this
  have hg : Chg none w W := by rw [← hW]; exact (((Chg.refl _ _).alloc _).alloc _).alloc _
  have HA : Hid (∀ k : Nat, k < 2 → ∃ a, W.cell? ⟨w.heap.size + 2, k, none⟩ = some (.pointer a) ∧ IsNone a W) := Lib.hid fun k hk => by
    match k, hk with
    | 0, _ => exact ⟨none, by rw [b2.cell]; rfl, isNone_nil W⟩
    | 1, _ => exact ⟨some ⟨w.heap.size + 1, 0, none⟩, by rw [b2.cell]; rfl, isNone_some _ 0 true W (by rw [b1.cell]; rfl) rfl⟩
  have q0 : W.cell? ⟨w.heap.size, 0, none⟩ = some (.int .i64 K0) := by rw [b0.cell]; rfl
  have q1 : W.cell? ⟨w.heap.size, 1, none⟩ = some (.int .i64 I) := by rw [b0.cell]; rfl
  have q2 : W.cell? ⟨w.heap.size, 2, none⟩ = some (.int .i64 K) := by rw [b0.cell]; rfl
  have q3 : W.cell? ⟨w.heap.size, 3, none⟩ = some (.int .i64 N) := by rw [b0.cell]; rfl
  have HG := Lib.hid hg
  clear hW b0 b1 b2 hg
  go_loop [16] (fun i => ∃ k : Nat, k ≤ 2 ∧ i = .int .i64 k) (fun i => 2 - (intOf i).toNat)
  case atStart => exact ⟨0, by omega, rfl⟩
  case round =>
    obtain ⟨k, hk, rfl⟩ := hrel
    by_cases hlt : k < 2
    · obtain ⟨a, ha, hn⟩ := HA.out k hlt
      have H := Lib.hid hn
      clear hn
      go_wp2_with fail
      refine (next_none a N _ H.out).mono ?_
      rintro e w' ⟨rfl, rfl⟩
      go_wp2_with fail
      refine (asked_none a I _ H.out).mono ?_
      rintro e w' ⟨rfl, rfl⟩
      go_wp2_with fail
      refine (had_none a I _ H.out).mono ?_
      rintro e w' ⟨rfl, rfl⟩
      go_wp2_with fail
      refine (bad_none a I K _ H.out).mono ?_
      rintro e w' ⟨rfl, rfl⟩
      go_wp2_with fail
      refine (state_none a I _ H.out).mono ?_
      rintro e w' ⟨rfl, rfl⟩
      go_wp2_with fail
      refine (dem_none a K _ H.out).mono ?_
      rintro e w' ⟨rfl, rfl⟩
      go_wp2_with fail
      refine (left_none a _ H.out).mono ?_
      rintro e w' ⟨rfl, rfl⟩
      go_wp2_with fail
      refine (stuck_none a _ H.out).mono ?_
      rintro e w' ⟨rfl, rfl⟩
      go_wp2_with fail
      refine (copy_none a _ H.out).mono ?_
      rintro e w' ⟨rfl, rfl⟩
      go_wp2
      go_round
      case rel => exact ⟨k + 1, by omega, by go_num⟩
      case measure => simp [intOf]; omega
    · go_wp2_with fail
      refine (known_any _).mono ?_
      rintro e w' ⟨rfl, g⟩
      have G := Lib.hid (HG.out.trans g)
      clear g
      go_wp2
      go_ret
      exact ⟨rfl, G.out⟩

end Go.Proofs.Ytippkdjggipnmaa
