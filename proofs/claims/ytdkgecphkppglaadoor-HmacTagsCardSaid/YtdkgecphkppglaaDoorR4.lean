/-
  The document's digest: the first primes.
-/
import Derived.Test.YtdkgecphkppglaaDoorR3
namespace Go.Proofs.YtdkgecphkppglaaDoor
open Go.RowKit

set_option maxHeartbeats 2000000 in
theorem prime_any (n : Nat) (hn : n ≤ 1000) (w : World) : Calls Tryd.prog 64 #[.int .i64 n] w fun e w' => e = .returned (.bool (primeB n)) ∧ w = w' := by
  go_enter Tryd.func64, Tryd.ntmps64
  go_wp2_with fail
  go_loop [3] (fun s3 => ∃ k : Nat, 2 ≤ k ∧ k ≤ n + 2 ∧ s3 = .int .i64 k ∧ Hid (∀ j, 2 ≤ j → j < k → n % j ≠ 0)) (fun s3 => n + 2 - (intOf s3).toNat)
  case atStart => exact ⟨2, by omega, by omega, rfl, fun j h1 h2 => by omega⟩
  case round =>
    obtain ⟨k, hk2, hkn, rfl, HD⟩ := hrel
    have hkk : k * k ≤ 1002 * 1002 := Nat.mul_le_mul (by omega) (by omega)
    have hki : ((k * k : Nat) : Int) = (k : Int) * (k : Int) := by simp
    have hk1 : (k : Int) * (k : Int) ≤ 1004004 := by omega
    have hk3 : (0 : Int) ≤ (k : Int) * (k : Int) := by omega
    have hk4 : ¬ (k : Int) = 0 := by omega
    have hk5 : ((k : Int) == 0) = false := by simp; omega
    have hk6 : (0 : Int) < (k : Int) := by omega
    by_cases hle : k * k ≤ n
    · have t1 : decide ((k : Int) * (k : Int) ≤ (n : Int)) = true := by simp; omega
      have hlk : k ≤ k * k := Nat.le_mul_of_pos_left k (by omega)
      by_cases hd : n % k = 0
      · have hr := prime_no hk2 hle hd
        have HR := Lib.hid hr
        have t2 : (((n : Int) % (k : Int)) == 0) = true := by simp; omega
        clear hki hd hr hle
        go_wp2_with fail
        go_ret
        exact ⟨ret_bool HR.out.symm, rfl⟩
      · have t2 : (((n : Int) % (k : Int)) == 0) = false := by simp; omega
        have HD2 : Hid (∀ j, 2 ≤ j → j < k + 1 → n % j ≠ 0) := fun j h1 h2 => by
          by_cases e : j = k
          · rw [e]; exact hd
          · exact HD.out j h1 (by omega)
        clear hki hd
        go_wp2_with fail
        go_round
        case rel => exact ⟨k + 1, by omega, by omega, by go_num, HD2⟩
        case measure => simp [intOf]; omega
    · have t1 : decide ((k : Int) * (k : Int) ≤ (n : Int)) = false := by simp; omega
      have hr := prime_yes (by omega) HD.out
      have HR := Lib.hid hr
      clear hki hr hle HD
      go_wp2_with fail
      go_ret
      exact ⟨ret_bool (by rw [HR.out]; simp; omega), rfl⟩

def ints (L : List Nat) : List Value := L.map fun (v : Nat) => Value.int .i64 (v : Int)
theorem ints_len (L : List Nat) : (ints L).length = L.length := by simp [ints]
theorem Tryd.info3 : (Tryd.prog.info? 3).map (fun i => (i.zero, i.size, i.bytes)) = some (some (.int .i64 0), 1, 8) := by kernel_rfl
theorem reads_int (w : World) (x : Nat) : Reads (w.alloc (.cells #[.int .i64 x] 3)) (w.alloc (.cells #[.int .i64 x] 3)).heap.size 1 (some ⟨w.heap.size, 0, none⟩) 1 (ints [x]) :=
  ⟨rfl, fun _ => ⟨_, rfl, by simp, fun j u hu => by
    match j, hu with
    | 0, hu =>
      simp only [ints, List.map_cons, List.map_nil, List.getElem?_cons_zero, Option.some.injEq] at hu
      subst hu
      rw [Go.WideShapes.add_plain, Nat.zero_add, (Blk.new w _ 3).cell]; rfl⟩⟩
theorem ints_one (L : List Nat) : ∀ v ∈ ints L, v.oneCell' = true := by
  intro v hv
  obtain ⟨x, _, rfl⟩ := List.mem_map.1 hv
  rfl

def PrimesPost (w : World) (e : Ending) (w' : World) : Prop :=
  ∃ A c, e = .returned (.slice A 64 c) ∧ w'.ownsRow w.heap.size 3 1 (.slice A 64 c) 64 (ints (primesB 312)) ∧ Chg none w w'

set_option maxHeartbeats 4000000 in
theorem primes_any (w : World) : Calls Tryd.prog 38 #[.int .i64 64] w (PrimesPost w) := by
  obtain ⟨i0, hi0, hz0, hz1, hz2⟩ := info_parts Tryd.info3
  have h2 : primesB 2 = [] := by decide
  have HOWN0 : Hid (w.ownsRow w.heap.size 3 1 (.slice none 0 0) (primesB 2).length (ints (primesB 2))) := by
    show World.ownsRow _ _ _ _ _ _ _
    rw [h2]; exact World.ownsRow_nil _ _ _ _
  have HFEW := Lib.hid primes_few
  have HALL := Lib.hid primes_all
  clear h2
  go_enter Tryd.func38, Tryd.ntmps38
  go_wp2_with fail
  go_loopw [3, 4] (fun s3 s4 wr => ∃ n J : Nat, 2 ≤ n ∧ n ≤ 312 ∧ s4 = .int .i64 n ∧ Hid (J = (primesB n).length) ∧ wr.ownsRow w.heap.size 3 1 s3 J (ints (primesB n)) ∧ Chg none w wr) (fun _ s4 _ => 312 - (intOf s4).toNat)
  case atStart => exact ⟨2, (primesB 2).length, by omega, by omega, rfl, rfl, HOWN0.out, Chg.refl _ _⟩
  case round =>
    obtain ⟨n, J, hn2, hn3, rfl, HJ, hown, gn⟩ := hrel
    obtain ⟨A3, c3, rfl⟩ := own_slice hown
    clear HOWN0
    by_cases hlt : n < 312
    · have hJ64 : J < 64 := by rw [HJ.out]; exact HFEW.out n hlt
      have t1 : decide ((J : Int) < 64) = true := by simp; omega
      have HP := Lib.hid (fun v => prime_any n (by omega) v)
      have hsu := primes_succ n
      by_cases hp : primeB n = true
      · rw [if_pos hp] at hsu
        rw [hp] at HP
        have HS : Hid (ints (primesB (n + 1)) = ints (primesB n) ++ ints [n]) := by show _ = _; rw [hsu]; simp [ints]
        have HL : Hid (J + 1 = (primesB (n + 1)).length) := by show _ = _; rw [hsu, List.length_append, ← HJ.out]; rfl
        have HRI := Lib.hid (reads_int wr n)
        have HO := Lib.hid (ints_one [n])
        have HOWN := Lib.hid hown
        clear hsu hp hown
        go_wp2_with fail
        refine (HP.out _).mono ?_
        rintro e w' ⟨rfl, rfl⟩
        go_wp2_with (at_builtin; refine wpList_append_any _ rfl (.tmp 13) (.tmp 15) 63 rfl w.heap.size 3 i0 (.int .i64 0) 1 8 Tryd.underlying63 hi0 hz0 hz1 hz2 rfl (by decide) _ J (ints (primesB n)) rfl (HOWN.out.alloc _) _ (some ⟨wr.heap.size, 0, none⟩) 1 1 (ints [n]) rfl HRI.out HO.out (by unfold maxLen; omega) (by omega) (by have := gn.size; simp; omega) ?_)
        intro v6 w6 hown6 hgr6 _
        rw [← HS.out] at hown6
        have g6 : Chg none w w6 := own_chg (gn.alloc (.cells #[.int .i64 n] 3)) (HOWN.out.alloc _) (Nat.le_refl _) hgr6
        have HOWN6 := Lib.hid hown6
        clear hown6 hgr6 HRI HOWN
        go_wp2_with fail
        go_roundw
        case rel => exact ⟨n + 1, J + 1, by omega, by omega, by go_num, HL, HOWN6.out, g6⟩
        case measure => first | (simp [intOf]; done) | (simp [intOf]; omega)
      · have hp' : primeB n = false := by simpa using hp
        rw [if_neg hp, List.append_nil] at hsu
        rw [hp'] at HP
        have HS : Hid (primesB (n + 1) = primesB n) := hsu
        clear hsu hp hp'
        go_wp2_with fail
        refine (HP.out _).mono ?_
        rintro e w' ⟨rfl, rfl⟩
        go_wp2_with fail
        go_roundw
        case rel => exact ⟨n + 1, J, by omega, by omega, by go_num, by show _ = _; rw [HS.out]; exact HJ.out, by rw [HS.out]; exact hown, gn⟩
        case measure => first | (simp [intOf]; done) | (simp [intOf]; omega)
    · obtain rfl : n = 312 := by omega
      obtain rfl : J = 64 := HJ.out.trans HALL.out
      clear HJ HFEW HALL
      go_wp2_with fail
      go_ret
      exact ⟨A3, c3, rfl, hown, gn⟩

end Go.Proofs.YtdkgecphkppglaaDoor
