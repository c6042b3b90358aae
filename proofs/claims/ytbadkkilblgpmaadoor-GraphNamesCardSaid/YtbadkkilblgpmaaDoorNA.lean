/-
  Package parser: isName.
-/
import Derived.Test.YtbadkkilblgpmaaDoorPB
namespace Go.Proofs.YtbadkkilblgpmaaDoor
open Go.RowKit

/-- May this rune stand in a name? -/
def nameC (n : Nat) : Bool := (decide (97 ≤ n) && decide (n ≤ 122)) || (decide (48 ≤ n) && decide (n ≤ 57)) || n == 95 || n == 45
def nameB (s : List UInt8) : Bool := decide (1 ≤ s.length) && (decide (s.length ≤ 10) && s.all fun c => nameC c.toNat)
theorem nameC_high {n : Nat} (h : 123 ≤ n) : nameC n = false := by
  unfold nameC
  simp only [Bool.or_eq_false_iff, Bool.and_eq_false_iff, decide_eq_false_iff_not, beq_eq_false_iff_ne]
  omega

set_option maxHeartbeats 16000000 in
theorem isname_any (s : List UInt8) (w : World) (hl : s.length ≤ 9223372036854775807) : Calls Tryd.prog 137 #[.string ⟨s.toArray⟩] w fun e w' => e = .returned (.bool (nameB s)) ∧ Chg none w w' := by
  have hsz : (⟨s.toArray⟩ : ByteArray).size = s.length := List.size_toArray
  by_cases h0 : s.length = 0
  · have d0 : ((s.length : Int) == 0) = true := by rw [beq_iff_eq]; omega
    have hr : nameB s = false := by unfold nameB; rw [h0]; rfl
    rw [hr]
    clear hr h0
    go_enter Tryd.func137, Tryd.ntmps137
    go_wp2_with fail
    go_ret
    exact ⟨rfl, Chg.refl _ _⟩
  have d0 : ((s.length : Int) == 0) = false := by rw [beq_eq_false_iff_ne]; omega
  by_cases h4 : 10 < s.length
  · have d1 : decide ((10 : Int) < (s.length : Int)) = true := by rw [decide_eq_true_eq]; omega
    have hr : nameB s = false := by unfold nameB; rw [decide_eq_false (by omega : ¬ s.length ≤ 10), Bool.false_and, Bool.and_false]
    rw [hr]
    clear hr h0 h4
    go_enter Tryd.func137, Tryd.ntmps137
    go_wp2_with fail
    go_ret
    exact ⟨rfl, Chg.refl _ _⟩
  have d1 : decide ((10 : Int) < (s.length : Int)) = false := by rw [decide_eq_false_iff_not]; omega
  have hr : nameB s = s.all fun c => nameC c.toNat := by unfold nameB; rw [decide_eq_true (by omega : 1 ≤ s.length), decide_eq_true (by omega : s.length ≤ 10), Bool.true_and, Bool.true_and]
  have HRR := Lib.hid hr
  have HSZ := Lib.hid hsz
  clear hr h0
  go_enter Tryd.func137, Tryd.ntmps137
  go_wp2_with fail
  obtain ⟨S, hS⟩ : ∃ S : ByteArray, S = ⟨s.toArray⟩ := ⟨_, rfl⟩
  have HS := Lib.hid hS
  rw [← hS] at HSZ ⊢
  clear hS hsz d0 d1
  go_loopw [] (fun wr => ∃ k : Nat, Hid (k ≤ s.length ∧ ∀ (j : Nat) c, j < k → s[j]? = some c → nameC c.toNat = true) ∧ wr = w.iter S k) (fun wr => s.length - wr.iterPos w.heap.size)
  case atStart => exact ⟨0, Lib.hid ⟨Nat.zero_le _, fun j c h => absurd h (Nat.not_lt_zero _)⟩, rfl⟩
  case round =>
    obtain ⟨k, HH, rfl⟩ := hrel
    have gI : ∀ j, Chg none w (w.iter S j) := fun j => (Chg.refl none w).alloc (.stringIter S j)
    have HGI := Lib.hid gI
    clear gI
    by_cases hlt : k < s.length
    · have hk : s[k]? = some s[k] := List.getElem?_eq_getElem hlt
      obtain ⟨hk2, hc⟩ : ∃ hk : k < S.size, S[k]'hk = s[k] := by rw [HS.out]; exact str_at hk
      have HNO : Hid (nameC (s[k]).toNat = false → nameB s = false) := Lib.hid fun h => by
        rw [HRR.out, List.all_eq_false]
        exact ⟨s[k], List.getElem_mem hlt, by rw [h]; simp⟩
      have HYE : Hid (nameC (s[k]).toNat = true → ∀ (j : Nat) c, j < k + 1 → s[j]? = some c → nameC c.toNat = true) := Lib.hid fun h j c hj hcj => by
        rcases Nat.lt_or_ge j k with h1 | h1
        · exact HH.out.2 j c h1 hcj
        · have hjk : j = k := by omega
          rw [hjk, hk] at hcj
          injection hcj with hcj
          rw [← hcj]; exact h
      by_cases ha : (s[k]).toNat < 128
      · have hnx := fun ty => run_next_ascii (P := Tryd.prog) w S k ty hk2 (by rw [hc]; exact ha)
        rw [hc] at hnx
        generalize (s[k]).toNat = n at *
        have HNX : Hid (k < s.length) := Lib.hid hlt
        clear hk hc ha hlt
        by_cases ho : nameC n = true
        rotate_left
        · have ho' : nameC n = false := by simpa using ho
          have HRES := Lib.hid (HNO.out ho')
          have hno := ho'
          unfold nameC at hno
          simp only [Bool.or_eq_false_iff, Bool.and_eq_false_iff, decide_eq_false_iff_not, beq_eq_false_iff_ne] at hno
          have b5 : ((n : Int) != 95) = true := by rw [bne_iff_ne]; omega
          have b6 : ((n : Int) != 45) = true := by rw [bne_iff_ne]; omega
          rcases (show n < 48 ∨ (58 ≤ n ∧ n < 97) ∨ 123 ≤ n by omega) with h | h | h
          · have a1 : decide ((n : Int) < 97) = true := by rw [decide_eq_true_eq]; omega
            have a3 : decide ((n : Int) < 48) = true := by rw [decide_eq_true_eq]; omega
            clear ho ho' hno h HNO HYE
            go_wp2_with fail
            go_ret
            exact ⟨by rw [HRES.out]; rfl, HGI.out _⟩
          · have a1 : decide ((n : Int) < 97) = true := by rw [decide_eq_true_eq]; omega
            have a3 : decide ((n : Int) < 48) = false := by rw [decide_eq_false_iff_not]; omega
            have a4 : decide ((57 : Int) < n) = true := by rw [decide_eq_true_eq]; omega
            clear ho ho' hno h HNO HYE
            go_wp2_with fail
            go_ret
            exact ⟨by rw [HRES.out]; rfl, HGI.out _⟩
          · have a1 : decide ((n : Int) < 97) = false := by rw [decide_eq_false_iff_not]; omega
            have a2 : decide ((122 : Int) < n) = true := by rw [decide_eq_true_eq]; omega
            have a3 : decide ((n : Int) < 48) = false := by rw [decide_eq_false_iff_not]; omega
            have a4 : decide ((57 : Int) < n) = true := by rw [decide_eq_true_eq]; omega
            clear ho ho' hno h HNO HYE
            go_wp2_with fail
            go_ret
            exact ⟨by rw [HRES.out]; rfl, HGI.out _⟩
        have HN := Lib.hid (HYE.out ho)
        have hyes := ho
        unfold nameC at hyes
        simp only [Bool.or_eq_true, Bool.and_eq_true, decide_eq_true_eq, beq_iff_eq] at hyes
        clear ho HNO HYE
        rcases hyes with ((⟨h1, h2⟩ | ⟨h1, h2⟩) | rfl) | rfl
        · have a1 : decide ((n : Int) < 97) = false := by rw [decide_eq_false_iff_not]; omega
          have a2 : decide ((122 : Int) < n) = false := by rw [decide_eq_false_iff_not]; omega
          clear h1 h2
          go_wp2_with fail
          go_roundw
          case rel => exact ⟨k + 1, Lib.hid ⟨HNX.out, HN.out⟩, rfl⟩
          case measure =>
            have := HNX.out
            simp; omega
        · have a1 : decide ((n : Int) < 97) = true := by rw [decide_eq_true_eq]; omega
          have a3 : decide ((n : Int) < 48) = false := by rw [decide_eq_false_iff_not]; omega
          have a4 : decide ((57 : Int) < n) = false := by rw [decide_eq_false_iff_not]; omega
          clear h1 h2
          go_wp2_with fail
          go_roundw
          case rel => exact ⟨k + 1, Lib.hid ⟨HNX.out, HN.out⟩, rfl⟩
          case measure =>
            have := HNX.out
            simp; omega
        all_goals
          go_wp2_with fail
          go_roundw
          case rel => exact ⟨k + 1, Lib.hid ⟨HNX.out, HN.out⟩, rfl⟩
          case measure =>
            have := HNX.out
            simp; omega
      · have hnx := fun ty => run_next_any (P := Tryd.prog) w S k ty hk2
        have hhi := (decode_high S k hk2 (by rw [hc]; omega)).1
        have HRES := Lib.hid (HNO.out (nameC_high (by omega)))
        generalize (Utf8.decode S k).1 = n at *
        generalize k + (Utf8.decode S k).2 = k' at *
        have b5 : ((n : Int) != 95) = true := by rw [bne_iff_ne]; omega
        have b6 : ((n : Int) != 45) = true := by rw [bne_iff_ne]; omega
        have a1 : decide ((n : Int) < 97) = false := by rw [decide_eq_false_iff_not]; omega
        have a2 : decide ((122 : Int) < n) = true := by rw [decide_eq_true_eq]; omega
        have a3 : decide ((n : Int) < 48) = false := by rw [decide_eq_false_iff_not]; omega
        have a4 : decide ((57 : Int) < n) = true := by rw [decide_eq_true_eq]; omega
        clear hk hc ha hhi HNO HYE
        go_wp2_with fail
        go_ret
        exact ⟨by rw [HRES.out]; rfl, HGI.out _⟩
    · have hnx := fun ty => run_next_end (P := Tryd.prog) w S k ty (by rw [HSZ.out]; exact hlt)
      have HRES : Hid (nameB s = true) := Lib.hid (by
        rw [HRR.out, List.all_eq_true]
        intro c hc
        obtain ⟨i, hi, rfl⟩ := List.getElem_of_mem hc
        exact HH.out.2 i _ (by omega) (List.getElem?_eq_getElem hi))
      clear hlt
      go_wp2_with fail
      go_ret
      exact ⟨by rw [HRES.out]; rfl, HGI.out _⟩

end Go.Proofs.YtbadkkilblgpmaaDoor
