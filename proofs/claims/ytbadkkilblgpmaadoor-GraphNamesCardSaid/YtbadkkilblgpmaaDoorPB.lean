/-
  Package tree: IsPath; the document's.
-/
import Derived.Test.YtbadkkilblgpmaaDoorPA
import Derived.Laws.RangeAny
import Derived.Deep.RegionHeld3
import Derived.Outline
namespace Go.Proofs.YtbadkkilblgpmaaDoor
open Go.RowKit

set_option maxHeartbeats 4000000 in
theorem rune_any (n : Nat) (w : World) : Calls Tryd.prog 123 #[.int .i32 n] w fun e w' => e = .returned (.bool (okC n)) ∧ w' = w := by
  by_cases h1 : 97 ≤ n ∧ n ≤ 122
  · have a1 : decide ((n : Int) ≥ 97) = true := by rw [decide_eq_true_eq]; omega
    have a2 : decide ((n : Int) ≤ 122) = true := by rw [decide_eq_true_eq]; omega
    have hr : okC n = true := by unfold okC; simp [h1.1, h1.2]
    rw [hr]
    clear hr
    go_enter Tryd.func123, Tryd.ntmps123
    go_wp2
    go_ret
    exact ⟨rfl, rfl⟩
  by_cases h2 : 48 ≤ n ∧ n ≤ 57
  · have a1 : decide ((97 : Int) ≤ n) = false := by rw [decide_eq_false_iff_not]; omega
    have a2 : decide ((48 : Int) ≤ n) = true := by rw [decide_eq_true_eq]; omega
    have a3 : decide ((n : Int) ≤ 57) = true := by rw [decide_eq_true_eq]; omega
    have hr : okC n = true := by unfold okC; simp [h2.1, h2.2]
    rw [hr]
    clear hr
    go_enter Tryd.func123, Tryd.ntmps123
    go_wp2
    go_ret
    exact ⟨rfl, rfl⟩
  by_cases h3 : n = 45 ∨ n = 46 ∨ n = 47 ∨ n = 95
  · rcases h3 with rfl | rfl | rfl | rfl
    all_goals
      clear h1 h2
      go_enter Tryd.func123, Tryd.ntmps123
      go_wp2
      go_ret
      exact ⟨rfl, rfl⟩
  have hr : okC n = false := by
    unfold okC
    simp only [Bool.or_eq_false_iff, Bool.and_eq_false_iff, decide_eq_false_iff_not, beq_eq_false_iff_ne]
    omega
  rw [hr]
  have b1 : ((n : Int) == 46) = false := by rw [beq_eq_false_iff_ne]; omega
  have b2 : ((n : Int) == 95) = false := by rw [beq_eq_false_iff_ne]; omega
  have b3 : ((n : Int) == 45) = false := by rw [beq_eq_false_iff_ne]; omega
  have b4 : ((n : Int) == 47) = false := by rw [beq_eq_false_iff_ne]; omega
  rcases (show n < 48 ∨ (58 ≤ n ∧ n < 97) ∨ 123 ≤ n by omega) with h | h | h
  · have a1 : decide ((97 : Int) ≤ n) = false := by rw [decide_eq_false_iff_not]; omega
    have a2 : decide ((48 : Int) ≤ n) = false := by rw [decide_eq_false_iff_not]; omega
    clear h1 h2 h3 hr
    go_enter Tryd.func123, Tryd.ntmps123
    go_wp2
    go_ret
    exact ⟨rfl, rfl⟩
  · have a1 : decide ((97 : Int) ≤ n) = false := by rw [decide_eq_false_iff_not]; omega
    have a2 : decide ((48 : Int) ≤ n) = true := by rw [decide_eq_true_eq]; omega
    have a3 : decide ((n : Int) ≤ 57) = false := by rw [decide_eq_false_iff_not]; omega
    clear h1 h2 h3 hr
    go_enter Tryd.func123, Tryd.ntmps123
    go_wp2
    go_ret
    exact ⟨rfl, rfl⟩
  · have a1 : decide ((97 : Int) ≤ n) = true := by rw [decide_eq_true_eq]; omega
    have a2 : decide ((n : Int) ≤ 122) = false := by rw [decide_eq_false_iff_not]; omega
    have a3 : decide ((48 : Int) ≤ n) = true := by rw [decide_eq_true_eq]; omega
    have a4 : decide ((n : Int) ≤ 57) = false := by rw [decide_eq_false_iff_not]; omega
    clear h1 h2 h3 hr
    go_enter Tryd.func123, Tryd.ntmps123
    go_wp2
    go_ret
    exact ⟨rfl, rfl⟩

/-- The byte at a place of a text. -/
theorem str_at {s : List UInt8} {k : Nat} {c : UInt8} (h : s[k]? = some c) : ∃ hk : k < (⟨s.toArray⟩ : ByteArray).size, (⟨s.toArray⟩ : ByteArray)[k]'hk = c := by
  obtain ⟨hk, rfl⟩ := List.getElem?_eq_some_iff.1 h
  have e : (⟨s.toArray⟩ : ByteArray).size = s.length := List.size_toArray
  refine ⟨by rw [e]; exact hk, ?_⟩
  show s.toArray[k]'_ = _
  simp

set_option maxHeartbeats 8000000 in
theorem ispath_any (s : List UInt8) (w : World) (hl : s.length ≤ 9223372036854775807) : Calls Tryd.prog 73 #[.string ⟨s.toArray⟩] w fun e w' => e = .returned (.bool (pathB s)) ∧ Chg none w w' := by
  have hsz : (⟨s.toArray⟩ : ByteArray).size = s.length := List.size_toArray
  by_cases h0 : s.length = 0
  · have d0 : ((s.length : Int) == 0) = true := by rw [beq_iff_eq]; omega
    have hr : pathB s = false := by unfold pathB; rw [h0]; rfl
    rw [hr]
    clear hr h0
    go_enter Tryd.func73, Tryd.ntmps73
    go_wp2_with fail
    go_ret
    exact ⟨rfl, Chg.refl _ _⟩
  have d0 : ((s.length : Int) == 0) = false := by rw [beq_eq_false_iff_ne]; omega
  by_cases h4 : 40 < s.length
  · have d1 : decide ((40 : Int) < (s.length : Int)) = true := by rw [decide_eq_true_eq]; omega
    have hr : pathB s = false := by unfold pathB; rw [decide_eq_false (by omega : ¬ s.length ≤ 40), Bool.and_false, Bool.false_and]
    rw [hr]
    clear hr h0 h4
    go_enter Tryd.func73, Tryd.ntmps73
    go_wp2_with fail
    go_ret
    exact ⟨rfl, Chg.refl _ _⟩
  have d1 : decide ((40 : Int) < (s.length : Int)) = false := by rw [decide_eq_false_iff_not]; omega
  have hr : pathB s = pathFrom true s := by unfold pathB; rw [decide_eq_true (by omega : 1 ≤ s.length), decide_eq_true (by omega : s.length ≤ 40), Bool.true_and, Bool.true_and]
  rw [hr]
  have HRU := Lib.hid (fun (n : Nat) (v : World) => rune_any n v)
  have HSZ := Lib.hid hsz
  clear hr h0
  go_enter Tryd.func73, Tryd.ntmps73
  go_wp2_with fail
  obtain ⟨S, hS⟩ : ∃ S : ByteArray, S = ⟨s.toArray⟩ := ⟨_, rfl⟩
  have HS := Lib.hid hS
  rw [← hS] at HSZ ⊢
  clear hS hsz d0 d1
  go_loopw [3] (fun s3 wr => ∃ (k r : Nat), s3 = .int .i32 (r : Nat) ∧ Hid (k ≤ s.length ∧ pathFrom true s = pathFrom (r == 47) (s.drop k)) ∧ wr = w.iter S k) (fun _ wr => s.length - wr.iterPos w.heap.size)
  case atStart => exact ⟨0, 47, rfl, Lib.hid ⟨Nat.zero_le _, rfl⟩, rfl⟩
  case round =>
    obtain ⟨k, r, rfl, HH, rfl⟩ := hrel
    have gI : ∀ j, Chg none w (w.iter S j) := fun j => (Chg.refl none w).alloc (.stringIter S j)
    have HGI := Lib.hid gI
    clear gI
    by_cases hlt : k < s.length
    · have hk : s[k]? = some s[k] := List.getElem?_eq_getElem hlt
      have hst := pathFrom_step (b := (r == 47)) hk
      obtain ⟨hk2, hc⟩ : ∃ hk : k < S.size, S[k]'hk = s[k] := by rw [HS.out]; exact str_at hk
      have hlo := HH.out.2
      rw [hst] at hlo
      by_cases ha : (s[k]).toNat < 128
      · have hnx := fun ty => run_next_ascii (P := Tryd.prog) w S k ty hk2 (by rw [hc]; exact ha)
        rw [hc] at hnx
        generalize (s[k]).toNat = n at *
        have HLO := Lib.hid hlo
        have HNX : Hid (k < s.length) := hlt
        clear hk hst hc hlo ha
        by_cases ho : okC n = true
        rotate_left
        · have ho' : okC n = false := by simpa using ho
          have hres : pathFrom true s = false := by rw [HLO.out, ho', Bool.false_and, Bool.false_and]
          have HRES := Lib.hid hres
          have HR := Lib.hid (HRU.out n)
          rw [ho'] at HR
          clear ho ho' hres
          go_wp2_with fail
          refine (HR.out _).mono ?_
          rintro e w2 ⟨rfl, rfl⟩
          go_wp2_with fail
          go_ret
          exact ⟨by rw [HRES.out]; rfl, HGI.out _⟩
        have HR := Lib.hid (HRU.out n)
        rw [ho] at HR
        rw [ho, Bool.true_and] at HLO
        clear ho
        by_cases h47 : n = 47
        · have e1 : ((n : Int) == 47) = true := by rw [beq_iff_eq]; omega
          by_cases hb : r = 47
          · have e2 : ((r : Int) == 47) = true := by rw [beq_iff_eq]; omega
            have hres : pathFrom true s = false := by rw [HLO.out, h47, hb]; rfl
            have HRES := Lib.hid hres
            clear hres h47 hb
            go_wp2_with fail
            refine (HR.out _).mono ?_
            rintro e w2 ⟨rfl, rfl⟩
            go_wp2_with fail
            go_ret
            exact ⟨by rw [HRES.out]; rfl, HGI.out _⟩
          · have e2 : ((r : Int) == 47) = false := by rw [beq_eq_false_iff_ne]; omega
            have HN : Hid (pathFrom true s = pathFrom (n == 47) (s.drop (k + 1))) := by
              have hb' : (r == 47) = false := by rw [beq_eq_false_iff_ne]; exact hb
              show _ = _
              rw [HLO.out, hb', Bool.and_false, Bool.not_false, Bool.true_and]
            clear h47 hb
            go_wp2_with fail
            refine (HR.out _).mono ?_
            rintro e w2 ⟨rfl, rfl⟩
            go_wp2_with fail
            go_roundw
            case rel => exact ⟨k + 1, n, rfl, Lib.hid ⟨HNX.out, HN.out⟩, rfl⟩
            case measure =>
              have := HNX.out
              simp; omega
        · have e1 : ((n : Int) == 47) = false := by rw [beq_eq_false_iff_ne]; omega
          have HN : Hid (pathFrom true s = pathFrom (n == 47) (s.drop (k + 1))) := by
            have hb' : (n == 47) = false := by rw [beq_eq_false_iff_ne]; exact h47
            show _ = _
            rw [HLO.out, hb', Bool.false_and, Bool.not_false, Bool.true_and]
          clear h47
          go_wp2_with fail
          refine (HR.out _).mono ?_
          rintro e w2 ⟨rfl, rfl⟩
          go_wp2_with fail
          go_roundw
          case rel => exact ⟨k + 1, n, rfl, Lib.hid ⟨HNX.out, HN.out⟩, rfl⟩
          case measure =>
            have := HNX.out
            simp; omega
      · have hnx := fun ty => run_next_any (P := Tryd.prog) w S k ty hk2
        have hhi := (decode_high S k hk2 (by rw [hc]; omega)).1
        have ho : okC (Utf8.decode S k).1 = false := okC_high (by omega)
        have hres : pathFrom true s = false := by rw [hlo, okC_high (by omega), Bool.false_and, Bool.false_and]
        have HRES := Lib.hid hres
        have HR := Lib.hid (HRU.out (Utf8.decode S k).1)
        rw [ho] at HR
        generalize (Utf8.decode S k).1 = n at *
        generalize k + (Utf8.decode S k).2 = k' at *
        clear ho hres hk hst hc hlo ha hhi
        go_wp2_with fail
        refine (HR.out _).mono ?_
        rintro e w2 ⟨rfl, rfl⟩
        go_wp2_with fail
        go_ret
        exact ⟨by rw [HRES.out]; rfl, HGI.out _⟩
    · have hnx := fun ty => run_next_end (P := Tryd.prog) w S k ty (by rw [HSZ.out]; exact hlt)
      have hend := HH.out.2
      rw [pathFrom_end (by omega)] at hend
      have HEND := Lib.hid hend
      clear hend
      by_cases hb : r = 47
      · have e2 : ((r : Int) == 47) = true := by rw [beq_iff_eq]; omega
        have e3 : (!(r == 47)) = false := by rw [hb]; rfl
        have HE3 := Lib.hid e3
        clear hb e3
        go_wp2_with fail
        go_ret
        exact ⟨by rw [HEND.out, HE3.out]; show Ending.returned (.bool (!((r : Int) == 47))) = _; rw [e2]; rfl, HGI.out _⟩
      · have e2 : ((r : Int) == 47) = false := by rw [beq_eq_false_iff_ne]; omega
        have e3 : (!(r == 47)) = true := by
          have : (r == 47) = false := by rw [beq_eq_false_iff_ne]; exact hb
          rw [this]; rfl
        have HE3 := Lib.hid e3
        clear hb e3
        go_wp2_with fail
        go_ret
        exact ⟨by rw [HEND.out, HE3.out]; show Ending.returned (.bool (!((r : Int) == 47))) = _; rw [e2]; rfl, HGI.out _⟩

set_option maxHeartbeats 8000000 in
theorem refpath_any (s : List UInt8) (w : World) (hl : s.length ≤ 9223372036854775807) : Calls Tryd.prog 77 #[.string ⟨s.toArray⟩] w fun e w' => e = .returned (.bool (pathB s)) ∧ w' = w := by
  have hsz : (⟨s.toArray⟩ : ByteArray).size = s.length := List.size_toArray
  by_cases h0 : s.length < 1
  · have d0 : decide ((s.length : Int) < 1) = true := by rw [decide_eq_true_eq]; omega
    have hr : pathB s = false := by unfold pathB; rw [decide_eq_false (by omega : ¬ 1 ≤ s.length), Bool.false_and, Bool.false_and]
    rw [hr]
    clear hr h0
    go_enter Tryd.func77, Tryd.ntmps77
    go_wp2_with fail
    go_ret
    exact ⟨rfl, rfl⟩
  have d0 : decide ((s.length : Int) < 1) = false := by rw [decide_eq_false_iff_not]; omega
  by_cases h4 : 40 < s.length
  · have d1 : decide ((40 : Int) < (s.length : Int)) = true := by rw [decide_eq_true_eq]; omega
    have hr : pathB s = false := by unfold pathB; rw [decide_eq_false (by omega : ¬ s.length ≤ 40), Bool.and_false, Bool.false_and]
    rw [hr]
    clear hr h0 h4
    go_enter Tryd.func77, Tryd.ntmps77
    go_wp2_with fail
    go_ret
    exact ⟨rfl, rfl⟩
  have d1 : decide ((40 : Int) < (s.length : Int)) = false := by rw [decide_eq_false_iff_not]; omega
  have hr : pathB s = pathFrom true s := by unfold pathB; rw [decide_eq_true (by omega : 1 ≤ s.length), decide_eq_true (by omega : s.length ≤ 40), Bool.true_and, Bool.true_and]
  rw [hr]
  have HSZ := Lib.hid hsz
  clear hr
  go_enter Tryd.func77, Tryd.ntmps77
  go_wp2_with fail
  obtain ⟨S, hS⟩ : ∃ S : ByteArray, S = ⟨s.toArray⟩ := ⟨_, rfl⟩
  have HS := Lib.hid hS
  rw [← hS] at HSZ ⊢
  have hsS : S.size = s.length := HSZ.out
  clear hS hsz d0 d1
  go_loopw [3] (fun s3 wr => ∃ (k : Nat) (b : Bool), s3 = .int .i64 k ∧ Hid (k ≤ s.length ∧ pathFrom true s = pathFrom b (s.drop k) ∧ (k = 0 → b = true) ∧ (∀ c, 0 < k → s[k - 1]? = some c → b = (c.toNat == 47)) ∧ (k = s.length → b = false)) ∧ wr = w) (fun s3 _ => s.length - (intOf s3).toNat)
  case atStart => exact ⟨0, true, rfl, Lib.hid ⟨Nat.zero_le _, rfl, fun _ => rfl, fun _ h => absurd h (Nat.lt_irrefl _), fun h => by omega⟩, rfl⟩
  case round =>
    obtain ⟨k, b, rfl, HH, rfl⟩ := hrel
    by_cases hlt : k < s.length
    · have hk : s[k]? = some s[k] := List.getElem?_eq_getElem hlt
      have hst := pathFrom_step (b := b) hk
      obtain ⟨hk2, hc⟩ : ∃ hk : k < S.size, S[k]'hk = s[k] := by rw [HS.out]; exact str_at hk
      have hlo := HH.out.2.1
      rw [hst] at hlo
      have hd : decide ((k : Int) < (s.length : Int)) = true := by rw [decide_eq_true_eq]; omega
      obtain ⟨N, hN⟩ : ∃ N : Nat, (s[k]).toNat = N := ⟨_, rfl⟩
      have hcN : (S[k]'hk2).toNat = N := by rw [hc]; exact hN
      rw [hN] at hlo
      have hprev : ∀ k0, k = k0 + 1 → ∃ hk0 : k0 < S.size, (b = ((S[k0]'hk0).toNat == 47)) := by
        intro k0 e
        have hk0 : k0 < s.length := by omega
        obtain ⟨hk3, hc3⟩ : ∃ hk : k0 < S.size, S[k0]'hk = s[k0] := by rw [HS.out]; exact str_at (List.getElem?_eq_getElem hk0)
        refine ⟨hk3, ?_⟩
        rw [hc3]
        exact HH.out.2.2.2.1 _ (by omega) (by rw [show k - 1 = k0 by omega]; exact List.getElem?_eq_getElem hk0)
      have HNX : Hid (∀ c, 0 < k + 1 → s[k + 1 - 1]? = some c → (N == 47) = (c.toNat == 47)) := by
        intro c _ h
        rw [Nat.add_sub_cancel, hk] at h
        rw [← hN, Option.some.inj h]
      have HLO := Lib.hid hlo
      have HB0 := Lib.hid HH.out.2.2.1
      have HPV := Lib.hid hprev
      clear hst hlo hk hc hN hprev
      by_cases h47 : N = 47
      · have e1 : ((N : Int) == 47) = true := by rw [beq_iff_eq]; omega
        have HN47 := Lib.hid h47
        clear h47
        by_cases hk0 : k = 0
        · have hres : pathFrom true s = false := by rw [HLO.out, HN47.out, HB0.out hk0]; rfl
          have HRES := Lib.hid hres
          have e2 : ((k : Int) == 0) = true := by rw [beq_iff_eq]; omega
          clear hres hk0
          go_wp2_with fail
          go_ret
          exact ⟨by rw [HRES.out]; rfl, rfl⟩
        have e2 : ((k : Int) == 0) = false := by rw [beq_eq_false_iff_ne]; omega
        have hw : IntKind.i64.wrap ((s.length : Int) - 1) = ((s.length - 1 : Nat) : Int) := by
          rw [IntKind.wrap_i64]; omega
        by_cases hke : k = s.length - 1
        · have hres : pathFrom true s = false := by
            rw [HLO.out, HN47.out, pathFrom_end (by omega)]
            simp
          have HRES := Lib.hid hres
          have e3 : ((k : Int) == ((s.length - 1 : Nat) : Int)) = true := by rw [beq_iff_eq]; omega
          clear hres hke hk0
          go_wp2_with fail
          go_ret
          exact ⟨by rw [HRES.out]; rfl, rfl⟩
        have e3 : ((k : Int) == ((s.length - 1 : Nat) : Int)) = false := by rw [beq_eq_false_iff_ne]; omega
        obtain ⟨k0, hkk⟩ : ∃ k0 : Nat, k = k0 + 1 := ⟨k - 1, by omega⟩
        obtain ⟨hk3, hpb⟩ := HPV.out k0 hkk
        obtain ⟨M, hM⟩ : ∃ M : Nat, (S[k0]'hk3).toNat = M := ⟨_, rfl⟩
        rw [hM] at hpb
        have hwk : IntKind.i64.wrap ((k : Int) - 1) = (k0 : Int) := by
          rw [IntKind.wrap_i64]; omega
        have HKK := Lib.hid hkk
        have HKE := Lib.hid hke
        clear hkk hke hk0
        by_cases hm : M = 47
        · have e4 : ((M : Int) == 47) = true := by rw [beq_iff_eq]; omega
          have hres : pathFrom true s = false := by
            rw [HLO.out, HN47.out, hpb, hm]; rfl
          have HRES := Lib.hid hres
          clear hres hpb hm
          go_wp2_with fail
          go_ret
          exact ⟨by rw [HRES.out]; rfl, rfl⟩
        have e4 : ((M : Int) == 47) = false := by rw [beq_eq_false_iff_ne]; omega
        have HNEXT : Hid (pathFrom true s = pathFrom (N == 47) (s.drop (k + 1))) := by
          have hb' : b = false := by rw [hpb, beq_eq_false_iff_ne]; exact hm
          show _ = _
          rw [HLO.out, hb', HN47.out]; rfl
        have HLAST : Hid (k + 1 = s.length → (N == 47) = false) := fun h => absurd (show k = s.length - 1 by omega) HKE.out
        clear hpb hm
        go_wp2_with fail
        go_roundw
        case rel => exact ⟨k + 1, N == 47, by first | rfl | (simp; done), Lib.hid ⟨by omega, HNEXT.out, fun h => by omega, HNX.out, HLAST.out⟩, by first | rfl | trivial⟩
        case measure => first | omega | (simp only [intOf]; omega)
      have e1 : ((N : Int) == 47) = false := by rw [beq_eq_false_iff_ne]; omega
      have h47' : (N == 47) = false := by rw [beq_eq_false_iff_ne]; exact h47
      have HN47 := Lib.hid h47'
      have HLAST : Hid (k + 1 = s.length → (N == 47) = false) := fun _ => h47'
      have hlo2 : pathFrom true s = (okC N && pathFrom (N == 47) (s.drop (k + 1))) := by rw [HLO.out, h47', Bool.false_and, Bool.not_false, Bool.and_true]
      clear h47'
      by_cases ha : 97 ≤ N ∧ N ≤ 122
      · have ho : okC N = true := by unfold okC; simp [ha.1, ha.2]
        have q0 : (decide ((N : Int) < 97)) = false := by rw [decide_eq_false_iff_not]; omega
        have q1 : (decide ((122 : Int) < N)) = false := by rw [decide_eq_false_iff_not]; omega
        have HNEXT : Hid (pathFrom true s = pathFrom (N == 47) (s.drop (k + 1))) := by show _ = _; rw [hlo2, ho, Bool.true_and]
        clear ho hlo2 ha h47
        go_wp2_with fail
        go_roundw
        case rel => exact ⟨k + 1, N == 47, by first | rfl | (simp; done), Lib.hid ⟨by omega, HNEXT.out, fun h => by omega, HNX.out, HLAST.out⟩, by first | rfl | trivial⟩
        case measure => first | omega | (simp only [intOf]; omega)
      by_cases hb : 48 ≤ N ∧ N ≤ 57
      · have ho : okC N = true := by unfold okC; simp [hb.1, hb.2]
        have q0 : (decide ((N : Int) < 97)) = true := by rw [decide_eq_true_eq]; omega
        have q1 : (decide ((N : Int) < 48)) = false := by rw [decide_eq_false_iff_not]; omega
        have q2 : (decide ((57 : Int) < N)) = false := by rw [decide_eq_false_iff_not]; omega
        have HNEXT : Hid (pathFrom true s = pathFrom (N == 47) (s.drop (k + 1))) := by show _ = _; rw [hlo2, ho, Bool.true_and]
        clear ho hlo2 hb h47
        go_wp2_with fail
        go_roundw
        case rel => exact ⟨k + 1, N == 47, by first | rfl | (simp; done), Lib.hid ⟨by omega, HNEXT.out, fun h => by omega, HNX.out, HLAST.out⟩, by first | rfl | trivial⟩
        case measure => first | omega | (simp only [intOf]; omega)
      by_cases h46 : N = 46
      · have ho : okC N = true := by rw [h46]; rfl
        have q0 : decide ((N : Int) < 97) = true := by rw [decide_eq_true_eq]; omega
        have q1 : decide ((N : Int) < 48) = true := by rw [decide_eq_true_eq]; omega
        have q46 : ((N : Int) != 46) = false := by rw [bne_eq_false_iff_eq]; omega
        have q95 : ((N : Int) != 95) = true := by rw [bne_iff_ne]; omega
        have q45 : ((N : Int) != 45) = true := by rw [bne_iff_ne]; omega
        have HNEXT : Hid (pathFrom true s = pathFrom (N == 47) (s.drop (k + 1))) := by show _ = _; rw [hlo2, ho, Bool.true_and]
        clear ho hlo2 h47 ha hb h46
        go_wp2_with fail
        go_roundw
        case rel => exact ⟨k + 1, N == 47, by first | rfl | (simp; done), Lib.hid ⟨by omega, HNEXT.out, fun h => by omega, HNX.out, HLAST.out⟩, by first | rfl | trivial⟩
        case measure => first | omega | (simp only [intOf]; omega)
      by_cases h45 : N = 45
      · have ho : okC N = true := by rw [h45]; rfl
        have q0 : decide ((N : Int) < 97) = true := by rw [decide_eq_true_eq]; omega
        have q1 : decide ((N : Int) < 48) = true := by rw [decide_eq_true_eq]; omega
        have q46 : ((N : Int) != 46) = true := by rw [bne_iff_ne]; omega
        have q95 : ((N : Int) != 95) = true := by rw [bne_iff_ne]; omega
        have q45 : ((N : Int) != 45) = false := by rw [bne_eq_false_iff_eq]; omega
        have HNEXT : Hid (pathFrom true s = pathFrom (N == 47) (s.drop (k + 1))) := by show _ = _; rw [hlo2, ho, Bool.true_and]
        clear ho hlo2 h47 ha hb h45
        go_wp2_with fail
        go_roundw
        case rel => exact ⟨k + 1, N == 47, by first | rfl | (simp; done), Lib.hid ⟨by omega, HNEXT.out, fun h => by omega, HNX.out, HLAST.out⟩, by first | rfl | trivial⟩
        case measure => first | omega | (simp only [intOf]; omega)
      by_cases h95 : N = 95
      · have ho : okC N = true := by rw [h95]; rfl
        have q0 : decide ((N : Int) < 97) = true := by rw [decide_eq_true_eq]; omega
        have q1 : decide ((N : Int) < 48) = false := by rw [decide_eq_false_iff_not]; omega
        have q2 : decide ((57 : Int) < N) = true := by rw [decide_eq_true_eq]; omega
        have q46 : ((N : Int) != 46) = true := by rw [bne_iff_ne]; omega
        have q95 : ((N : Int) != 95) = false := by rw [bne_eq_false_iff_eq]; omega
        have q45 : ((N : Int) != 45) = true := by rw [bne_iff_ne]; omega
        have HNEXT : Hid (pathFrom true s = pathFrom (N == 47) (s.drop (k + 1))) := by show _ = _; rw [hlo2, ho, Bool.true_and]
        clear ho hlo2 h47 ha hb h95
        go_wp2_with fail
        go_roundw
        case rel => exact ⟨k + 1, N == 47, by first | rfl | (simp; done), Lib.hid ⟨by omega, HNEXT.out, fun h => by omega, HNX.out, HLAST.out⟩, by first | rfl | trivial⟩
        case measure => first | omega | (simp only [intOf]; omega)
      have ho : okC N = false := by
        unfold okC
        simp only [Bool.or_eq_false_iff, Bool.and_eq_false_iff, decide_eq_false_iff_not, beq_eq_false_iff_ne]
        omega
      have hres : pathFrom true s = false := by rw [hlo2, ho, Bool.false_and]
      have HRES := Lib.hid hres
      have q46 : ((N : Int) != 46) = true := by rw [bne_iff_ne]; omega
      have q95 : ((N : Int) != 95) = true := by rw [bne_iff_ne]; omega
      have q45 : ((N : Int) != 45) = true := by rw [bne_iff_ne]; omega
      rcases (show N < 48 ∨ (58 ≤ N ∧ N < 97) ∨ 123 ≤ N by omega) with h | h | h
      · have q0 : (decide ((N : Int) < 97)) = true := by rw [decide_eq_true_eq]; omega
        have q1 : (decide ((N : Int) < 48)) = true := by rw [decide_eq_true_eq]; omega
        clear ho hres hlo2 h h47 ha hb h46 h45 h95
        go_wp2_with fail
        go_ret
        exact ⟨by rw [HRES.out]; rfl, rfl⟩
      · have q0 : (decide ((N : Int) < 97)) = true := by rw [decide_eq_true_eq]; omega
        have q1 : (decide ((N : Int) < 48)) = false := by rw [decide_eq_false_iff_not]; omega
        have q2 : (decide ((57 : Int) < N)) = true := by rw [decide_eq_true_eq]; omega
        clear ho hres hlo2 h h47 ha hb h46 h45 h95
        go_wp2_with fail
        go_ret
        exact ⟨by rw [HRES.out]; rfl, rfl⟩
      · have q0 : (decide ((N : Int) < 97)) = false := by rw [decide_eq_false_iff_not]; omega
        have q1 : (decide ((122 : Int) < N)) = true := by rw [decide_eq_true_eq]; omega
        have q2 : (decide ((N : Int) < 48)) = false := by rw [decide_eq_false_iff_not]; omega
        have q3 : (decide ((57 : Int) < N)) = true := by rw [decide_eq_true_eq]; omega
        clear ho hres hlo2 h h47 ha hb h46 h45 h95
        go_wp2_with fail
        go_ret
        exact ⟨by rw [HRES.out]; rfl, rfl⟩
    · have hd : decide (k < s.length) = false := by rw [decide_eq_false_iff_not]; omega
      have hke : k = s.length := by have := HH.out.1; omega
      have hres : pathFrom true s = true := by
        rw [HH.out.2.1, pathFrom_end (by omega), HH.out.2.2.2.2 hke]; rfl
      have HRES := Lib.hid hres
      clear hres hke hlt
      go_wp2_with fail
      go_ret
      exact ⟨by rw [HRES.out]; rfl, rfl⟩

end Go.Proofs.YtbadkkilblgpmaaDoor
