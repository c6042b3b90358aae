/-
  Package sha: take, whatever has been taken in, and whatever comes.
-/
import Derived.Test.YtglfakglcoffkaaDoorD5
namespace Go.Proofs.YtglfakglcoffkaaDoor
open Go.RowKit

theorem hashX_hashB (m x : List UInt8) (q : Nat) (hq : m.length = 64 * q) : ∀ j, 64 * j ≤ x.length → hashX (hashB m q) x j = hashB (m ++ x) (q + j)
  | 0, _ => (hashB_append m x q (by omega)).symm
  | j + 1, h => by
    have h1 : m.drop (64 * (q + j)) = [] := List.drop_eq_nil_of_le (by omega)
    rw [hashX, hashX_hashB m x q hq j (by omega), ← Nat.add_assoc, hashB, List.drop_append, h1, List.nil_append, show 64 * (q + j) - m.length = 64 * j by omega]

theorem take_append_len (l r : List Value) (k n : Nat) (h : l.length = n) (hk : k = n) : (l ++ r).take k = l := by
  subst hk; subst h; simp

theorem take_any (b : Nat) (m x : List UInt8) (A : Option Addr) (c : Nat) (w : World) (hH : HsAt w b m) (ht : m.length + x.length < 18446744073709551616) (hA : Src w b A x) (hc : x.length ≤ c) (hT : Tabs w) (hb2 : 3 ≤ b) :
    Calls Tryd.prog 54 #[.pointer (some ⟨b, 0, none⟩), .slice A x.length c] w fun e w' => e = .returned (.tuple #[]) ∧ HsAt w' b (m ++ x) ∧ Chg (some b) w w' := by
  obtain ⟨rest, hr, hone, hrest, hb⟩ := hH.cells
  have h8 := hashB_len m (m.length / 64)
  have hxl : (m ++ x).length = m.length + x.length := List.length_append
  by_cases h0 : m.length % 64 = 0
  · rw [h0] at hb
    refine (take_al b _ rest m.length A x c w h8 hr hb ht hA hc hT hb2).mono fun e w' ⟨he, hb', g⟩ => ⟨he, ⟨byteVals (x.drop (64 * (x.length / 64))) ++ rest.drop (x.length - 64 * (x.length / 64)), ?_, ?_, ?_, ?_⟩, g⟩
    · rw [List.length_append, List.length_drop, byteVals_len, List.length_drop]; omega
    · intro v hv
      rcases List.mem_append.1 hv with h | h
      · exact byteVals_one _ v h
      · exact hone v (List.mem_of_mem_drop h)
    · rw [take_append_len _ _ _ (x.length - 64 * (x.length / 64)) (by rw [byteVals_len, List.length_drop]) (by omega)]
      congr 1
      have hnil : m.drop (64 * ((m ++ x).length / 64)) = [] := List.drop_eq_nil_of_le (by omega)
      rw [List.drop_append, hnil, List.nil_append]
      congr 1
      omega
    · rw [show (m ++ x).length / 64 = m.length / 64 + x.length / 64 by omega, ← hashX_hashB m x _ (by omega) _ (by omega), show (m ++ x).length % 64 = x.length - 64 * (x.length / 64) by omega, hxl]
      rw [Int.natCast_add]
      exact hb'
  · by_cases hs : m.length % 64 + x.length < 64
    · obtain ⟨s1, s2, s3, s4⟩ := small_step m x hs
      have htl := tail_len m
      refine (take_short b _ rest (m.length % 64) m.length A x c w (by rw [List.length_map]; exact h8) hr hb ht hA hc (by omega) hs).mono fun e w' ⟨he, hb', g⟩ => ⟨he, ⟨rest.take (m.length % 64) ++ (byteVals x ++ rest.drop (m.length % 64 + x.length)), ?_, ?_, ?_, ?_⟩, g⟩
      · rw [List.length_append, List.length_append, List.length_take, List.length_drop, byteVals_len]; omega
      · intro v hv
        rcases List.mem_append.1 hv with h | h
        · exact hone v (List.mem_of_mem_take h)
        · rcases List.mem_append.1 h with h | h
          · exact byteVals_one _ v h
          · exact hone v (List.mem_of_mem_drop h)
      · rw [s1, s2, s3, hrest, ← List.append_assoc, byteVals_append]
        exact take_append_len _ _ _ _ (by rw [byteVals_len, List.length_append, htl]) rfl
      · rw [s1, s2, s4, hxl, Int.natCast_add, Int.natCast_add]
        exact hb'
    · have htl := tail_len m
      have hfs := fill_step m (x.take (64 - m.length % 64)) (by rw [List.length_take]; omega)
      have hml : (m ++ x.take (64 - m.length % 64)).length = 64 * (m.length / 64 + 1) := by rw [List.length_append, List.length_take]; omega
      have hdl : (x.drop (64 - m.length % 64)).length = x.length - (64 - m.length % 64) := List.length_drop
      have hmx : m ++ x = (m ++ x.take (64 - m.length % 64)) ++ x.drop (64 - m.length % 64) := by rw [List.append_assoc, List.take_append_drop]
      refine (take_fill b _ rest (m.drop (64 * (m.length / 64))) (m.length % 64) (64 - m.length % 64) m.length A x c w h8 hr hrest htl (by omega) (by omega) (by omega) (by omega) hb ht hA hc hT hb2).mono
        fun e w' ⟨he, hb', g⟩ => ⟨he, ⟨byteVals ((x.drop (64 - m.length % 64)).drop (64 * ((x.length - (64 - m.length % 64)) / 64))) ++
          (byteVals (m.drop (64 * (m.length / 64)) ++ x.take (64 - m.length % 64))).drop (x.length - (64 - m.length % 64) - 64 * ((x.length - (64 - m.length % 64)) / 64)), ?_, ?_, ?_, ?_⟩, g⟩
      · rw [List.length_append, List.length_drop, byteVals_len, byteVals_len, List.length_append, List.length_drop, hdl, htl, List.length_take]; omega
      · intro v hv
        rcases List.mem_append.1 hv with h | h
        · exact byteVals_one _ v h
        · exact byteVals_one _ v (List.mem_of_mem_drop h)
      · rw [take_append_len _ _ _ (x.length - (64 - m.length % 64) - 64 * ((x.length - (64 - m.length % 64)) / 64)) (by rw [byteVals_len, List.length_drop, hdl]) (by omega)]
        have hl : 64 * ((m ++ x).length / 64) = 64 * (m.length / 64 + 1) + 64 * ((x.length - (64 - m.length % 64)) / 64) := by rw [hxl]; omega
        have hnil : (m ++ x.take (64 - m.length % 64)).drop (64 * (m.length / 64 + 1) + 64 * ((x.length - (64 - m.length % 64)) / 64)) = [] := List.drop_eq_nil_of_le (by rw [hml]; omega)
        rw [hl, hmx, List.drop_append, hnil, List.nil_append, hml, Nat.add_sub_cancel_left]
      · rw [show (m ++ x).length / 64 = (m.length / 64 + 1) + (x.length - (64 - m.length % 64)) / 64 by omega, hmx, ← hashX_hashB _ (x.drop (64 - m.length % 64)) _ hml _ (by omega), hfs.2.2,
          ← hmx, show (m ++ x).length % 64 = x.length - (64 - m.length % 64) - 64 * ((x.length - (64 - m.length % 64)) / 64) by omega, hxl, Int.natCast_add]
        exact hb'

end Go.Proofs.YtglfakglcoffkaaDoor
