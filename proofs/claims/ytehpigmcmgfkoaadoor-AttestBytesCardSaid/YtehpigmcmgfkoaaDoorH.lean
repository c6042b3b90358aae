/-
  Package hmac: two tags held against one another; the key; a key turned.
-/
import Derived.Test.YtehpigmcmgfkoaaDoorV
import Derived.Laws.BitsAllLaws
import Derived.Laws.BitsLemmas
import Derived.BigRegion
namespace Go.Proofs.YtehpigmcmgfkoaaDoor
open Go.RowKit

theorem ofInt_u8 (x : UInt8) : (BitVec.ofInt 8 (x.toNat : Int)).toNat = x.toNat := by
  rw [BitVec.ofInt_natCast, BitVec.toNat_ofNat]; exact Nat.mod_eq_of_lt x.toNat_lt
theorem u8_xor (x y : UInt8) : bits .xor .u8 (x.toNat : Int) (y.toNat : Int) = ((x ^^^ y).toNat : Int) := by
  have hx : x.toNat ^^^ y.toNat < 2 ^ 8 := Nat.xor_lt_two_pow x.toNat_lt y.toNat_lt
  show IntKind.u8.wrap ((BitVec.ofInt 8 (x.toNat : Int) ^^^ BitVec.ofInt 8 (y.toNat : Int)).toNat : Int) = _
  rw [BitVec.toNat_xor, ofInt_u8, ofInt_u8, UInt8.toNat_xor]
  simp [IntKind.wrap, IntKind.bits, IntKind.signed]
  omega
theorem u8_or (x y : UInt8) : bits .or .u8 (x.toNat : Int) (y.toNat : Int) = ((x ||| y).toNat : Int) := by
  have hx : x.toNat ||| y.toNat < 2 ^ 8 := Nat.or_lt_two_pow x.toNat_lt y.toNat_lt
  show IntKind.u8.wrap ((BitVec.ofInt 8 (x.toNat : Int) ||| BitVec.ofInt 8 (y.toNat : Int)).toNat : Int) = _
  rw [BitVec.toNat_or, ofInt_u8, ofInt_u8, UInt8.toNat_or]
  simp [IntKind.wrap, IntKind.bits, IntKind.signed]
  omega

/-- What is unlike of the first k bytes. -/
def unlike (a b : List UInt8) : Nat → UInt8
  | 0 => 0
  | k + 1 => unlike a b k ||| (a.getD k 0 ^^^ b.getD k 0)
theorem or_zero {x y : UInt8} : x ||| y = 0 ↔ x = 0 ∧ y = 0 := by
  constructor
  · intro h
    have := congrArg UInt8.toNat h
    rw [UInt8.toNat_or] at this
    have h0 : (0 : UInt8).toNat = 0 := rfl
    rw [h0] at this
    have h1 := (Nat.or_eq_zero_iff.1 this)
    exact ⟨UInt8.toNat_inj.1 (by rw [h1.1]; rfl), UInt8.toNat_inj.1 (by rw [h1.2]; rfl)⟩
  · rintro ⟨rfl, rfl⟩; rfl
theorem xor_zero {x y : UInt8} : x ^^^ y = 0 ↔ x = y := by
  constructor
  · intro h
    have h1 : (x ^^^ y) ^^^ y = x := by rw [UInt8.xor_assoc, UInt8.xor_self, UInt8.xor_zero]
    rw [h, UInt8.zero_xor] at h1
    exact h1.symm
  · rintro rfl; simp
theorem unlike_zero (a b : List UInt8) : ∀ k, unlike a b k = 0 ↔ ∀ i, i < k → a.getD i 0 = b.getD i 0
  | 0 => by simp [unlike]
  | k + 1 => by
    rw [unlike, or_zero, xor_zero, unlike_zero a b k]
    constructor
    · rintro ⟨h1, h2⟩ i hi
      by_cases h : i = k
      · rw [h]; exact h2
      · exact h1 i (by omega)
    · intro h
      exact ⟨fun i hi => h i (by omega), h k (by omega)⟩
theorem unlike_eq (a b : List UInt8) (ha : a.length = 32) (hb : b.length = 32) : (((unlike a b 32).toNat : Int) == 0) = (a == b) := by
  rw [Bool.eq_iff_iff, beq_iff_eq, beq_iff_eq]
  have h0 : ((unlike a b 32).toNat : Int) = 0 ↔ unlike a b 32 = 0 := by
    constructor
    · intro h; exact UInt8.toNat_inj.1 (by have h1 : (0 : UInt8).toNat = 0 := rfl; rw [h1]; omega)
    · intro h; rw [h]; rfl
  rw [h0, unlike_zero]
  constructor
  · intro h
    apply List.ext_getElem (by omega)
    intro i h1 h2
    have := h i (by omega)
    rw [List.getD_eq_getElem?_getD, List.getD_eq_getElem?_getD, List.getElem?_eq_getElem h1, List.getElem?_eq_getElem h2] at this
    simpa using this
  · rintro rfl i _; rfl

theorem byte_at {a : List UInt8} {i : Nat} (h : i < a.length) : (byteVals a)[i]? = some (.int .u8 (a.getD i 0).toNat) :=
  byteVals_get (by rw [List.getElem?_eq_getElem h, List.getD_eq_getElem?_getD, List.getElem?_eq_getElem h]; rfl)

set_option maxRecDepth 100000 in
set_option maxHeartbeats 4000000 in
theorem same_any (a b : List UInt8) (ha : a.length = 32) (hb : b.length = 32) (w : World) :
    Calls Tryd.prog 23 #[.agg (byteVals a).toArray, .agg (byteVals b).toArray] w fun e w' => e = .returned (.bool (a == b)) ∧ Chg none w w' := by
  obtain ⟨W2, hW2⟩ : ∃ W2, W2 = (w.alloc (.cells (byteVals a).toArray 30)).alloc (.cells (byteVals b).toArray 30) := ⟨_, rfl⟩
  have g2 : Chg none w W2 := by rw [hW2]; exact ((Chg.refl _ _).alloc _).alloc _
  have bA : BlkL W2 w.heap.size (byteVals a) 30 := by rw [hW2]; exact Blk.alloc (Blk.new _ _ _) _
  have bB : BlkL W2 (w.heap.size + 1) (byteVals b) 30 := by
    rw [hW2]
    have h := Blk.new (w.alloc (.cells (byteVals a).toArray 30)) (byteVals b).toArray 30
    rw [show (w.alloc (.cells (byteVals a).toArray 30)).heap.size = w.heap.size + 1 by simp] at h
    exact h
  have HW := Lib.hid hW2
  clear hW2
  obtain ⟨CA, hCA⟩ : ∃ CA, CA = (byteVals a).toArray := ⟨_, rfl⟩
  obtain ⟨CB, hCB⟩ : ∃ CB, CB = (byteVals b).toArray := ⟨_, rfl⟩
  rw [← hCA, ← hCB]
  rw [← hCA, ← hCB] at HW
  clear hCA hCB
  go_enter Tryd.func23, Tryd.ntmps23
  go_wp2_with fail
  rw [← HW.out]
  generalize w.heap.size + 1 = pB at *
  generalize w.heap.size = pA at *
  go_loopw [5, 7] (fun s5 s7 wr => ∃ k : Nat, k ≤ 32 ∧ s7 = .int .i64 k ∧ s5 = .int .u8 (unlike a b k).toNat ∧ BlkL wr pA (byteVals a) 30 ∧ BlkL wr pB (byteVals b) 30 ∧ Chg none w wr) (fun _ s7 _ => 32 - (intOf s7).toNat)
  case atStart => exact ⟨0, by omega, rfl, rfl, bA, bB, g2⟩
  case round =>
    obtain ⟨k, hk, rfl, rfl, bAk, bBk, gk⟩ := hrel
    clear bA bB g2
    by_cases hlt : k < 32
    · have cA := (BlkL.cell bAk k).trans (byte_at (by omega))
      have cB := (BlkL.cell bBk k).trans (byte_at (by omega))
      have hun : bits .or .u8 ((unlike a b k).toNat : Int) (bits .xor .u8 ((a.getD k 0).toNat : Int) ((b.getD k 0).toNat : Int)) = ((unlike a b (k + 1)).toNat : Int) := by
        rw [u8_xor, u8_or]; rfl
      generalize a.getD k 0 = xa at *
      generalize b.getD k 0 = xb at *
      go_wp2_with fail
      go_region
      all_goals
        go_wp2_with fail
        go_roundw
        case rel => exact ⟨k + 1, by omega, by go_num, by first | rfl | (rw [hun]), bAk.drew, bBk.drew, gk.drew⟩
        case measure => first | (simp [intOf]; done) | (simp [intOf]; omega)
    · obtain rfl : k = 32 := by omega
      have hd8 : decide (((32 : Nat) : Int) < 32) = false := by decide
      have hue := unlike_eq a b ha hb
      go_wp2_with fail
      go_ret
      exact ⟨by rw [← hue]; rfl, gk⟩

/-- The key of a secret. -/
def keyB (s : List UInt8) : List UInt8 := if 64 < s.length then dig s ++ List.replicate 32 0 else s ++ List.replicate (64 - s.length) 0
theorem keyB_len (s : List UInt8) : (keyB s).length = 64 := by
  unfold keyB
  split
  · rw [List.length_append, dig_len, List.length_replicate]
  · rw [List.length_append, List.length_replicate]; omega
def turnB (k : List UInt8) (x : UInt8) : List UInt8 := k.map (· ^^^ x)
theorem turnB_len (k : List UInt8) (x : UInt8) : (turnB k x).length = k.length := by simp [turnB]
/-- The tag of the secret s and of the bytes m. -/
def tagB (s m : List UInt8) : List UInt8 := dig (turnB (keyB s) 92 ++ dig (turnB (keyB s) 54 ++ m))
theorem tagB_len (s m : List UInt8) : (tagB s m).length = 32 := dig_len _

/-- A key of which the first j bytes are turned. -/
def turnedTo (k : List UInt8) (x : UInt8) (j : Nat) : List UInt8 := turnB (k.take j) x ++ k.drop j
theorem turnedTo_len (k : List UInt8) (x : UInt8) (j : Nat) : (turnedTo k x j).length = k.length := by
  rw [turnedTo, List.length_append, turnB_len, List.length_take, List.length_drop]; omega
theorem turnedTo_at (k : List UInt8) (x : UInt8) (j : Nat) (h : j < k.length) : (turnedTo k x j)[j]? = some (k.getD j 0) := by
  have hl : (turnB (k.take j) x).length = j := by rw [turnB_len, List.length_take]; omega
  rw [turnedTo, List.getElem?_append_right (by omega), hl, Nat.sub_self, List.getElem?_drop, Nat.add_zero, List.getElem?_eq_getElem h, List.getD_eq_getElem?_getD, List.getElem?_eq_getElem h]
  rfl
theorem turnedTo_set (k : List UInt8) (x : UInt8) (j : Nat) (h : j < k.length) : (turnedTo k x j).set j (k.getD j 0 ^^^ x) = turnedTo k x (j + 1) := by
  have hl : (turnB (k.take j) x).length = j := by rw [turnB_len, List.length_take]; omega
  have hd : k.getD j 0 = k[j] := by rw [List.getD_eq_getElem?_getD, List.getElem?_eq_getElem h]; rfl
  have ht : turnB (k.take (j + 1)) x = turnB (k.take j) x ++ [k[j] ^^^ x] := by
    unfold turnB
    rw [List.take_succ_eq_append_getElem h, List.map_append]
    rfl
  rw [turnedTo, List.set_append_right _ _ (by omega), hl, Nat.sub_self, List.drop_eq_getElem_cons h, List.set_cons_zero, hd, turnedTo, ht, List.append_assoc]
  rfl
theorem byteVals_set (bs : List UInt8) (j : Nat) (y : UInt8) : (byteVals bs).set j (.int .u8 y.toNat) = byteVals (bs.set j y) := by simp [byteVals, List.map_set]

def zero64 : Array Value := #[Value.int IntKind.u8 0, Value.int IntKind.u8 0, Value.int IntKind.u8 0, Value.int IntKind.u8 0, Value.int IntKind.u8 0, Value.int IntKind.u8 0, Value.int IntKind.u8 0, Value.int IntKind.u8 0, Value.int IntKind.u8 0, Value.int IntKind.u8 0, Value.int IntKind.u8 0, Value.int IntKind.u8 0, Value.int IntKind.u8 0, Value.int IntKind.u8 0, Value.int IntKind.u8 0, Value.int IntKind.u8 0, Value.int IntKind.u8 0, Value.int IntKind.u8 0, Value.int IntKind.u8 0, Value.int IntKind.u8 0, Value.int IntKind.u8 0, Value.int IntKind.u8 0, Value.int IntKind.u8 0, Value.int IntKind.u8 0, Value.int IntKind.u8 0, Value.int IntKind.u8 0, Value.int IntKind.u8 0, Value.int IntKind.u8 0, Value.int IntKind.u8 0, Value.int IntKind.u8 0, Value.int IntKind.u8 0, Value.int IntKind.u8 0, Value.int IntKind.u8 0, Value.int IntKind.u8 0, Value.int IntKind.u8 0, Value.int IntKind.u8 0, Value.int IntKind.u8 0, Value.int IntKind.u8 0, Value.int IntKind.u8 0, Value.int IntKind.u8 0, Value.int IntKind.u8 0, Value.int IntKind.u8 0, Value.int IntKind.u8 0, Value.int IntKind.u8 0, Value.int IntKind.u8 0, Value.int IntKind.u8 0, Value.int IntKind.u8 0, Value.int IntKind.u8 0, Value.int IntKind.u8 0, Value.int IntKind.u8 0, Value.int IntKind.u8 0, Value.int IntKind.u8 0, Value.int IntKind.u8 0, Value.int IntKind.u8 0, Value.int IntKind.u8 0, Value.int IntKind.u8 0, Value.int IntKind.u8 0, Value.int IntKind.u8 0, Value.int IntKind.u8 0, Value.int IntKind.u8 0, Value.int IntKind.u8 0, Value.int IntKind.u8 0, Value.int IntKind.u8 0, Value.int IntKind.u8 0]
theorem row_facts (bs : List UInt8) (n : Nat) (h : bs.length = n) : (byteVals bs).toArray.size = n ∧ (byteVals bs).toArray.all (·.oneCell') = true :=
  ⟨by rw [List.size_toArray, byteVals_len, h], Array.all_eq_true_iff_forall_mem.2 (fun v hv => byteVals_one _ v (by simpa using hv))⟩

set_option maxRecDepth 100000 in
set_option maxHeartbeats 4000000 in
theorem turned_any (k : List UInt8) (x : UInt8) (hk : k.length = 64) (w : World) :
    Calls Tryd.prog 43 #[.agg (byteVals k).toArray, .int .u8 x.toNat] w fun e w' => e = .returned (.agg (byteVals (turnB k x)).toArray) ∧ Chg none w w' := by
  obtain ⟨W2, hW2⟩ : ∃ W2, W2 = (w.alloc (.cells (byteVals k).toArray 67)).alloc (.cells zero64 67) := ⟨_, rfl⟩
  have g2 : Chg none w W2 := by rw [hW2]; exact ((Chg.refl _ _).alloc _).alloc _
  have bA : BlkL W2 w.heap.size (byteVals (turnedTo k x 0)) 67 := by rw [hW2]; exact Blk.alloc (Blk.new _ _ _) _
  have bB : Blk W2 (w.heap.size + 1) zero64 67 := by
    rw [hW2]
    have h := Blk.new (w.alloc (.cells (byteVals k).toArray 67)) zero64 67
    rw [show (w.alloc (.cells (byteVals k).toArray 67)).heap.size = w.heap.size + 1 by simp] at h
    exact h
  have hne : w.heap.size + 1 ≠ w.heap.size := by omega
  have hge : w.heap.size ≤ w.heap.size + 1 := by omega
  have hge0 : w.heap.size ≤ w.heap.size := by omega
  obtain ⟨CK, hCK⟩ : ∃ CK, CK = (byteVals k).toArray := ⟨_, rfl⟩
  rw [← hCK]
  rw [← hCK] at hW2
  have HW : Hid ((w.alloc (.cells CK 67)).alloc (.cells #[Value.int IntKind.u8 0, Value.int IntKind.u8 0, Value.int IntKind.u8 0, Value.int IntKind.u8 0, Value.int IntKind.u8 0, Value.int IntKind.u8 0, Value.int IntKind.u8 0, Value.int IntKind.u8 0, Value.int IntKind.u8 0, Value.int IntKind.u8 0, Value.int IntKind.u8 0, Value.int IntKind.u8 0, Value.int IntKind.u8 0, Value.int IntKind.u8 0, Value.int IntKind.u8 0, Value.int IntKind.u8 0, Value.int IntKind.u8 0, Value.int IntKind.u8 0, Value.int IntKind.u8 0, Value.int IntKind.u8 0, Value.int IntKind.u8 0, Value.int IntKind.u8 0, Value.int IntKind.u8 0, Value.int IntKind.u8 0, Value.int IntKind.u8 0, Value.int IntKind.u8 0, Value.int IntKind.u8 0, Value.int IntKind.u8 0, Value.int IntKind.u8 0, Value.int IntKind.u8 0, Value.int IntKind.u8 0, Value.int IntKind.u8 0, Value.int IntKind.u8 0, Value.int IntKind.u8 0, Value.int IntKind.u8 0, Value.int IntKind.u8 0, Value.int IntKind.u8 0, Value.int IntKind.u8 0, Value.int IntKind.u8 0, Value.int IntKind.u8 0, Value.int IntKind.u8 0, Value.int IntKind.u8 0, Value.int IntKind.u8 0, Value.int IntKind.u8 0, Value.int IntKind.u8 0, Value.int IntKind.u8 0, Value.int IntKind.u8 0, Value.int IntKind.u8 0, Value.int IntKind.u8 0, Value.int IntKind.u8 0, Value.int IntKind.u8 0, Value.int IntKind.u8 0, Value.int IntKind.u8 0, Value.int IntKind.u8 0, Value.int IntKind.u8 0, Value.int IntKind.u8 0, Value.int IntKind.u8 0, Value.int IntKind.u8 0, Value.int IntKind.u8 0, Value.int IntKind.u8 0, Value.int IntKind.u8 0, Value.int IntKind.u8 0, Value.int IntKind.u8 0, Value.int IntKind.u8 0] 67) = W2) := hW2.symm
  clear hCK hW2
  go_enter Tryd.func43, Tryd.ntmps43
  go_wp2_with fail
  have e1 := HW.out
  rw [e1]
  clear e1
  obtain ⟨B0, hB0⟩ : ∃ B0, B0 = w.heap.size := ⟨_, rfl⟩
  generalize hpB : w.heap.size + 1 = pB at *
  generalize hpA : w.heap.size = pA at *
  have HPB := Lib.hid hpB
  have HPA := Lib.hid hpA
  clear hpA hpB hB0
  go_loopw [6] (fun s6 wr => ∃ j : Nat, j ≤ 64 ∧ s6 = .int .i64 j ∧ BlkL wr pA (byteVals (turnedTo k x j)) 67 ∧ Blk wr pB zero64 67 ∧ Chg none w wr) (fun s6 _ => 64 - (intOf s6).toNat)
  case atStart => exact ⟨0, by omega, rfl, bA, bB, g2⟩
  case round =>
    obtain ⟨j, hj, rfl, bAj, bBj, gj⟩ := hrel
    clear bA bB g2
    by_cases hlt : j < 64
    · have cA := (BlkL.cell bAj j).trans (byteVals_get (turnedTo_at k x j (by omega)))
      have hfz := Blk.frozen bAj j
      have hset := BlkL.set bAj j (.int .u8 (k.getD j 0 ^^^ x).toNat)
      rw [byteVals_set, turnedTo_set k x j (by omega), ← u8_xor] at hset
      generalize k.getD j 0 = xa at *
      have HSET := Lib.hid hset
      clear hset
      go_wp2_with fail
      go_roundw
      case rel => exact ⟨j + 1, by omega, by go_num, HSET.out, bBj.setOther _ _ hne, gj.setNew _ (by rw [HPA.out]; exact Nat.le_refl _) _⟩
      case measure => first | (simp [intOf]; done) | (simp [intOf]; omega)
    · obtain rfl : j = 64 := by omega
      have hd8 : decide (((64 : Nat) : Int) < 64) = false := by decide
      have hfin : turnedTo k x 64 = turnB k x := by rw [turnedTo, List.take_of_length_le (by omega), List.drop_eq_nil_of_le (by omega), List.append_nil]
      rw [hfin] at bAj
      obtain ⟨hs, ho⟩ := row_facts (turnB k x) 64 (by rw [turnB_len]; exact hk)
      have HI : Hid ((Tryd.prog.info? 67).map (·.size) = some (byteVals (turnB k x)).toArray.size) := by rw [hs]; show _ = _; kernel_rfl
      have HZ : Hid (zero64.size = (byteVals (turnB k x)).toArray.size) := by rw [hs]; rfl
      have HO := Lib.hid ho
      clear hs ho hfin
      go_wp2_with (first | (refine wpList_load_row rfl 67 _ rfl pA rfl 67 _ (0, 0) _ bAj Tryd.underlying67 rfl HI.out ?_) | (refine wpList_store_row rfl 67 _ _ rfl pB (byteVals (turnB k x)).toArray rfl rfl 67 _ bBj HI.out HZ.out HO.out ?_))
      refine bodyPost_ret (results_cell_row (p := 4) (ty := 67) Tryd.results43 _ _ pB 67 (byteVals (turnB k x)).toArray (0, 0) _ rfl (setRow_heap _ _ _ _ _ _ bBj) Tryd.underlying67 rfl HI.out) rfl ⟨rfl, ?_⟩
      exact Chg.own (b := pB) gj (chg_setRow _ _ _) (by rw [HPA.out, ← HPB.out]; omega)

end Go.Proofs.YtehpigmcmgfkoaaDoor
