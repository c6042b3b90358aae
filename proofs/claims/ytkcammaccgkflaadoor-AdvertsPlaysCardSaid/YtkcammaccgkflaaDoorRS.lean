/-
  The document's digest: digits, primes and roots, plainly. The document's digest: digits of a number; which of two is more. The document's digest: the product of two numbers, by digits. The document's digest: roots by digits. The document's digest: the first primes. The document's digest: the words of primes' roots. The document's digest: the padded text. The document's digest: a word turned right. The document's digest: words of bytes, plainly. The document's digest: a block's round. The document's digest: Sum.
-/
import Derived.Test.YtkcammaccgkflaaDoorZA
import Derived.Test.YtkcammaccgkflaaDoorZB
namespace Go.Proofs.YtkcammaccgkflaaDoor

/-- The value of digits to the base 65536, the lowest first. -/
def val : List Nat → Nat
  | [] => 0
  | v :: vs => v + 65536 * val vs
def Dig (o : List Nat) : Prop := o.length = 10 ∧ ∀ v ∈ o, v < 65536
theorem Dig.at {o : List Nat} (h : Dig o) (i : Nat) : o.getD i 0 < 65536 := by
  by_cases hi : i < o.length
  · rw [List.getD_eq_getElem?_getD, List.getElem?_eq_getElem hi]
    exact h.2 _ (List.getElem_mem hi)
  · rw [List.getD_eq_getElem?_getD, List.getElem?_eq_none (by omega)]; decide
theorem Dig.set {o : List Nat} (h : Dig o) (i v : Nat) (hv : v < 65536) : Dig (o.set i v) :=
  ⟨by rw [List.length_set]; exact h.1, fun u hu => by
    rcases List.mem_or_eq_of_mem_set hu with h1 | h1
    · exact h.2 u h1
    · omega⟩
theorem dig_zero : Dig (List.replicate 10 0) := ⟨by simp, fun v hv => by have := List.eq_of_mem_replicate hv; omega⟩
theorem val_zero : ∀ n, val (List.replicate n 0) = 0
  | 0 => rfl
  | n + 1 => by rw [List.replicate_succ, val, val_zero n]
theorem val_lt : ∀ (o : List Nat), (∀ v ∈ o, v < 65536) → val o < 65536 ^ o.length
  | [], _ => by simp [val]
  | v :: vs, h => by
    have h1 := val_lt vs (fun u hu => h u (by simp [hu]))
    have h2 := h v (by simp)
    rw [val, List.length_cons, Nat.pow_succ]
    omega
theorem val_set : ∀ (o : List Nat) (i v : Nat), i < o.length → val (o.set i v) + o.getD i 0 * 65536 ^ i = val o + v * 65536 ^ i
  | [], _, _, h => by simp at h
  | x :: xs, 0, v, _ => by simp [val]; omega
  | x :: xs, i + 1, v, h => by
    have h1 := val_set xs i v (by simpa using h)
    rw [List.set_cons_succ, val, val, List.getD_cons_succ, Nat.pow_succ, ← Nat.mul_assoc, ← Nat.mul_assoc]
    omega
theorem val_take_succ : ∀ (o : List Nat) (i : Nat), i < o.length → val (o.take (i + 1)) = val (o.take i) + o.getD i 0 * 65536 ^ i
  | [], _, h => by simp at h
  | x :: xs, 0, _ => by simp [val]
  | x :: xs, i + 1, h => by
    have h1 := val_take_succ xs i (by simpa using h)
    rw [List.take_succ_cons, List.take_succ_cons, val, val, List.getD_cons_succ, h1, Nat.pow_succ, ← Nat.mul_assoc]
    omega
theorem val_split : ∀ (o : List Nat) (i : Nat), i ≤ o.length → val o = val (o.take i) + 65536 ^ i * val (o.drop i)
  | o, 0, _ => by simp [val]
  | [], i + 1, h => by simp at h
  | x :: xs, i + 1, h => by
    have h1 := val_split xs i (by simpa using h)
    rw [List.take_succ_cons, List.drop_succ_cons, val, val, h1, Nat.pow_succ, Nat.mul_add, Nat.mul_comm (65536 ^ i) 65536, Nat.mul_assoc]
    omega

/-! ### times -/
/-- A round's step, of one digit. -/
theorem times_step {o b : List Nat} {i k x c ai V : Nat} (ho : o.length = 10) (hb : b.length = 10) (hik : i + k < 10)
    (hx : x = o.getD (i + k) 0 + ai * b.getD k 0 + c) (hV : val o + c * 65536 ^ (i + k) = V + ai * 65536 ^ i * val (b.take k)) :
    val (o.set (i + k) (x % 65536)) + x / 65536 * 65536 ^ (i + (k + 1)) = V + ai * 65536 ^ i * val (b.take (k + 1)) := by
  have h1 := val_set o (i + k) (x % 65536) (by omega)
  have h2 := val_take_succ b k (by omega)
  have h3 : x % 65536 * 65536 ^ (i + k) + x / 65536 * 65536 ^ (i + (k + 1)) = x * 65536 ^ (i + k) := by
    rw [show i + (k + 1) = (i + k) + 1 by omega, Nat.pow_succ, Nat.mul_comm (65536 ^ (i + k)) 65536, ← Nat.mul_assoc, ← Nat.add_mul]
    congr 1
    omega
  have h4 : x * 65536 ^ (i + k) = o.getD (i + k) 0 * 65536 ^ (i + k) + ai * b.getD k 0 * 65536 ^ (i + k) + c * 65536 ^ (i + k) := by
    rw [hx, Nat.add_mul, Nat.add_mul]
  have h5 : ai * 65536 ^ i * val (b.take (k + 1)) = ai * 65536 ^ i * val (b.take k) + ai * b.getD k 0 * 65536 ^ (i + k) := by
    rw [h2, Nat.mul_add, Nat.pow_add]
    congr 1
    rw [Nat.mul_assoc ai, Nat.mul_assoc ai, ← Nat.mul_assoc (65536 ^ i), Nat.mul_comm (65536 ^ i) (b.getD k 0), Nat.mul_assoc]
  omega
theorem times_bound {o b : List Nat} {i k c ai : Nat} (ho : Dig o) (hb : Dig b) (ha : ai < 65536) (hc : c < 65536) : o.getD (i + k) 0 + ai * b.getD k 0 + c < 4294967296 := by
  have h1 := ho.at (i + k)
  have h2 := hb.at k
  have h3 : ai * b.getD k 0 ≤ 65535 * 65535 := Nat.mul_le_mul (by omega) (by omega)
  omega
theorem times_round {o a b : List Nat} {i c V : Nat} (hi : i < 10) (ha : Dig a) (hb : Dig b) (hV0 : V % 65536 ^ 10 = val (a.take i) * val b % 65536 ^ 10)
    (hV : val o + c * 65536 ^ 10 = V + a.getD i 0 * 65536 ^ i * val (b.take (10 - i))) : val o % 65536 ^ 10 = val (a.take (i + 1)) * val b % 65536 ^ 10 := by
  have h1 := val_take_succ a i (by have := ha.1; omega)
  have h2 := val_split b (10 - i) (by have := hb.1; omega)
  have h3 : val (a.take (i + 1)) * val b = val (a.take i) * val b + a.getD i 0 * 65536 ^ i * val (b.take (10 - i)) + 65536 ^ 10 * (a.getD i 0 * val (b.drop (10 - i))) := by
    have e : 65536 ^ 10 = 65536 ^ i * 65536 ^ (10 - i) := by rw [← Nat.pow_add]; congr 1; omega
    rw [h1, Nat.add_mul, e, Nat.add_assoc]
    congr 1
    conv => lhs; rw [h2]
    rw [Nat.mul_add]
    congr 1
    rw [Nat.mul_assoc, Nat.mul_assoc, Nat.mul_left_comm (a.getD i 0)]
    congr 1
    rw [Nat.mul_left_comm]
  rw [h3, Nat.add_mul_mod_self_left, Nat.add_mod, ← hV0, ← Nat.add_mod, ← hV, Nat.add_mul_mod_self_right]

/-! ### above -/
theorem above_eq {a b : List Nat} (h : a.drop 0 = b.drop 0) : decide (val b < val a) = false := by
  simp only [List.drop_zero] at h
  rw [h]; simp
theorem above_at {a b : List Nat} {j : Nat} (hj : j < 10) (ha : Dig a) (hb : Dig b) (h : a.drop (j + 1) = b.drop (j + 1)) (hne : a.getD j 0 ≠ b.getD j 0) :
    decide (val b < val a) = decide (b.getD j 0 < a.getD j 0) := by
  have a1 := val_split a (j + 1) (by have := ha.1; omega)
  have b1 := val_split b (j + 1) (by have := hb.1; omega)
  have a2 := val_take_succ a j (by have := ha.1; omega)
  have b2 := val_take_succ b j (by have := hb.1; omega)
  have a3 := val_lt (a.take j) (fun v hv => ha.2 v (List.mem_of_mem_take hv))
  have b3 := val_lt (b.take j) (fun v hv => hb.2 v (List.mem_of_mem_take hv))
  rw [List.length_take, ha.1, Nat.min_eq_left (by omega)] at a3
  rw [List.length_take, hb.1, Nat.min_eq_left (by omega)] at b3
  rw [h] at a1
  generalize a.getD j 0 = x at *
  generalize b.getD j 0 = y at *
  have hxy : x < y ∨ y < x := by omega
  have hm : ∀ u v : Nat, u < v → (u + 1) * 65536 ^ j ≤ v * 65536 ^ j := fun u v h => Nat.mul_le_mul_right _ h
  rw [decide_eq_decide]
  rcases hxy with h1 | h1
  · have := hm x y h1
    rw [Nat.add_mul, Nat.one_mul] at this
    constructor <;> intro h2 <;> omega
  · have := hm y x h1
    rw [Nat.add_mul, Nat.one_mul] at this
    constructor <;> intro h2 <;> omega
theorem drop_eq {a b : List Nat} {j : Nat} (hj : j < 10) (ha : Dig a) (hb : Dig b) (h : a.drop (j + 1) = b.drop (j + 1)) (he : a.getD j 0 = b.getD j 0) : a.drop j = b.drop j := by
  have h1 : j < a.length := by have := ha.1; omega
  have h2 : j < b.length := by have := hb.1; omega
  rw [List.getD_eq_getElem?_getD, List.getD_eq_getElem?_getD, List.getElem?_eq_getElem h1, List.getElem?_eq_getElem h2] at he
  rw [List.drop_eq_getElem_cons h1, List.drop_eq_getElem_cons h2, h]
  congr 1

/-! ### digits -/
def dgs (n i : Nat) : List Nat := (List.range 10).map fun j => if j < i then n / 65536 ^ j % 65536 else 0
theorem dgs_dig (n i : Nat) : Dig (dgs n i) := ⟨by simp [dgs], fun v hv => by
  unfold dgs at hv
  obtain ⟨j, _, rfl⟩ := List.mem_map.1 hv
  by_cases h : j < i
  · rw [if_pos h]; exact Nat.mod_lt _ (by decide)
  · rw [if_neg h]; decide⟩
theorem dgs_zero (n : Nat) : dgs n 0 = List.replicate 10 0 := by simp [dgs, List.range_succ]
theorem dgs_set (n i : Nat) (h : i < 10) : (dgs n i).set i (n / 65536 ^ i % 65536) = dgs n (i + 1) := by
  apply List.ext_getElem?
  intro j
  by_cases hj : j < 10
  · by_cases hij : i = j
    · subst hij
      rw [List.getElem?_set_self (by rw [(dgs_dig n i).1]; exact h)]
      simp [dgs, hj]
    · rw [List.getElem?_set_ne hij]
      simp only [dgs, List.getElem?_map, List.getElem?_range hj, Option.map_some, Option.some.injEq]
      by_cases h2 : j < i
      · rw [if_pos h2, if_pos (by omega)]
      · rw [if_neg h2, if_neg (by omega)]
  · rw [List.getElem?_eq_none (by rw [List.length_set, (dgs_dig n i).1]; omega), List.getElem?_eq_none (by rw [(dgs_dig n (i + 1)).1]; omega)]
theorem dgs_val (n : Nat) (h : n < 65536 ^ 4) : val (dgs n 4) = n := by
  simp [dgs, List.range_succ, val]
  omega

/-! ### roots -/
def mostN (p power : Nat) : List Nat := (List.replicate 10 0).set (2 * power) p
theorem most_dig (p power : Nat) (hp : p < 65536) : Dig (mostN p power) := dig_zero.set _ _ hp
theorem most_val (p power : Nat) (h : 2 * power < 10) : val (mostN p power) = p * 65536 ^ (2 * power) := by
  have h1 := val_set (List.replicate 10 0) (2 * power) p (by simpa using h)
  have h2 : (List.replicate 10 0).getD (2 * power) 0 = 0 := by rw [List.getD_eq_getElem?_getD, List.getElem?_replicate]; split <;> rfl
  rw [h2, val_zero] at h1
  unfold mostN
  omega
/-- The k-th bit of the search, from the greatest on; none behind the last. -/
def bitN (k : Nat) : Nat := 2 ^ 38 / 2 ^ (k + 1)
theorem bit_half (k : Nat) : bitN k / 2 = bitN (k + 1) := by
  unfold bitN
  rw [Nat.div_div_eq_div_mul, ← Nat.pow_succ]
theorem bit_pos (k : Nat) (h : k < 38) : 0 < bitN k := Nat.div_pos (Nat.pow_le_pow_right (by decide) (by omega)) (Nat.pow_pos (by decide))
theorem bit_end : bitN 38 = 0 := by decide
def rootX (p power : Nat) : Nat → Nat
  | 0 => 0
  | k + 1 => if p * 65536 ^ (2 * power) < (rootX p power k + bitN k) ^ power then rootX p power k else rootX p power k + bitN k
theorem rootX_le (p power : Nat) : ∀ k, k ≤ 38 → rootX p power k + 2 ^ (38 - k) ≤ 2 ^ 38
  | 0, _ => by simp [rootX]
  | k + 1, h => by
    have h1 := rootX_le p power k (by omega)
    have h2 : bitN k = 2 ^ (38 - (k + 1)) := by unfold bitN; rw [Nat.pow_div (by omega) (by decide)]
    have h3 : 2 ^ (38 - k) = 2 ^ (38 - (k + 1)) + 2 ^ (38 - (k + 1)) := by
      rw [show 38 - k = (38 - (k + 1)) + 1 by omega, Nat.pow_succ]; omega
    rw [rootX]
    split <;> omega
def rootV (p power : Nat) : Nat := rootX p power 38 % 4294967296
theorem root_bound (p power k : Nat) (h : k < 38) : rootX p power k + bitN k < 274877906945 := by
  have h1 := rootX_le p power k (by omega)
  have h2 : bitN k ≤ 2 ^ (38 - k) := by
    unfold bitN; rw [Nat.pow_div (by omega) (by decide)]; exact Nat.pow_le_pow_right (by decide) (by omega)
  omega

/-! ### primes -/
def primeB (n : Nat) : Bool := decide (1 < n) && (List.range n).all fun j => decide (j < 2) || decide (n < j * j) || decide (n % j ≠ 0)
def primesB (n : Nat) : List Nat := (List.range n).filter primeB
theorem prime_no {n k : Nat} (h2 : 2 ≤ k) (hk : k * k ≤ n) (hd : n % k = 0) : primeB n = false := by
  unfold primeB
  rw [Bool.and_eq_false_iff]
  right
  rw [List.all_eq_false]
  have hkn : k < n := Nat.lt_of_lt_of_le (by have : k * 2 ≤ k * k := Nat.mul_le_mul_left _ h2; omega) hk
  exact ⟨k, List.mem_range.2 hkn, by simp [hd]; omega⟩
theorem prime_yes {n k : Nat} (hk : n < k * k) (h : ∀ j, 2 ≤ j → j < k → n % j ≠ 0) : primeB n = decide (1 < n) := by
  unfold primeB
  have : ((List.range n).all fun j => decide (j < 2) || decide (n < j * j) || decide (n % j ≠ 0)) = true := by
    rw [List.all_eq_true]
    intro j _
    by_cases h1 : j < 2
    · simp [h1]
    · by_cases h3 : j < k
      · simp [h j (by omega) h3]
      · have : k * k ≤ j * j := Nat.mul_le_mul (by omega) (by omega)
        have h4 : n < j * j := by omega
        simp [h4]
  rw [this, Bool.and_true]
theorem primes_succ (n : Nat) : primesB (n + 1) = primesB n ++ if primeB n = true then [n] else [] := by
  unfold primesB
  rw [List.range_succ, List.filter_append]
  congr 1
  by_cases h : primeB n = true <;> simp [h]
set_option maxRecDepth 100000 in
theorem primes_few : ∀ n, n < 312 → (primesB n).length < 64 := by decide +kernel
set_option maxRecDepth 100000 in
theorem primes_all : (primesB 312).length = 64 := by decide +kernel

set_option maxRecDepth 100000 in
theorem roots_K : ∀ i, i < 64 → ((rootV ((primesB 312).getD i 0) 3 : Nat) : Int) = K0.getD i 0 := by decide +kernel
set_option maxRecDepth 100000 in
theorem roots_H : ∀ i, i < 8 → ((rootV ((primesB 312).getD i 0) 2 : Nat) : Int) = H0.getD i 0 := by decide +kernel
theorem primes_lt : ∀ n, ∀ p ∈ primesB n, p < n := fun _ _ hp => List.mem_range.1 ((List.mem_filter.1 hp).1)

end Go.Proofs.YtkcammaccgkflaaDoor

namespace Go.Proofs.YtkcammaccgkflaaDoor
open Go.RowKit

def u64s (o : List Nat) : List Value := o.map fun (v : Nat) => Value.int .u64 (v : Int)
theorem u64s_len (o : List Nat) : (u64s o).length = o.length := by simp [u64s]
theorem u64s_get (o : List Nat) (i : Nat) (h : i < o.length) : (u64s o)[i]? = some (.int .u64 ((o.getD i 0 : Nat) : Int)) := by
  unfold u64s
  rw [List.getElem?_map, List.getD_eq_getElem?_getD, List.getElem?_eq_getElem h]; rfl
theorem u64s_set (o : List Nat) (i v : Nat) : (u64s o).set i (.int .u64 (v : Int)) = u64s (o.set i v) := by
  unfold u64s; rw [List.map_set]
theorem u64s_one (o : List Nat) : (u64s o).toArray.all (·.oneCell') = true := by
  simp [u64s]
  intro x _; rfl
theorem u64s_info (o : List Nat) (h : o.length = 10) : (Tryd.prog.info? 120).map (·.size) = some (u64s o).toArray.size := by
  rw [List.size_toArray, u64s_len, h]; kernel_rfl
theorem u64s_infoL (o : List Nat) (h : o.length = 10) : (Tryd.prog.info? 120).map (·.size) = some (u64s o).length := by
  rw [u64s_len, h]; kernel_rfl
theorem u64s_size (o p : List Nat) (h : o.length = 10) (h' : p.length = 10) : (u64s o).toArray.size = (u64s p).toArray.size := by
  rw [List.size_toArray, List.size_toArray, u64s_len, u64s_len, h, h']

set_option maxRecDepth 100000 in
set_option maxHeartbeats 4000000 in
theorem digits_any (n : Nat) (hn : n < 281474976710656) (w : World) : Calls Tryd.prog 83 #[.int .u64 n] w fun e w' => e = .returned (.agg (u64s (dgs n 4)).toArray) ∧ Chg none w w' := by
  obtain ⟨W2, hW2⟩ : ∃ W2, W2 = (w.alloc (.cells (u64s (dgs n 0)).toArray 120)).alloc (.cells (u64s (dgs n 0)).toArray 120) := ⟨_, rfl⟩
  have HW2 : Hid ((w.alloc (.cells #[Value.int IntKind.u64 0, Value.int IntKind.u64 0, Value.int IntKind.u64 0, Value.int IntKind.u64 0, Value.int IntKind.u64 0, Value.int IntKind.u64 0, Value.int IntKind.u64 0, Value.int IntKind.u64 0, Value.int IntKind.u64 0, Value.int IntKind.u64 0] 120)).alloc (.cells #[Value.int IntKind.u64 0, Value.int IntKind.u64 0, Value.int IntKind.u64 0, Value.int IntKind.u64 0, Value.int IntKind.u64 0, Value.int IntKind.u64 0, Value.int IntKind.u64 0, Value.int IntKind.u64 0, Value.int IntKind.u64 0, Value.int IntKind.u64 0] 120) = W2) := by rw [dgs_zero] at hW2; exact hW2.symm
  have g0 : Chg none w W2 := by rw [hW2]; exact ((Chg.refl _ _).alloc _).alloc _
  have bA : BlkL W2 w.heap.size (u64s (dgs n 0)) 120 := by rw [hW2]; exact Blk.alloc (Blk.new _ _ _) _
  have bB : BlkL W2 (w.heap.size + 1) (u64s (dgs n 0)) 120 := by rw [hW2]; exact Blk.newAt _ _ (by simp)
  clear hW2
  go_enter Tryd.func83, Tryd.ntmps83
  go_wp2_with fail
  rw [HW2.out]
  clear HW2
  go_loopw [0, 4] (fun s0 s4 wr => ∃ i : Nat, i ≤ 4 ∧ s4 = .int .i64 i ∧ s0 = .int .u64 ((n / 65536 ^ i : Nat) : Int) ∧ BlkL wr (w.heap.size + 1) (u64s (dgs n i)) 120 ∧ BlkL wr w.heap.size (u64s (dgs n 0)) 120 ∧ Chg none w wr) (fun _ s4 _ => 4 - (intOf s4).toNat)
  case atStart => exact ⟨0, by omega, rfl, by simp, bB, bA, g0⟩
  case round =>
    obtain ⟨i, hi, rfl, rfl, hb, hz, hg⟩ := hrel
    have hlen := (dgs_dig n i).1
    by_cases hlt : i < 4
    · have hset := BlkL.set hb i (.int .u64 ((n / 65536 ^ i % 65536 : Nat) : Int))
      rw [u64s_set, dgs_set n i (by omega)] at hset
      have cw : wr.cell? ⟨w.heap.size + 1, i, none⟩ = some (.int .u64 (((dgs n i).getD i 0 : Nat) : Int)) := by rw [BlkL.cell hb, u64s_get _ _ (by omega)]
      have hfz := Blk.frozen hb i
      have hbz := Blk.lt hb
      have hdv : n / 65536 ^ (i + 1) = n / 65536 ^ i / 65536 := by rw [Nat.pow_succ, Nat.div_div_eq_div_mul]
      have hml : n / 65536 ^ i < 281474976710656 := Nat.lt_of_le_of_lt (Nat.div_le_self _ _) hn
      have HDV := Lib.hid hdv
      generalize n / 65536 ^ i = m at *
      generalize (dgs n i).getD i 0 = z at *
      have e1 : ((m % 65536 : Nat) : Int) = (m : Int) % 65536 := by omega
      have e2 : ((m / 65536 : Nat) : Int) = (m : Int) / 65536 := by omega
      rw [e1] at hset
      have HE2 := Lib.hid e2
      clear hdv hlen e1 e2
      go_wp2_with fail
      go_roundw
      case rel => exact ⟨i + 1, by omega, by go_num, by rw [HDV.out, HE2.out], hset, Blk.setOther hz _ _ (by show w.heap.size ≠ w.heap.size + 1; omega), hg.setNew _ (Nat.le_succ _) _⟩
      case measure => first | (simp [intOf]; done) | (simp [intOf]; omega)
    · have hi4 : i = 4 := by omega
      subst hi4
      have rO := Blk.range hb
      have HR := Lib.hid rO
      have HI := Lib.hid (u64s_info (dgs n 4) (dgs_dig n 4).1)
      have HIL := Lib.hid (u64s_infoL (dgs n 4) (dgs_dig n 4).1)
      have HS := Lib.hid (u64s_size (dgs n 0) (dgs n 4) (dgs_dig n 0).1 (dgs_dig n 4).1)
      have HO := Lib.hid (u64s_one (dgs n 4))
      have hle : w.heap.size ≤ w.heap.size := Nat.le_refl _
      generalize hpR : w.heap.size = pR at *
      have HPR := Lib.hid hpR
      clear rO hlen hb hpR
      go_wp2_with (first
        | (refine wpList_load_mid rfl 120 _ rfl (pR + 1) 0 rfl (u64s (dgs n 4)) _ HR.out Tryd.underlying120 rfl HIL.out ?_)
        | (refine wpList_store_row rfl 120 _ _ rfl pR (u64s (dgs n 4)).toArray rfl rfl 120 _ hz HI.out HS.out HO.out ?_))
      refine bodyPost_ret (results_cell_row (p := 2) (ty := 120) Tryd.results83 _ _ pR 120 (u64s (dgs n 4)).toArray (0, 0) _ rfl (setRow_heap _ _ _ _ _ _ hz) Tryd.underlying120 rfl HI.out) rfl ⟨rfl, ?_⟩
      exact Chg.own (b := pR) hg (chg_setRow _ _ _) (by rw [HPR.out]; exact hle)

set_option maxRecDepth 100000 in
set_option maxHeartbeats 4000000 in
theorem above_any (a b : List Nat) (ha : Dig a) (hb : Dig b) (w : World) : Calls Tryd.prog 85 #[.agg (u64s a).toArray, .agg (u64s b).toArray] w fun e w' => e = .returned (.bool (decide (val b < val a))) ∧ Chg none w w' := by
  obtain ⟨W2, hW2⟩ : ∃ W2, W2 = (w.alloc (.cells (u64s a).toArray 120)).alloc (.cells (u64s b).toArray 120) := ⟨_, rfl⟩
  have HW2 := Lib.hid hW2.symm
  have g0 : Chg none w W2 := by rw [hW2]; exact ((Chg.refl _ _).alloc _).alloc _
  have bA : BlkL W2 w.heap.size (u64s a) 120 := by rw [hW2]; exact Blk.alloc (Blk.new _ _ _) _
  have bB : BlkL W2 (w.heap.size + 1) (u64s b) 120 := by rw [hW2]; exact Blk.newAt _ _ (by simp)
  clear hW2
  go_enter Tryd.func85, Tryd.ntmps85
  go_wp2_with fail
  rw [HW2.out]
  clear HW2
  generalize w.heap.size + 1 = pB at *
  generalize w.heap.size = pA at *
  go_loopw [5] (fun s5 wr => ∃ j : Nat, j ≤ 10 ∧ s5 = .int .i64 ((j : Int) - 1) ∧ Hid (a.drop j = b.drop j) ∧ BlkL wr pA (u64s a) 120 ∧ BlkL wr pB (u64s b) 120 ∧ Chg none w wr) (fun s5 _ => (intOf s5 + 1).toNat)
  case atStart => exact ⟨10, by omega, by go_num, Lib.hid (by rw [List.drop_eq_nil_of_le (by rw [ha.1]; omega), List.drop_eq_nil_of_le (by rw [hb.1]; omega)]), bA, bB, g0⟩
  case round =>
    obtain ⟨j, hj, rfl, HD, bAr, bBr, gr⟩ := hrel
    clear bA bB g0
    by_cases hlt : 0 < j
    · obtain ⟨k, rfl⟩ : ∃ k, j = k + 1 := ⟨j - 1, by omega⟩
      have e0 : ((k + 1 : Nat) : Int) - 1 = (k : Int) := by omega
      rw [e0]
      have cA : wr.cell? ⟨pA, k, none⟩ = some (.int .u64 ((a.getD k 0 : Nat) : Int)) := by rw [BlkL.cell bAr, u64s_get _ _ (by rw [ha.1]; omega)]
      have cB : wr.cell? ⟨pB, k, none⟩ = some (.int .u64 ((b.getD k 0 : Nat) : Int)) := by rw [BlkL.cell bBr, u64s_get _ _ (by rw [hb.1]; omega)]
      have hk10 : k < 10 := by omega
      by_cases he : a.getD k 0 = b.getD k 0
      · have HE := Lib.hid (drop_eq hk10 ha hb HD.out he)
        rw [← he] at cB
        clear he e0
        have ha' := Lib.hid ha
        have hb' := Lib.hid hb
        clear ha hb
        generalize a.getD k 0 = x at *
        go_wp2_with fail
        go_region
        all_goals
          go_wp2_with fail
          go_roundw
          case rel => exact ⟨k, by omega, by go_num, HE, bAr, bBr, by repeat (first | (with_reducible exact gr) | (with_reducible refine Chg.drew ?_))⟩
          case measure => first | (simp [intOf]; done) | (simp [intOf]; omega)
      · have hr := above_at hk10 ha hb HD.out he
        have HRR := Lib.hid hr
        clear hr e0 HD
        have ha' := Lib.hid ha
        have hb' := Lib.hid hb
        clear ha hb
        generalize a.getD k 0 = x at *
        generalize b.getD k 0 = y at *
        have t1 : ((x : Int) != (y : Int)) = true := by simp; omega
        clear he
        go_wp2_with fail
        go_region
        all_goals go_wp2_with fail
        all_goals go_region
        all_goals
          go_wp2_with fail
          go_ret
          exact ⟨ret_bool (by rw [HRR.out]; try simp), by repeat (first | (with_reducible exact gr) | (with_reducible refine Chg.drew ?_))⟩
    · obtain rfl : j = 0 := by omega
      have hr := above_eq HD.out
      have HRR := Lib.hid hr
      clear hr HD
      go_wp2_with fail
      go_ret
      exact ⟨ret_bool HRR.out.symm, gr⟩

end Go.Proofs.YtkcammaccgkflaaDoor

namespace Go.Proofs.YtkcammaccgkflaaDoor
open Go.RowKit

theorem u64s_zero : u64s (List.replicate 10 0) = [Value.int IntKind.u64 0, Value.int IntKind.u64 0, Value.int IntKind.u64 0, Value.int IntKind.u64 0, Value.int IntKind.u64 0, Value.int IntKind.u64 0, Value.int IntKind.u64 0, Value.int IntKind.u64 0, Value.int IntKind.u64 0, Value.int IntKind.u64 0] := rfl

/-- What times tells. -/
def TimesPost (a b : List Nat) (w : World) (e : Ending) (w' : World) : Prop :=
  ∃ o : List Nat, Dig o ∧ val o = val a * val b % 65536 ^ 10 ∧ e = .returned (.agg (u64s o).toArray) ∧ Chg none w w'

set_option maxRecDepth 100000 in
set_option maxHeartbeats 8000000 in
theorem times_any (a b : List Nat) (ha : Dig a) (hb : Dig b) (w : World) : Calls Tryd.prog 84 #[.agg (u64s a).toArray, .agg (u64s b).toArray] w (TimesPost a b w) := by
  obtain ⟨W4, hW4⟩ : ∃ W4, W4 = (((w.alloc (.cells (u64s a).toArray 120)).alloc (.cells (u64s b).toArray 120)).alloc (.cells (u64s (List.replicate 10 0)).toArray 120)).alloc (.cells (u64s (List.replicate 10 0)).toArray 120) := ⟨_, rfl⟩
  have HW4 : Hid ((((w.alloc (.cells (u64s a).toArray 120)).alloc (.cells (u64s b).toArray 120)).alloc (.cells #[Value.int IntKind.u64 0, Value.int IntKind.u64 0, Value.int IntKind.u64 0, Value.int IntKind.u64 0, Value.int IntKind.u64 0, Value.int IntKind.u64 0, Value.int IntKind.u64 0, Value.int IntKind.u64 0, Value.int IntKind.u64 0, Value.int IntKind.u64 0] 120)).alloc (.cells #[Value.int IntKind.u64 0, Value.int IntKind.u64 0, Value.int IntKind.u64 0, Value.int IntKind.u64 0, Value.int IntKind.u64 0, Value.int IntKind.u64 0, Value.int IntKind.u64 0, Value.int IntKind.u64 0, Value.int IntKind.u64 0, Value.int IntKind.u64 0] 120) = W4) := hW4.symm
  have g0 : Chg none w W4 := by rw [hW4]; exact ((((Chg.refl _ _).alloc _).alloc _).alloc _).alloc _
  have bA : BlkL W4 w.heap.size (u64s a) 120 := by rw [hW4]; exact Blk.alloc (Blk.alloc (Blk.alloc (Blk.new _ _ _) _) _) _
  have bB : BlkL W4 (w.heap.size + 1) (u64s b) 120 := by rw [hW4]; exact Blk.alloc (Blk.alloc (Blk.newAt _ _ (by simp)) _) _
  have bR : BlkL W4 (w.heap.size + 1 + 1) (u64s (List.replicate 10 0)) 120 := by rw [hW4]; exact Blk.alloc (Blk.newAt _ _ (by simp)) _
  have bO : BlkL W4 (w.heap.size + 1 + 1 + 1) (u64s (List.replicate 10 0)) 120 := by rw [hW4]; exact Blk.newAt _ _ (by simp)
  have hA : w.heap.size ≠ w.heap.size + 1 + 1 + 1 := by omega
  have hB : w.heap.size + 1 ≠ w.heap.size + 1 + 1 + 1 := by omega
  have hR : w.heap.size + 1 + 1 ≠ w.heap.size + 1 + 1 + 1 := by omega
  have hge : w.heap.size ≤ w.heap.size + 1 + 1 := by omega
  have hgo : w.heap.size ≤ w.heap.size + 1 + 1 + 1 := by omega
  have HDZ := Lib.hid dig_zero
  have HA := Lib.hid ha
  have HB := Lib.hid hb
  have HV0 : Hid (val (List.replicate 10 0) % 65536 ^ 10 = val (a.take 0) * val b % 65536 ^ 10) := by show _ = _; rw [val_zero]; simp [val]
  clear hW4 ha hb
  go_enter Tryd.func84, Tryd.ntmps84
  go_wp2_with fail
  rw [HW4.out]
  clear HW4
  generalize w.heap.size + 1 + 1 + 1 = pO at *
  generalize w.heap.size + 1 + 1 = pR at *
  generalize w.heap.size + 1 = pB at *
  generalize hpA : w.heap.size = pA at *
  have HPA := Lib.hid hpA
  clear hpA
  go_loopw [6, 7, 8, 9] (fun s6 _ _ _ wr => ∃ (i : Nat) (o : List Nat), i ≤ 10 ∧ s6 = .int .i64 i ∧ Hid (Dig o) ∧ Hid (val o % 65536 ^ 10 = val (a.take i) * val b % 65536 ^ 10) ∧ BlkL wr pO (u64s o) 120 ∧ BlkL wr pA (u64s a) 120 ∧ BlkL wr pB (u64s b) 120 ∧ BlkL wr pR (u64s (List.replicate 10 0)) 120 ∧ Chg none w wr) (fun s6 _ _ _ _ => 10 - (intOf s6).toNat)
  case atStart => exact ⟨0, List.replicate 10 0, by omega, rfl, HDZ, HV0, bO, bA, bB, bR, g0⟩
  case round =>
    obtain ⟨i, o0, hi, rfl, HD0, HV, bOi, bAi, bBi, bRi, gi⟩ := hrel
    clear bO bA bB bR g0 HV0 HDZ
    by_cases hlt : i < 10
    · have cA : ((u64s a)[i]?) = some (.int .u64 ((a.getD i 0 : Nat) : Int)) := u64s_get a i (by rw [HA.out.1]; exact hlt)
      obtain ⟨wo, rfl⟩ : ∃ wo : World, wo = wr := ⟨_, rfl⟩
      have HCA := Lib.hid cA
      have hai := HA.out.at i
      have HAI : Hid (a.getD i 0 < 65536) := hai
      clear cA hai
      generalize hai : a.getD i 0 = ai at *
      have HAE := Lib.hid hai
      clear hai
      go_wp2_with fail
      go_loopw [7, 8, 9] (fun s7 s8 _ wq => ∃ (k c : Nat) (o : List Nat), i + k ≤ 10 ∧ s7 = .int .u64 c ∧ c < 65536 ∧ s8 = .int .i64 k ∧ Hid (Dig o) ∧ Hid (val o + c * 65536 ^ (i + k) = val o0 + ai * 65536 ^ i * val (b.take k)) ∧ BlkL wq pO (u64s o) 120 ∧ BlkL wq pA (u64s a) 120 ∧ BlkL wq pB (u64s b) 120 ∧ BlkL wq pR (u64s (List.replicate 10 0)) 120 ∧ Chg none w wq) (fun _ s8 _ _ => 10 - i - (intOf s8).toNat)
      case atStart => exact ⟨0, 0, o0, by omega, rfl, by omega, rfl, HD0, Lib.hid (by simp [val]), bOi, bAi, bBi, bRi, gi⟩
      case round =>
        obtain ⟨k, c, o, hk, rfl, hc, rfl, HD, HVk, bOk, bAk, bBk, bRk, gk⟩ := hrel
        clear bOi bAi bBi bRi gi
        by_cases hlt2 : i + k < 10
        · have qO : wr.cell? ⟨pO, i + k, none⟩ = some (.int .u64 ((o.getD (i + k) 0 : Nat) : Int)) := by rw [BlkL.cell bOk, u64s_get _ _ (by rw [HD.out.1]; exact hlt2)]
          have qA : wr.cell? ⟨pA, i, none⟩ = some (.int .u64 (ai : Int)) := by rw [BlkL.cell bAk, HCA.out]
          have qB : wr.cell? ⟨pB, k, none⟩ = some (.int .u64 ((b.getD k 0 : Nat) : Int)) := by rw [BlkL.cell bBk, u64s_get _ _ (by rw [HB.out.1]; omega)]
          have hfz := Blk.frozen bOk (i + k)
          have hlt3 := Blk.lt bOk
          have hbound := times_bound (i := i) (k := k) HD.out HB.out HAI.out hc
          have hstep : ∀ x, x = o.getD (i + k) 0 + ai * b.getD k 0 + c → _ := fun x hx => times_step (b := b) HD.out.1 HB.out.1 hlt2 hx HVk.out
          have HST := Lib.hid hstep
          obtain ⟨x, hx⟩ : ∃ x, x = o.getD (i + k) 0 + ai * b.getD k 0 + c := ⟨_, rfl⟩
          have hst := HST.out x hx
          rw [← hx] at hbound
          have hdo := HD.out.set (i + k) (x % 65536) (Nat.mod_lt _ (by decide))
          have hset := BlkL.set bOk (i + k) (.int .u64 ((x % 65536 : Nat) : Int))
          rw [u64s_set] at hset
          generalize o.getD (i + k) 0 = ok at *
          generalize b.getD k 0 = bk at *
          have hxi : (ok : Int) + (ai : Int) * (bk : Int) + (c : Int) = (x : Int) := by rw [hx]; simp
          have hmn : ai * bk ≤ x := by omega
          have hmi : ((ai * bk : Nat) : Int) = (ai : Int) * (bk : Int) := by simp
          have hw1 : IntKind.u64.wrap ((ai : Int) * (bk : Int)) = (ai : Int) * (bk : Int) := IntWalk.u64_in _ (by rw [← hmi]; omega)
          have hw2 : IntKind.u64.wrap ((ok : Int) + (ai : Int) * (bk : Int)) = (ok : Int) + (ai : Int) * (bk : Int) := IntWalk.u64_in _ (by rw [← hmi]; omega)
          have hw3 : IntKind.u64.wrap ((ok : Int) + (ai : Int) * (bk : Int) + (c : Int)) = (x : Int) := by rw [hxi]; exact IntWalk.u64_in _ (by omega)
          have hik1 : IntKind.i64.wrap ((i : Int) + (k : Int)) = (i : Int) + (k : Int) := IntWalk.i64_in _ (by omega)
          have hik2 : (0 : Int) ≤ (i : Int) + (k : Int) := by omega
          have hik3 : ((i : Int) + (k : Int)).toNat = i + k := by omega
          have hik4 : (i : Int) + (k : Int) < 10 := by omega
          have i0 : (0 : Int) ≤ (i : Int) := by omega
          have k0 : (0 : Int) ≤ (k : Int) := by omega
          have e1 : ((x % 65536 : Nat) : Int) = (x : Int) % 65536 := by omega
          have e2 : ((x / 65536 : Nat) : Int) = (x : Int) / 65536 := by omega
          rw [e1] at hset
          have HE2 := Lib.hid e2
          have HX := Lib.hid hst
          have HDO := Lib.hid hdo
          have HSET := Lib.hid hset
          have hxb : x / 65536 < 65536 := by omega
          have klt : (k : Int) < 10 := by omega
          have ilt : (i : Int) < 10 := by omega
          clear hx hxi hmn hmi e1 e2 hst hdo hset hstep HST
          go_wp2_with fail
          go_region
          all_goals
            clear hik1 hw1 hw2 hw3
            go_wp2_with fail
            go_roundw
            case rel => exact ⟨k + 1, x / 65536, _, by omega, by rw [HE2.out], hxb, by go_num, HDO, HX, HSET.out, Blk.setOther bAk _ _ hA, Blk.setOther bBk _ _ hB, Blk.setOther bRk _ _ hR, by repeat (first | (with_reducible exact gk) | (with_reducible refine Chg.drew ?_) | (with_reducible refine Chg.setNew ?_ _ (by show w.heap.size ≤ pO; rw [HPA.out]; exact hgo) _))⟩
            case measure => first | (simp [intOf]; done) | (simp [intOf]; omega)
        · have hk10 : k = 10 - i := by omega
          have hV := HVk.out
          rw [show i + k = 10 by omega, hk10, ← HAE.out] at hV
          have HV2 := Lib.hid (times_round hlt HA.out HB.out HV.out hV)
          have hik1 : decide ((i : Int) + (k : Int) < 10) = false := by simp; omega
          have hik5 : ¬ (i : Int) + (k : Int) < 10 := by omega
          clear hV hk10
          go_wp2_with fail
          go_roundw
          case rel => exact ⟨i + 1, o, by omega, by go_num, HD, HV2, bOk, bAk, bBk, bRk, gk⟩
          case measure => first | (simp [intOf]; done) | (simp [intOf]; omega)
    · have hi10 : i = 10 := by omega
      subst hi10
      have hV := HV.out
      rw [List.take_of_length_le (by rw [HA.out.1]; omega)] at hV
      have hvl := val_lt o0 HD0.out.2
      rw [HD0.out.1] at hvl
      rw [Nat.mod_eq_of_lt hvl] at hV
      have rO := Blk.range bOi
      have HR := Lib.hid rO
      have HI := Lib.hid (u64s_info o0 HD0.out.1)
      have HIL := Lib.hid (u64s_infoL o0 HD0.out.1)
      have HS := Lib.hid (u64s_size (List.replicate 10 0) o0 dig_zero.1 HD0.out.1)
      have HO := Lib.hid (u64s_one o0)
      have HVV := Lib.hid hV
      clear rO bOi bAi bBi hV hvl HV
      go_wp2_with (first
        | (refine wpList_load_mid rfl 120 _ rfl pO 0 rfl (u64s o0) _ HR.out Tryd.underlying120 rfl HIL.out ?_)
        | (refine wpList_store_row rfl 120 _ _ rfl pR (u64s o0).toArray rfl rfl 120 _ bRi HI.out HS.out HO.out ?_))
      refine bodyPost_ret (results_cell_row (p := 4) (ty := 120) Tryd.results84 _ _ pR 120 (u64s o0).toArray (0, 0) _ rfl (setRow_heap _ _ _ _ _ _ bRi) Tryd.underlying120 rfl HI.out) rfl ⟨o0, HD0.out, HVV.out, rfl, ?_⟩
      exact Chg.own (b := pR) gi (chg_setRow _ _ _) (by rw [HPA.out]; exact hge)

end Go.Proofs.YtkcammaccgkflaaDoor

namespace Go.Proofs.YtkcammaccgkflaaDoor
open Go.RowKit

def zero10 : Array Value := (u64s (List.replicate 10 0)).toArray
theorem new_row10 (w : World) (cs : Array Value) : Chg none w ((w.alloc (.cells zero10 120)).setRow w.heap.size cs) ∧ Blk ((w.alloc (.cells zero10 120)).setRow w.heap.size cs) w.heap.size cs 120 :=
  ⟨Chg.own (b := w.heap.size) ((Chg.refl none w).alloc _) (chg_setRow _ _ _) (Nat.le_refl _), setRow_heap _ _ _ _ _ _ (heap_alloc_new _ _)⟩

theorem pow_small {X k : Nat} (h : X < 274877906945) (hk : k ≤ 3) : X ^ k < 65536 ^ 10 := by
  have h1 : X ^ k ≤ 274877906945 ^ k := Nat.pow_le_pow_left (by omega) k
  have h2 : 274877906945 ^ k ≤ 274877906945 ^ 3 := Nat.pow_le_pow_right (by decide) hk
  have h3 : 274877906945 ^ 3 < 65536 ^ 10 := by decide
  omega

set_option maxRecDepth 100000 in
set_option maxHeartbeats 16000000 in
theorem rootw_any (p power : Nat) (hp : p < 65536) (hw2 : 2 ≤ power) (hw3 : power ≤ 3) (w : World) : Calls Tryd.prog 61 #[.int .i64 p, .int .i64 power] w fun e w' => e = .returned (.int .u32 (rootV p power : Nat)) ∧ Chg none w w' := by
  obtain ⟨W1, hW1⟩ : ∃ W1, W1 = (w.alloc (.cells zero10 120)).setCell ⟨w.heap.size, 2 * power, none⟩ (.int .u64 (p : Int)) := ⟨_, rfl⟩
  have g1 : Chg none w W1 := by rw [hW1]; exact ((Chg.refl _ _).alloc _).setNew _ (Nat.le_refl _) _
  have bM : BlkL W1 w.heap.size (u64s (mostN p power)) 120 := by
    have h := BlkL.set (show BlkL (w.alloc (.cells zero10 120)) w.heap.size (u64s (List.replicate 10 0)) 120 from Blk.new _ _ _) (2 * power) (.int .u64 (p : Int))
    rw [u64s_set] at h
    rw [hW1]; exact h
  have cM : (w.alloc (.cells zero10 120)).cell? ⟨w.heap.size, 2 * power, none⟩ = some (.int .u64 0) := by
    rw [BlkL.cell (show BlkL (w.alloc (.cells zero10 120)) w.heap.size (u64s (List.replicate 10 0)) 120 from Blk.new _ _ _), u64s_get _ _ (by simp; omega)]
    rw [show (List.replicate 10 0).getD (2 * power) 0 = 0 by rw [List.getD_eq_getElem?_getD, List.getElem?_replicate]; split <;> rfl]
    rfl
  have fM : (w.alloc (.cells zero10 120)).frozen? ⟨w.heap.size, 2 * power, none⟩ = false := Blk.frozen (Blk.new _ _ _) _
  have HMD := Lib.hid (most_dig p power hp)
  have HMV := Lib.hid (most_val p power (by omega))
  have hle : w.heap.size ≤ w.heap.size := Nat.le_refl _
  obtain ⟨W0, hW0⟩ : ∃ W0, W0 = w.alloc (.cells zero10 120) := ⟨_, rfl⟩
  have HW0 : Hid (w.alloc (.cells #[Value.int IntKind.u64 0, Value.int IntKind.u64 0, Value.int IntKind.u64 0, Value.int IntKind.u64 0, Value.int IntKind.u64 0, Value.int IntKind.u64 0, Value.int IntKind.u64 0, Value.int IntKind.u64 0, Value.int IntKind.u64 0, Value.int IntKind.u64 0] 120) = W0) := hW0.symm
  have hlt0 : w.heap.size < W0.heap.size := by rw [hW0]; simp
  rw [← hW0] at cM fM hW1
  have HW1 := Lib.hid hW1.symm
  have p2 : (2 : Int) * (power : Int) < 10 := by omega
  have p3 : (0 : Int) ≤ 2 * (power : Int) := by omega
  have p4 : ((2 : Int) * (power : Int)).toNat = 2 * power := by omega
  clear hW0 hW1
  go_enter Tryd.func61, Tryd.ntmps61
  go_upto_region 2 with (fail)
  rw [HW0.out]
  clear HW0
  generalize hpM : w.heap.size = pM at *
  have HPM := Lib.hid hpM
  clear hpM
  go_wp2_with fail
  rw [HW1.out]
  clear HW1 cM fM hlt0 p2 p3 p4
  go_loopw [6, 7, 8, 9, 10] (fun s6 s7 _ _ _ wr => ∃ k : Nat, k ≤ 38 ∧ s6 = .int .u64 (rootX p power k : Nat) ∧ s7 = .int .u64 (bitN k : Nat) ∧ BlkL wr pM (u64s (mostN p power)) 120 ∧ Chg none w wr) (fun _ s7 _ _ _ _ => (intOf s7).toNat)
  case atStart => exact ⟨0, by omega, rfl, rfl, bM, g1⟩
  case round =>
    obtain ⟨k, hk, rfl, rfl, bMk, gk⟩ := hrel
    clear bM g1
    by_cases hlt : k < 38
    · have hpos := bit_pos k hlt
      have hhalf := bit_half k
      have hbd := root_bound p power k hlt
      have hrx : rootX p power (k + 1) = if p * 65536 ^ (2 * power) < (rootX p power k + bitN k) ^ power then rootX p power k else rootX p power k + bitN k := rfl
      have HRX := Lib.hid hrx
      have HHALF := Lib.hid hhalf
      clear hrx hhalf
      generalize hx : rootX p power k = x at *
      generalize hb : bitN k = bt at *
      obtain ⟨X, hX⟩ : ∃ X, X = x + bt := ⟨_, rfl⟩
      have hXi : (x : Int) + (bt : Int) = (X : Int) := by omega
      have hX2 : X < 274877906945 := by omega
      rw [← hX] at HRX
      have HDG := Lib.hid (fun v => digits_any X (by omega) v)
      have hbp : decide ((0 : Int) < (bt : Int)) = true := by simp; omega
      obtain ⟨d, hd⟩ : ∃ d, d = dgs X 4 := ⟨_, rfl⟩
      rw [← hd] at HDG
      have HDD : Hid (Dig d) := by show Dig d; rw [hd]; exact dgs_dig X 4
      have HDV : Hid (val d = X) := by show val d = X; rw [hd]; exact dgs_val X (by omega)
      have HX := Lib.hid hX
      have HXB := Lib.hid hx
      have HBT := Lib.hid hb
      clear hd hX hx hb
      go_wp2_with fail
      refine (HDG.out _).mono ?_
      rintro e w2 ⟨rfl, g2⟩
      have HNW := Lib.hid (fun v => heap_alloc_new v (.cells zero10 120))
      have HI := Lib.hid (u64s_info d HDD.out.1)
      have HIL := Lib.hid (u64s_infoL d HDD.out.1)
      have HS := Lib.hid (u64s_size (List.replicate 10 0) d dig_zero.1 HDD.out.1)
      have HO := Lib.hid (u64s_one d)
      obtain ⟨gN, bD3⟩ := new_row10 w2 (u64s d).toArray
      obtain ⟨W3, hW3⟩ : ∃ W3, W3 = (w2.alloc (.cells zero10 120)).setRow w2.heap.size (u64s d).toArray := ⟨_, rfl⟩
      have HW3 : Hid ((w2.alloc (.cells #[Value.int IntKind.u64 0, Value.int IntKind.u64 0, Value.int IntKind.u64 0, Value.int IntKind.u64 0, Value.int IntKind.u64 0, Value.int IntKind.u64 0, Value.int IntKind.u64 0, Value.int IntKind.u64 0, Value.int IntKind.u64 0, Value.int IntKind.u64 0] 120)).setRow w2.heap.size (u64s d).toArray = W3) := hW3.symm
      rw [← hW3] at gN bD3
      have g03 := (gk.trans g2).trans gN
      have bM3 := (Blk.chg bMk g2 (by simp)).chg gN (by simp)
      have zD : w.heap.size ≤ w2.heap.size := (gk.trans g2).size
      have hMD : pM < w2.heap.size := Blk.lt (Blk.chg bMk g2 (by simp))
      clear hW3 hXi gN HDG
      go_upto_region 8 with (refine wpList_store_row rfl 120 _ _ rfl w2.heap.size (u64s d).toArray rfl rfl 120 _ (HNW.out w2) HI.out HS.out HO.out ?_)
      rw [HW3.out]
      clear HW3
      generalize w2.heap.size = pD at *
      have rD3 := Lib.hid (show W3.rangeAt pD 0 (u64s d) from Blk.range bD3)
      obtain ⟨gN, bY4⟩ := new_row10 W3 (u64s d).toArray
      obtain ⟨W4, hW4⟩ : ∃ W4, W4 = (W3.alloc (.cells zero10 120)).setRow W3.heap.size (u64s d).toArray := ⟨_, rfl⟩
      have HW4 : Hid ((W3.alloc (.cells #[Value.int IntKind.u64 0, Value.int IntKind.u64 0, Value.int IntKind.u64 0, Value.int IntKind.u64 0, Value.int IntKind.u64 0, Value.int IntKind.u64 0, Value.int IntKind.u64 0, Value.int IntKind.u64 0, Value.int IntKind.u64 0, Value.int IntKind.u64 0] 120)).setRow W3.heap.size (u64s d).toArray = W4) := hW4.symm
      rw [← hW4] at gN bY4
      have g04 := g03.trans gN
      have bM4 := bM3.chg gN (by simp)
      have bD4 := bD3.chg gN (by simp)
      have zY : w.heap.size ≤ W3.heap.size := g03.size
      have hMY : pM ≠ W3.heap.size := by have := Blk.lt bM3; omega
      have hDY : pD ≠ W3.heap.size := by have := Blk.lt bD3; omega
      clear hW4 gN bM3 bD3 g03
      go_wp2_with (first
        | (refine wpList_load_mid rfl 120 _ rfl pD 0 rfl (u64s d) _ rD3.out Tryd.underlying120 rfl HIL.out ?_)
        | (refine wpList_store_row rfl 120 _ _ rfl W3.heap.size (u64s d).toArray rfl rfl 120 _ (HNW.out W3) HI.out HS.out HO.out ?_))
      rw [HW4.out]
      clear HW4 rD3
      generalize W3.heap.size = pY at *
      go_loopw [10] (fun s10 wq => ∃ (j : Nat) (y : List Nat), 1 ≤ j ∧ j ≤ power ∧ s10 = .int .i64 j ∧ Hid (Dig y) ∧ Hid (val y = X ^ j) ∧ BlkL wq pY (u64s y) 120 ∧ BlkL wq pD (u64s d) 120 ∧ BlkL wq pM (u64s (mostN p power)) 120 ∧ Chg none w wq) (fun s10 _ => power - (intOf s10).toNat)
      case atStart => exact ⟨1, d, by omega, by omega, rfl, HDD, Lib.hid (by rw [HDV.out, Nat.pow_one]), bY4, bD4, bM4, g04⟩
      case round =>
        obtain ⟨j, y, hj1, hj2, rfl, HYD, HYV, bY, bD, bM, gj⟩ := hrel
        clear bY4 bD4 bM4 g04
        by_cases hlt2 : j < power
        · have HTM := Lib.hid (fun v => times_any y d HYD.out HDD.out v)
          have rY := Lib.hid (show wr.rangeAt pY 0 (u64s y) from Blk.range bY)
          have rD := Lib.hid (show wr.rangeAt pD 0 (u64s d) from Blk.range bD)
          have HILy := Lib.hid (u64s_infoL y HYD.out.1)
          have HYS := Lib.hid (fun o (h : Dig o) => u64s_size y o HYD.out.1 h.1)
          go_wp2_with (first
            | (refine wpList_load_mid rfl 120 (.tmp 9) rfl pY 0 rfl (u64s y) _ rY.out Tryd.underlying120 rfl HILy.out ?_)
            | (refine wpList_load_mid rfl 120 (.tmp 8) rfl pD 0 rfl (u64s d) _ rD.out Tryd.underlying120 rfl HIL.out ?_))
          refine (HTM.out _).mono ?_
          rintro e w5 ⟨y2, hy2, hv2, rfl, g5⟩
          have HY2 := Lib.hid hy2
          have bY5 := Blk.chg bY g5 (by simp)
          have HI2 := Lib.hid (u64s_info y2 hy2.1)
          have HS2 := Lib.hid (HYS.out y2 hy2)
          have HO2 := Lib.hid (u64s_one y2)
          have hvv : val y2 = X ^ (j + 1) := by rw [hv2, HYV.out, HDV.out, ← Nat.pow_succ]; exact Nat.mod_eq_of_lt (pow_small hX2 (by omega))
          have HVV := Lib.hid hvv
          clear hy2 hv2 hvv rY rD HTM
          go_wp2_with (refine wpList_store_row rfl 120 _ _ rfl pY (u64s y2).toArray rfl rfl 120 _ bY5 HI2.out HS2.out HO2.out ?_)
          have bY6 : BlkL (w5.setRow pY (u64s y2).toArray) pY (u64s y2) 120 := setRow_heap _ _ _ _ _ _ bY5
          have g6 : Chg none w (w5.setRow pY (u64s y2).toArray) := Chg.own (b := pY) (gj.trans g5) (chg_setRow _ _ _) zY
          have bD6 : BlkL (w5.setRow pY (u64s y2).toArray) pD (u64s d) 120 := Blk.chg (Blk.chg bD g5 (by simp)) (chg_setRow _ pY _) (by simpa using hDY)
          have bM6 : BlkL (w5.setRow pY (u64s y2).toArray) pM (u64s (mostN p power)) 120 := Blk.chg (Blk.chg bM g5 (by simp)) (chg_setRow _ pY _) (by simpa using hMY)
          go_roundw
          case rel => exact ⟨j + 1, y2, by omega, by omega, by go_num, HY2, HVV, bY6, bD6, bM6, g6⟩
          case measure => first | (simp [intOf]; done) | (simp [intOf]; omega)
        · have hjp : j = power := by omega
          subst hjp
          have HAB0 := above_any y (mostN p j) HYD.out HMD.out
          rw [HMV.out, HYV.out] at HAB0
          have HAB := Lib.hid HAB0
          have rY := Lib.hid (show wr.rangeAt pY 0 (u64s y) from Blk.range bY)
          have rM := Lib.hid (show wr.rangeAt pM 0 (u64s (mostN p j)) from Blk.range bM)
          have HILy := Lib.hid (u64s_infoL y HYD.out.1)
          have HILm := Lib.hid (u64s_infoL (mostN p j) HMD.out.1)
          have hbh : ((bt / 2 : Nat) : Int) = (bt : Int) / 2 := by omega
          have HBH := Lib.hid hbh
          clear HAB0 hbh
          by_cases hab : p * 65536 ^ (2 * j) < X ^ j
          · have hd1 : decide (p * 65536 ^ (2 * j) < X ^ j) = true := by simpa using hab
            have hr := HRX.out
            rw [if_pos hab] at hr
            rw [hd1] at HAB
            have HR := Lib.hid hr
            clear hr hd1 hab HRX
            go_wp2_with (first
              | (refine wpList_load_mid rfl 120 (.tmp 9) rfl pY 0 rfl (u64s y) _ rY.out Tryd.underlying120 rfl HILy.out ?_)
              | (refine wpList_load_mid rfl 120 (.tmp 5) rfl pM 0 rfl (u64s (mostN p j)) _ rM.out Tryd.underlying120 rfl HILm.out ?_))
            refine (HAB.out _).mono ?_
            rintro e w5 ⟨rfl, g5⟩
            have bM5 := Blk.chg bM g5 (by simp)
            have g05 := gj.trans g5
            go_wp2_with fail
            go_roundw
            case rel => exact ⟨k + 1, by omega, by rw [HR.out], by rw [← HHALF.out, HBH.out], bM5, g05⟩
            case measure => simp only [intOf]; omega
          · have hd1 : decide (p * 65536 ^ (2 * j) < X ^ j) = false := by simpa using hab
            have hr := HRX.out
            rw [if_neg hab] at hr
            rw [hd1] at HAB
            have HR := Lib.hid hr
            have hXi : (x : Int) + (bt : Int) = (X : Int) := by have := HX.out; omega
            clear hr hd1 hab HRX
            go_wp2_with (first
              | (refine wpList_load_mid rfl 120 (.tmp 9) rfl pY 0 rfl (u64s y) _ rY.out Tryd.underlying120 rfl HILy.out ?_)
              | (refine wpList_load_mid rfl 120 (.tmp 5) rfl pM 0 rfl (u64s (mostN p j)) _ rM.out Tryd.underlying120 rfl HILm.out ?_))
            refine (HAB.out _).mono ?_
            rintro e w5 ⟨rfl, g5⟩
            have bM5 := Blk.chg bM g5 (by simp)
            have g05 := gj.trans g5
            go_wp2_with fail
            go_roundw
            case rel => exact ⟨k + 1, by omega, by rw [HR.out], by rw [← HHALF.out, HBH.out], bM5, g05⟩
            case measure => simp only [intOf]; omega
    · have hk38 : k = 38 := by omega
      subst hk38
      have hb0 := bit_end
      rw [hb0]
      have hr : ((rootV p power : Nat) : Int) = (rootX p power 38 : Int) % 4294967296 := by unfold rootV; omega
      have HR := Lib.hid hr
      have hrl : rootX p power 38 < 4294967296 * 64 := by have := rootX_le p power 38 (Nat.le_refl _); omega
      clear hb0 hr
      generalize rootX p power 38 = x at *
      have hrm : (0 : Int) ≤ (x : Int) % 4294967296 ∧ (x : Int) % 4294967296 < 4294967296 := by omega
      have hm1 := hrm.1
      have hm2 := hrm.2
      clear hrm
      go_wp2_with fail
      go_ret
      exact ⟨by rw [HR.out]; rfl, gk⟩

end Go.Proofs.YtkcammaccgkflaaDoor

namespace Go.Proofs.YtkcammaccgkflaaDoor
open Go.RowKit

set_option maxHeartbeats 2000000 in
theorem prime_any (n : Nat) (hn : n ≤ 1000) (w : World) : Calls Tryd.prog 82 #[.int .i64 n] w fun e w' => e = .returned (.bool (primeB n)) ∧ w = w' := by
  go_enter Tryd.func82, Tryd.ntmps82
  go_wp2_with fail
  go_loop [3] (fun s3 => ∃ k : Nat, 2 ≤ k ∧ k ≤ n + 2 ∧ s3 = .int .i64 k ∧ Hid (∀ j, 2 ≤ j → j < k → n % j ≠ 0)) (fun s3 => n + 2 - (intOf s3).toNat)
  case atStart => exact ⟨2, by omega, by omega, rfl, fun j h1 h2 => by omega⟩
  case round =>
    obtain ⟨k, hk2, hkn, rfl, HD⟩ := hrel
    have hkk : k * k ≤ 1002 * 1002 := Nat.mul_le_mul (by omega) (by omega)
    have hki : ((k * k : Nat) : Int) = (k : Int) * (k : Int) := by simp
    have hk1 : (k : Int) * (k : Int) ≤ 1004004 := by omega
    have hk3 : (0 : Int) ≤ (k : Int) * (k : Int) := by omega
    have hk4 : ¬ (k : Int) = 0 := by omega
    have hk5 : ((k : Int) == 0) = false := by simp; omega
    have hk6 : (0 : Int) < (k : Int) := by omega
    by_cases hle : k * k ≤ n
    · have t1 : decide ((k : Int) * (k : Int) ≤ (n : Int)) = true := by simp; omega
      have hlk : k ≤ k * k := Nat.le_mul_of_pos_left k (by omega)
      by_cases hd : n % k = 0
      · have hr := prime_no hk2 hle hd
        have HR := Lib.hid hr
        have t2 : (((n : Int) % (k : Int)) == 0) = true := by simp; omega
        clear hki hd hr hle
        go_wp2_with fail
        go_ret
        exact ⟨ret_bool HR.out.symm, rfl⟩
      · have t2 : (((n : Int) % (k : Int)) == 0) = false := by simp; omega
        have HD2 : Hid (∀ j, 2 ≤ j → j < k + 1 → n % j ≠ 0) := fun j h1 h2 => by
          by_cases e : j = k
          · rw [e]; exact hd
          · exact HD.out j h1 (by omega)
        clear hki hd
        go_wp2_with fail
        go_round
        case rel => exact ⟨k + 1, by omega, by omega, by go_num, HD2⟩
        case measure => simp [intOf]; omega
    · have t1 : decide ((k : Int) * (k : Int) ≤ (n : Int)) = false := by simp; omega
      have hr := prime_yes (by omega) HD.out
      have HR := Lib.hid hr
      clear hki hr hle HD
      go_wp2_with fail
      go_ret
      exact ⟨ret_bool (by rw [HR.out]; simp; omega), rfl⟩

def ints (L : List Nat) : List Value := L.map fun (v : Nat) => Value.int .i64 (v : Int)
theorem ints_len (L : List Nat) : (ints L).length = L.length := by simp [ints]
theorem Tryd.info3 : (Tryd.prog.info? 3).map (fun i => (i.zero, i.size, i.bytes)) = some (some (.int .i64 0), 1, 8) := by kernel_rfl
theorem reads_int (w : World) (x : Nat) : Reads (w.alloc (.cells #[.int .i64 x] 3)) (w.alloc (.cells #[.int .i64 x] 3)).heap.size 1 (some ⟨w.heap.size, 0, none⟩) 1 (ints [x]) :=
  ⟨rfl, fun _ => ⟨_, rfl, by simp, fun j u hu => by
    match j, hu with
    | 0, hu =>
      simp only [ints, List.map_cons, List.map_nil, List.getElem?_cons_zero, Option.some.injEq] at hu
      subst hu
      rw [Go.WideShapes.add_plain, Nat.zero_add, (Blk.new w _ 3).cell]; rfl⟩⟩
theorem ints_one (L : List Nat) : ∀ v ∈ ints L, v.oneCell' = true := by
  intro v hv
  obtain ⟨x, _, rfl⟩ := List.mem_map.1 hv
  rfl

def PrimesPost (w : World) (e : Ending) (w' : World) : Prop :=
  ∃ A c, e = .returned (.slice A 64 c) ∧ w'.ownsRow w.heap.size 3 1 (.slice A 64 c) 64 (ints (primesB 312)) ∧ Chg none w w'

set_option maxHeartbeats 4000000 in
theorem primes_any (w : World) : Calls Tryd.prog 60 #[.int .i64 64] w (PrimesPost w) := by
  obtain ⟨i0, hi0, hz0, hz1, hz2⟩ := info_parts Tryd.info3
  have h2 : primesB 2 = [] := by decide
  have HOWN0 : Hid (w.ownsRow w.heap.size 3 1 (.slice none 0 0) (primesB 2).length (ints (primesB 2))) := by
    show World.ownsRow _ _ _ _ _ _ _
    rw [h2]; exact World.ownsRow_nil _ _ _ _
  have HFEW := Lib.hid primes_few
  have HALL := Lib.hid primes_all
  clear h2
  go_enter Tryd.func60, Tryd.ntmps60
  go_wp2_with fail
  go_loopw [3, 4] (fun s3 s4 wr => ∃ n J : Nat, 2 ≤ n ∧ n ≤ 312 ∧ s4 = .int .i64 n ∧ Hid (J = (primesB n).length) ∧ wr.ownsRow w.heap.size 3 1 s3 J (ints (primesB n)) ∧ Chg none w wr) (fun _ s4 _ => 312 - (intOf s4).toNat)
  case atStart => exact ⟨2, (primesB 2).length, by omega, by omega, rfl, rfl, HOWN0.out, Chg.refl _ _⟩
  case round =>
    obtain ⟨n, J, hn2, hn3, rfl, HJ, hown, gn⟩ := hrel
    obtain ⟨A3, c3, rfl⟩ := own_slice hown
    clear HOWN0
    by_cases hlt : n < 312
    · have hJ64 : J < 64 := by rw [HJ.out]; exact HFEW.out n hlt
      have t1 : decide ((J : Int) < 64) = true := by simp; omega
      have HP := Lib.hid (fun v => prime_any n (by omega) v)
      have hsu := primes_succ n
      by_cases hp : primeB n = true
      · rw [if_pos hp] at hsu
        rw [hp] at HP
        have HS : Hid (ints (primesB (n + 1)) = ints (primesB n) ++ ints [n]) := by show _ = _; rw [hsu]; simp [ints]
        have HL : Hid (J + 1 = (primesB (n + 1)).length) := by show _ = _; rw [hsu, List.length_append, ← HJ.out]; rfl
        have HRI := Lib.hid (reads_int wr n)
        have HO := Lib.hid (ints_one [n])
        have HOWN := Lib.hid hown
        clear hsu hp hown
        go_wp2_with fail
        refine (HP.out _).mono ?_
        rintro e w' ⟨rfl, rfl⟩
        go_wp2_with (at_builtin; refine wpList_append_any _ rfl (.tmp 13) (.tmp 15) 89 rfl w.heap.size 3 i0 (.int .i64 0) 1 8 Tryd.underlying89 hi0 hz0 hz1 hz2 rfl (by decide) _ J (ints (primesB n)) rfl (HOWN.out.alloc _) _ (some ⟨wr.heap.size, 0, none⟩) 1 1 (ints [n]) rfl HRI.out HO.out (by unfold maxLen; omega) (by omega) (by have := gn.size; simp; omega) ?_)
        intro v6 w6 hown6 hgr6 _
        rw [← HS.out] at hown6
        have g6 : Chg none w w6 := own_chg (gn.alloc (.cells #[.int .i64 n] 3)) (HOWN.out.alloc _) (Nat.le_refl _) hgr6
        have HOWN6 := Lib.hid hown6
        clear hown6 hgr6 HRI HOWN
        go_wp2_with fail
        go_roundw
        case rel => exact ⟨n + 1, J + 1, by omega, by omega, by go_num, HL, HOWN6.out, g6⟩
        case measure => first | (simp [intOf]; done) | (simp [intOf]; omega)
      · have hp' : primeB n = false := by simpa using hp
        rw [if_neg hp, List.append_nil] at hsu
        rw [hp'] at HP
        have HS : Hid (primesB (n + 1) = primesB n) := hsu
        clear hsu hp hp'
        go_wp2_with fail
        refine (HP.out _).mono ?_
        rintro e w' ⟨rfl, rfl⟩
        go_wp2_with fail
        go_roundw
        case rel => exact ⟨n + 1, J, by omega, by omega, by go_num, by show _ = _; rw [HS.out]; exact HJ.out, by rw [HS.out]; exact hown, gn⟩
        case measure => first | (simp [intOf]; done) | (simp [intOf]; omega)
    · obtain rfl : n = 312 := by omega
      obtain rfl : J = 64 := HJ.out.trans HALL.out
      clear HJ HFEW HALL
      go_wp2_with fail
      go_ret
      exact ⟨A3, c3, rfl, hown, gn⟩

end Go.Proofs.YtkcammaccgkflaaDoor

namespace Go.Proofs.YtkcammaccgkflaaDoor
open Go.RowKit

theorem results_two_rows {fn : Func} {p q : Tmp} {ty uy : TypeId} (h : fn.results = #[.cell p ty, .cell q uy]) (tmps : Array Value) (P : Program) (w : World) (g k : Nat) (cs ds : List Value) (d e : TypeDesc)
    (hp : tmps.getD p undef = .pointer (some ⟨g, 0, none⟩)) (hg : w.rangeAt g 0 cs) (hu : P.underlying ty = some d) (hd : d.isRow = true) (hi : (P.info? ty).map (·.size) = some cs.length)
    (hq : tmps.getD q undef = .pointer (some ⟨k, 0, none⟩)) (hk : w.rangeAt k 0 ds) (hu' : P.underlying uy = some e) (hd' : e.isRow = true) (hi' : (P.info? uy).map (·.size) = some ds.length) :
    (results fn tmps).run P w = .ok (.tuple #[.agg cs.toArray, .agg ds.toArray]) w := by
  have hp' : tmps[p]?.getD undef = .pointer (some ⟨g, 0, none⟩) := by simpa using hp
  have hq' : tmps[q]?.getD undef = .pointer (some ⟨k, 0, none⟩) := by simpa using hq
  simp [results, h, hp', hq', asAddr, run_loadVar_mid w g 0 ty cs d hg hu hd hi, run_loadVar_mid w k 0 uy ds e hk hu' hd' hi']

def fillTo (L : List Int) (i : Nat) : List Value := (L.take i).map u32v ++ List.replicate (L.length - i) (.int .u32 0)
theorem fillTo_zero (L : List Int) : fillTo L 0 = List.replicate L.length (.int .u32 0) := by simp [fillTo]
theorem fillTo_all (L : List Int) : fillTo L L.length = L.map u32v := by unfold fillTo; rw [List.take_length, Nat.sub_self]; simp
theorem fillTo_at (L : List Int) (i : Nat) (h : i < L.length) : (fillTo L i)[i]? = some (.int .u32 0) := by
  unfold fillTo
  rw [List.getElem?_append_right (by simp; omega), List.length_map, List.length_take, Nat.min_eq_left (by omega), Nat.sub_self, show L.length - i = (L.length - (i + 1)) + 1 by omega, List.replicate_succ]; rfl
theorem fillTo_set (L : List Int) (i : Nat) (h : i < L.length) : (fillTo L i).set i (u32v (L.getD i 0)) = fillTo L (i + 1) := by
  unfold fillTo
  have hl : ((L.take i).map u32v).length = i := by rw [List.length_map, List.length_take]; omega
  rw [List.set_append_right _ _ (by omega), hl, Nat.sub_self, show L.length - i = (L.length - (i + 1)) + 1 by omega, List.replicate_succ, List.set_cons_zero, List.take_succ_eq_append_getElem h, List.map_append, List.append_assoc,
    List.getD_eq_getElem?_getD, List.getElem?_eq_getElem h]
  rfl

def WordsPost (w : World) (e : Ending) (w' : World) : Prop := e = .returned (.tuple #[.agg (H0.map u32v).toArray, .agg (K0.map u32v).toArray]) ∧ Chg none w w'

theorem own_int_cell {w : World} {base n c : Nat} {A : Option Addr} {L : List Nat} (h : w.ownsRow base 3 1 (.slice A n c) n (ints L)) (hn : 0 < n) : ∃ g, A = some ⟨g, 0, none⟩ ∧ g < w.heap.size ∧ w.rangeAt g 0 (ints L) := by
  obtain ⟨g, cap, hv, _, hlt⟩ := h.form hn
  have hA : A = some ⟨g, 0, none⟩ := by injection hv
  subst hA
  refine ⟨g, rfl, hlt, fun j v hv => ?_⟩
  have := h.cells (g := g) rfl j v hv
  rwa [Go.WideShapes.add_plain] at this

set_option maxRecDepth 100000 in
set_option maxHeartbeats 8000000 in
theorem words_any (w : World) : Calls Tryd.prog 22 #[] w (WordsPost w) := by
  obtain ⟨W4, hW4⟩ : ∃ W4, W4 = (((w.alloc (.cells (fillTo H0 0).toArray 25)).alloc (.cells (fillTo K0 0).toArray 26)).alloc (.cells (fillTo H0 0).toArray 25)).alloc (.cells (fillTo K0 0).toArray 26) := ⟨_, rfl⟩
  have HW4 : Hid ((((w.alloc (.cells #[Value.int IntKind.u32 0, Value.int IntKind.u32 0, Value.int IntKind.u32 0, Value.int IntKind.u32 0, Value.int IntKind.u32 0, Value.int IntKind.u32 0, Value.int IntKind.u32 0, Value.int IntKind.u32 0] 25)).alloc (.cells #[Value.int IntKind.u32 0, Value.int IntKind.u32 0, Value.int IntKind.u32 0, Value.int IntKind.u32 0, Value.int IntKind.u32 0, Value.int IntKind.u32 0, Value.int IntKind.u32 0, Value.int IntKind.u32 0, Value.int IntKind.u32 0, Value.int IntKind.u32 0, Value.int IntKind.u32 0, Value.int IntKind.u32 0, Value.int IntKind.u32 0, Value.int IntKind.u32 0, Value.int IntKind.u32 0, Value.int IntKind.u32 0, Value.int IntKind.u32 0, Value.int IntKind.u32 0, Value.int IntKind.u32 0, Value.int IntKind.u32 0, Value.int IntKind.u32 0, Value.int IntKind.u32 0, Value.int IntKind.u32 0, Value.int IntKind.u32 0, Value.int IntKind.u32 0, Value.int IntKind.u32 0, Value.int IntKind.u32 0, Value.int IntKind.u32 0, Value.int IntKind.u32 0, Value.int IntKind.u32 0, Value.int IntKind.u32 0, Value.int IntKind.u32 0, Value.int IntKind.u32 0, Value.int IntKind.u32 0, Value.int IntKind.u32 0, Value.int IntKind.u32 0, Value.int IntKind.u32 0, Value.int IntKind.u32 0, Value.int IntKind.u32 0, Value.int IntKind.u32 0, Value.int IntKind.u32 0, Value.int IntKind.u32 0, Value.int IntKind.u32 0, Value.int IntKind.u32 0, Value.int IntKind.u32 0, Value.int IntKind.u32 0, Value.int IntKind.u32 0, Value.int IntKind.u32 0, Value.int IntKind.u32 0, Value.int IntKind.u32 0, Value.int IntKind.u32 0, Value.int IntKind.u32 0, Value.int IntKind.u32 0, Value.int IntKind.u32 0, Value.int IntKind.u32 0, Value.int IntKind.u32 0, Value.int IntKind.u32 0, Value.int IntKind.u32 0, Value.int IntKind.u32 0, Value.int IntKind.u32 0, Value.int IntKind.u32 0, Value.int IntKind.u32 0, Value.int IntKind.u32 0, Value.int IntKind.u32 0] 26)).alloc (.cells #[Value.int IntKind.u32 0, Value.int IntKind.u32 0, Value.int IntKind.u32 0, Value.int IntKind.u32 0, Value.int IntKind.u32 0, Value.int IntKind.u32 0, Value.int IntKind.u32 0, Value.int IntKind.u32 0] 25)).alloc (.cells #[Value.int IntKind.u32 0, Value.int IntKind.u32 0, Value.int IntKind.u32 0, Value.int IntKind.u32 0, Value.int IntKind.u32 0, Value.int IntKind.u32 0, Value.int IntKind.u32 0, Value.int IntKind.u32 0, Value.int IntKind.u32 0, Value.int IntKind.u32 0, Value.int IntKind.u32 0, Value.int IntKind.u32 0, Value.int IntKind.u32 0, Value.int IntKind.u32 0, Value.int IntKind.u32 0, Value.int IntKind.u32 0, Value.int IntKind.u32 0, Value.int IntKind.u32 0, Value.int IntKind.u32 0, Value.int IntKind.u32 0, Value.int IntKind.u32 0, Value.int IntKind.u32 0, Value.int IntKind.u32 0, Value.int IntKind.u32 0, Value.int IntKind.u32 0, Value.int IntKind.u32 0, Value.int IntKind.u32 0, Value.int IntKind.u32 0, Value.int IntKind.u32 0, Value.int IntKind.u32 0, Value.int IntKind.u32 0, Value.int IntKind.u32 0, Value.int IntKind.u32 0, Value.int IntKind.u32 0, Value.int IntKind.u32 0, Value.int IntKind.u32 0, Value.int IntKind.u32 0, Value.int IntKind.u32 0, Value.int IntKind.u32 0, Value.int IntKind.u32 0, Value.int IntKind.u32 0, Value.int IntKind.u32 0, Value.int IntKind.u32 0, Value.int IntKind.u32 0, Value.int IntKind.u32 0, Value.int IntKind.u32 0, Value.int IntKind.u32 0, Value.int IntKind.u32 0, Value.int IntKind.u32 0, Value.int IntKind.u32 0, Value.int IntKind.u32 0, Value.int IntKind.u32 0, Value.int IntKind.u32 0, Value.int IntKind.u32 0, Value.int IntKind.u32 0, Value.int IntKind.u32 0, Value.int IntKind.u32 0, Value.int IntKind.u32 0, Value.int IntKind.u32 0, Value.int IntKind.u32 0, Value.int IntKind.u32 0, Value.int IntKind.u32 0, Value.int IntKind.u32 0, Value.int IntKind.u32 0] 26) = W4) := hW4.symm
  have g0 : Chg none w W4 := by rw [hW4]; exact ((((Chg.refl _ _).alloc _).alloc _).alloc _).alloc _
  have bR0 : BlkL W4 w.heap.size (fillTo H0 0) 25 := by rw [hW4]; exact Blk.alloc (Blk.alloc (Blk.alloc (Blk.new _ _ _) _) _) _
  have bR1 : BlkL W4 (w.heap.size + 1) (fillTo K0 0) 26 := by rw [hW4]; exact Blk.alloc (Blk.alloc (Blk.newAt _ _ (by simp)) _) _
  have bH : BlkL W4 (w.heap.size + 1 + 1) (fillTo H0 0) 25 := by rw [hW4]; exact Blk.alloc (Blk.newAt _ _ (by simp)) _
  have bK : BlkL W4 (w.heap.size + 1 + 1 + 1) (fillTo K0 0) 26 := by rw [hW4]; exact Blk.newAt _ _ (by simp)
  have hRH : w.heap.size < w.heap.size + 1 + 1 := by omega
  have hRK : w.heap.size + 1 < w.heap.size + 1 + 1 + 1 := by omega
  have hR01 : w.heap.size < w.heap.size + 1 := by omega
  have hR1H : w.heap.size + 1 < w.heap.size + 1 + 1 := by omega
  have hHK : w.heap.size + 1 + 1 < w.heap.size + 1 + 1 + 1 := by omega
  have hle : w.heap.size ≤ w.heap.size := Nat.le_refl _
  have HPR := Lib.hid (primes_any W4)
  have HRW3 := Lib.hid (fun i v => rootw_any ((primesB 312).getD i 0) 3 (by
    by_cases h : i < (primesB 312).length
    · rw [List.getD_eq_getElem?_getD, List.getElem?_eq_getElem h]; have := primes_lt 312 _ (List.getElem_mem h); simp; omega
    · rw [List.getD_eq_getElem?_getD, List.getElem?_eq_none (by omega)]; decide) (by decide) (by decide) v)
  have HRW2 := Lib.hid (fun i v => rootw_any ((primesB 312).getD i 0) 2 (by
    by_cases h : i < (primesB 312).length
    · rw [List.getD_eq_getElem?_getD, List.getElem?_eq_getElem h]; have := primes_lt 312 _ (List.getElem_mem h); simp; omega
    · rw [List.getD_eq_getElem?_getD, List.getElem?_eq_none (by omega)]; decide) (by decide) (by decide) v)
  have HPL := Lib.hid primes_all
  obtain ⟨PL, hPL⟩ : ∃ PL, PL = primesB 312 := ⟨_, rfl⟩
  have HK := Lib.hid roots_K
  have HH := Lib.hid roots_H
  unfold PrimesPost at HPR
  rw [← hPL] at HPR HRW3 HRW2 HPL HK HH
  clear hW4 hPL
  go_enter Tryd.func22, Tryd.ntmps22
  go_wp2_with fail
  rw [HW4.out]
  clear HW4
  generalize w.heap.size + 1 + 1 + 1 = pK at *
  generalize w.heap.size + 1 + 1 = pH at *
  generalize w.heap.size + 1 = pR1 at *
  generalize hpR : w.heap.size = pR0 at *
  have HPR0 := Lib.hid hpR
  clear hpR
  have HPR' := Lib.hid (show Calls Tryd.prog 60 #[.int .i64 64] W4 (fun e w' => ∃ A c, e = .returned (.slice A 64 c) ∧ w'.ownsRow W4.heap.size 3 1 (.slice A 64 c) 64 (ints PL) ∧ Chg none W4 w') from HPR.out)
  refine HPR'.out.mono ?_
  rintro e w1 ⟨A4, c4, rfl, hown, g1⟩
  obtain ⟨pp, rfl, hpp, rP⟩ := own_int_cell hown (by decide)
  have g01 := g0.trans g1
  have bR01 := Blk.chg bR0 g1 (by simp)
  have bR11 := Blk.chg bR1 g1 (by simp)
  have bH1 := Blk.chg bH g1 (by simp)
  have bK1 := Blk.chg bK g1 (by simp)
  have hppn : pK < pp := by have := (hown.lt pp rfl).1; have := Blk.lt bK; omega
  have HRP := Lib.hid rP
  clear hown HPR HPR' bR0 bR1 bH bK g0 g1 rP
  go_wp2_with fail
  go_loopw [5] (fun s5 wr => ∃ i : Nat, i ≤ 64 ∧ s5 = .int .i64 i ∧ BlkL wr pK (fillTo K0 i) 26 ∧ BlkL wr pH (fillTo H0 (min i 8)) 25 ∧ BlkL wr pR0 (fillTo H0 0) 25 ∧ BlkL wr pR1 (fillTo K0 0) 26 ∧ Hid (wr.rangeAt pp 0 (ints PL)) ∧ Chg none w wr) (fun s5 _ => 64 - (intOf s5).toNat)
  case atStart => exact ⟨0, by omega, rfl, bK1, bH1, bR01, bR11, HRP, g01⟩
  case round =>
    obtain ⟨i, hi, rfl, bK, bH, bR0, bR1, HRPi, gi⟩ := hrel
    clear bK1 bH1 bR01 bR11 HRP g01
    by_cases hlt : i < 64
    · have rP := HRPi.out
      have hgi : i < PL.length := by rw [HPL.out]; exact hlt
      have cP : wr.cell? ⟨pp, i, none⟩ = some (.int .i64 ((PL.getD i 0 : Nat) : Int)) := by
        have := rP i _ (by unfold ints; rw [List.getElem?_map, List.getElem?_eq_getElem hgi]; rfl)
        rw [Nat.zero_add] at this
        rw [this, List.getD_eq_getElem?_getD, List.getElem?_eq_getElem hgi]; rfl
      have C3 := Lib.hid (fun v => HRW3.out i v)
      have C2 := Lib.hid (fun v => HRW2.out i v)
      have hk3 := HK.out i hlt
      rw [hk3] at C3
      have hsetK := fillTo_set K0 i hlt
      have hatK := fillTo_at K0 i hlt
      have HSK := Lib.hid hsetK
      have HAK := Lib.hid hatK
      have hp64 : (i : Int) < 64 := by omega
      obtain ⟨kk, hkk⟩ : ∃ kk, kk = K0.getD i 0 := ⟨_, rfl⟩
      rw [← hkk] at C3 HSK
      have HRPI := HRPi
      by_cases h8 : i < 8
      · have hh2 := HH.out i h8
        rw [hh2] at C2
        have e8 : min i 8 = i := by omega
        have e9 : min (i + 1) 8 = i + 1 := by omega
        rw [e8] at bH
        have hsetH := fillTo_set H0 i h8
        have hatH := fillTo_at H0 i h8
        have HSH := Lib.hid hsetH
        have HAH := Lib.hid hatH
        obtain ⟨hhv, hhh⟩ : ∃ hhv, hhv = H0.getD i 0 := ⟨_, rfl⟩
        rw [← hhh] at C2 HSH
        have E9 := Lib.hid e9
        have t8 : decide ((i : Int) < 8) = true := by simp; omega
        have i8 : (i : Int) < 8 := by omega
        generalize PL.getD i 0 = pi at *
        clear hk3 hsetK hatK hkk hh2 e8 e9 hsetH hatH hhh rP
        go_wp2_with fail
        refine (C3.out _).mono ?_
        rintro e w5 ⟨rfl, g5⟩
        have bK5 := Blk.chg bK g5 (by simp)
        have bH5 := Blk.chg bH g5 (by simp)
        have cK5 : w5.cell? ⟨pK, i, none⟩ = some (.int .u32 0) := by rw [BlkL.cell bK5]; exact HAK.out
        have fK5 := Blk.frozen bK5 i
        have lK5 := Blk.lt bK5
        have bK6 : BlkL (w5.setCell ⟨pK, i, none⟩ (.int .u32 kk)) pK (fillTo K0 (i + 1)) 26 := by
          have := BlkL.set bK5 i (u32v kk)
          rwa [HSK.out] at this
        have bH6 : BlkL (w5.setCell ⟨pK, i, none⟩ (.int .u32 kk)) pH (fillTo H0 i) 25 := Blk.setOther bH5 _ _ (by show pH ≠ pK; omega)
        have bR06 : BlkL (w5.setCell ⟨pK, i, none⟩ (.int .u32 kk)) pR0 (fillTo H0 0) 25 := Blk.setOther (Blk.chg bR0 g5 (by simp)) _ _ (by show pR0 ≠ pK; omega)
        have bR16 : BlkL (w5.setCell ⟨pK, i, none⟩ (.int .u32 kk)) pR1 (fillTo K0 0) 26 := Blk.setOther (Blk.chg bR1 g5 (by simp)) _ _ (by show pR1 ≠ pK; omega)
        have g6 : Chg none w (w5.setCell ⟨pK, i, none⟩ (.int .u32 kk)) := (gi.trans g5).setNew _ (by show w.heap.size ≤ pK; rw [HPR0.out]; omega) _
        have cP6 : (w5.setCell ⟨pK, i, none⟩ (.int .u32 kk)).cell? ⟨pp, i, none⟩ = some (.int .i64 (pi : Int)) := by
          rw [World.cell?_setCell_other _ _ _ _ (by intro e; injection e with e1; omega)]
          exact World.grownBy.cell g5 cP (by simp)
        have HRP6 : Hid ((w5.setCell ⟨pK, i, none⟩ (.int .u32 kk)).rangeAt pp 0 (ints PL)) := fun j v hv => by
          rw [World.cell?_setCell_other _ _ _ _ (by intro e; injection e with e1; omega)]
          exact World.grownBy.cell g5 (HRPI.out j v hv) (by simp)
        clear cP bK bH bR0 bR1 bH5 gi g5 HRPi HRPI
        go_upto_region 8 with (fail)
        generalize w5.setCell ⟨pK, i, none⟩ (.int .u32 kk) = v6 at *
        clear cK5 fK5 lK5 bK5
        go_wp2_with fail
        refine (C2.out _).mono ?_
        rintro e w7 ⟨rfl, g7⟩
        have bH7 := Blk.chg bH6 g7 (by simp)
        have cH7 : w7.cell? ⟨pH, i, none⟩ = some (.int .u32 0) := by rw [BlkL.cell bH7]; exact HAH.out
        have fH7 := Blk.frozen bH7 i
        have lH7 := Blk.lt bH7
        have bH8 : BlkL (w7.setCell ⟨pH, i, none⟩ (.int .u32 hhv)) pH (fillTo H0 (min (i + 1) 8)) 25 := by
          have := BlkL.set bH7 i (u32v hhv)
          rw [HSH.out] at this
          rw [E9.out]; exact this
        have bK8 : BlkL (w7.setCell ⟨pH, i, none⟩ (.int .u32 hhv)) pK (fillTo K0 (i + 1)) 26 := Blk.setOther (Blk.chg bK6 g7 (by simp)) _ _ (by show pK ≠ pH; omega)
        have bR08 : BlkL (w7.setCell ⟨pH, i, none⟩ (.int .u32 hhv)) pR0 (fillTo H0 0) 25 := Blk.setOther (Blk.chg bR06 g7 (by simp)) _ _ (by show pR0 ≠ pH; omega)
        have bR18 : BlkL (w7.setCell ⟨pH, i, none⟩ (.int .u32 hhv)) pR1 (fillTo K0 0) 26 := Blk.setOther (Blk.chg bR16 g7 (by simp)) _ _ (by show pR1 ≠ pH; omega)
        have g8 : Chg none w (w7.setCell ⟨pH, i, none⟩ (.int .u32 hhv)) := (g6.trans g7).setNew _ (by show w.heap.size ≤ pH; rw [HPR0.out]; omega) _
        have HRP8 : Hid ((w7.setCell ⟨pH, i, none⟩ (.int .u32 hhv)).rangeAt pp 0 (ints PL)) := fun j v hv => by
          rw [World.cell?_setCell_other _ _ _ _ (by intro e; injection e with e1; omega)]
          exact World.grownBy.cell g7 (HRP6.out j v hv) (by simp)
        clear cP6 bK6 bH6 bR06 bR16 g6 g7 HRP6
        go_wp2_with fail
        go_roundw
        case rel => exact ⟨i + 1, by omega, by go_num, bK8, bH8, bR08, bR18, HRP8, g8⟩
        case measure => first | (simp [intOf]; done) | (simp [intOf]; omega)
      · have e8 : min i 8 = min (i + 1) 8 := by omega
        rw [e8] at bH
        have t8 : decide ((i : Int) < 8) = false := by simp; omega
        generalize PL.getD i 0 = pi at *
        clear hk3 hsetK hatK hkk e8 C2 rP
        go_wp2_with fail
        refine (C3.out _).mono ?_
        rintro e w5 ⟨rfl, g5⟩
        have bK5 := Blk.chg bK g5 (by simp)
        have bH5 := Blk.chg bH g5 (by simp)
        have cK5 : w5.cell? ⟨pK, i, none⟩ = some (.int .u32 0) := by rw [BlkL.cell bK5]; exact HAK.out
        have fK5 := Blk.frozen bK5 i
        have lK5 := Blk.lt bK5
        have bK6 : BlkL (w5.setCell ⟨pK, i, none⟩ (.int .u32 kk)) pK (fillTo K0 (i + 1)) 26 := by
          have := BlkL.set bK5 i (u32v kk)
          rwa [HSK.out] at this
        have bH6 : BlkL (w5.setCell ⟨pK, i, none⟩ (.int .u32 kk)) pH (fillTo H0 (min (i + 1) 8)) 25 := Blk.setOther bH5 _ _ (by show pH ≠ pK; omega)
        have bR06 : BlkL (w5.setCell ⟨pK, i, none⟩ (.int .u32 kk)) pR0 (fillTo H0 0) 25 := Blk.setOther (Blk.chg bR0 g5 (by simp)) _ _ (by show pR0 ≠ pK; omega)
        have bR16 : BlkL (w5.setCell ⟨pK, i, none⟩ (.int .u32 kk)) pR1 (fillTo K0 0) 26 := Blk.setOther (Blk.chg bR1 g5 (by simp)) _ _ (by show pR1 ≠ pK; omega)
        have g6 : Chg none w (w5.setCell ⟨pK, i, none⟩ (.int .u32 kk)) := (gi.trans g5).setNew _ (by show w.heap.size ≤ pK; rw [HPR0.out]; omega) _
        have HRP6 : Hid ((w5.setCell ⟨pK, i, none⟩ (.int .u32 kk)).rangeAt pp 0 (ints PL)) := fun j v hv => by
          rw [World.cell?_setCell_other _ _ _ _ (by intro e; injection e with e1; omega)]
          exact World.grownBy.cell g5 (HRPI.out j v hv) (by simp)
        clear cP bK bH bR0 bR1 bH5 gi g5 HRPi HRPI
        go_wp2_with fail
        go_roundw
        case rel => exact ⟨i + 1, by omega, by go_num, bK6, bH6, bR06, bR16, HRP6, g6⟩
        case measure => first | (simp [intOf]; done) | (simp [intOf]; omega)
    · have hi64 : i = 64 := by omega
      subst hi64
      have e1 : fillTo K0 64 = K0.map u32v := fillTo_all K0
      have e2 : fillTo H0 (min 64 8) = H0.map u32v := fillTo_all H0
      rw [e1] at bK
      rw [e2] at bH
      have HIH : Hid ((Tryd.prog.info? 25).map (·.size) = some (H0.map u32v).length) := by show _ = _; kernel_rfl
      have HIK : Hid ((Tryd.prog.info? 26).map (·.size) = some (K0.map u32v).length) := by show _ = _; kernel_rfl
      have HIHa : Hid ((Tryd.prog.info? 25).map (·.size) = some (H0.map u32v).toArray.size) := by show _ = _; kernel_rfl
      have HIKa : Hid ((Tryd.prog.info? 26).map (·.size) = some (K0.map u32v).toArray.size) := by show _ = _; kernel_rfl
      have HOH : Hid ((H0.map u32v).toArray.all (·.oneCell') = true) := by show _ = _; kernel_rfl
      have HOK : Hid ((K0.map u32v).toArray.all (·.oneCell') = true) := by show _ = _; kernel_rfl
      have hS0 : wr.drew.rangeAt pH 0 (H0.map u32v) ∧ wr.drew.rangeAt pK 0 (K0.map u32v) := ⟨Blk.range bH, Blk.range bK⟩
      have gd := gi.drew
      have bR0' : Blk wr.drew pR0 (fillTo H0 0).toArray 25 := bR0.drew
      have bR1' : Blk wr.drew pR1 (List.replicate 64 (Value.int .u32 0)).toArray 26 := by rw [fillTo_zero] at bR1; exact Blk.drew bR1
      clear bR0 bR1 bK bH gi e1 e2 HRPi HRW3 HRW2 HPL HK HH
      go_wp2_with fail
      refine wp_region_held_drew (S := fun w' => w'.rangeAt pH 0 (H0.map u32v) ∧ w'.rangeAt pK 0 (K0.map u32v)) (by kernel_rfl) hS0 (fun _ => ?_)
      generalize wr.drew = v0 at *
      have bR0 := bR0'
      have bR1 := bR1'
      clear bR0' bR1'
      refine wpAnyH_take (i := 0) (oi := ⟨some 27, _, _, _, _, _⟩) (v := .agg (H0.map u32v).toArray) rfl (by kernel_rfl) (by kernel_rfl) (by kernel_rfl) (fun _ _ _ h => h) (yieldsIf_load_mid (by rfl) 25 _ rfl pH 0 rfl (H0.map u32v) _ (fun _ h => h.1) Tryd.underlying25 rfl HIH.out) (by assumption) ?_
      try simp only [Act.put, List.setIfInBounds_toArray, List.set_cons_zero, List.set_cons_succ]
      refine wpAnyH_take (i := 1) (oi := ⟨some 28, _, _, _, _, _⟩) (v := .agg (K0.map u32v).toArray) rfl (by kernel_rfl) (by kernel_rfl) (by kernel_rfl) (fun _ _ _ h => h) (yieldsIf_load_mid (by rfl) 26 _ rfl pK 0 rfl (K0.map u32v) _ (fun _ h => h.2) Tryd.underlying26 rfl HIK.out) (by assumption) ?_
      try simp only [Act.put, List.setIfInBounds_toArray, List.set_cons_zero, List.set_cons_succ]
      refine wpAnyH_ready (rs := [2]) (by kernel_rfl) (by simp) ?_
      refine AllReadyH.cons (o := ⟨none, _, _, _, _, _⟩) rfl (fun K hK => ?_) (AllReadyH.nil)
      rw [if_pos (by rfl)]
      refine wp_store_row 25 (.tmp 0) (.tmp 27) (by rfl) pR0 (H0.map u32v).toArray (by rfl) (by rfl) 25 _ bR0 HIHa.out (by rfl) HOH.out ?_
      have sA : (v0.setRow pR0 (H0.map u32v).toArray).rangeAt pH 0 (H0.map u32v) ∧ (v0.setRow pR0 (H0.map u32v).toArray).rangeAt pK 0 (K0.map u32v) := ⟨rangeAt_chg hS0.1 (chg_setRow _ pR0 _) (by simp; omega), rangeAt_chg hS0.2 (chg_setRow _ pR0 _) (by simp; omega)⟩
      have bR1' : Blk (v0.setRow pR0 (H0.map u32v).toArray) pR1 (List.replicate 64 (Value.int .u32 0)).toArray 26 := Blk.chg bR1 (chg_setRow _ pR0 _) (by simp; omega)
      have bH' : Blk (v0.setRow pR0 (H0.map u32v).toArray) pR0 (H0.map u32v).toArray 25 := setRow_heap _ _ _ _ _ _ bR0
      refine hK.out _ _ sA (fun _ => ?_)
      clear hK K
      refine wpAnyH_ready (rs := [3]) (by kernel_rfl) (by simp) ?_
      refine AllReadyH.cons (o := ⟨none, _, _, _, _, _⟩) rfl (fun K hK => ?_) (AllReadyH.nil)
      rw [if_pos (by rfl)]
      refine wp_store_row 26 (.tmp 1) (.tmp 28) (by rfl) pR1 (K0.map u32v).toArray (by rfl) (by rfl) 26 _ bR1' HIKa.out (by rfl) HOK.out ?_
      have sB : ((v0.setRow pR0 (H0.map u32v).toArray).setRow pR1 (K0.map u32v).toArray).rangeAt pH 0 (H0.map u32v) ∧ ((v0.setRow pR0 (H0.map u32v).toArray).setRow pR1 (K0.map u32v).toArray).rangeAt pK 0 (K0.map u32v) := ⟨rangeAt_chg sA.1 (chg_setRow _ pR1 _) (by simp; omega), rangeAt_chg sA.2 (chg_setRow _ pR1 _) (by simp; omega)⟩
      refine hK.out _ _ sB (fun _ => ?_)
      clear hK K
      refine wpAnyH_done (by kernel_rfl) ?_ _
      try simp only [Act.put]
      go_wp2_with fail
      have bK' : Blk ((v0.setRow pR0 (H0.map u32v).toArray).setRow pR1 (K0.map u32v).toArray) pR1 (K0.map u32v).toArray 26 := setRow_heap _ _ _ _ _ _ bR1'
      have bH2 : Blk ((v0.setRow pR0 (H0.map u32v).toArray).setRow pR1 (K0.map u32v).toArray) pR0 (H0.map u32v).toArray 25 := Blk.chg bH' (chg_setRow _ pR1 _) (by simp; omega)
      refine bodyPost_ret (results_two_rows (p := 0) (q := 1) (ty := 25) (uy := 26) Tryd.results22 _ _ _ pR0 pR1 (H0.map u32v) (K0.map u32v) _ _ rfl (Blk.range bH2) Tryd.underlying25 rfl HIH.out rfl (Blk.range bK') Tryd.underlying26 rfl HIK.out) rfl ⟨rfl, ?_⟩
      exact Chg.own (b := pR1) (Chg.own (b := pR0) gd (chg_setRow _ _ _) (by rw [HPR0.out]; exact Nat.le_refl _)) (chg_setRow _ _ _) (by rw [HPR0.out]; omega)

end Go.Proofs.YtkcammaccgkflaaDoor

namespace Go.Proofs.YtkcammaccgkflaaDoor
open Go.RowKit

theorem own_emptyB (w : World) : (w.alloc (.cells #[] 5 (0, 0))).ownsRow w.heap.size 5 1 (.slice (some ⟨w.heap.size, 0, none⟩) 0 0) 0 (byteVals []) :=
  ⟨rfl, .inr ⟨w.heap.size, 0, #[], rfl, Nat.le_refl _, heap_alloc_new w _, Nat.le_refl _, by unfold maxLen; decide, rfl, rfl⟩⟩

/-- The text, its one, and so many noughts. -/
def padUp (m : List UInt8) (z : Nat) : List UInt8 := m ++ (128 :: List.replicate z 0)
theorem padUp_len (m : List UInt8) (z : Nat) : (padUp m z).length = m.length + 1 + z := by simp [padUp]; omega
theorem padUp_succ (m : List UInt8) (z : Nat) : padUp m z ++ [0] = padUp m (z + 1) := by
  unfold padUp
  rw [List.append_assoc, List.cons_append, List.replicate_succ']
theorem padUp_all (m : List UInt8) : padUp m (noughts m.length) ++ be 8 (m.length * 8) = padded m := by
  unfold padUp padded padOf padHead
  rw [List.append_assoc]

set_option maxRecDepth 100000 in
set_option maxHeartbeats 4000000 in
theorem padded_any (p : Prt) (w : World) (hp : p.ok w) (hn : p.x.length ≤ 1000000) : Calls Tryd.prog 64 #[.slice p.A p.x.length p.c] w (OwnPost w (padded p.x)) := by
  obtain ⟨i0, hi, hz0, hz1, hz2⟩ := info_parts Tryd.info5
  obtain ⟨m, hm⟩ : ∃ m, m = p.x := ⟨_, rfl⟩
  obtain ⟨n, hn'⟩ : ∃ n, n = m.length := ⟨_, rfl⟩
  have gE : Chg none w (w.alloc (.cells #[] 5 (0, 0))) := (Chg.refl _ _).alloc _
  have HR := Lib.hid (txt_reads (hp.1.chg gE))
  have HOWN := Lib.hid (own_emptyB w)
  have HO := Lib.hid (byteVals_one p.x)
  rw [← hm] at HR HO hn
  rw [← hm]
  rw [← hn'] at HR hn ⊢
  have HN := Lib.hid hn'
  clear hn' hm hp
  go_enter Tryd.func64, Tryd.ntmps64
  go_wp2_with (at_builtin; refine wpList_append_any _ rfl (.tmp 6) (.tmp 7) 22 rfl w.heap.size 5 i0 (.int .u8 0) 1 1 Tryd.underlying22 hi hz0 hz1 hz2 rfl (by decide) _ 0 (byteVals []) rfl HOWN.out _ p.A n p.c (byteVals m) rfl HR.out HO.out (by unfold maxLen; omega) (by omega) gE.size ?_)
  intro v1 w1 hown1 hgr1 _
  have g1 := own_chg gE HOWN.out (Nat.le_refl _) hgr1
  have e1 : byteVals [] ++ byteVals m = byteVals m := rfl
  rw [e1] at hown1
  obtain ⟨A1, c1, rfl⟩ := own_slice hown1
  have HOWN1 := Lib.hid hown1
  have HR1 := Lib.hid (reads_one w1 128)
  have HO1 := Lib.hid (byteVals_one [128])
  clear hown1 hgr1 HOWN HR e1
  go_wp2_with (at_builtin; refine wpList_append_any _ rfl (.tmp 9) (.tmp 10) 22 rfl w.heap.size 5 i0 (.int .u8 0) 1 1 Tryd.underlying22 hi hz0 hz1 hz2 rfl (by decide) _ n (byteVals m) rfl (HOWN1.out.alloc _) _ (some ⟨w1.heap.size, 0, none⟩) 1 1 (byteVals [128]) rfl HR1.out HO1.out (by unfold maxLen; omega) (by omega) (by have := g1.size; simp; omega) ?_)
  intro v2 w2 hown2 hgr2 _
  have g2 : Chg none w w2 := own_chg (g1.alloc (.cells #[.int .u8 128] 5)) (HOWN1.out.alloc _) (Nat.le_refl _) hgr2
  have e2 : byteVals m ++ byteVals [128] = byteVals (padUp m 0) := by rw [byteVals_append]; rfl
  rw [e2] at hown2
  obtain ⟨A2, c2, rfl⟩ := own_slice hown2
  have HOWN2 := Lib.hid hown2
  clear hown2 hgr2 HOWN1 HR1 g1 e2
  go_wp2_with fail
  have HN1 : Hid (noughts n ≤ 63 ∧ (n + 1 + noughts n) % 64 = 56 ∧ ∀ z, z < noughts n → (n + 1 + z) % 64 ≠ 56) := by
    refine ⟨?_, ?_, fun z hz => ?_⟩ <;> unfold noughts at * <;> omega
  go_loopw [3] (fun s3 wr => ∃ (z J c : Nat) (A : Option Addr), z ≤ noughts n ∧ Hid (J = n + 1 + z) ∧ s3 = .slice A J c ∧ wr.ownsRow w.heap.size 5 1 (.slice A J c) J (byteVals (padUp m z)) ∧ Chg none w wr) (fun s3 _ => 2000000 - sliceLen s3)
  case atStart => exact ⟨0, n + 1, c2, A2, by omega, rfl, rfl, HOWN2.out, g2⟩
  case round =>
    obtain ⟨z, J, c3, A3, hz, HJ, rfl, hown, gz⟩ := hrel
    clear HOWN2 g2
    have hz63 := HN1.out.1
    have hJ := HJ.out
    have hJm : J ≤ 1000064 := by omega
    by_cases hlt : z < noughts n
    · have hne := HN1.out.2.2 z hlt
      rw [← hJ] at hne
      have t1 : (((J : Int) % 64) != 56) = true := by simp; omega
      have t2 : (((J : Int) % 64) == 56) = false := by simp; omega
      have HR3 := Lib.hid (reads_one wr 0)
      have HO3 := Lib.hid (byteVals_one [0])
      have HOWN := Lib.hid hown
      have HSU : Hid (byteVals (padUp m z) ++ byteVals [0] = byteVals (padUp m (z + 1))) := by show _ = _; rw [byteVals_append, padUp_succ]
      clear hne hown hJ hz63
      go_wp2_with (at_builtin; refine wpList_append_any _ rfl (.tmp 16) (.tmp 17) 22 rfl w.heap.size 5 i0 (.int .u8 0) 1 1 Tryd.underlying22 hi hz0 hz1 hz2 rfl (by decide) _ J (byteVals (padUp m z)) rfl (HOWN.out.alloc _) _ (some ⟨wr.heap.size, 0, none⟩) 1 1 (byteVals [0]) rfl HR3.out HO3.out (by unfold maxLen; omega) (by omega) (by have := gz.size; simp; omega) ?_)
      intro v6 w6 hown6 hgr6 _
      rw [HSU.out] at hown6
      have g6 : Chg none w w6 := own_chg (gz.alloc (.cells #[.int .u8 0] 5)) (HOWN.out.alloc _) (Nat.le_refl _) hgr6
      obtain ⟨A6, c6, rfl⟩ := own_slice hown6
      have HOWN6 := Lib.hid hown6
      have HJ6 : Hid (J + 1 = n + 1 + (z + 1)) := by have := HJ.out; show _ = _; omega
      clear hown6 hgr6 HOWN HR3
      go_wp2_with fail
      go_roundw
      case rel => exact ⟨z + 1, J + 1, c6, A6, by omega, HJ6, rfl, HOWN6.out, g6⟩
      case measure => simp only [sliceLen]; omega
    · have hze : z = noughts n := by omega
      have hmd := HN1.out.2.1
      rw [← hze, ← hJ] at hmd
      have t1 : (((J : Int) % 64) != 56) = false := by simp; omega
      have t2 : (((J : Int) % 64) == 56) = true := by simp; omega
      have hn8 : IntKind.u64.wrap ((n : Int) * 8) = (n : Int) * 8 := IntWalk.u64_in _ (by omega)
      have HOWN := Lib.hid hown
      have HZE := Lib.hid hze
      clear hmd hown hJ hz63 hze
      go_wp2_with fail
      go_loopw [3, 5] (fun s3 s5 wq => ∃ (j L c : Nat) (A : Option Addr), j ≤ 8 ∧ Hid (L = J + j) ∧ s5 = .int .i64 (7 - (j : Int)) ∧ s3 = .slice A L c ∧ wq.ownsRow w.heap.size 5 1 (.slice A L c) L (byteVals (padUp m z ++ (be 8 (n * 8)).take j)) ∧ Chg none w wq) (fun _ s5 _ => (intOf s5 + 1).toNat)
      case atStart => exact ⟨0, J, c3, A3, by omega, rfl, rfl, rfl, by rw [List.take_zero, List.append_nil]; exact HOWN.out, gz⟩
      case round =>
        obtain ⟨j, L, c4, A4, hj, HL, rfl, rfl, hown, gj⟩ := hrel
        clear HOWN gz
        by_cases hlt8 : j < 8
        · obtain ⟨k, hk⟩ : ∃ k, k = 7 - j := ⟨_, rfl⟩
          have e0 : (7 : Int) - (j : Int) = (k : Int) := by omega
          rw [e0]
          have hk7 : k ≤ 7 := by omega
          have hts := be_take_succ 8 (n * 8) j hlt8
          rw [show 8 - 1 - j = k by omega] at hts
          obtain ⟨y, hy⟩ : ∃ y, y = UInt8.ofNat (n * 8 / 2 ^ (8 * k)) := ⟨_, rfl⟩
          rw [← hy] at hts
          have hv : (y.toNat : Int) = (n : Int) * 8 / 2 ^ (8 * k) % 256 := by rw [hy, byte_shr]; simp
          have HV := Lib.hid hv
          have HTS := Lib.hid hts
          have hr1 := reads_one wr y
          rw [hv] at hr1
          have HRY := Lib.hid hr1
          have HOY := Lib.hid (byteVals_one [y])
          have HOWN := Lib.hid hown
          have HLL := HL.out
          have hL64 : L ≤ 1000072 := by omega
          have HS : Hid (byteVals (padUp m z ++ (be 8 (n * 8)).take j) ++ byteVals [y] = byteVals (padUp m z ++ (be 8 (n * 8)).take (j + 1))) := by
            show _ = _
            rw [byteVals_append, hts, List.append_assoc]
          have hk2 : (7 : Int) - ((j + 1 : Nat) : Int) = (k : Int) - 1 := by omega
          have HK2 := Lib.hid hk2
          clear e0 hts hy hv hr1 hown HLL hk2 hk
          go_wp2_with (at_builtin; refine wpList_append_any _ rfl (.tmp 27) (.tmp 34) 22 rfl w.heap.size 5 i0 (.int .u8 0) 1 1 Tryd.underlying22 hi hz0 hz1 hz2 rfl (by decide) _ L (byteVals (padUp m z ++ (be 8 (n * 8)).take j)) rfl (HOWN.out.alloc _) _ (some ⟨wr.heap.size, 0, none⟩) 1 1 (byteVals [y]) rfl HRY.out HOY.out (by unfold maxLen; omega) (by omega) (by have := gj.size; simp; omega) ?_)
          intro v6 w6 hown6 hgr6 _
          rw [HS.out] at hown6
          have g6 : Chg none w w6 := own_chg (gj.alloc (.cells #[.int .u8 ((n : Int) * 8 / 2 ^ (8 * k) % 256)] 5)) (HOWN.out.alloc _) (Nat.le_refl _) hgr6
          obtain ⟨A6, c6, rfl⟩ := own_slice hown6
          have HOWN6 := Lib.hid hown6
          have HL6 : Hid (L + 1 = J + (j + 1)) := by have := HL.out; show _ = _; omega
          clear hown6 hgr6 HOWN HRY
          go_wp2_with fail
          go_roundw
          case rel => exact ⟨j + 1, L + 1, c6, A6, by omega, HL6, by rw [HK2.out], rfl, HOWN6.out, g6⟩
          case measure => simp only [intOf]; omega
        · obtain rfl : j = 8 := by omega
          have hle : (8 : Nat) ≤ 8 := Nat.le_refl _
          rw [List.take_of_length_le (by rw [be_len]; exact hle), HZE.out, HN.out, padUp_all] at hown
          have hll := hown.1
          rw [byteVals_len, Nat.mul_one] at hll
          have HFN := Lib.hid hown
          have HLL := Lib.hid hll
          clear hown hll hJm
          go_wp2_with fail
          go_ret
          exact ⟨A4, c4, by rw [HLL.out]; rfl, by rw [HLL.out]; exact HFN.out, gj⟩

end Go.Proofs.YtkcammaccgkflaaDoor

namespace Go.Proofs.YtkcammaccgkflaaDoor
open Go.RowKit

theorem bits_or_comm (k : IntKind) (x y : Int) : bits .or k x y = bits .or k y x := by
  unfold bits
  simp only [BitVec.or_comm]

set_option maxHeartbeats 1000000 in
theorem turn2 (x : Int) (w : World) : Calls Tryd.prog 87 #[.int .u32 x, .int .u64 2] w fun e w' => e = .returned (.int .u32 (rotr x 2)) ∧ w = w' := by
  have hr : rotr x 2 = bits .or .u32 (x / 2 ^ 2) (IntKind.u32.wrap (x * 2 ^ (32 - 2))) := bits_or_comm _ _ _
  rw [hr]
  clear hr
  go_enter Tryd.func87, Tryd.ntmps87
  go_wp2
  go_ret
  exact ⟨by first | rfl | simp, rfl⟩

set_option maxHeartbeats 1000000 in
theorem turn6 (x : Int) (w : World) : Calls Tryd.prog 87 #[.int .u32 x, .int .u64 6] w fun e w' => e = .returned (.int .u32 (rotr x 6)) ∧ w = w' := by
  have hr : rotr x 6 = bits .or .u32 (x / 2 ^ 6) (IntKind.u32.wrap (x * 2 ^ (32 - 6))) := bits_or_comm _ _ _
  rw [hr]
  clear hr
  go_enter Tryd.func87, Tryd.ntmps87
  go_wp2
  go_ret
  exact ⟨by first | rfl | simp, rfl⟩

set_option maxHeartbeats 1000000 in
theorem turn7 (x : Int) (w : World) : Calls Tryd.prog 87 #[.int .u32 x, .int .u64 7] w fun e w' => e = .returned (.int .u32 (rotr x 7)) ∧ w = w' := by
  have hr : rotr x 7 = bits .or .u32 (x / 2 ^ 7) (IntKind.u32.wrap (x * 2 ^ (32 - 7))) := bits_or_comm _ _ _
  rw [hr]
  clear hr
  go_enter Tryd.func87, Tryd.ntmps87
  go_wp2
  go_ret
  exact ⟨by first | rfl | simp, rfl⟩

set_option maxHeartbeats 1000000 in
theorem turn11 (x : Int) (w : World) : Calls Tryd.prog 87 #[.int .u32 x, .int .u64 11] w fun e w' => e = .returned (.int .u32 (rotr x 11)) ∧ w = w' := by
  have hr : rotr x 11 = bits .or .u32 (x / 2 ^ 11) (IntKind.u32.wrap (x * 2 ^ (32 - 11))) := bits_or_comm _ _ _
  rw [hr]
  clear hr
  go_enter Tryd.func87, Tryd.ntmps87
  go_wp2
  go_ret
  exact ⟨by first | rfl | simp, rfl⟩

set_option maxHeartbeats 1000000 in
theorem turn13 (x : Int) (w : World) : Calls Tryd.prog 87 #[.int .u32 x, .int .u64 13] w fun e w' => e = .returned (.int .u32 (rotr x 13)) ∧ w = w' := by
  have hr : rotr x 13 = bits .or .u32 (x / 2 ^ 13) (IntKind.u32.wrap (x * 2 ^ (32 - 13))) := bits_or_comm _ _ _
  rw [hr]
  clear hr
  go_enter Tryd.func87, Tryd.ntmps87
  go_wp2
  go_ret
  exact ⟨by first | rfl | simp, rfl⟩

set_option maxHeartbeats 1000000 in
theorem turn17 (x : Int) (w : World) : Calls Tryd.prog 87 #[.int .u32 x, .int .u64 17] w fun e w' => e = .returned (.int .u32 (rotr x 17)) ∧ w = w' := by
  have hr : rotr x 17 = bits .or .u32 (x / 2 ^ 17) (IntKind.u32.wrap (x * 2 ^ (32 - 17))) := bits_or_comm _ _ _
  rw [hr]
  clear hr
  go_enter Tryd.func87, Tryd.ntmps87
  go_wp2
  go_ret
  exact ⟨by first | rfl | simp, rfl⟩

set_option maxHeartbeats 1000000 in
theorem turn18 (x : Int) (w : World) : Calls Tryd.prog 87 #[.int .u32 x, .int .u64 18] w fun e w' => e = .returned (.int .u32 (rotr x 18)) ∧ w = w' := by
  have hr : rotr x 18 = bits .or .u32 (x / 2 ^ 18) (IntKind.u32.wrap (x * 2 ^ (32 - 18))) := bits_or_comm _ _ _
  rw [hr]
  clear hr
  go_enter Tryd.func87, Tryd.ntmps87
  go_wp2
  go_ret
  exact ⟨by first | rfl | simp, rfl⟩

set_option maxHeartbeats 1000000 in
theorem turn19 (x : Int) (w : World) : Calls Tryd.prog 87 #[.int .u32 x, .int .u64 19] w fun e w' => e = .returned (.int .u32 (rotr x 19)) ∧ w = w' := by
  have hr : rotr x 19 = bits .or .u32 (x / 2 ^ 19) (IntKind.u32.wrap (x * 2 ^ (32 - 19))) := bits_or_comm _ _ _
  rw [hr]
  clear hr
  go_enter Tryd.func87, Tryd.ntmps87
  go_wp2
  go_ret
  exact ⟨by first | rfl | simp, rfl⟩

set_option maxHeartbeats 1000000 in
theorem turn22 (x : Int) (w : World) : Calls Tryd.prog 87 #[.int .u32 x, .int .u64 22] w fun e w' => e = .returned (.int .u32 (rotr x 22)) ∧ w = w' := by
  have hr : rotr x 22 = bits .or .u32 (x / 2 ^ 22) (IntKind.u32.wrap (x * 2 ^ (32 - 22))) := bits_or_comm _ _ _
  rw [hr]
  clear hr
  go_enter Tryd.func87, Tryd.ntmps87
  go_wp2
  go_ret
  exact ⟨by first | rfl | simp, rfl⟩

set_option maxHeartbeats 1000000 in
theorem turn25 (x : Int) (w : World) : Calls Tryd.prog 87 #[.int .u32 x, .int .u64 25] w fun e w' => e = .returned (.int .u32 (rotr x 25)) ∧ w = w' := by
  have hr : rotr x 25 = bits .or .u32 (x / 2 ^ 25) (IntKind.u32.wrap (x * 2 ^ (32 - 25))) := bits_or_comm _ _ _
  rw [hr]
  clear hr
  go_enter Tryd.func87, Tryd.ntmps87
  go_wp2
  go_ret
  exact ⟨by first | rfl | simp, rfl⟩

end Go.Proofs.YtkcammaccgkflaaDoor

namespace Go.Proofs.YtkcammaccgkflaaDoor
open Go.RowKit

theorem ofInt_u32 (a : Nat) (ha : a < 4294967296) : (BitVec.ofInt 32 (a : Int)).toNat = a := by
  rw [BitVec.ofInt_natCast, BitVec.toNat_ofNat]; exact Nat.mod_eq_of_lt (by omega)
theorem or_nat (a b : Nat) (ha : a < 4294967296) (hb : b < 4294967296) : bits .or .u32 (a : Int) (b : Int) = ((a ||| b : Nat) : Int) := by
  show IntKind.u32.wrap ((BitVec.ofInt 32 (a : Int) ||| BitVec.ofInt 32 (b : Int)).toNat : Int) = _
  rw [BitVec.toNat_or, ofInt_u32 a ha, ofInt_u32 b hb, IntKind.wrap_u32]
  have : a ||| b < 2 ^ 32 := Nat.or_lt_two_pow (by omega) (by omega)
  omega
theorem or_add (a b k : Nat) (hb : b < 2 ^ k) : a * 2 ^ k ||| b = a * 2 ^ k + b := by
  have := Nat.shiftLeft_add_eq_or_of_lt hb a
  rw [Nat.shiftLeft_eq] at this
  exact this.symm
theorem word_of (b0 b1 b2 b3 : Nat) (h0 : b0 < 256) (h1 : b1 < 256) (h2 : b2 < 256) (h3 : b3 < 256) :
    bits .or .u32 (bits .or .u32 (bits .or .u32 ((b0 : Int) % 4294967296 * 16777216 % 4294967296) ((b1 : Int) % 4294967296 * 65536 % 4294967296)) ((b2 : Int) % 4294967296 * 256 % 4294967296)) ((b3 : Int) % 4294967296) = ((((b0 * 256 + b1) * 256 + b2) * 256 + b3 : Nat) : Int) := by
  have e0 : (b0 : Int) % 4294967296 * 16777216 % 4294967296 = ((b0 * 16777216 : Nat) : Int) := by omega
  have e1 : (b1 : Int) % 4294967296 * 65536 % 4294967296 = ((b1 * 65536 : Nat) : Int) := by omega
  have e2 : (b2 : Int) % 4294967296 * 256 % 4294967296 = ((b2 * 256 : Nat) : Int) := by omega
  have e3 : (b3 : Int) % 4294967296 = ((b3 : Nat) : Int) := by omega
  rw [e0, e1, e2, e3, or_nat _ _ (by omega) (by omega)]
  have o1 : b0 * 16777216 ||| b1 * 65536 = b0 * 16777216 + b1 * 65536 := or_add b0 (b1 * 65536) 24 (by omega)
  rw [o1, or_nat _ _ (by omega) (by omega)]
  have o2 : (b0 * 16777216 + b1 * 65536) ||| b2 * 256 = b0 * 16777216 + b1 * 65536 + b2 * 256 := by
    have := or_add (b0 * 256 + b1) (b2 * 256) 16 (by omega)
    rw [show (b0 * 256 + b1) * 2 ^ 16 = b0 * 16777216 + b1 * 65536 by omega] at this
    exact this
  rw [o2, or_nat _ _ (by omega) (by omega)]
  have o3 : (b0 * 16777216 + b1 * 65536 + b2 * 256) ||| b3 = b0 * 16777216 + b1 * 65536 + b2 * 256 + b3 := by
    have := or_add ((b0 * 256 + b1) * 256 + b2) b3 8 (by omega)
    rw [show ((b0 * 256 + b1) * 256 + b2) * 2 ^ 8 = b0 * 16777216 + b1 * 65536 + b2 * 256 by omega] at this
    exact this
  rw [o3]
  omega
theorem not_max (e : Nat) (he : e < 4294967296) : bits .xor .u32 IntKind.u32.max (e : Int) = 4294967295 - (e : Int) := by
  have hm : IntKind.u32.max = ((4294967295 : Nat) : Int) := by decide
  rw [hm]
  show IntKind.u32.wrap ((BitVec.ofInt 32 ((4294967295 : Nat) : Int) ^^^ BitVec.ofInt 32 (e : Int)).toNat : Int) = _
  have h1 : BitVec.ofInt 32 ((4294967295 : Nat) : Int) = BitVec.allOnes 32 := by decide
  rw [h1, BitVec.allOnes_xor, BitVec.toNat_not, ofInt_u32 e he, IntKind.wrap_u32]
  omega

/-- The first k bytes of the word t, to the base 256. -/
def partW (bs : List UInt8) (t : Nat) : Nat → Nat
  | 0 => 0
  | k + 1 => partW bs t k * 256 + (bs.getD (4 * t + k) 0).toNat
theorem partW_lt (bs : List UInt8) (t : Nat) : ∀ k, partW bs t k < 256 ^ k
  | 0 => by simp [partW]
  | k + 1 => by
    have h1 := partW_lt bs t k
    have h2 : (bs.getD (4 * t + k) 0).toNat < 256 := UInt8.toNat_lt _
    rw [partW, Nat.pow_succ]; omega
theorem partW_word (bs : List UInt8) (t : Nat) : wordAt bs t = (partW bs t 4 : Nat) := by
  unfold wordAt byteAt
  rw [word_of _ _ _ _ (UInt8.toNat_lt _) (UInt8.toNat_lt _) (UInt8.toNat_lt _) (UInt8.toNat_lt _)]
  simp [partW]

end Go.Proofs.YtkcammaccgkflaaDoor

namespace Go.Proofs.YtkcammaccgkflaaDoor
open Go.RowKit

theorem wcells_zero_at (bs : List UInt8) (t : Nat) (h : t < 64) : (wcells bs t)[t]? = some (.int .u32 0) := by
  rw [wcells, List.getElem?_append_right (by simp [schedN_len]), List.length_map, schedN_len, Nat.sub_self, show 64 - t = (64 - (t + 1)) + 1 by omega, List.replicate_succ]; rfl
def noW8 : List Value := List.replicate 8 (.int .u32 0)
/-- The words of a block, of which the one at t is made of i of its bytes. -/
def wpart (bs : List UInt8) (t i : Nat) : List Value := (wcells bs t).set t (.int .u32 (partW bs t i : Nat))
theorem wpart_zero (bs : List UInt8) (t : Nat) (h : t < 64) : wpart bs t 0 = wcells bs t := by
  unfold wpart
  apply List.ext_getElem?
  intro j
  by_cases hj : t = j
  · subst hj
    rw [List.getElem?_set_self (by rw [wcells_len _ _ (by omega)]; exact h), wcells_zero_at _ _ h]; rfl
  · rw [List.getElem?_set_ne hj]
theorem wpart_all (bs : List UInt8) (t : Nat) (h : t < 16) : wpart bs t 4 = wcells bs (t + 1) := by
  unfold wpart
  rw [← wcells_set bs t (by omega), if_pos h, partW_word]; rfl
theorem wpart_at (bs : List UInt8) (t i : Nat) (h : t < 64) : (wpart bs t i)[t]? = some (.int .u32 (partW bs t i : Nat)) := by
  unfold wpart
  rw [List.getElem?_set_self (by rw [wcells_len _ _ (by omega)]; exact h)]
theorem wpart_set (bs : List UInt8) (t i j : Nat) : (wpart bs t i).set t (.int .u32 (partW bs t j : Nat)) = wpart bs t j := by
  unfold wpart; rw [List.set_set]


theorem wpList_runTo {P : Program} {ops : Array Oper} {rest : List Oper} {o : Oper} {a : Act} {w : World} {Q : Exit → Act → World → Prop} (hg : o.guard = none) (d : Option Tmp) (hd : o.dst = d) (v : Value)
    (hrun : (execOp a.eval o).run P w = .ok (.value v) w) (h : wpList P ops Q rest (a.put d v) w) : wpList P ops Q (o :: rest) a w := by
  subst hd
  refine wpList_plain hg fun _ hK => ?_
  unfold Oper.wp
  rw [hrun]
  exact hK _ _ h
theorem sum4 (a b c d : Int) : ((((a + b) % 4294967296 + c) % 4294967296) + d) % 4294967296 = (a + b + c + d) % 4294967296 := by omega
/-- The eight words of a state. -/
def stL (s : St) : List Int := [s.a, s.b, s.c, s.d, s.e, s.f, s.g, s.h]
def stV (s : St) : List Value := [.int .u32 s.a, .int .u32 s.b, .int .u32 s.c, .int .u32 s.d, .int .u32 s.e, .int .u32 s.f, .int .u32 s.g, .int .u32 s.h]
theorem stV_stL (s : St) : stV s = (stL s).map u32v := rfl
theorem stV_ofL (ws : List Int) (h : ws.length = 8) : stV (ofL ws) = ws.map u32v := by
  match ws, h with
  | [a, b, c, d, e, f, g, k], _ => rfl
theorem row8_facts (ws : List Int) (h : ws.length = 8) : (ws.map u32v).toArray.size = 8 ∧ (ws.map u32v).toArray.all (·.oneCell') = true := by
  have hs : (ws.map u32v).toArray.size = 8 := by rw [List.size_toArray, List.length_map, h]
  refine ⟨hs, Array.all_eq_true_iff_forall_mem.2 (fun v hv => ?_)⟩
  obtain ⟨x, _, rfl⟩ := List.mem_map.1 (by simpa using hv : v ∈ ws.map u32v)
  rfl
theorem u32_at (L : List Int) (i : Nat) (h : i < L.length) : (L.map u32v)[i]? = some (.int .u32 (L.getD i 0)) := by
  rw [List.getElem?_map, List.getD_eq_getElem?_getD, List.getElem?_eq_getElem h]; rfl
theorem ofL_e (ws : List Int) (hr : ∀ i, 0 ≤ ws.getD i 0 ∧ ws.getD i 0 < 4294967296) : 0 ≤ (ofL ws).e ∧ (ofL ws).e < 4294967296 := hr 4
theorem rounds_e {s0 : St} (h : 0 ≤ s0.e ∧ s0.e < 4294967296) (W : List Int) : ∀ n, 0 ≤ (rounds s0 W n).e ∧ (rounds s0 W n).e < 4294967296
  | 0 => h
  | n + 1 => ⟨Int.emod_nonneg _ (by omega), Int.emod_lt_of_pos _ (by omega)⟩
theorem not_maxZ (x : Int) (h : 0 ≤ x ∧ x < 4294967296) : IntKind.u32.wrap (4294967295 - x) = bits .xor .u32 IntKind.u32.max x := by
  obtain ⟨n, rfl⟩ : ∃ n : Nat, x = (n : Int) := ⟨x.toNat, by omega⟩
  rw [not_max n (by omega), IntKind.wrap_u32]; omega
theorem step_of2 {xa xb xc xd xe xf xg xh kk ww T1 T2 : Int} (hT : T1 = t1 ⟨xa, xb, xc, xd, xe, xf, xg, xh⟩ kk ww)
    (h2 : T2 = IntKind.u32.wrap (bits .xor .u32 (bits .xor .u32 (rotr xa 2) (rotr xa 13)) (rotr xa 22) + bits .xor .u32 (bits .xor .u32 (bits .and .u32 xa xb) (bits .and .u32 xa xc)) (bits .and .u32 xb xc))) :
    (⟨(T1 + T2) % 4294967296, xa, xb, xc, (xd + T1) % 4294967296, xe, xf, xg⟩ : St) = step ⟨xa, xb, xc, xd, xe, xf, xg, xh⟩ kk ww := by
  rw [h2, IntKind.wrap_u32]; exact step_eq hT
theorem mix_compress (ws : List Int) (bs : List UInt8) (h : ws.length = 8) (s : St) (hs : s = rounds (ofL ws) (schedN bs 64) 64) : compress ws bs = mixW (stL s) ws 8 := by
  unfold compress
  rw [← hs]
  clear hs
  match ws, h with
  | [a, b, c, d, e, f, g, k], _ => simp [addW, mixW, List.range_succ, stL, Int.add_comm]

set_option maxRecDepth 100000 in
set_option maxHeartbeats 16000000 in
theorem blockr_any (ws : List Int) (bs : List UInt8) (sb so sc : Nat) (w : World) (hw : ws.length = 8) (hr8 : ∀ i, 0 ≤ ws.getD i 0 ∧ ws.getD i 0 < 4294967296) (hl : bs.length = 64) (hsb : sb < w.heap.size)
    (hsrc : ∀ j c, bs[j]? = some c → w.cell? ⟨sb, so + j, none⟩ = some (.int .u8 c.toNat)) :
    Calls Tryd.prog 65 #[.agg (ws.map u32v).toArray, .agg (K0.map u32v).toArray, .slice (some ⟨sb, so, none⟩) 64 sc] w fun e w' => e = .returned (.agg ((compress ws bs).map u32v).toArray) ∧ Chg none w w' := by
  obtain ⟨W4, hW4⟩ : ∃ W4, W4 = (((w.alloc (.cells (ws.map u32v).toArray 25)).alloc (.cells (K0.map u32v).toArray 26)).alloc (.cells (noW8).toArray 25)).alloc (.cells (wcells bs 0).toArray 26) := ⟨_, rfl⟩
  have HW4 : Hid ((((w.alloc (.cells (ws.map u32v).toArray 25)).alloc (.cells (K0.map u32v).toArray 26)).alloc (.cells #[Value.int IntKind.u32 0, Value.int IntKind.u32 0, Value.int IntKind.u32 0, Value.int IntKind.u32 0, Value.int IntKind.u32 0, Value.int IntKind.u32 0, Value.int IntKind.u32 0, Value.int IntKind.u32 0] 25)).alloc (.cells #[Value.int IntKind.u32 0, Value.int IntKind.u32 0, Value.int IntKind.u32 0, Value.int IntKind.u32 0, Value.int IntKind.u32 0, Value.int IntKind.u32 0, Value.int IntKind.u32 0, Value.int IntKind.u32 0, Value.int IntKind.u32 0, Value.int IntKind.u32 0, Value.int IntKind.u32 0, Value.int IntKind.u32 0, Value.int IntKind.u32 0, Value.int IntKind.u32 0, Value.int IntKind.u32 0, Value.int IntKind.u32 0, Value.int IntKind.u32 0, Value.int IntKind.u32 0, Value.int IntKind.u32 0, Value.int IntKind.u32 0, Value.int IntKind.u32 0, Value.int IntKind.u32 0, Value.int IntKind.u32 0, Value.int IntKind.u32 0, Value.int IntKind.u32 0, Value.int IntKind.u32 0, Value.int IntKind.u32 0, Value.int IntKind.u32 0, Value.int IntKind.u32 0, Value.int IntKind.u32 0, Value.int IntKind.u32 0, Value.int IntKind.u32 0, Value.int IntKind.u32 0, Value.int IntKind.u32 0, Value.int IntKind.u32 0, Value.int IntKind.u32 0, Value.int IntKind.u32 0, Value.int IntKind.u32 0, Value.int IntKind.u32 0, Value.int IntKind.u32 0, Value.int IntKind.u32 0, Value.int IntKind.u32 0, Value.int IntKind.u32 0, Value.int IntKind.u32 0, Value.int IntKind.u32 0, Value.int IntKind.u32 0, Value.int IntKind.u32 0, Value.int IntKind.u32 0, Value.int IntKind.u32 0, Value.int IntKind.u32 0, Value.int IntKind.u32 0, Value.int IntKind.u32 0, Value.int IntKind.u32 0, Value.int IntKind.u32 0, Value.int IntKind.u32 0, Value.int IntKind.u32 0, Value.int IntKind.u32 0, Value.int IntKind.u32 0, Value.int IntKind.u32 0, Value.int IntKind.u32 0, Value.int IntKind.u32 0, Value.int IntKind.u32 0, Value.int IntKind.u32 0, Value.int IntKind.u32 0] 26) = W4) := hW4.symm
  have g0 : Chg none w W4 := by rw [hW4]; exact ((((Chg.refl _ _).alloc _).alloc _).alloc _).alloc _
  have bH : BlkL W4 w.heap.size (ws.map u32v) 25 := by rw [hW4]; exact Blk.alloc (Blk.alloc (Blk.alloc (Blk.new _ _ _) _) _) _
  have bK : BlkL W4 (w.heap.size + 1) (K0.map u32v) 26 := by rw [hW4]; exact Blk.alloc (Blk.alloc (Blk.newAt _ _ (by simp)) _) _
  have bR : BlkL W4 (w.heap.size + 1 + 1) (noW8) 25 := by rw [hW4]; exact Blk.alloc (Blk.newAt _ _ (by simp)) _
  have bW : BlkL W4 (w.heap.size + 1 + 1 + 1) (wcells bs 0) 26 := by rw [hW4]; exact Blk.newAt _ _ (by simp)
  have hHK : w.heap.size < w.heap.size + 1 := by omega
  have hKR : w.heap.size + 1 < w.heap.size + 1 + 1 := by omega
  have hRW : w.heap.size + 1 + 1 < w.heap.size + 1 + 1 + 1 := by omega
  have HS := Lib.hid (fun W (g : Chg none w W) i (hi : i < 64) => (show W.cell? ⟨sb, so + i, none⟩ = some (.int .u8 ((bs.getD i 0).toNat : Int)) from World.grownBy.cell g (by
    rw [hsrc i _ (List.getElem?_eq_getElem (by omega))]
    simp [List.getD_eq_getElem?_getD, hl, hi]) (by simp)))
  obtain ⟨WA, hWA⟩ : ∃ WA, WA = (ws.map u32v).toArray := ⟨_, rfl⟩
  obtain ⟨KA, hKA⟩ : ∃ KA, KA = (K0.map u32v).toArray := ⟨_, rfl⟩
  rw [← hWA, ← hKA]
  rw [← hWA, ← hKA] at HW4
  have hle : w.heap.size ≤ w.heap.size := Nat.le_refl _
  have HR8 := Lib.hid hr8
  clear hr8 hW4 hWA hKA hsrc
  go_enter Tryd.func65, Tryd.ntmps65
  go_upto_block 0 with fail
  rw [HW4.out]
  clear HW4
  generalize w.heap.size + 1 + 1 + 1 = pW at *
  generalize w.heap.size + 1 + 1 = pR at *
  generalize w.heap.size + 1 = pK at *
  generalize hpH : w.heap.size = pH at *
  have HPH := Lib.hid hpH
  clear hpH
  go_cut [8, 9] (fun _ _ wx => BlkL wx pW (wcells bs 16) 26 ∧ BlkL wx pH (ws.map u32v) 25 ∧ BlkL wx pK (K0.map u32v) 26 ∧ BlkL wx pR (noW8) 25 ∧ Chg none w wx)
  case first =>
    go_wp2_with fail
    go_loopw [8, 9] (fun s8 _ wr => ∃ t : Nat, t ≤ 16 ∧ s8 = .int .i64 t ∧ BlkL wr pW (wcells bs t) 26 ∧ BlkL wr pH (ws.map u32v) 25 ∧ BlkL wr pK (K0.map u32v) 26 ∧ BlkL wr pR (noW8) 25 ∧ Chg none w wr) (fun s8 _ _ => 16 - (intOf s8).toNat)
    case atStart => exact ⟨0, by omega, rfl, bW, bH, bK, bR, g0⟩
    case round =>
      obtain ⟨t, ht, rfl, bWt, bHt, bKt, bRt, gt⟩ := hrel
      clear bW bH bK bR g0
      by_cases hlt : t < 16
      · have hz := wpart_zero bs t (by omega)
        rw [← hz] at bWt
        have HWA := Lib.hid (wpart_all bs t hlt)
        clear hz
        go_wp2_with fail
        obtain ⟨wo, rfl⟩ : ∃ wo : World, wo = wr := ⟨_, rfl⟩
        go_loopw [9] (fun s9 wq => ∃ i : Nat, i ≤ 4 ∧ s9 = .int .i64 i ∧ BlkL wq pW (wpart bs t i) 26 ∧ BlkL wq pH (ws.map u32v) 25 ∧ BlkL wq pK (K0.map u32v) 26 ∧ BlkL wq pR (noW8) 25 ∧ Chg none w wq) (fun s9 _ => 4 - (intOf s9).toNat)
        case atStart => exact ⟨0, by omega, rfl, bWt, bHt, bKt, bRt, gt⟩
        case round =>
          obtain ⟨i, hi, rfl, bW, bH, bK, bR, gi⟩ := hrel
          clear bWt bHt bKt bRt gt
          by_cases hlt4 : i < 4
          · have qW : wr.cell? ⟨pW, t, none⟩ = some (.int .u32 (partW bs t i : Nat)) := by rw [BlkL.cell bW, wpart_at _ _ _ (by omega)]
            have qB := HS.out wr gi (4 * t + i) (by omega)
            have hfz := Blk.frozen bW t
            have hbz := Blk.lt bW
            have hsz : sb < wr.heap.size := Nat.lt_of_lt_of_le hsb (by rw [← HPH.out]; exact gi.size)
            have hset := BlkL.set bW t (.int .u32 (partW bs t (i + 1) : Nat))
            rw [wpart_set] at hset
            have hpl := partW_lt bs t i
            have hpl3 : partW bs t i < 256 ^ 3 := Nat.lt_of_lt_of_le hpl (Nat.pow_le_pow_right (by decide) (by omega))
            have hcl : (bs.getD (4 * t + i) 0).toNat < 256 := UInt8.toNat_lt _
            have hps : partW bs t (i + 1) = partW bs t i * 256 + (bs.getD (4 * t + i) 0).toNat := rfl
            rw [hps] at hset
            generalize partW bs t i = P at *
            generalize (bs.getD (4 * t + i) 0).toNat = c at *
            have hw1 : IntKind.u32.wrap ((P : Int) * 256) = (P : Int) * 256 := IntWalk.u32_in _ (by omega)
            have hw2 : IntKind.u32.wrap ((P : Int) * 256 + (c : Int)) = (P : Int) * 256 + (c : Int) := IntWalk.u32_in _ (by omega)
            have hw0 : IntKind.u32.wrap (c : Int) = (c : Int) := IntWalk.u32_in _ (by omega)
            have hi1 : IntKind.i64.wrap (4 * (t : Int)) = 4 * (t : Int) := IntWalk.i64_in _ (by omega)
            have hi2 : IntKind.i64.wrap (4 * (t : Int) + (i : Int)) = 4 * (t : Int) + (i : Int) := IntWalk.i64_in _ (by omega)
            have hi3 : (0 : Int) ≤ 4 * (t : Int) + (i : Int) := by omega
            have hi4 : (4 * (t : Int) + (i : Int)).toNat = 4 * t + i := by omega
            have hi5 : 4 * (t : Int) + (i : Int) < 64 := by omega
            have t0 : (0 : Int) ≤ (t : Int) := by omega
            have t1 : (t : Int) < 64 := by omega
            have e1 : ((P * 256 + c : Nat) : Int) = (P : Int) * 256 + (c : Int) := by omega
            rw [e1] at hset
            have HSET := Lib.hid hset
            clear hset e1 hpl hps
            go_wp2_with fail
            go_region
            all_goals
              clear hw1 hw2 hw0 hi1 hi2 hi4
              go_wp2_with fail
              go_roundw
              case rel => exact ⟨i + 1, by omega, by go_num, HSET.out, Blk.setOther bH _ _ (by show pH ≠ pW; omega), Blk.setOther bK _ _ (by show pK ≠ pW; omega), Blk.setOther bR _ _ (by show pR ≠ pW; omega), by repeat (first | (with_reducible exact gi) | (with_reducible refine Chg.drew ?_) | (with_reducible refine Chg.setNew ?_ _ (by show w.heap.size ≤ pW; rw [HPH.out]; omega) _))⟩
              case measure => first | (simp [intOf]; done) | (simp [intOf]; omega)
          · obtain rfl : i = 4 := by omega
            rw [HWA.out] at bW
            go_wp2_with fail
            go_roundw
            case rel => exact ⟨t + 1, by omega, by go_num, bW, bH, bK, bR, gi⟩
            case measure => first | (simp [intOf]; done) | (simp [intOf]; omega)
      · have ht16 : t = 16 := by omega
        have hd16 : decide ((t : Int) < 16) = false := by simp; omega
        rw [ht16] at bWt
        clear ht16
        go_wp2_with fail
        go_meet
        exact ⟨bWt, bHt, bKt, bRt, gt⟩
  case rest =>
    obtain ⟨bWt, bHt, bKt, bRt, gt⟩ := hcut
    clear bW bH bK bR g0
    obtain ⟨wA, rfl⟩ : ∃ wA : World, wA = wc := ⟨_, rfl⟩
    have H7 := Lib.hid (fun W x => turn7 x W)
    have H18 := Lib.hid (fun W x => turn18 x W)
    have H17 := Lib.hid (fun W x => turn17 x W)
    have H19 := Lib.hid (fun W x => turn19 x W)
    go_upto_block 4 with fail
    go_cut [10, 11, 12] (fun _ _ _ wx => BlkL wx pW ((schedN bs 64).map u32v) 26 ∧ BlkL wx pH (ws.map u32v) 25 ∧ BlkL wx pK (K0.map u32v) 26 ∧ BlkL wx pR (noW8) 25 ∧ Chg none w wx)
    case first =>
      go_wp2_with fail
      go_loopw [10, 11, 12] (fun s10 _ _ wq => ∃ k : Nat, 16 ≤ k ∧ k ≤ 64 ∧ s10 = .int .i64 k ∧ BlkL wq pW (wcells bs k) 26 ∧ BlkL wq pH (ws.map u32v) 25 ∧ BlkL wq pK (K0.map u32v) 26 ∧ BlkL wq pR (noW8) 25 ∧ Chg none w wq) (fun s10 _ _ _ => 64 - (intOf s10).toNat)
      case atStart => exact ⟨16, by omega, by omega, rfl, bWt, bHt, bKt, bRt, gt⟩
      case round =>
        obtain ⟨k, hk0, hk1, rfl, bW, bH, bK, bR, gi⟩ := hrel
        clear bWt bHt bKt bRt gt
        by_cases hlt : k < 64
        · have q16 : wr.cell? ⟨pW, k - 16, none⟩ = some (.int .u32 ((schedN bs k).getD (k - 16) 0)) := by rw [BlkL.cell bW]; exact wcells_at bs k (k - 16) (by omega)
          have q15 : wr.cell? ⟨pW, k - 15, none⟩ = some (.int .u32 ((schedN bs k).getD (k - 15) 0)) := by rw [BlkL.cell bW]; exact wcells_at bs k (k - 15) (by omega)
          have q7 : wr.cell? ⟨pW, k - 7, none⟩ = some (.int .u32 ((schedN bs k).getD (k - 7) 0)) := by rw [BlkL.cell bW]; exact wcells_at bs k (k - 7) (by omega)
          have q2 : wr.cell? ⟨pW, k - 2, none⟩ = some (.int .u32 ((schedN bs k).getD (k - 2) 0)) := by rw [BlkL.cell bW]; exact wcells_at bs k (k - 2) (by omega)
          have hset := BlkL.set bW k (u32v (expand (schedN bs k) k))
          have hws := wcells_set bs k (by omega)
          rw [if_neg (by omega)] at hws
          rw [hws] at hset
          have cw : wr.cell? ⟨pW, k, none⟩ = some (.int .u32 0) := by rw [BlkL.cell bW]; exact wcells_zero_at bs k hlt
          have hfz := Blk.frozen bW k
          have hbz := Blk.lt bW
          unfold expand at hset
          generalize (schedN bs k).getD (k - 16) 0 = a16 at *
          generalize (schedN bs k).getD (k - 15) 0 = x at *
          generalize (schedN bs k).getD (k - 7) 0 = a7 at *
          generalize (schedN bs k).getD (k - 2) 0 = y at *
          have i16 : IntKind.i64.wrap ((k : Int) - 16) = (k : Int) - 16 := IntWalk.i64_in _ (by omega)
          have i15 : IntKind.i64.wrap ((k : Int) - 15) = (k : Int) - 15 := IntWalk.i64_in _ (by omega)
          have i7 : IntKind.i64.wrap ((k : Int) - 7) = (k : Int) - 7 := IntWalk.i64_in _ (by omega)
          have i2 : IntKind.i64.wrap ((k : Int) - 2) = (k : Int) - 2 := IntWalk.i64_in _ (by omega)
          have n16 : ((k : Int) - 16).toNat = k - 16 := by omega
          have n15 : ((k : Int) - 15).toNat = k - 15 := by omega
          have n7 : ((k : Int) - 7).toNat = k - 7 := by omega
          have n2 : ((k : Int) - 2).toNat = k - 2 := by omega
          have p16 : (0 : Int) ≤ (k : Int) - 16 := by omega
          have p15 : (0 : Int) ≤ (k : Int) - 15 := by omega
          have p7 : (0 : Int) ≤ (k : Int) - 7 := by omega
          have p2 : (0 : Int) ≤ (k : Int) - 2 := by omega
          have l16 : (k : Int) - 16 < 64 := by omega
          have r16 : (16 : Int) ≤ (k : Int) := by omega
          have r7 : (7 : Int) ≤ (k : Int) := by omega
          have l15 : (k : Int) - 15 < 64 := by omega
          have l7 : (k : Int) - 7 < 64 := by omega
          have l2 : (k : Int) - 2 < 64 := by omega
          have k0 : (0 : Int) ≤ (k : Int) := by omega
          have k64 : (k : Int) < 64 := by omega
          clear hws
          go_wp2_with fail
          go_upto_region 12 with (fail)
          go_cut [11, 12] (fun s11 s12 wx => s11 = .int .u32 x ∧ s12 = .int .u32 y ∧ wx = wr.drew)
          case first =>
            go_region
            all_goals
              go_wp2_with fail
              go_meet
              exact ⟨rfl, rfl, rfl⟩
          case rest =>
            obtain ⟨rfl, rfl, rfl⟩ := hcut
            clear i15 i2 n15 n2 p15 p2 l15 l2 q15 q2
            go_wp2_with fail
            have cw0 : wr.drew.drew.cell? ⟨pW, k, none⟩ = some (.int .u32 0) := cw
            have fz0 : wr.drew.drew.frozen? ⟨pW, k, none⟩ = false := hfz
            have bz0 : pW < wr.drew.drew.heap.size := hbz
            have S0 : wr.drew.drew.cell? ⟨pW, k - 16, none⟩ = some (.int .u32 a16) ∧ wr.drew.drew.cell? ⟨pW, k - 7, none⟩ = some (.int .u32 a7) := ⟨q16, q7⟩
            have gd0 : Chg none w wr.drew.drew := gi.drew.drew
            have bH0 : BlkL wr.drew.drew pH (ws.map u32v) 25 := bH
            have bK0 : BlkL wr.drew.drew pK (K0.map u32v) 26 := bK
            have bR0 : BlkL wr.drew.drew pR (noW8) 25 := bR
            have st0 : BlkL (wr.drew.drew.setCell ⟨pW, k, none⟩ (.int .u32 ((a16 + low x + a7 + high y) % 4294967296))) pW (wcells bs (k + 1)) 26 := hset
            rw [← sum4 a16 (low x) a7 (high y)] at st0
            have HST := Lib.hid st0
            refine wp_region_held_drew (S := fun w' => w'.cell? ⟨pW, k - 16, none⟩ = some (.int .u32 a16) ∧ w'.cell? ⟨pW, k - 7, none⟩ = some (.int .u32 a7)) (by kernel_rfl) ⟨q16, q7⟩ (fun _ => ?_)
            clear cw hfz hbz q16 q7 gi bH bK bR st0 hset bW
            generalize wr.drew.drew = v0 at *
            refine wpAnyH_take (i := 0) (oi := ⟨some 55, _, _, _, _, _⟩) (v := ?_) rfl (by kernel_rfl) (by kernel_rfl) (by kernel_rfl) (fun _ _ _ h => h) (Or.inl ⟨by rfl, ?_⟩) (by assumption) ?_
            rotate_left
            · intro w hSw; (try dsimp only at hSw); go_simp; (try with_reducible rfl)
            try simp only [Act.put, List.setIfInBounds_toArray, List.set_cons_zero, List.set_cons_succ]
            refine wpAnyH_take (i := 1) (oi := ⟨some 56, _, _, _, _, _⟩) (v := ?_) rfl (by kernel_rfl) (by kernel_rfl) (by kernel_rfl) (fun _ _ _ h => h) (Or.inl ⟨by rfl, ?_⟩) (by assumption) ?_
            rotate_left
            · intro w hSw; (try dsimp only at hSw); go_simp; (try with_reducible rfl)
            try simp only [Act.put, List.setIfInBounds_toArray, List.set_cons_zero, List.set_cons_succ]
            refine wpAnyH_take (i := 2) (oi := ⟨some 57, _, _, _, _, _⟩) (v := ?_) rfl (by kernel_rfl) (by kernel_rfl) (by kernel_rfl) (fun _ _ _ h => h) (Or.inl ⟨by rfl, ?_⟩) (by assumption) ?_
            rotate_left
            · intro w hSw; (try dsimp only at hSw); go_simp; (try with_reducible rfl)
            try simp only [Act.put, List.setIfInBounds_toArray, List.set_cons_zero, List.set_cons_succ]
            refine wpAnyH_take (i := 3) (oi := ⟨some 58, _, _, _, _, _⟩) (v := ?_) rfl (by kernel_rfl) (by kernel_rfl) (by kernel_rfl) (fun _ _ _ h => h) (Or.inl ⟨by rfl, ?_⟩) (by assumption) ?_
            rotate_left
            · intro w hSw; (try dsimp only at hSw); go_simp; (try with_reducible rfl)
            try simp only [Act.put, List.setIfInBounds_toArray, List.set_cons_zero, List.set_cons_succ]
            refine wpAnyH_take (i := 4) (oi := ⟨some 59, _, _, _, _, _⟩) (v := ?_) rfl (by kernel_rfl) (by kernel_rfl) (by kernel_rfl) (fun _ _ _ h => h) (Or.inl ⟨by rfl, ?_⟩) (by assumption) ?_
            rotate_left
            · intro w hSw; (try dsimp only at hSw); go_simp; (try with_reducible rfl)
            try simp only [Act.put, List.setIfInBounds_toArray, List.set_cons_zero, List.set_cons_succ]
            refine wpAnyH_take (i := 5) (oi := ⟨some 60, _, _, _, _, _⟩) (v := ?_) rfl (by kernel_rfl) (by kernel_rfl) (by kernel_rfl) (fun _ _ _ h => h) (Or.inl ⟨by rfl, ?_⟩) (by assumption) ?_
            rotate_left
            · intro w hSw; (try dsimp only at hSw); go_simp; (try with_reducible rfl)
            try simp only [Act.put, List.setIfInBounds_toArray, List.set_cons_zero, List.set_cons_succ]
            refine wpAnyH_take (i := 7) (oi := ⟨some 62, _, _, _, _, _⟩) (v := ?_) rfl (by kernel_rfl) (by kernel_rfl) (by kernel_rfl) (fun _ _ _ h => h) (Or.inl ⟨by rfl, ?_⟩) (by assumption) ?_
            rotate_left
            · intro w hSw; (try dsimp only at hSw); go_simp; (try with_reducible rfl)
            try simp only [Act.put, List.setIfInBounds_toArray, List.set_cons_zero, List.set_cons_succ]
            refine wpAnyH_take (i := 10) (oi := ⟨some 65, _, _, _, _, _⟩) (v := ?_) rfl (by kernel_rfl) (by kernel_rfl) (by kernel_rfl) (fun _ _ _ h => h) (Or.inl ⟨by rfl, ?_⟩) (by assumption) ?_
            rotate_left
            · intro w hSw; (try dsimp only at hSw); go_simp; (try with_reducible rfl)
            try simp only [Act.put, List.setIfInBounds_toArray, List.set_cons_zero, List.set_cons_succ]
            refine wpAnyH_take (i := 11) (oi := ⟨some 66, _, _, _, _, _⟩) (v := ?_) rfl (by kernel_rfl) (by kernel_rfl) (by kernel_rfl) (fun _ _ _ h => h) (Or.inl ⟨by rfl, ?_⟩) (by assumption) ?_
            rotate_left
            · intro w hSw; (try dsimp only at hSw); go_simp; (try with_reducible rfl)
            try simp only [Act.put, List.setIfInBounds_toArray, List.set_cons_zero, List.set_cons_succ]
            refine wpAnyH_take (i := 14) (oi := ⟨some 69, _, _, _, _, _⟩) (v := ?_) rfl (by kernel_rfl) (by kernel_rfl) (by kernel_rfl) (fun _ _ _ h => h) (Or.inl ⟨by rfl, ?_⟩) (by assumption) ?_
            rotate_left
            · intro w hSw; (try dsimp only at hSw); go_simp; (try with_reducible rfl)
            try simp only [Act.put, List.setIfInBounds_toArray, List.set_cons_zero, List.set_cons_succ]
            refine wpAnyH_take (i := 15) (oi := ⟨some 70, _, _, _, _, _⟩) (v := ?_) rfl (by kernel_rfl) (by kernel_rfl) (by kernel_rfl) (fun _ _ _ h => h) (Or.inl ⟨by rfl, ?_⟩) (by assumption) ?_
            rotate_left
            · intro w hSw; (try dsimp only at hSw); go_simp; (try with_reducible rfl)
            try simp only [Act.put, List.setIfInBounds_toArray, List.set_cons_zero, List.set_cons_succ]
            refine wpAnyH_take (i := 16) (oi := ⟨some 71, _, _, _, _, _⟩) (v := ?_) rfl (by kernel_rfl) (by kernel_rfl) (by kernel_rfl) (fun _ _ _ h => h) (Or.inl ⟨by rfl, ?_⟩) (by assumption) ?_
            rotate_left
            · intro w hSw; (try dsimp only at hSw); go_simp; (try with_reducible rfl)
            try simp only [Act.put, List.setIfInBounds_toArray, List.set_cons_zero, List.set_cons_succ]
            refine wpAnyH_take (i := 17) (oi := ⟨some 72, _, _, _, _, _⟩) (v := ?_) rfl (by kernel_rfl) (by kernel_rfl) (by kernel_rfl) (fun _ _ _ h => h) (Or.inl ⟨by rfl, ?_⟩) (by assumption) ?_
            rotate_left
            · intro w hSw; (try dsimp only at hSw); go_simp; (try with_reducible rfl)
            try simp only [Act.put, List.setIfInBounds_toArray, List.set_cons_zero, List.set_cons_succ]
            refine wpAnyH_take (i := 19) (oi := ⟨some 74, _, _, _, _, _⟩) (v := ?_) rfl (by kernel_rfl) (by kernel_rfl) (by kernel_rfl) (fun _ _ _ h => h) (Or.inl ⟨by rfl, ?_⟩) (by assumption) ?_
            rotate_left
            · intro w hSw; (try dsimp only at hSw); go_simp; (try with_reducible rfl)
            try simp only [Act.put, List.setIfInBounds_toArray, List.set_cons_zero, List.set_cons_succ]
            refine wpAnyH_take (i := 21) (oi := ⟨some 76, _, _, _, _, _⟩) (v := ?_) rfl (by kernel_rfl) (by kernel_rfl) (by kernel_rfl) (fun _ _ _ h => h) (Or.inl ⟨by rfl, ?_⟩) (by assumption) ?_
            rotate_left
            · intro w hSw; (try dsimp only at hSw); go_simp; (try with_reducible rfl)
            try simp only [Act.put, List.setIfInBounds_toArray, List.set_cons_zero, List.set_cons_succ]
            refine wpAnyH_take (i := 24) (oi := ⟨some 79, _, _, _, _, _⟩) (v := ?_) rfl (by kernel_rfl) (by kernel_rfl) (by kernel_rfl) (fun _ _ _ h => h) (Or.inl ⟨by rfl, ?_⟩) (by assumption) ?_
            rotate_left
            · intro w hSw; (try dsimp only at hSw); go_simp; (try with_reducible rfl)
            try simp only [Act.put, List.setIfInBounds_toArray, List.set_cons_zero, List.set_cons_succ]
            refine wpAnyH_take (i := 25) (oi := ⟨some 80, _, _, _, _, _⟩) (v := ?_) rfl (by kernel_rfl) (by kernel_rfl) (by kernel_rfl) (fun _ _ _ h => h) (Or.inl ⟨by rfl, ?_⟩) (by assumption) ?_
            rotate_left
            · intro w hSw; (try dsimp only at hSw); go_simp; (try with_reducible rfl)
            try simp only [Act.put, List.setIfInBounds_toArray, List.set_cons_zero, List.set_cons_succ]
            refine wpAnyH_ready (rs := [6]) (by kernel_rfl) (by simp) ?_
            refine AllReadyH.cons (o := ⟨some 61, _, _, _, _, _⟩) rfl (fun K hK => ?_) (AllReadyH.nil)
            go_simp
            go_at_call 87
            refine (H7.out _ _).mono ?_
            rintro e w' ⟨rfl, rfl⟩
            go_wp2_with fail
            refine hK.out _ _ S0 (fun _ => ?_)
            clear hK K
            try simp only [Act.put, List.setIfInBounds_toArray, List.set_cons_zero, List.set_cons_succ]
            refine wpAnyH_ready (rs := [8]) (by kernel_rfl) (by simp) ?_
            refine AllReadyH.cons (o := ⟨some 63, _, _, _, _, _⟩) rfl (fun K hK => ?_) (AllReadyH.nil)
            go_simp
            go_at_call 87
            refine (H18.out _ _).mono ?_
            rintro e w' ⟨rfl, rfl⟩
            go_wp2_with fail
            refine hK.out _ _ S0 (fun _ => ?_)
            clear hK K
            try simp only [Act.put, List.setIfInBounds_toArray, List.set_cons_zero, List.set_cons_succ]
            refine wpAnyH_take (i := 9) (oi := ⟨some 64, _, _, _, _, _⟩) (v := ?_) rfl (by kernel_rfl) (by kernel_rfl) (by kernel_rfl) (fun _ _ _ h => h) (Or.inl ⟨by rfl, ?_⟩) (by assumption) ?_
            rotate_left
            · intro w hSw; (try dsimp only at hSw); go_simp; (try with_reducible rfl)
            try simp only [Act.put, List.setIfInBounds_toArray, List.set_cons_zero, List.set_cons_succ]
            refine wpAnyH_take (i := 12) (oi := ⟨some 67, _, _, _, _, _⟩) (v := ?_) rfl (by kernel_rfl) (by kernel_rfl) (by kernel_rfl) (fun _ _ _ h => h) (Or.inl ⟨by rfl, ?_⟩) (by assumption) ?_
            rotate_left
            · intro w hSw; (try dsimp only at hSw); go_simp; (try with_reducible rfl)
            try simp only [Act.put, List.setIfInBounds_toArray, List.set_cons_zero, List.set_cons_succ]
            refine wpAnyH_take (i := 13) (oi := ⟨some 68, _, _, _, _, _⟩) (v := ?_) rfl (by kernel_rfl) (by kernel_rfl) (by kernel_rfl) (fun _ _ _ h => h) (Or.inl ⟨by rfl, ?_⟩) (by assumption) ?_
            rotate_left
            · intro w hSw; (try dsimp only at hSw); go_simp; (try with_reducible rfl)
            try simp only [Act.put, List.setIfInBounds_toArray, List.set_cons_zero, List.set_cons_succ]
            refine wpAnyH_take (i := 18) (oi := ⟨some 73, _, _, _, _, _⟩) (v := ?_) rfl (by kernel_rfl) (by kernel_rfl) (by kernel_rfl) (fun _ _ _ h => h) (Or.inl ⟨by rfl, ?_⟩) (by assumption) ?_
            rotate_left
            · intro w hSw; (try dsimp only at hSw); go_simp; (try with_reducible rfl)
            try simp only [Act.put, List.setIfInBounds_toArray, List.set_cons_zero, List.set_cons_succ]
            refine wpAnyH_ready (rs := [20]) (by kernel_rfl) (by simp) ?_
            refine AllReadyH.cons (o := ⟨some 75, _, _, _, _, _⟩) rfl (fun K hK => ?_) (AllReadyH.nil)
            go_simp
            go_at_call 87
            refine (H17.out _ _).mono ?_
            rintro e w' ⟨rfl, rfl⟩
            go_wp2_with fail
            refine hK.out _ _ S0 (fun _ => ?_)
            clear hK K
            try simp only [Act.put, List.setIfInBounds_toArray, List.set_cons_zero, List.set_cons_succ]
            refine wpAnyH_ready (rs := [22]) (by kernel_rfl) (by simp) ?_
            refine AllReadyH.cons (o := ⟨some 77, _, _, _, _, _⟩) rfl (fun K hK => ?_) (AllReadyH.nil)
            go_simp
            go_at_call 87
            refine (H19.out _ _).mono ?_
            rintro e w' ⟨rfl, rfl⟩
            go_wp2_with fail
            refine hK.out _ _ S0 (fun _ => ?_)
            clear hK K
            try simp only [Act.put, List.setIfInBounds_toArray, List.set_cons_zero, List.set_cons_succ]
            refine wpAnyH_take (i := 23) (oi := ⟨some 78, _, _, _, _, _⟩) (v := ?_) rfl (by kernel_rfl) (by kernel_rfl) (by kernel_rfl) (fun _ _ _ h => h) (Or.inl ⟨by rfl, ?_⟩) (by assumption) ?_
            rotate_left
            · intro w hSw; (try dsimp only at hSw); go_simp; (try with_reducible rfl)
            try simp only [Act.put, List.setIfInBounds_toArray, List.set_cons_zero, List.set_cons_succ]
            refine wpAnyH_take (i := 26) (oi := ⟨some 81, _, _, _, _, _⟩) (v := ?_) rfl (by kernel_rfl) (by kernel_rfl) (by kernel_rfl) (fun _ _ _ h => h) (Or.inl ⟨by rfl, ?_⟩) (by assumption) ?_
            rotate_left
            · intro w hSw; (try dsimp only at hSw); go_simp; (try with_reducible rfl)
            try simp only [Act.put, List.setIfInBounds_toArray, List.set_cons_zero, List.set_cons_succ]
            refine wpAnyH_take (i := 27) (oi := ⟨some 82, _, _, _, _, _⟩) (v := ?_) rfl (by kernel_rfl) (by kernel_rfl) (by kernel_rfl) (fun _ _ _ h => h) (Or.inl ⟨by rfl, ?_⟩) (by assumption) ?_
            rotate_left
            · intro w hSw; (try dsimp only at hSw); go_simp; (try with_reducible rfl)
            try simp only [Act.put, List.setIfInBounds_toArray, List.set_cons_zero, List.set_cons_succ]
            refine wpAnyH_take (i := 28) (oi := ⟨some 83, _, _, _, _, _⟩) (v := ?_) rfl (by kernel_rfl) (by kernel_rfl) (by kernel_rfl) (fun _ _ _ h => h) (Or.inl ⟨by rfl, ?_⟩) (by assumption) ?_
            rotate_left
            · intro w hSw; (try dsimp only at hSw); go_simp; (try with_reducible rfl)
            try simp only [Act.put, List.setIfInBounds_toArray, List.set_cons_zero, List.set_cons_succ]
            refine wpAnyH_ready (rs := [29]) (by kernel_rfl) (by simp) ?_
            refine AllReadyH.cons (o := ⟨none, _, _, _, _, _⟩) rfl (fun K hK => ?_) (AllReadyH.nil)
            go_simp
            refine hK.out _ _ (by exact ⟨(World.cell?_setCell_other _ ⟨pW, k, none⟩ ⟨pW, k - 16, none⟩ _ (by intro e; injection e with e1 e2; omega)).trans S0.1, (World.cell?_setCell_other _ ⟨pW, k, none⟩ ⟨pW, k - 7, none⟩ _ (by intro e; injection e with e1 e2; omega)).trans S0.2⟩) (fun _ => ?_)
            clear hK K
            refine wpAnyH_done (by kernel_rfl) ?_ _
            go_wp2_with fail
            go_roundw
            case rel => exact ⟨k + 1, by omega, by omega, by go_num, by exact HST.out, Blk.setOther bH0 _ _ (by show pH ≠ pW; omega), Blk.setOther bK0 _ _ (by show pK ≠ pW; omega), Blk.setOther bR0 _ _ (by show pR ≠ pW; omega), gd0.setNew _ (by show w.heap.size ≤ pW; rw [HPH.out]; omega) _⟩
            case measure => first | (simp [intOf]; done) | (simp [intOf]; omega)
        · have hk64 : k = 64 := by omega
          have hfin : wcells bs 64 = (schedN bs 64).map u32v := by simp [wcells]
          have hd64 : decide ((k : Int) < 64) = false := by simp; omega
          rw [hk64, hfin] at bW
          clear hk64 hfin
          go_wp2_with fail
          go_meet
          exact ⟨bW, bH, bK, bR, gi⟩
    case rest =>
      obtain ⟨bW, bH, bK, bR, gi⟩ := hcut
      clear bWt bHt bKt bRt gt H7 H18 H17 H19
      obtain ⟨wr, rfl⟩ : ∃ wr : World, wr = wc := ⟨_, rfl⟩
      obtain ⟨SW, hSW⟩ : ∃ SW, SW = schedN bs 64 := ⟨_, rfl⟩
      have hSl : SW.length = 64 := by rw [hSW]; exact schedN_len bs 64
      rw [← hSW] at bW
      have HSW := Lib.hid hSW
      have HSL := Lib.hid hSl
      obtain ⟨hw8, how8⟩ := row8_facts ws hw
      have HI8 : Hid ((Tryd.prog.info? 25).map (·.size) = some (ws.map u32v).toArray.size) := by rw [hw8]; show _ = _; kernel_rfl
      have HO8 := Lib.hid how8
      have HC8 := Lib.hid hw8
      have hrow : wr.heap[pH]? = some (.cells (ws.map u32v).toArray 25 (0, 0)) := bH
      have HN8 := Lib.hid (heap_alloc_new wr (.cells #[Value.int IntKind.u32 0, Value.int IntKind.u32 0, Value.int IntKind.u32 0, Value.int IntKind.u32 0, Value.int IntKind.u32 0, Value.int IntKind.u32 0, Value.int IntKind.u32 0, Value.int IntKind.u32 0] 25))
      obtain ⟨w2, hw2⟩ : ∃ w2 : World, w2 = (wr.alloc (.cells #[Value.int IntKind.u32 0, Value.int IntKind.u32 0, Value.int IntKind.u32 0, Value.int IntKind.u32 0, Value.int IntKind.u32 0, Value.int IntKind.u32 0, Value.int IntKind.u32 0, Value.int IntKind.u32 0] 25)).setRow wr.heap.size (ws.map u32v).toArray := ⟨_, rfl⟩
      have HW2 : Hid ((wr.alloc (.cells #[Value.int IntKind.u32 0, Value.int IntKind.u32 0, Value.int IntKind.u32 0, Value.int IntKind.u32 0, Value.int IntKind.u32 0, Value.int IntKind.u32 0, Value.int IntKind.u32 0, Value.int IntKind.u32 0] 25)).setRow wr.heap.size (ws.map u32v).toArray = w2) := hw2.symm
      have bS2 : BlkL w2 wr.heap.size (stV (ofL ws)) 25 := by rw [hw2, stV_ofL ws hw]; exact setRow_heap _ _ _ _ _ _ (heap_alloc_new _ _)
      have g12 : Chg none wr w2 := by
        rw [hw2]
        exact Chg.own (b := wr.heap.size) ((Chg.refl none wr).alloc _) (chg_setRow _ _ _) (Nat.le_refl _)
      have g02 : Chg none w w2 := gi.trans g12
      have bW2 := Blk.chg bW g12 (by simp)
      have bH2 := Blk.chg bH g12 (by simp)
      have bK2 := Blk.chg bK g12 (by simp)
      have bR2 := Blk.chg bR g12 (by simp)
      have hpS : pW < wr.heap.size := Blk.lt bW
      have hpSw : w.heap.size ≤ wr.heap.size := gi.size
      have HE := Lib.hid (ofL_e ws HR8.out)
      clear HR8 hw2 hSW hSl hw8 how8 bW bH bK bR gi g12
      go_upto_region 15 with (first
        | (refine wpList_load_row rfl 25 _ rfl pH rfl 25 _ (0, 0) _ hrow Tryd.underlying25 rfl HI8.out ?_)
        | (refine wpList_store_row rfl 25 _ _ rfl wr.heap.size (ws.map u32v).toArray rfl rfl 25 _ HN8.out HI8.out (by rw [HC8.out]; rfl) HO8.out ?_))
      rw [HW2.out]
      clear HW2 HN8 hrow HI8 HO8 HC8
      generalize wr.heap.size = pS at *
      have H2 := Lib.hid (fun W x => turn2 x W)
      have H6 := Lib.hid (fun W x => turn6 x W)
      have H11 := Lib.hid (fun W x => turn11 x W)
      have H13 := Lib.hid (fun W x => turn13 x W)
      have H22 := Lib.hid (fun W x => turn22 x W)
      have H25 := Lib.hid (fun W x => turn25 x W)
      have HI25 : Hid (∀ cs : Array Value, cs.size = 8 → (Tryd.prog.info? 25).map (·.size) = some cs.size) := by
        show ∀ cs : Array Value, cs.size = 8 → _
        intro cs h; rw [h]; kernel_rfl
      go_upto_block 6 with fail
      go_cut [14, 15, 16, 17, 18] (fun _ _ _ _ _ wx => ∃ s : St, Hid (s = rounds (ofL ws) SW 64) ∧ BlkL wx pS (stV s) 25 ∧ BlkL wx pH (ws.map u32v) 25 ∧ BlkL wx pR (noW8) 25 ∧ Chg none w wx)
      case first =>
        go_wp2_with fail
        go_loopw [14, 15, 16, 17, 18] (fun s14 _ _ _ _ wq => ∃ (t : Nat) (s : St), t ≤ 64 ∧ s14 = .int .i64 t ∧ Hid (s = rounds (ofL ws) SW t) ∧ BlkL wq pS (stV s) 25 ∧ BlkL wq pW (SW.map u32v) 26 ∧ BlkL wq pH (ws.map u32v) 25 ∧ BlkL wq pK (K0.map u32v) 26 ∧ BlkL wq pR (noW8) 25 ∧ Chg none w wq) (fun s14 _ _ _ _ _ => 64 - (intOf s14).toNat)
        case atStart => exact ⟨0, ofL ws, by omega, rfl, rfl, bS2, bW2, bH2, bK2, bR2, g02⟩
        case round =>
          obtain ⟨t, s, ht, rfl, HS2, bS, bW, bH, bK, bR, gi⟩ := hrel
          clear bS2 bW2 bH2 bK2 bR2 g02
          by_cases hlt : t < 64
          · as_aux_lemma =>
              obtain ⟨kk, hkk⟩ : ∃ kk, kk = K0.getD t 0 := ⟨_, rfl⟩
              obtain ⟨ww, hww⟩ : ∃ ww, ww = SW.getD t 0 := ⟨_, rfl⟩
              have HKK := Lib.hid hkk
              have HWW := Lib.hid hww
              have ck : wr.cell? ⟨pK, t, none⟩ = some (.int .u32 kk) := by rw [hkk, BlkL.cell bK]; exact u32_at K0 t hlt
              have cw : wr.cell? ⟨pW, t, none⟩ = some (.int .u32 ww) := by rw [hww, BlkL.cell bW]; exact u32_at SW t (by rw [HSL.out]; exact hlt)
              have hee := rounds_e (s0 := ofL ws) HE.out SW t
              rw [← HS2.out] at hee
              clear hkk hww
              obtain ⟨xa, xb, xc, xd, xe, xf, xg, xh⟩ := s
              have HNM : Hid (IntKind.u32.wrap (4294967295 - xe) = bits .xor .u32 IntKind.u32.max xe) := not_maxZ xe hee
              have qa : wr.cell? ⟨pS, 0, none⟩ = some (.int .u32 xa) := by rw [BlkL.cell bS]; rfl
              have qb : wr.cell? ⟨pS, 1, none⟩ = some (.int .u32 xb) := by rw [BlkL.cell bS]; rfl
              have qc : wr.cell? ⟨pS, 2, none⟩ = some (.int .u32 xc) := by rw [BlkL.cell bS]; rfl
              have qd : wr.cell? ⟨pS, 3, none⟩ = some (.int .u32 xd) := by rw [BlkL.cell bS]; rfl
              have qe : wr.cell? ⟨pS, 4, none⟩ = some (.int .u32 xe) := by rw [BlkL.cell bS]; rfl
              have qf : wr.cell? ⟨pS, 5, none⟩ = some (.int .u32 xf) := by rw [BlkL.cell bS]; rfl
              have qg : wr.cell? ⟨pS, 6, none⟩ = some (.int .u32 xg) := by rw [BlkL.cell bS]; rfl
              have qh : wr.cell? ⟨pS, 7, none⟩ = some (.int .u32 xh) := by rw [BlkL.cell bS]; rfl
              have ti0 : (0 : Int) ≤ (t : Int) := by omega
              have ti1 : (t : Int) < 64 := by omega
              obtain ⟨T1, hT1⟩ : ∃ T1, T1 = t1 ⟨xa, xb, xc, xd, xe, xf, xg, xh⟩ kk ww := ⟨_, rfl⟩
              obtain ⟨T2, hT2⟩ : ∃ T2, T2 = IntKind.u32.wrap (bits .xor .u32 (bits .xor .u32 (rotr xa 2) (rotr xa 13)) (rotr xa 22) + bits .xor .u32 (bits .xor .u32 (bits .and .u32 xa xb) (bits .and .u32 xa xc)) (bits .and .u32 xb xc)) := ⟨_, rfl⟩
              have HT1 := Lib.hid hT1
              have HT2 := Lib.hid hT2
              clear hT1 hT2 hee hw HE HSL
              go_upto_region 18 with (fail)
              go_cut [15, 16] (fun s15 s16 wx => s15 = .int .u32 xe ∧ s16 = .int .u32 xa ∧ wx = wr.drew)
              case first =>
                clear qb qc qd qf qg qh ck cw
                go_region
                all_goals
                  go_wp2_with fail
                  go_meet
                  exact ⟨rfl, rfl, rfl⟩
              case rest =>
                obtain ⟨rfl, rfl, rfl⟩ := hcut
                go_wp2_with fail
                go_cut [17] (fun s17 wx => s17 = .int .u32 T1 ∧ wx = wr.drew.drew)
                case first =>
                  refine wp_region_held_drew (S := fun w' => w'.cell? ⟨pS, 7, none⟩ = some (.int .u32 xh) ∧ w'.cell? ⟨pS, 5, none⟩ = some (.int .u32 xf) ∧ w'.cell? ⟨pS, 6, none⟩ = some (.int .u32 xg) ∧ w'.cell? ⟨pK, t, none⟩ = some (.int .u32 kk) ∧ w'.cell? ⟨pW, t, none⟩ = some (.int .u32 ww)) (by kernel_rfl) ⟨qh, qf, qg, ck, cw⟩ (fun _ => ?_)
                  have S0 : wr.drew.drew.cell? ⟨pS, 7, none⟩ = some (.int .u32 xh) ∧ wr.drew.drew.cell? ⟨pS, 5, none⟩ = some (.int .u32 xf) ∧ wr.drew.drew.cell? ⟨pS, 6, none⟩ = some (.int .u32 xg) ∧ wr.drew.drew.cell? ⟨pK, t, none⟩ = some (.int .u32 kk) ∧ wr.drew.drew.cell? ⟨pW, t, none⟩ = some (.int .u32 ww) := ⟨qh, qf, qg, ck, cw⟩
                  clear qa qb qc qd qe qf qg qh ck cw bS bW bH bK bR gi HT2 HKK HWW HS2
                  generalize wr.drew.drew = v0 at *
                  refine wpAnyH_take (i := 0) (oi := ⟨some 93, _, _, _, _, _⟩) (v := ?_) rfl (by kernel_rfl) (by kernel_rfl) (by kernel_rfl) (fun _ _ _ h => h) (Or.inl ⟨by rfl, ?_⟩) (by assumption) ?_
                  rotate_left
                  · intro w hSw; (try dsimp only at hSw); go_simp; (try with_reducible rfl)
                  try simp only [Act.put, List.setIfInBounds_toArray, List.set_cons_zero, List.set_cons_succ]
                  refine wpAnyH_take (i := 1) (oi := ⟨some 94, _, _, _, _, _⟩) (v := ?_) rfl (by kernel_rfl) (by kernel_rfl) (by kernel_rfl) (fun _ _ _ h => h) (Or.inl ⟨by rfl, ?_⟩) (by assumption) ?_
                  rotate_left
                  · intro w hSw; (try dsimp only at hSw); go_simp; (try with_reducible rfl)
                  try simp only [Act.put, List.setIfInBounds_toArray, List.set_cons_zero, List.set_cons_succ]
                  refine wpAnyH_take (i := 2) (oi := ⟨some 95, _, _, _, _, _⟩) (v := ?_) rfl (by kernel_rfl) (by kernel_rfl) (by kernel_rfl) (fun _ _ _ h => h) (Or.inl ⟨by rfl, ?_⟩) (by assumption) ?_
                  rotate_left
                  · intro w hSw; (try dsimp only at hSw); go_simp; (try with_reducible rfl)
                  try simp only [Act.put, List.setIfInBounds_toArray, List.set_cons_zero, List.set_cons_succ]
                  refine wpAnyH_take (i := 4) (oi := ⟨some 97, _, _, _, _, _⟩) (v := ?_) rfl (by kernel_rfl) (by kernel_rfl) (by kernel_rfl) (fun _ _ _ h => h) (Or.inl ⟨by rfl, ?_⟩) (by assumption) ?_
                  rotate_left
                  · intro w hSw; (try dsimp only at hSw); go_simp; (try with_reducible rfl)
                  try simp only [Act.put, List.setIfInBounds_toArray, List.set_cons_zero, List.set_cons_succ]
                  refine wpAnyH_take (i := 7) (oi := ⟨some 100, _, _, _, _, _⟩) (v := ?_) rfl (by kernel_rfl) (by kernel_rfl) (by kernel_rfl) (fun _ _ _ h => h) (Or.inl ⟨by rfl, ?_⟩) (by assumption) ?_
                  rotate_left
                  · intro w hSw; (try dsimp only at hSw); go_simp; (try with_reducible rfl)
                  try simp only [Act.put, List.setIfInBounds_toArray, List.set_cons_zero, List.set_cons_succ]
                  refine wpAnyH_take (i := 11) (oi := ⟨some 104, _, _, _, _, _⟩) (v := ?_) rfl (by kernel_rfl) (by kernel_rfl) (by kernel_rfl) (fun _ _ _ h => h) (Or.inl ⟨by rfl, ?_⟩) (by assumption) ?_
                  rotate_left
                  · intro w hSw; (try dsimp only at hSw); go_simp; (try with_reducible rfl)
                  try simp only [Act.put, List.setIfInBounds_toArray, List.set_cons_zero, List.set_cons_succ]
                  refine wpAnyH_take (i := 12) (oi := ⟨some 105, _, _, _, _, _⟩) (v := ?_) rfl (by kernel_rfl) (by kernel_rfl) (by kernel_rfl) (fun _ _ _ h => h) (Or.inl ⟨by rfl, ?_⟩) (by assumption) ?_
                  rotate_left
                  · intro w hSw; (try dsimp only at hSw); go_simp; (try with_reducible rfl)
                  try simp only [Act.put, List.setIfInBounds_toArray, List.set_cons_zero, List.set_cons_succ]
                  refine wpAnyH_take (i := 13) (oi := ⟨some 106, _, _, _, _, _⟩) (v := ?_) rfl (by kernel_rfl) (by kernel_rfl) (by kernel_rfl) (fun _ _ _ h => h) (Or.inl ⟨by rfl, ?_⟩) (by assumption) ?_
                  rotate_left
                  · intro w hSw; (try dsimp only at hSw); go_simp; (try with_reducible rfl)
                  try simp only [Act.put, List.setIfInBounds_toArray, List.set_cons_zero, List.set_cons_succ]
                  refine wpAnyH_take (i := 14) (oi := ⟨some 107, _, _, _, _, _⟩) (v := ?_) rfl (by kernel_rfl) (by kernel_rfl) (by kernel_rfl) (fun _ _ _ h => h) (Or.inl ⟨by rfl, ?_⟩) (by assumption) ?_
                  rotate_left
                  · intro w hSw; (try dsimp only at hSw); go_simp; (try with_reducible rfl)
                  try simp only [Act.put, List.setIfInBounds_toArray, List.set_cons_zero, List.set_cons_succ]
                  refine wpAnyH_take (i := 15) (oi := ⟨some 108, _, _, _, _, _⟩) (v := ?_) rfl (by kernel_rfl) (by kernel_rfl) (by kernel_rfl) (fun _ _ _ h => h) (Or.inl ⟨by rfl, ?_⟩) (by assumption) ?_
                  rotate_left
                  · intro w hSw; (try dsimp only at hSw); go_simp; (try with_reducible rfl)
                  try simp only [Act.put, List.setIfInBounds_toArray, List.set_cons_zero, List.set_cons_succ]
                  refine wpAnyH_take (i := 16) (oi := ⟨some 109, _, _, _, _, _⟩) (v := ?_) rfl (by kernel_rfl) (by kernel_rfl) (by kernel_rfl) (fun _ _ _ h => h) (Or.inl ⟨by rfl, ?_⟩) (by assumption) ?_
                  rotate_left
                  · intro w hSw; (try dsimp only at hSw); go_simp; (try with_reducible rfl)
                  try simp only [Act.put, List.setIfInBounds_toArray, List.set_cons_zero, List.set_cons_succ]
                  refine wpAnyH_take (i := 17) (oi := ⟨some 110, _, _, _, _, _⟩) (v := ?_) rfl (by kernel_rfl) (by kernel_rfl) (by kernel_rfl) (fun _ _ _ h => h) (Or.inl ⟨by rfl, ?_⟩) (by assumption) ?_
                  rotate_left
                  · intro w hSw; (try dsimp only at hSw); go_simp; (try with_reducible rfl)
                  try simp only [Act.put, List.setIfInBounds_toArray, List.set_cons_zero, List.set_cons_succ]
                  refine wpAnyH_take (i := 18) (oi := ⟨some 111, _, _, _, _, _⟩) (v := ?_) rfl (by kernel_rfl) (by kernel_rfl) (by kernel_rfl) (fun _ _ _ h => h) (Or.inl ⟨by rfl, ?_⟩) (by assumption) ?_
                  rotate_left
                  · intro w hSw; (try dsimp only at hSw); go_simp; (try with_reducible rfl)
                  try simp only [Act.put, List.setIfInBounds_toArray, List.set_cons_zero, List.set_cons_succ]
                  refine wpAnyH_take (i := 19) (oi := ⟨some 112, _, _, _, _, _⟩) (v := ?_) rfl (by kernel_rfl) (by kernel_rfl) (by kernel_rfl) (fun _ _ _ h => h) (Or.inl ⟨by rfl, ?_⟩) (by assumption) ?_
                  rotate_left
                  · intro w hSw; (try dsimp only at hSw); go_simp; (try with_reducible rfl)
                  try simp only [Act.put, List.setIfInBounds_toArray, List.set_cons_zero, List.set_cons_succ]
                  refine wpAnyH_take (i := 20) (oi := ⟨some 113, _, _, _, _, _⟩) (v := ?_) rfl (by kernel_rfl) (by kernel_rfl) (by kernel_rfl) (fun _ _ _ h => h) (Or.inl ⟨by rfl, ?_⟩) (by assumption) ?_
                  rotate_left
                  · intro w hSw; (try dsimp only at hSw); go_simp; (try with_reducible rfl)
                  try simp only [Act.put, List.setIfInBounds_toArray, List.set_cons_zero, List.set_cons_succ]
                  refine wpAnyH_take (i := 22) (oi := ⟨some 115, _, _, _, _, _⟩) (v := ?_) rfl (by kernel_rfl) (by kernel_rfl) (by kernel_rfl) (fun _ _ _ h => h) (Or.inl ⟨by rfl, ?_⟩) (by assumption) ?_
                  rotate_left
                  · intro w hSw; (try dsimp only at hSw); go_simp; (try with_reducible rfl)
                  try simp only [Act.put, List.setIfInBounds_toArray, List.set_cons_zero, List.set_cons_succ]
                  refine wpAnyH_take (i := 23) (oi := ⟨some 116, _, _, _, _, _⟩) (v := ?_) rfl (by kernel_rfl) (by kernel_rfl) (by kernel_rfl) (fun _ _ _ h => h) (Or.inl ⟨by rfl, ?_⟩) (by assumption) ?_
                  rotate_left
                  · intro w hSw; (try dsimp only at hSw); go_simp; (try with_reducible rfl)
                  try simp only [Act.put, List.setIfInBounds_toArray, List.set_cons_zero, List.set_cons_succ]
                  refine wpAnyH_take (i := 24) (oi := ⟨some 117, _, _, _, _, _⟩) (v := ?_) rfl (by kernel_rfl) (by kernel_rfl) (by kernel_rfl) (fun _ _ _ h => h) (Or.inl ⟨by rfl, ?_⟩) (by assumption) ?_
                  rotate_left
                  · intro w hSw; (try dsimp only at hSw); go_simp; (try with_reducible rfl)
                  try simp only [Act.put, List.setIfInBounds_toArray, List.set_cons_zero, List.set_cons_succ]
                  refine wpAnyH_take (i := 26) (oi := ⟨some 119, _, _, _, _, _⟩) (v := ?_) rfl (by kernel_rfl) (by kernel_rfl) (by kernel_rfl) (fun _ _ _ h => h) (Or.inl ⟨by rfl, ?_⟩) (by assumption) ?_
                  rotate_left
                  · intro w hSw; (try dsimp only at hSw); go_simp; (try with_reducible rfl)
                  try simp only [Act.put, List.setIfInBounds_toArray, List.set_cons_zero, List.set_cons_succ]
                  refine wpAnyH_take (i := 27) (oi := ⟨some 120, _, _, _, _, _⟩) (v := ?_) rfl (by kernel_rfl) (by kernel_rfl) (by kernel_rfl) (fun _ _ _ h => h) (Or.inl ⟨by rfl, ?_⟩) (by assumption) ?_
                  rotate_left
                  · intro w hSw; (try dsimp only at hSw); go_simp; (try with_reducible rfl)
                  try simp only [Act.put, List.setIfInBounds_toArray, List.set_cons_zero, List.set_cons_succ]
                  refine wpAnyH_take (i := 28) (oi := ⟨some 121, _, _, _, _, _⟩) (v := ?_) rfl (by kernel_rfl) (by kernel_rfl) (by kernel_rfl) (fun _ _ _ h => h) (Or.inl ⟨by rfl, ?_⟩) (by assumption) ?_
                  rotate_left
                  · intro w hSw; (try dsimp only at hSw); go_simp; (try with_reducible rfl)
                  try simp only [Act.put, List.setIfInBounds_toArray, List.set_cons_zero, List.set_cons_succ]
                  refine wpAnyH_ready (rs := [3]) (by kernel_rfl) (by simp) ?_
                  refine AllReadyH.cons (o := ⟨some 96, _, _, _, _, _⟩) rfl (fun K hK => ?_) (AllReadyH.nil)
                  go_simp
                  go_at_call 87
                  refine (H6.out _ _).mono ?_
                  rintro e w' ⟨rfl, rfl⟩
                  go_wp2_with fail
                  refine hK.out _ _ S0 (fun _ => ?_)
                  clear hK K
                  try simp only [Act.put, List.setIfInBounds_toArray, List.set_cons_zero, List.set_cons_succ]
                  refine wpAnyH_ready (rs := [5]) (by kernel_rfl) (by simp) ?_
                  refine AllReadyH.cons (o := ⟨some 98, _, _, _, _, _⟩) rfl (fun K hK => ?_) (AllReadyH.nil)
                  go_simp
                  go_at_call 87
                  refine (H11.out _ _).mono ?_
                  rintro e w' ⟨rfl, rfl⟩
                  go_wp2_with fail
                  refine hK.out _ _ S0 (fun _ => ?_)
                  clear hK K
                  try simp only [Act.put, List.setIfInBounds_toArray, List.set_cons_zero, List.set_cons_succ]
                  refine wpAnyH_take (i := 6) (oi := ⟨some 99, _, _, _, _, _⟩) (v := ?_) rfl (by kernel_rfl) (by kernel_rfl) (by kernel_rfl) (fun _ _ _ h => h) (Or.inl ⟨by rfl, ?_⟩) (by assumption) ?_
                  rotate_left
                  · intro w hSw; (try dsimp only at hSw); go_simp; (try with_reducible rfl)
                  try simp only [Act.put, List.setIfInBounds_toArray, List.set_cons_zero, List.set_cons_succ]
                  refine wpAnyH_ready (rs := [8]) (by kernel_rfl) (by simp) ?_
                  refine AllReadyH.cons (o := ⟨some 101, _, _, _, _, _⟩) rfl (fun K hK => ?_) (AllReadyH.nil)
                  go_simp
                  go_at_call 87
                  refine (H25.out _ _).mono ?_
                  rintro e w' ⟨rfl, rfl⟩
                  go_wp2_with fail
                  refine hK.out _ _ S0 (fun _ => ?_)
                  clear hK K
                  try simp only [Act.put, List.setIfInBounds_toArray, List.set_cons_zero, List.set_cons_succ]
                  refine wpAnyH_take (i := 9) (oi := ⟨some 102, _, _, _, _, _⟩) (v := ?_) rfl (by kernel_rfl) (by kernel_rfl) (by kernel_rfl) (fun _ _ _ h => h) (Or.inl ⟨by rfl, ?_⟩) (by assumption) ?_
                  rotate_left
                  · intro w hSw; (try dsimp only at hSw); go_simp; (try with_reducible rfl)
                  try simp only [Act.put, List.setIfInBounds_toArray, List.set_cons_zero, List.set_cons_succ]
                  refine wpAnyH_take (i := 10) (oi := ⟨some 103, _, _, _, _, _⟩) (v := ?_) rfl (by kernel_rfl) (by kernel_rfl) (by kernel_rfl) (fun _ _ _ h => h) (Or.inl ⟨by rfl, ?_⟩) (by assumption) ?_
                  rotate_left
                  · intro w hSw; (try dsimp only at hSw); go_simp; (try with_reducible rfl)
                  try simp only [Act.put, List.setIfInBounds_toArray, List.set_cons_zero, List.set_cons_succ]
                  refine wpAnyH_take (i := 21) (oi := ⟨some 114, _, _, _, _, _⟩) (v := ?_) rfl (by kernel_rfl) (by kernel_rfl) (by kernel_rfl) (fun _ _ _ h => h) (Or.inl ⟨by rfl, ?_⟩) (by assumption) ?_
                  rotate_left
                  · intro w hSw; (try dsimp only at hSw); go_simp; (try with_reducible rfl)
                  try simp only [Act.put, List.setIfInBounds_toArray, List.set_cons_zero, List.set_cons_succ]
                  refine wpAnyH_take (i := 25) (oi := ⟨some 118, _, _, _, _, _⟩) (v := ?_) rfl (by kernel_rfl) (by kernel_rfl) (by kernel_rfl) (fun _ _ _ h => h) (Or.inl ⟨by rfl, ?_⟩) (by assumption) ?_
                  rotate_left
                  · intro w hSw; (try dsimp only at hSw); go_simp; (try with_reducible rfl)
                  try simp only [Act.put, List.setIfInBounds_toArray, List.set_cons_zero, List.set_cons_succ]
                  refine wpAnyH_take (i := 29) (oi := ⟨some 122, _, _, _, _, _⟩) (v := ?_) rfl (by kernel_rfl) (by kernel_rfl) (by kernel_rfl) (fun _ _ _ h => h) (Or.inl ⟨by rfl, ?_⟩) (by assumption) ?_
                  rotate_left
                  · intro w hSw; (try dsimp only at hSw); go_simp; (try with_reducible rfl)
                  try simp only [Act.put, List.setIfInBounds_toArray, List.set_cons_zero, List.set_cons_succ]
                  refine wpAnyH_take (i := 30) (oi := ⟨some 17, _, _, _, _, _⟩) (v := ?_) rfl (by kernel_rfl) (by kernel_rfl) (by kernel_rfl) (fun _ _ _ h => h) (Or.inl ⟨by rfl, ?_⟩) (by assumption) ?_
                  rotate_left
                  · intro w hSw; (try dsimp only at hSw); go_simp; (try with_reducible rfl)
                  try simp only [Act.put, List.setIfInBounds_toArray, List.set_cons_zero, List.set_cons_succ]
                  refine wpAnyH_done (by kernel_rfl) ?_ _
                  go_wp2_with fail
                  go_meet
                  exact ⟨by rw [HT1.out, t1, ← HNM.out], rfl⟩
                case rest =>
                  obtain ⟨rfl, rfl⟩ := hcut
                  clear HNM
                  go_wp2_with fail
                  go_cut [18] (fun s18 wx => s18 = .int .u32 T2 ∧ wx = wr.drew.drew.drew)
                  case first =>
                    refine wp_region_held_drew (S := fun w' => w'.cell? ⟨pS, 1, none⟩ = some (.int .u32 xb) ∧ w'.cell? ⟨pS, 2, none⟩ = some (.int .u32 xc)) (by kernel_rfl) ⟨qb, qc⟩ (fun _ => ?_)
                    have S0 : wr.drew.drew.drew.cell? ⟨pS, 1, none⟩ = some (.int .u32 xb) ∧ wr.drew.drew.drew.cell? ⟨pS, 2, none⟩ = some (.int .u32 xc) := ⟨qb, qc⟩
                    clear qa qb qc qd qe qf qg qh ck cw bS bW bH bK bR gi HT1 HKK HWW HS2
                    generalize wr.drew.drew.drew = v0 at *
                    refine wpAnyH_take (i := 0) (oi := ⟨some 123, _, _, _, _, _⟩) (v := ?_) rfl (by kernel_rfl) (by kernel_rfl) (by kernel_rfl) (fun _ _ _ h => h) (Or.inl ⟨by rfl, ?_⟩) (by assumption) ?_
                    rotate_left
                    · intro w hSw; (try dsimp only at hSw); go_simp; (try with_reducible rfl)
                    try simp only [Act.put, List.setIfInBounds_toArray, List.set_cons_zero, List.set_cons_succ]
                    refine wpAnyH_take (i := 2) (oi := ⟨some 125, _, _, _, _, _⟩) (v := ?_) rfl (by kernel_rfl) (by kernel_rfl) (by kernel_rfl) (fun _ _ _ h => h) (Or.inl ⟨by rfl, ?_⟩) (by assumption) ?_
                    rotate_left
                    · intro w hSw; (try dsimp only at hSw); go_simp; (try with_reducible rfl)
                    try simp only [Act.put, List.setIfInBounds_toArray, List.set_cons_zero, List.set_cons_succ]
                    refine wpAnyH_take (i := 5) (oi := ⟨some 128, _, _, _, _, _⟩) (v := ?_) rfl (by kernel_rfl) (by kernel_rfl) (by kernel_rfl) (fun _ _ _ h => h) (Or.inl ⟨by rfl, ?_⟩) (by assumption) ?_
                    rotate_left
                    · intro w hSw; (try dsimp only at hSw); go_simp; (try with_reducible rfl)
                    try simp only [Act.put, List.setIfInBounds_toArray, List.set_cons_zero, List.set_cons_succ]
                    refine wpAnyH_take (i := 8) (oi := ⟨some 131, _, _, _, _, _⟩) (v := ?_) rfl (by kernel_rfl) (by kernel_rfl) (by kernel_rfl) (fun _ _ _ h => h) (Or.inl ⟨by rfl, ?_⟩) (by assumption) ?_
                    rotate_left
                    · intro w hSw; (try dsimp only at hSw); go_simp; (try with_reducible rfl)
                    try simp only [Act.put, List.setIfInBounds_toArray, List.set_cons_zero, List.set_cons_succ]
                    refine wpAnyH_take (i := 9) (oi := ⟨some 132, _, _, _, _, _⟩) (v := ?_) rfl (by kernel_rfl) (by kernel_rfl) (by kernel_rfl) (fun _ _ _ h => h) (Or.inl ⟨by rfl, ?_⟩) (by assumption) ?_
                    rotate_left
                    · intro w hSw; (try dsimp only at hSw); go_simp; (try with_reducible rfl)
                    try simp only [Act.put, List.setIfInBounds_toArray, List.set_cons_zero, List.set_cons_succ]
                    refine wpAnyH_take (i := 10) (oi := ⟨some 133, _, _, _, _, _⟩) (v := ?_) rfl (by kernel_rfl) (by kernel_rfl) (by kernel_rfl) (fun _ _ _ h => h) (Or.inl ⟨by rfl, ?_⟩) (by assumption) ?_
                    rotate_left
                    · intro w hSw; (try dsimp only at hSw); go_simp; (try with_reducible rfl)
                    try simp only [Act.put, List.setIfInBounds_toArray, List.set_cons_zero, List.set_cons_succ]
                    refine wpAnyH_take (i := 11) (oi := ⟨some 134, _, _, _, _, _⟩) (v := ?_) rfl (by kernel_rfl) (by kernel_rfl) (by kernel_rfl) (fun _ _ _ h => h) (Or.inl ⟨by rfl, ?_⟩) (by assumption) ?_
                    rotate_left
                    · intro w hSw; (try dsimp only at hSw); go_simp; (try with_reducible rfl)
                    try simp only [Act.put, List.setIfInBounds_toArray, List.set_cons_zero, List.set_cons_succ]
                    refine wpAnyH_take (i := 12) (oi := ⟨some 135, _, _, _, _, _⟩) (v := ?_) rfl (by kernel_rfl) (by kernel_rfl) (by kernel_rfl) (fun _ _ _ h => h) (Or.inl ⟨by rfl, ?_⟩) (by assumption) ?_
                    rotate_left
                    · intro w hSw; (try dsimp only at hSw); go_simp; (try with_reducible rfl)
                    try simp only [Act.put, List.setIfInBounds_toArray, List.set_cons_zero, List.set_cons_succ]
                    refine wpAnyH_take (i := 13) (oi := ⟨some 136, _, _, _, _, _⟩) (v := ?_) rfl (by kernel_rfl) (by kernel_rfl) (by kernel_rfl) (fun _ _ _ h => h) (Or.inl ⟨by rfl, ?_⟩) (by assumption) ?_
                    rotate_left
                    · intro w hSw; (try dsimp only at hSw); go_simp; (try with_reducible rfl)
                    try simp only [Act.put, List.setIfInBounds_toArray, List.set_cons_zero, List.set_cons_succ]
                    refine wpAnyH_take (i := 14) (oi := ⟨some 137, _, _, _, _, _⟩) (v := ?_) rfl (by kernel_rfl) (by kernel_rfl) (by kernel_rfl) (fun _ _ _ h => h) (Or.inl ⟨by rfl, ?_⟩) (by assumption) ?_
                    rotate_left
                    · intro w hSw; (try dsimp only at hSw); go_simp; (try with_reducible rfl)
                    try simp only [Act.put, List.setIfInBounds_toArray, List.set_cons_zero, List.set_cons_succ]
                    refine wpAnyH_take (i := 15) (oi := ⟨some 138, _, _, _, _, _⟩) (v := ?_) rfl (by kernel_rfl) (by kernel_rfl) (by kernel_rfl) (fun _ _ _ h => h) (Or.inl ⟨by rfl, ?_⟩) (by assumption) ?_
                    rotate_left
                    · intro w hSw; (try dsimp only at hSw); go_simp; (try with_reducible rfl)
                    try simp only [Act.put, List.setIfInBounds_toArray, List.set_cons_zero, List.set_cons_succ]
                    refine wpAnyH_take (i := 16) (oi := ⟨some 139, _, _, _, _, _⟩) (v := ?_) rfl (by kernel_rfl) (by kernel_rfl) (by kernel_rfl) (fun _ _ _ h => h) (Or.inl ⟨by rfl, ?_⟩) (by assumption) ?_
                    rotate_left
                    · intro w hSw; (try dsimp only at hSw); go_simp; (try with_reducible rfl)
                    try simp only [Act.put, List.setIfInBounds_toArray, List.set_cons_zero, List.set_cons_succ]
                    refine wpAnyH_take (i := 17) (oi := ⟨some 140, _, _, _, _, _⟩) (v := ?_) rfl (by kernel_rfl) (by kernel_rfl) (by kernel_rfl) (fun _ _ _ h => h) (Or.inl ⟨by rfl, ?_⟩) (by assumption) ?_
                    rotate_left
                    · intro w hSw; (try dsimp only at hSw); go_simp; (try with_reducible rfl)
                    try simp only [Act.put, List.setIfInBounds_toArray, List.set_cons_zero, List.set_cons_succ]
                    refine wpAnyH_take (i := 18) (oi := ⟨some 141, _, _, _, _, _⟩) (v := ?_) rfl (by kernel_rfl) (by kernel_rfl) (by kernel_rfl) (fun _ _ _ h => h) (Or.inl ⟨by rfl, ?_⟩) (by assumption) ?_
                    rotate_left
                    · intro w hSw; (try dsimp only at hSw); go_simp; (try with_reducible rfl)
                    try simp only [Act.put, List.setIfInBounds_toArray, List.set_cons_zero, List.set_cons_succ]
                    refine wpAnyH_take (i := 19) (oi := ⟨some 142, _, _, _, _, _⟩) (v := ?_) rfl (by kernel_rfl) (by kernel_rfl) (by kernel_rfl) (fun _ _ _ h => h) (Or.inl ⟨by rfl, ?_⟩) (by assumption) ?_
                    rotate_left
                    · intro w hSw; (try dsimp only at hSw); go_simp; (try with_reducible rfl)
                    try simp only [Act.put, List.setIfInBounds_toArray, List.set_cons_zero, List.set_cons_succ]
                    refine wpAnyH_take (i := 20) (oi := ⟨some 143, _, _, _, _, _⟩) (v := ?_) rfl (by kernel_rfl) (by kernel_rfl) (by kernel_rfl) (fun _ _ _ h => h) (Or.inl ⟨by rfl, ?_⟩) (by assumption) ?_
                    rotate_left
                    · intro w hSw; (try dsimp only at hSw); go_simp; (try with_reducible rfl)
                    try simp only [Act.put, List.setIfInBounds_toArray, List.set_cons_zero, List.set_cons_succ]
                    refine wpAnyH_take (i := 21) (oi := ⟨some 144, _, _, _, _, _⟩) (v := ?_) rfl (by kernel_rfl) (by kernel_rfl) (by kernel_rfl) (fun _ _ _ h => h) (Or.inl ⟨by rfl, ?_⟩) (by assumption) ?_
                    rotate_left
                    · intro w hSw; (try dsimp only at hSw); go_simp; (try with_reducible rfl)
                    try simp only [Act.put, List.setIfInBounds_toArray, List.set_cons_zero, List.set_cons_succ]
                    refine wpAnyH_take (i := 22) (oi := ⟨some 145, _, _, _, _, _⟩) (v := ?_) rfl (by kernel_rfl) (by kernel_rfl) (by kernel_rfl) (fun _ _ _ h => h) (Or.inl ⟨by rfl, ?_⟩) (by assumption) ?_
                    rotate_left
                    · intro w hSw; (try dsimp only at hSw); go_simp; (try with_reducible rfl)
                    try simp only [Act.put, List.setIfInBounds_toArray, List.set_cons_zero, List.set_cons_succ]
                    refine wpAnyH_ready (rs := [1]) (by kernel_rfl) (by simp) ?_
                    refine AllReadyH.cons (o := ⟨some 124, _, _, _, _, _⟩) rfl (fun K hK => ?_) (AllReadyH.nil)
                    go_simp
                    go_at_call 87
                    refine (H2.out _ _).mono ?_
                    rintro e w' ⟨rfl, rfl⟩
                    go_wp2_with fail
                    refine hK.out _ _ S0 (fun _ => ?_)
                    clear hK K
                    try simp only [Act.put, List.setIfInBounds_toArray, List.set_cons_zero, List.set_cons_succ]
                    refine wpAnyH_ready (rs := [3]) (by kernel_rfl) (by simp) ?_
                    refine AllReadyH.cons (o := ⟨some 126, _, _, _, _, _⟩) rfl (fun K hK => ?_) (AllReadyH.nil)
                    go_simp
                    go_at_call 87
                    refine (H13.out _ _).mono ?_
                    rintro e w' ⟨rfl, rfl⟩
                    go_wp2_with fail
                    refine hK.out _ _ S0 (fun _ => ?_)
                    clear hK K
                    try simp only [Act.put, List.setIfInBounds_toArray, List.set_cons_zero, List.set_cons_succ]
                    refine wpAnyH_take (i := 4) (oi := ⟨some 127, _, _, _, _, _⟩) (v := ?_) rfl (by kernel_rfl) (by kernel_rfl) (by kernel_rfl) (fun _ _ _ h => h) (Or.inl ⟨by rfl, ?_⟩) (by assumption) ?_
                    rotate_left
                    · intro w hSw; (try dsimp only at hSw); go_simp; (try with_reducible rfl)
                    try simp only [Act.put, List.setIfInBounds_toArray, List.set_cons_zero, List.set_cons_succ]
                    refine wpAnyH_ready (rs := [6]) (by kernel_rfl) (by simp) ?_
                    refine AllReadyH.cons (o := ⟨some 129, _, _, _, _, _⟩) rfl (fun K hK => ?_) (AllReadyH.nil)
                    go_simp
                    go_at_call 87
                    refine (H22.out _ _).mono ?_
                    rintro e w' ⟨rfl, rfl⟩
                    go_wp2_with fail
                    refine hK.out _ _ S0 (fun _ => ?_)
                    clear hK K
                    try simp only [Act.put, List.setIfInBounds_toArray, List.set_cons_zero, List.set_cons_succ]
                    refine wpAnyH_take (i := 7) (oi := ⟨some 130, _, _, _, _, _⟩) (v := ?_) rfl (by kernel_rfl) (by kernel_rfl) (by kernel_rfl) (fun _ _ _ h => h) (Or.inl ⟨by rfl, ?_⟩) (by assumption) ?_
                    rotate_left
                    · intro w hSw; (try dsimp only at hSw); go_simp; (try with_reducible rfl)
                    try simp only [Act.put, List.setIfInBounds_toArray, List.set_cons_zero, List.set_cons_succ]
                    refine wpAnyH_take (i := 23) (oi := ⟨some 146, _, _, _, _, _⟩) (v := ?_) rfl (by kernel_rfl) (by kernel_rfl) (by kernel_rfl) (fun _ _ _ h => h) (Or.inl ⟨by rfl, ?_⟩) (by assumption) ?_
                    rotate_left
                    · intro w hSw; (try dsimp only at hSw); go_simp; (try with_reducible rfl)
                    try simp only [Act.put, List.setIfInBounds_toArray, List.set_cons_zero, List.set_cons_succ]
                    refine wpAnyH_take (i := 24) (oi := ⟨some 18, _, _, _, _, _⟩) (v := ?_) rfl (by kernel_rfl) (by kernel_rfl) (by kernel_rfl) (fun _ _ _ h => h) (Or.inl ⟨by rfl, ?_⟩) (by assumption) ?_
                    rotate_left
                    · intro w hSw; (try dsimp only at hSw); go_simp; (try with_reducible rfl)
                    try simp only [Act.put, List.setIfInBounds_toArray, List.set_cons_zero, List.set_cons_succ]
                    refine wpAnyH_done (by kernel_rfl) ?_ _
                    go_wp2_with fail
                    go_meet
                    exact ⟨by rw [HT2.out], rfl⟩
                  case rest =>
                    obtain ⟨rfl, rfl⟩ := hcut
                    clear ck cw H2 H6 H11 H13 H22 H25
                    have h25 := built25 ((T1 + T2) % 4294967296) xa xb xc ((xd + T1) % 4294967296) xe xf xg
                    have H25 := Lib.hid h25
                    have hrS : wr.drew.drew.drew.heap[pS]? = some (.cells (stV ⟨xa, xb, xc, xd, xe, xf, xg, xh⟩).toArray 25 (0, 0)) := bS
                    have HRS := Lib.hid hrS
                    clear h25 hrS
                    go_upto_region 21 with fail
                    refine wp_region_list ?_
                    refine wpList_moveTo rfl (.tmp 17) rfl (some 147) rfl (.int .u32 T1) rfl ?_
                    try simp only [Act.put, List.setIfInBounds_toArray, List.set_cons_zero, List.set_cons_succ]
                    refine wpList_moveTo rfl (.tmp 18) rfl (some 148) rfl (.int .u32 T2) rfl ?_
                    try simp only [Act.put, List.setIfInBounds_toArray, List.set_cons_zero, List.set_cons_succ]
                    refine wpList_runTo rfl (some 149) rfl (.int .u32 ((T1 + T2) % 4294967296)) (by go_simp; try rfl) ?_
                    try simp only [Act.put, List.setIfInBounds_toArray, List.set_cons_zero, List.set_cons_succ]
                    refine wpList_runTo rfl (some 150) rfl (.pointer (some ⟨pS, 0, none⟩)) (by go_simp; try rfl) ?_
                    try simp only [Act.put, List.setIfInBounds_toArray, List.set_cons_zero, List.set_cons_succ]
                    refine wpList_runTo rfl (some 151) rfl (.int .u32 xa) (by go_simp; try rfl) ?_
                    try simp only [Act.put, List.setIfInBounds_toArray, List.set_cons_zero, List.set_cons_succ]
                    refine wpList_runTo rfl (some 152) rfl (.pointer (some ⟨pS, 1, none⟩)) (by go_simp; try rfl) ?_
                    try simp only [Act.put, List.setIfInBounds_toArray, List.set_cons_zero, List.set_cons_succ]
                    refine wpList_runTo rfl (some 153) rfl (.int .u32 xb) (by go_simp; try rfl) ?_
                    try simp only [Act.put, List.setIfInBounds_toArray, List.set_cons_zero, List.set_cons_succ]
                    refine wpList_runTo rfl (some 154) rfl (.pointer (some ⟨pS, 2, none⟩)) (by go_simp; try rfl) ?_
                    try simp only [Act.put, List.setIfInBounds_toArray, List.set_cons_zero, List.set_cons_succ]
                    refine wpList_runTo rfl (some 155) rfl (.int .u32 xc) (by go_simp; try rfl) ?_
                    try simp only [Act.put, List.setIfInBounds_toArray, List.set_cons_zero, List.set_cons_succ]
                    refine wpList_runTo rfl (some 156) rfl (.pointer (some ⟨pS, 3, none⟩)) (by go_simp; try rfl) ?_
                    try simp only [Act.put, List.setIfInBounds_toArray, List.set_cons_zero, List.set_cons_succ]
                    refine wpList_runTo rfl (some 157) rfl (.int .u32 xd) (by go_simp; try rfl) ?_
                    try simp only [Act.put, List.setIfInBounds_toArray, List.set_cons_zero, List.set_cons_succ]
                    refine wpList_moveTo rfl (.tmp 17) rfl (some 158) rfl (.int .u32 T1) rfl ?_
                    try simp only [Act.put, List.setIfInBounds_toArray, List.set_cons_zero, List.set_cons_succ]
                    refine wpList_runTo rfl (some 159) rfl (.int .u32 ((xd + T1) % 4294967296)) (by go_simp; try rfl) ?_
                    try simp only [Act.put, List.setIfInBounds_toArray, List.set_cons_zero, List.set_cons_succ]
                    refine wpList_runTo rfl (some 160) rfl (.pointer (some ⟨pS, 4, none⟩)) (by go_simp; try rfl) ?_
                    try simp only [Act.put, List.setIfInBounds_toArray, List.set_cons_zero, List.set_cons_succ]
                    refine wpList_runTo rfl (some 161) rfl (.int .u32 xe) (by go_simp; try rfl) ?_
                    try simp only [Act.put, List.setIfInBounds_toArray, List.set_cons_zero, List.set_cons_succ]
                    refine wpList_runTo rfl (some 162) rfl (.pointer (some ⟨pS, 5, none⟩)) (by go_simp; try rfl) ?_
                    try simp only [Act.put, List.setIfInBounds_toArray, List.set_cons_zero, List.set_cons_succ]
                    refine wpList_runTo rfl (some 163) rfl (.int .u32 xf) (by go_simp; try rfl) ?_
                    try simp only [Act.put, List.setIfInBounds_toArray, List.set_cons_zero, List.set_cons_succ]
                    refine wpList_runTo rfl (some 164) rfl (.pointer (some ⟨pS, 6, none⟩)) (by go_simp; try rfl) ?_
                    try simp only [Act.put, List.setIfInBounds_toArray, List.set_cons_zero, List.set_cons_succ]
                    refine wpList_runTo rfl (some 165) rfl (.int .u32 xg) (by go_simp; try rfl) ?_
                    try simp only [Act.put, List.setIfInBounds_toArray, List.set_cons_zero, List.set_cons_succ]
                    refine wpList_buildTo rfl 25 _ rfl (some 166) rfl #[.int .u32 ((T1 + T2) % 4294967296), .int .u32 xa, .int .u32 xb, .int .u32 xc, .int .u32 ((xd + T1) % 4294967296), .int .u32 xe, .int .u32 xf, .int .u32 xg] (by simp only [List.map_toArray, List.map_cons, List.map_nil]; exact H25.out) ?_
                    try simp only [Act.put, List.setIfInBounds_toArray, List.set_cons_zero, List.set_cons_succ]
                    refine wpList_store_row rfl 25 _ _ rfl pS #[.int .u32 ((T1 + T2) % 4294967296), .int .u32 xa, .int .u32 xb, .int .u32 xc, .int .u32 ((xd + T1) % 4294967296), .int .u32 xe, .int .u32 xf, .int .u32 xg] rfl rfl 25 _ HRS.out (HI25.out _ rfl) (by rfl) (row8_facts [(T1 + T2) % 4294967296, xa, xb, xc, (xd + T1) % 4294967296, xe, xf, xg] rfl).2 ?_
                    try simp only [Act.put]
                    refine wpList_nil ?_
                    clear qa qb qc qd qe qf qg qh
                    have hst := rounds_step HS2.out HKK.out HWW.out (step_of2 HT1.out HT2.out)
                    have bSn : BlkL (wr.drew.drew.drew.setRow pS #[.int .u32 ((T1 + T2) % 4294967296), .int .u32 xa, .int .u32 xb, .int .u32 xc, .int .u32 ((xd + T1) % 4294967296), .int .u32 xe, .int .u32 xf, .int .u32 xg]) pS (stV ⟨(T1 + T2) % 4294967296, xa, xb, xc, (xd + T1) % 4294967296, xe, xf, xg⟩) 25 := setRow_heap _ _ _ _ _ _ HRS.out
                    have hc : Chg (some pS) wr (wr.drew.drew.drew.setRow pS #[.int .u32 ((T1 + T2) % 4294967296), .int .u32 xa, .int .u32 xb, .int .u32 xc, .int .u32 ((xd + T1) % 4294967296), .int .u32 xe, .int .u32 xf, .int .u32 xg]) := (Chg.refl _ _).drew.drew.drew.trans (chg_setRow _ _ _)
                    have bWn := Blk.chg bW hc (by simp; omega)
                    have bHn := Blk.chg bH hc (by simp; omega)
                    have bKn := Blk.chg bK hc (by simp; omega)
                    have bRn := Blk.chg bR hc (by simp; omega)
                    have gn : Chg none w _ := Chg.own (b := pS) gi hc hpSw
                    have HSN := Lib.hid hst
                    clear hst hc
                    go_wp2_with fail
                    go_roundw
                    case rel => exact ⟨t + 1, _, by omega, by go_num, HSN, bSn, bWn, bHn, bKn, bRn, gn⟩
                    case measure => first | (simp [intOf]; done) | (simp [intOf]; omega)
          · as_aux_lemma =>
              have ht64 : t = 64 := by omega
              have hd64 : decide ((t : Int) < 64) = false := by simp; omega
              rw [ht64] at HS2
              clear ht64
              go_wp2_with fail
              go_meet
              exact ⟨s, HS2, bS, bH, bR, gi⟩
      case rest =>
        obtain ⟨s, HS2, bS, bH, bR, gi⟩ := hcut
        clear bS2 bW2 bH2 bK2 bR2 g02
        have hx := HS2.out
        have hcmp := mix_compress ws bs hw s (by rw [hx, HSW.out])
        rw [stV_stL] at bS
        obtain ⟨X, hX⟩ : ∃ X, X = stL s := ⟨_, rfl⟩
        have hXl : X.length = 8 := by rw [hX]; rfl
        rw [← hX] at bS hcmp
        have HCMP := Lib.hid hcmp
        have hm0 := mixW_zero X ws hXl
        rw [← hm0] at bS
        have HWL := Lib.hid hw
        clear hx hcmp hX HS2 hXl hm0 H2 H6 H11 H13 H22 H25 HSW HSL HE
        go_wp2_with fail
        go_loopw [19] (fun s19 wq => ∃ j : Nat, j ≤ 8 ∧ s19 = .int .i64 j ∧ BlkL wq pS ((mixW X ws j).map u32v) 25 ∧ BlkL wq pH (ws.map u32v) 25 ∧ BlkL wq pR (noW8) 25 ∧ Chg none w wq) (fun s19 _ => 8 - (intOf s19).toNat)
        case atStart => exact ⟨0, by omega, rfl, bS, bH, bR, gi⟩
        case round =>
          obtain ⟨j, hj, rfl, bSj, bHj, bRj, gj⟩ := hrel
          clear bS bH bR gi
          by_cases hlt8 : j < 8
          · have cj : wr.cell? ⟨pS, j, none⟩ = some (.int .u32 (X.getD j 0)) := by rw [BlkL.cell bSj, List.getElem?_map, mixW_at _ _ _ hlt8]; rfl
            have ch : wr.cell? ⟨pH, j, none⟩ = some (.int .u32 (ws.getD j 0)) := by rw [BlkL.cell bHj]; exact u32_at ws j (by rw [HWL.out]; exact hlt8)
            have hfz := Blk.frozen bSj j
            have hset := BlkL.set bSj j (u32v ((X.getD j 0 + ws.getD j 0) % 4294967296))
            rw [← List.map_set, mixW_set _ _ _ hlt8] at hset
            have hHs := Blk.setOther bHj ⟨pS, j, none⟩ (u32v ((X.getD j 0 + ws.getD j 0) % 4294967296)) (by show pH ≠ pS; omega)
            have hRs := Blk.setOther bRj ⟨pS, j, none⟩ (u32v ((X.getD j 0 + ws.getD j 0) % 4294967296)) (by show pR ≠ pS; omega)
            have hgs := gj.setNew ⟨pS, j, none⟩ hpSw (.int .u32 ((X.getD j 0 + ws.getD j 0) % 4294967296))
            have hbz := Blk.lt bSj
            generalize X.getD j 0 = oj at *
            generalize ws.getD j 0 = xj at *
            have j0 : (0 : Int) ≤ (j : Int) := by omega
            have j8 : (j : Int) < 8 := by omega
            have HA := Lib.hid hset
            have HB := Lib.hid hHs
            have HC := Lib.hid hRs
            have HD := Lib.hid hgs
            clear hset hHs hRs hgs bSj bHj bRj gj
            go_wp2_with fail
            go_region
            all_goals
              go_wp2_with fail
              go_roundw
              case rel => exact ⟨j + 1, by omega, by go_num, by exact HA.out, by exact HB.out, by exact HC.out, by repeat (first | (with_reducible exact HD.out) | (with_reducible refine Chg.drew ?_))⟩
              case measure => first | (simp [intOf]; done) | (simp [intOf]; omega)
          · have hj8 : j = 8 := by omega
            have hd8 : decide ((j : Int) < 8) = false := by simp; omega
            rw [hj8, ← HCMP.out] at bSj
            clear hj8
            obtain ⟨C, hC⟩ : ∃ C, C = compress ws bs := ⟨_, rfl⟩
            have hCl : C.length = 8 := by rw [hC, HCMP.out, mixW_len]
            rw [← hC] at bSj
            have HCC := Lib.hid hC
            obtain ⟨hc8, hoc8⟩ := row8_facts C hCl
            have HIC := Lib.hid (HI25.out _ hc8)
            have HOC := Lib.hid hoc8
            have HSC := Lib.hid hc8
            have hrS : wr.heap[pS]? = some (.cells (C.map u32v).toArray 25 (0, 0)) := bSj
            have hrR : wr.heap[pR]? = some (.cells noW8.toArray 25 (0, 0)) := bRj
            have HRS := Lib.hid hrS
            have HRR := Lib.hid hrR
            clear hc8 hoc8 hC hCl HCMP hrS hrR
            go_wp2_with (first
              | (refine wpList_load_row rfl 25 _ rfl pS rfl 25 _ (0, 0) _ HRS.out Tryd.underlying25 rfl HIC.out ?_)
              | (refine wpList_store_row rfl 25 _ _ rfl pR (C.map u32v).toArray rfl rfl 25 _ HRR.out HIC.out (by rw [HSC.out]; rfl) HOC.out ?_))
            refine bodyPost_ret (results_cell_row (p := 6) (ty := 25) Tryd.results65 _ _ pR 25 (C.map u32v).toArray (0, 0) _ rfl (setRow_heap _ _ _ _ _ _ HRR.out) Tryd.underlying25 rfl HIC.out) rfl ⟨by rw [HCC.out], ?_⟩
            exact Chg.own (b := pR) gj (chg_setRow _ _ _) (by rw [HPH.out]; omega)

end Go.Proofs.YtkcammaccgkflaaDoor

namespace Go.Proofs.YtkcammaccgkflaaDoor
open Go.RowKit

theorem H0_rng : ∀ i, 0 ≤ H0.getD i 0 ∧ H0.getD i 0 < 4294967296 := by
  intro i
  by_cases h : i < 8
  · have : ∀ j, j < 8 → 0 ≤ H0.getD j 0 ∧ H0.getD j 0 < 4294967296 := by decide
    exact this i h
  · rw [List.getD_eq_getElem?_getD, List.getElem?_eq_none (by show 8 ≤ i; omega)]; decide
theorem compress_rng (ws : List Int) (bs : List UInt8) : ∀ i, 0 ≤ (compress ws bs).getD i 0 ∧ (compress ws bs).getD i 0 < 4294967296 := by
  intro i
  unfold compress
  generalize rounds (ofL ws) (schedN bs 64) 64 = s
  unfold addW
  match i with
  | 0 | 1 | 2 | 3 | 4 | 5 | 6 | 7 => exact ⟨Int.emod_nonneg _ (by decide), Int.emod_lt_of_pos _ (by decide)⟩
  | _ + 8 => rw [List.getD_eq_getElem?_getD, List.getElem?_eq_none (by simp)]; decide
theorem hashB_rng (m : List UInt8) : ∀ n i, 0 ≤ (hashB m n).getD i 0 ∧ (hashB m n).getD i 0 < 4294967296
  | 0 => H0_rng
  | _ + 1 => compress_rng _ _

theorem wordsBytes_at : ∀ (ws : List Int) (q r : Nat), q < ws.length → r < 4 → (wordsBytes ws).getD (4 * q + r) 0 = (wordBytes (ws.getD q 0)).getD r 0
  | [], _, _, h, _ => by simp at h
  | x :: ws, 0, r, _, hr => by
    unfold wordsBytes
    rw [List.flatMap_cons, List.getD_eq_getElem?_getD, List.getElem?_append_left (by simp [wordBytes]; omega), List.getD_eq_getElem?_getD]
    simp
  | x :: ws, q + 1, r, h, hr => by
    have ih := wordsBytes_at ws q r (by simpa using h) hr
    unfold wordsBytes at *
    rw [List.flatMap_cons, List.getD_eq_getElem?_getD, List.getElem?_append_right (by simp [wordBytes]; omega), ← List.getD_eq_getElem?_getD]
    rw [show 4 * (q + 1) + r - (wordBytes x).length = 4 * q + r by simp [wordBytes]; omega, ih]
    rfl

/-- A digest's cells, of which the first i are filled in. -/
def fillD (D : List UInt8) (i : Nat) : List Value := byteVals (D.take i) ++ List.replicate (D.length - i) (.int .u8 0)
theorem fillD_all (D : List UInt8) (n : Nat) (h : D.length = n) : fillD D n = byteVals D := by unfold fillD; rw [h, Nat.sub_self, List.take_of_length_le (by omega)]; simp
theorem fillD_zero (D : List UInt8) (h : D.length = 32) : (fillD D 0).toArray = zero32 := by unfold fillD; rw [h]; rfl
theorem fillD_len (D : List UInt8) (i : Nat) (h : i ≤ D.length) : (fillD D i).length = D.length := by
  unfold fillD; rw [List.length_append, byteVals_len, List.length_take, List.length_replicate]; omega
theorem fillD_at (D : List UInt8) (i : Nat) (h : i < D.length) : (fillD D i)[i]? = some (.int .u8 0) := by
  unfold fillD
  rw [List.getElem?_append_right (by rw [byteVals_len, List.length_take]; omega), byteVals_len, List.length_take, Nat.min_eq_left (by omega), Nat.sub_self, show D.length - i = (D.length - (i + 1)) + 1 by omega, List.replicate_succ]; rfl
theorem fillD_set (D : List UInt8) (i : Nat) (h : i < D.length) : (fillD D i).set i (.int .u8 ((D.getD i 0).toNat : Int)) = fillD D (i + 1) := by
  unfold fillD
  have hl : (byteVals (D.take i)).length = i := by rw [byteVals_len, List.length_take]; omega
  rw [List.set_append_right _ _ (by omega), hl, Nat.sub_self, show D.length - i = (D.length - (i + 1)) + 1 by omega, List.replicate_succ, List.set_cons_zero, List.take_succ_eq_append_getElem h, ← byteVals_append, List.append_assoc,
    List.getD_eq_getElem?_getD, List.getElem?_eq_getElem h]
  rfl

theorem own_bytes_cell {w : World} {base n c : Nat} {A : Option Addr} {L : List UInt8} (h : w.ownsRow base 5 1 (.slice A n c) n (byteVals L)) (hn : 0 < n) : ∃ g, A = some ⟨g, 0, none⟩ ∧ g < w.heap.size ∧ w.rangeAt g 0 (byteVals L) ∧ n ≤ c := by
  have hc : n ≤ c := by
    rcases h.2 with ⟨h1, h2⟩ | ⟨_, _, _, h1, _, _, _, _, _, _⟩
    · omega
    · injection h1; omega
  obtain ⟨g, cap, hv, _, hlt⟩ := h.form hn
  have hA : A = some ⟨g, 0, none⟩ ∧ c = cap := by injection hv with h1 _ h3; exact ⟨h1, h3⟩
  obtain ⟨rfl, _⟩ := hA
  refine ⟨g, rfl, hlt, fun j v hv => ?_, hc⟩
  have := h.cells (g := g) rfl j v hv
  rwa [Go.WideShapes.add_plain] at this

theorem cut64 (g n c i : Nat) (h1 : i + 64 ≤ n) (h2 : n ≤ c) (w : World) :
    (Instr.sliceAt 22 (.slice (some ⟨g, 0, none⟩) n c) (some (.int .i64 (i : Int))) (some (.int .i64 ((i : Int) + 64))) none).run Tryd.prog w = .ok (.slice (some ⟨g, i, none⟩) 64 (c - i)) w := by
  have h := cut_lo_hi (some ⟨g, 0, none⟩) n c i (i + 64) (by omega) (by omega) w
  rw [if_neg (by omega), show i + 64 - i = 64 by omega, Option.map_some, Go.WideShapes.add_plain, Nat.zero_add, show ((i + 64 : Nat) : Int) = (i : Int) + 64 by omega] at h
  exact h

set_option maxRecDepth 100000 in
set_option maxHeartbeats 16000000 in
theorem sumr_any (p : Prt) (w : World) (hp : p.ok w) (hn : p.x.length ≤ 1000000) :
    Calls Tryd.prog 24 #[.agg (H0.map u32v).toArray, .agg (K0.map u32v).toArray, .slice p.A p.x.length p.c] w fun e w' => e = .returned (.agg (byteVals (dig p.x)).toArray) ∧ Chg none w w' := by
  obtain ⟨P, hP⟩ : ∃ P, P = padded p.x := ⟨_, rfl⟩
  have hPm := padded_mod p.x
  have hPl : (padded p.x).length ≤ 1000072 := by rw [padded, List.length_append, padOf_len]; unfold noughts; omega
  rw [← hP] at hPm hPl
  obtain ⟨nb, hnb⟩ : ∃ nb, P.length = 64 * nb := ⟨P.length / 64, by omega⟩
  have hdg : dig p.x = wordsBytes (hashB P nb) := by unfold dig; rw [← hP, show P.length / 64 = nb by omega]
  have hh0 : (hashB P 0).map u32v = H0.map u32v := rfl
  obtain ⟨W3, hW3⟩ : ∃ W3, W3 = ((w.alloc (.cells (H0.map u32v).toArray 25)).alloc (.cells (K0.map u32v).toArray 26)).alloc (.cells zero32 30) := ⟨_, rfl⟩
  have HW3 : Hid (((w.alloc (.cells (H0.map u32v).toArray 25)).alloc (.cells (K0.map u32v).toArray 26)).alloc (.cells #[Value.int IntKind.u8 0, Value.int IntKind.u8 0, Value.int IntKind.u8 0, Value.int IntKind.u8 0, Value.int IntKind.u8 0, Value.int IntKind.u8 0, Value.int IntKind.u8 0, Value.int IntKind.u8 0, Value.int IntKind.u8 0, Value.int IntKind.u8 0, Value.int IntKind.u8 0, Value.int IntKind.u8 0, Value.int IntKind.u8 0, Value.int IntKind.u8 0, Value.int IntKind.u8 0, Value.int IntKind.u8 0, Value.int IntKind.u8 0, Value.int IntKind.u8 0, Value.int IntKind.u8 0, Value.int IntKind.u8 0, Value.int IntKind.u8 0, Value.int IntKind.u8 0, Value.int IntKind.u8 0, Value.int IntKind.u8 0, Value.int IntKind.u8 0, Value.int IntKind.u8 0, Value.int IntKind.u8 0, Value.int IntKind.u8 0, Value.int IntKind.u8 0, Value.int IntKind.u8 0, Value.int IntKind.u8 0, Value.int IntKind.u8 0] 30) = W3) := hW3.symm
  have g0 : Chg none w W3 := by rw [hW3]; exact (((Chg.refl _ _).alloc _).alloc _).alloc _
  have bH : BlkL W3 w.heap.size ((hashB P 0).map u32v) 25 := by rw [hW3, hh0]; exact Blk.alloc (Blk.alloc (Blk.new _ _ _) _) _
  have bK : BlkL W3 (w.heap.size + 1) (K0.map u32v) 26 := by rw [hW3]; exact Blk.alloc (Blk.newAt _ _ (by simp)) _
  have bR : Blk W3 (w.heap.size + 1 + 1) zero32 30 := by rw [hW3]; exact Blk.newAt _ _ (by simp)
  have HPD := Lib.hid (padded_any p W3 (hp.chg g0) hn)
  rw [← hP] at HPD
  obtain ⟨PL, hPL⟩ : ∃ PL, PL = P.length := ⟨_, rfl⟩
  unfold OwnPost at HPD
  rw [← hPL] at HPD hnb hPl
  have HNB := Lib.hid hnb
  have HPL := Lib.hid hPL
  have HDG := Lib.hid hdg
  have hHK : w.heap.size < w.heap.size + 1 := by omega
  have hKR : w.heap.size + 1 < w.heap.size + 1 + 1 := by omega
  have hle : w.heap.size ≤ w.heap.size := Nat.le_refl _
  have hRB : w.heap.size + 1 + 1 < W3.heap.size := Blk.lt bR
  obtain ⟨HA, hHA⟩ : ∃ HA, HA = (H0.map u32v).toArray := ⟨_, rfl⟩
  obtain ⟨KA, hKA⟩ : ∃ KA, KA = (K0.map u32v).toArray := ⟨_, rfl⟩
  rw [← hHA, ← hKA]
  rw [← hHA, ← hKA] at HW3
  have HKA := Lib.hid hKA
  have HI25 : Hid (∀ L : List Int, L.length = 8 → (Tryd.prog.info? 25).map (·.size) = some (L.map u32v).length) := by
    show ∀ L : List Int, L.length = 8 → _
    intro L h; rw [List.length_map, h]; kernel_rfl
  have HI26 : Hid ((Tryd.prog.info? 26).map (·.size) = some (K0.map u32v).length) := by show _ = _; kernel_rfl
  clear hP hPm hPL hnb hdg hh0 hW3 hHA hKA hp hn
  go_enter Tryd.func24, Tryd.ntmps24
  go_upto_region 1 with fail
  rw [HW3.out]
  clear HW3
  generalize w.heap.size + 1 + 1 = pR at *
  generalize w.heap.size + 1 = pK at *
  generalize hpH : w.heap.size = pH at *
  have HPH := Lib.hid hpH
  clear hpH
  go_wp2_with fail
  refine HPD.out.mono ?_
  rintro e w1 ⟨A1, c1, rfl, hown, g1⟩
  have bH1 := Blk.chg bH g1 (by simp)
  have bK1 := Blk.chg bK g1 (by simp)
  have bR1 := Blk.chg bR g1 (by simp)
  have g01 := g0.trans g1
  clear HPD bH bK bR g0 g1
  have HOWN := Lib.hid hown
  clear hown
  go_upto_block 0 with fail
  go_cut [8] (fun _ wx => BlkL wx pH ((hashB P nb).map u32v) 25 ∧ Blk wx pR zero32 30 ∧ Chg none w wx)
  case first =>
    go_wp2_with fail
    go_loopw [8] (fun s8 wr => ∃ j i : Nat, j ≤ nb ∧ Hid (i = 64 * j) ∧ i ≤ PL ∧ s8 = .int .i64 i ∧ BlkL wr pH ((hashB P j).map u32v) 25 ∧ BlkL wr pK (K0.map u32v) 26 ∧ Blk wr pR zero32 30 ∧ wr.ownsRow W3.heap.size 5 1 (.slice A1 PL c1) PL (byteVals P) ∧ Chg none w wr) (fun s8 _ => PL - (intOf s8).toNat)
    case atStart => exact ⟨0, 0, by omega, rfl, by omega, rfl, bH1, bK1, bR1, HOWN.out, g01⟩
    case round =>
      obtain ⟨j, i, hj, HIJ, hiP, rfl, bH, bK, bR, hown, gi⟩ := hrel
      clear bH1 bK1 bR1 HOWN g01
      by_cases hlt : i < PL
      · have hjn : j < nb := by have h1 := HIJ.out; have h2 := HNB.out; omega
        have hi64 : i + 64 ≤ PL := by have h1 := HIJ.out; have h2 := HNB.out; omega
        obtain ⟨g, hA, hgl, hgr, hcp⟩ := own_bytes_cell hown (by omega)
        subst hA
        have hgb : W3.heap.size ≤ g := (hown.lt g rfl).1
        have hcut := fun v => cut64 g PL c1 i hi64 hcp v
        obtain ⟨X, hX⟩ : ∃ X, X = hashB P j := ⟨_, rfl⟩
        obtain ⟨BS, hBS⟩ : ∃ BS, BS = (P.drop i).take 64 := ⟨_, rfl⟩
        have hBl : BS.length = 64 := by rw [hBS, List.length_take, List.length_drop, ← HPL.out]; omega
        have hXl : X.length = 8 := by rw [hX, hashB_len]
        have hXr := hashB_rng P j
        rw [← hX] at bH hXr
        have hnext : hashB P (j + 1) = compress X BS := by rw [hashB, ← hX, ← HIJ.out, ← hBS]
        have hsrc : ∀ v, Chg none wr v → ∀ q c, BS[q]? = some c → v.cell? ⟨g, i + q, none⟩ = some (.int .u8 c.toNat) := by
          intro v hv q c hq
          have hq64 : q < 64 := by have := (List.getElem?_eq_some_iff.1 hq).1; omega
          rw [hBS, List.getElem?_take_of_lt hq64, List.getElem?_drop] at hq
          have := hgr (i + q) _ (byteVals_get hq)
          rw [Nat.zero_add] at this
          exact World.grownBy.cell hv this (by simp)
        have HBK : Hid (∀ v, Chg none wr v → Calls Tryd.prog 65 #[.agg (X.map u32v).toArray, .agg (K0.map u32v).toArray, .slice (some ⟨g, i, none⟩) 64 (c1 - i)] v fun e w' => e = .returned (.agg ((compress X BS).map u32v).toArray) ∧ Chg none v w') :=
          fun v hv => blockr_any X BS g i (c1 - i) v hXl hXr hBl (Nat.lt_of_lt_of_le hgl hv.size) (hsrc v hv)
        have HIX := Lib.hid (HI25.out X hXl)
        obtain ⟨C, hC⟩ : ∃ C, C = compress X BS := ⟨_, rfl⟩
        have hCl : C.length = 8 := by rw [hC]; rfl
        rw [← hC] at HBK hnext
        obtain ⟨hc8, hoc8⟩ := row8_facts C hCl
        obtain ⟨hx8, _⟩ := row8_facts X hXl
        have HIC : Hid ((Tryd.prog.info? 25).map (·.size) = some (C.map u32v).toArray.size) := by rw [hc8]; show _ = _; kernel_rfl
        have HOC := Lib.hid hoc8
        have HZC : Hid ((X.map u32v).toArray.size = (C.map u32v).toArray.size) := by rw [hc8, hx8]; rfl
        have HNX := Lib.hid hnext
        have HIJ0 := HIJ
        have HOWN := Lib.hid hown
        have E0 : Chg none wr wr.drew := (Chg.refl _ _).drew
        have hSK : wr.drew.rangeAt pK 0 (K0.map u32v) := Blk.range (w := wr.drew) (T := 26) bK
        have hSH : wr.drew.rangeAt pH 0 (X.map u32v) := Blk.range (w := wr.drew) (T := 25) bH
        clear hC hCl hc8 hoc8 hx8 hnext hX hBS hBl hXl hXr hsrc hown HIJ hcp hgr
        have i0 : (0 : Int) ≤ (i : Int) := by omega
        have i1 : IntKind.i64.wrap ((i : Int) + 64) = (i : Int) + 64 := IntWalk.i64_in _ (by omega)
        go_wp2_with fail
        refine wp_region_held_drew (S := fun w' => w'.rangeAt pK 0 (K0.map u32v)) (by kernel_rfl) hSK (fun _ => ?_)
        refine wpAnyH_take (i := 1) (oi := ⟨some 20, _, _, _, _, _⟩) (v := .agg (K0.map u32v).toArray) rfl (by kernel_rfl) (by kernel_rfl) (by kernel_rfl) (fun _ _ _ h => h) (yieldsIf_load_mid (by rfl) 26 _ rfl pK 0 rfl (K0.map u32v) _ (fun _ h => h) Tryd.underlying26 rfl HI26.out) (by assumption) ?_
        try simp only [Act.put, List.setIfInBounds_toArray, List.set_cons_zero, List.set_cons_succ]
        refine wpAnyH_take (i := 2) (oi := ⟨some 21, _, _, _, _, _⟩) (v := ?_) rfl (by kernel_rfl) (by kernel_rfl) (by kernel_rfl) (fun _ _ _ h => h) (Or.inl ⟨by rfl, ?_⟩) (by assumption) ?_
        rotate_left
        · intro w hSw; (try dsimp only at hSw); go_simp; (try with_reducible rfl)
        try simp only [Act.put, List.setIfInBounds_toArray, List.set_cons_zero, List.set_cons_succ]
        refine wpAnyH_take (i := 3) (oi := ⟨some 22, _, _, _, _, _⟩) (v := ?_) rfl (by kernel_rfl) (by kernel_rfl) (by kernel_rfl) (fun _ _ _ h => h) (Or.inl ⟨by rfl, ?_⟩) (by assumption) ?_
        rotate_left
        · intro w hSw; (try dsimp only at hSw); go_simp; (try with_reducible rfl)
        try simp only [Act.put, List.setIfInBounds_toArray, List.set_cons_zero, List.set_cons_succ]
        refine wpAnyH_take (i := 4) (oi := ⟨some 23, _, _, _, _, _⟩) (v := ?_) rfl (by kernel_rfl) (by kernel_rfl) (by kernel_rfl) (fun _ _ _ h => h) (Or.inl ⟨by rfl, ?_⟩) (by assumption) ?_
        rotate_left
        · intro w hSw; (try dsimp only at hSw); go_simp; (try with_reducible rfl)
        try simp only [Act.put, List.setIfInBounds_toArray, List.set_cons_zero, List.set_cons_succ]
        refine wpAnyH_take (i := 5) (oi := ⟨some 24, _, _, _, _, _⟩) (v := ?_) rfl (by kernel_rfl) (by kernel_rfl) (by kernel_rfl) (fun _ _ _ h => h) (Or.inl ⟨by rfl, ?_⟩) (by assumption) ?_
        rotate_left
        · intro w hSw; (try dsimp only at hSw); go_simp; (try with_reducible rfl)
        try simp only [Act.put, List.setIfInBounds_toArray, List.set_cons_zero, List.set_cons_succ]
        refine wpAnyH_take (i := 6) (oi := ⟨some 25, _, _, _, _, _⟩) (v := ?_) rfl (by kernel_rfl) (by kernel_rfl) (by kernel_rfl) (fun _ _ _ h => h) (Or.inl ⟨by rfl, ?_⟩) (by assumption) ?_
        rotate_left
        · intro w hSw; (try dsimp only at hSw); go_simp; (try with_reducible rfl)
        try simp only [Act.put, List.setIfInBounds_toArray, List.set_cons_zero, List.set_cons_succ]
        refine wpAnyH_ready (rs := [0]) (by kernel_rfl) (by simp) ?_
        refine AllReadyH.cons (o := ⟨some 19, _, _, _, _, _⟩) rfl (fun K hK => ?_) (AllReadyH.nil)
        rw [if_pos (by rfl)]
        refine wp_load_mid 25 (.tmp 3) (by rfl) pH 0 (by rfl) (X.map u32v) _ hSH Tryd.underlying25 rfl HIX.out ?_
        refine hK.out _ _ hSK (fun _ => ?_)
        clear hK K
        try simp only [Act.put, List.setIfInBounds_toArray, List.set_cons_zero, List.set_cons_succ]
        refine wpAnyH_ready (rs := [7]) (by kernel_rfl) (by simp) ?_
        refine AllReadyH.cons (o := ⟨some 26, _, _, _, _, _⟩) rfl (fun K hK => ?_) (AllReadyH.nil)
        go_simp
        go_at_call 65
        refine (HBK.out _ E0).mono ?_
        rintro e v1 ⟨rfl, g1⟩
        have E1 := E0.trans g1
        have hSK1 := rangeAt_chg hSK g1 (by simp)
        go_wp2_with fail
        refine hK.out _ _ hSK1 (fun _ => ?_)
        clear hK K
        try simp only [Act.put, List.setIfInBounds_toArray, List.set_cons_zero, List.set_cons_succ]
        refine wpAnyH_ready (rs := [8]) (by kernel_rfl) (by simp) ?_
        refine AllReadyH.cons (o := ⟨none, _, _, _, _, _⟩) rfl (fun K hK => ?_) (AllReadyH.nil)
        rw [if_pos (by rfl)]
        have bH4 := Blk.chg bH E1 (by simp)
        have hSZ : (World.setRow v1 pH (C.map u32v).toArray).rangeAt pK 0 (K0.map u32v) := rangeAt_chg hSK1 (chg_setRow _ _ _) (by simp; omega)
        refine wp_store_row 25 (.tmp 3) (.tmp 26) (by rfl) pH (C.map u32v).toArray (by rfl) (by rfl) 25 _ bH4 HIC.out HZC.out HOC.out ?_
        refine hK.out _ _ hSZ (fun _ => ?_)
        clear hK K
        refine wpAnyH_done (by kernel_rfl) ?_ _
        have gC : Chg (some pH) wr (World.setRow v1 pH (C.map u32v).toArray) := (Chg.weaken E1).trans (chg_setRow _ _ _)
        have bHn : BlkL (World.setRow v1 pH (C.map u32v).toArray) pH ((hashB P (j + 1)).map u32v) 25 := by rw [HNX.out]; exact setRow_heap _ _ _ _ _ _ bH4
        have bKn := Blk.chg bK gC (by simp; omega)
        have bRn := Blk.chg bR gC (by simp; omega)
        have gn : Chg none w (World.setRow v1 pH (C.map u32v).toArray) := Chg.own (b := pH) gi gC (by rw [HPH.out]; exact Nat.le_refl _)
        have hon := HOWN.out.kept gC (by simp [Value.ownBlock]; omega)
        have HIJ2 : Hid (i + 64 = 64 * (j + 1)) := by have := HIJ0.out; show _ = _; omega
        have HON := Lib.hid hon
        clear hon gC
        go_wp2_with fail
        go_roundw
        case rel => exact ⟨j + 1, i + 64, by omega, HIJ2, by omega, by go_num, bHn, bKn, bRn, HON.out, gn⟩
        case measure => first | (simp [intOf]; done) | (simp [intOf]; omega)
      · have hij : i = PL := by omega
        have hjn : j = nb := by have h1 := HIJ.out; have h2 := HNB.out; omega
        have hd : decide (i < PL) = false := by simp; omega
        rw [hjn] at bH
        clear hij hjn hown
        go_wp2_with fail
        go_meet
        exact ⟨bH, bR, gi⟩
  case rest =>
    obtain ⟨bH, bR, gi⟩ := hcut
    clear bH1 bK1 bR1 HOWN g01
    obtain ⟨wA, rfl⟩ : ∃ wA : World, wA = wc := ⟨_, rfl⟩
    obtain ⟨X, hX⟩ : ∃ X, X = hashB P nb := ⟨_, rfl⟩
    obtain ⟨D, hD⟩ : ∃ D, D = wordsBytes X := ⟨_, rfl⟩
    have hXl : X.length = 8 := by rw [hX, hashB_len]
    have hXr := hashB_rng P nb
    rw [← hX] at bH hXr
    have hDl : D.length = 32 := by rw [hD, wordsBytes_len, hXl]
    have hdx := HDG.out
    rw [← hX, ← hD] at hdx
    have HDX := Lib.hid hdx
    have hdat : ∀ q r, q < 8 → r < 4 → D.getD (4 * q + r) 0 = (wordBytes (X.getD q 0)).getD r 0 := fun q r hq hr => by rw [hD]; exact wordsBytes_at X q r (by omega) hr
    have HDA := Lib.hid hdat
    have HDL := Lib.hid hDl
    have HXL := Lib.hid hXl
    have HXR := Lib.hid hXr
    have hfz0 := fillD_zero D hDl
    have HFZ : Hid (#[Value.int IntKind.u8 0, Value.int IntKind.u8 0, Value.int IntKind.u8 0, Value.int IntKind.u8 0, Value.int IntKind.u8 0, Value.int IntKind.u8 0, Value.int IntKind.u8 0, Value.int IntKind.u8 0, Value.int IntKind.u8 0, Value.int IntKind.u8 0, Value.int IntKind.u8 0, Value.int IntKind.u8 0, Value.int IntKind.u8 0, Value.int IntKind.u8 0, Value.int IntKind.u8 0, Value.int IntKind.u8 0, Value.int IntKind.u8 0, Value.int IntKind.u8 0, Value.int IntKind.u8 0, Value.int IntKind.u8 0, Value.int IntKind.u8 0, Value.int IntKind.u8 0, Value.int IntKind.u8 0, Value.int IntKind.u8 0, Value.int IntKind.u8 0, Value.int IntKind.u8 0, Value.int IntKind.u8 0, Value.int IntKind.u8 0, Value.int IntKind.u8 0, Value.int IntKind.u8 0, Value.int IntKind.u8 0, Value.int IntKind.u8 0] = (fillD D 0).toArray) := by rw [hfz0]; rfl
    have hpR : pR < wA.heap.size := Blk.lt bR
    have hpHl : pH < wA.heap.size := Blk.lt bH
    have bD0 : BlkL (wA.alloc (.cells (fillD D 0).toArray 30)) wA.heap.size (fillD D 0) 30 := Blk.new _ _ _
    have bH0 := Blk.alloc bH (.cells (fillD D 0).toArray 30)
    have bR0 := Blk.alloc bR (.cells (fillD D 0).toArray 30)
    have g0 := gi.alloc (.cells (fillD D 0).toArray 30)
    have hpD : w.heap.size ≤ wA.heap.size := gi.size
    clear hX hD hXl hXr hDl hdx hdat hfz0 bH bR gi HDG
    go_upto_region 7 with fail
    rw [HFZ.out]
    generalize wA.alloc (.cells (fillD D 0).toArray 30) = wB at *
    generalize wA.heap.size = pD at *
    go_wp2_with fail
    go_loopw [10] (fun s10 wr => ∃ i : Nat, i ≤ 32 ∧ s10 = .int .i64 i ∧ BlkL wr pD (fillD D i) 30 ∧ BlkL wr pH (X.map u32v) 25 ∧ Blk wr pR zero32 30 ∧ Chg none w wr) (fun s10 _ => 32 - (intOf s10).toNat)
    case atStart => exact ⟨0, by omega, rfl, bD0, bH0, bR0, g0⟩
    case round =>
      obtain ⟨i, hi, rfl, bD, bH, bR, gi⟩ := hrel
      clear bD0 bH0 bR0 g0
      by_cases hlt : i < 32
      · obtain ⟨q, r, hqr, hr4⟩ : ∃ q r, i = 4 * q + r ∧ r < 4 := ⟨i / 4, i % 4, by omega, by omega⟩
        have hq8 : q < 8 := by omega
        have hda := HDA.out q r hq8 hr4
        rw [← hqr] at hda
        have cH : wr.cell? ⟨pH, q, none⟩ = some (.int .u32 (X.getD q 0)) := by rw [BlkL.cell bH]; exact u32_at X q (by rw [HXL.out]; exact hq8)
        have hxr := HXR.out q
        have hset := BlkL.set bD i (.int .u8 ((D.getD i 0).toNat : Int))
        rw [fillD_set D i (by rw [HDL.out]; exact hlt), hda] at hset
        have cD : wr.cell? ⟨pD, i, none⟩ = some (.int .u8 0) := by rw [BlkL.cell bD]; exact fillD_at D i (by rw [HDL.out]; exact hlt)
        have hfz := Blk.frozen bD i
        have hbz := Blk.lt bD
        generalize X.getD q 0 = x at *
        have id0 : (i : Int) / 4 = (q : Int) := by omega
        have i0 : (0 : Int) ≤ (i : Int) := by omega
        have i32 : (i : Int) < 32 := by omega
        have q0 : (0 : Int) ≤ (q : Int) := by omega
        have q8 : (q : Int) < 8 := by omega
        have HQR := Lib.hid hqr
        clear hda hxr hqr
        obtain rfl | rfl | rfl | rfl : r = 0 ∨ r = 1 ∨ r = 2 ∨ r = 3 := by omega
        · have im0 : (i : Int) % 4 = 0 := by have := HQR.out; omega
          have hv : (((wordBytes x).getD 0 0).toNat : Int) = x / 16777216 % 256 := by show ((byteOf _).toNat : Int) = _; rw [byteOf_val]
          rw [hv] at hset
          have HS := Lib.hid hset
          clear hset hv
          go_wp2_with fail
          go_roundw
          case rel => exact ⟨i + 1, by omega, by go_num, by exact HS.out, Blk.setOther bH _ _ (by show pH ≠ pD; omega), Blk.setOther bR _ _ (by show pR ≠ pD; omega), gi.setNew _ (by show w.heap.size ≤ pD; exact hpD) _⟩
          case measure => first | (simp [intOf]; done) | (simp [intOf]; omega)
        · have im0 : (i : Int) % 4 = 1 := by have := HQR.out; omega
          have hv : (((wordBytes x).getD 1 0).toNat : Int) = x / 65536 % 256 := by show ((byteOf _).toNat : Int) = _; rw [byteOf_val]
          rw [hv] at hset
          have HS := Lib.hid hset
          clear hset hv
          go_wp2_with fail
          go_roundw
          case rel => exact ⟨i + 1, by omega, by go_num, by exact HS.out, Blk.setOther bH _ _ (by show pH ≠ pD; omega), Blk.setOther bR _ _ (by show pR ≠ pD; omega), gi.setNew _ (by show w.heap.size ≤ pD; exact hpD) _⟩
          case measure => first | (simp [intOf]; done) | (simp [intOf]; omega)
        · have im0 : (i : Int) % 4 = 2 := by have := HQR.out; omega
          have hv : (((wordBytes x).getD 2 0).toNat : Int) = x / 256 % 256 := by show ((byteOf _).toNat : Int) = _; rw [byteOf_val]
          rw [hv] at hset
          have HS := Lib.hid hset
          clear hset hv
          go_wp2_with fail
          go_roundw
          case rel => exact ⟨i + 1, by omega, by go_num, by exact HS.out, Blk.setOther bH _ _ (by show pH ≠ pD; omega), Blk.setOther bR _ _ (by show pR ≠ pD; omega), gi.setNew _ (by show w.heap.size ≤ pD; exact hpD) _⟩
          case measure => first | (simp [intOf]; done) | (simp [intOf]; omega)
        · have im0 : (i : Int) % 4 = 3 := by have := HQR.out; omega
          have hv : (((wordBytes x).getD 3 0).toNat : Int) = x % 256 := by show ((byteOf _).toNat : Int) = _; rw [byteOf_val]
          rw [hv] at hset
          have HS := Lib.hid hset
          clear hset hv
          go_wp2_with fail
          go_roundw
          case rel => exact ⟨i + 1, by omega, by go_num, by exact HS.out, Blk.setOther bH _ _ (by show pH ≠ pD; omega), Blk.setOther bR _ _ (by show pR ≠ pD; omega), gi.setNew _ (by show w.heap.size ≤ pD; exact hpD) _⟩
          case measure => first | (simp [intOf]; done) | (simp [intOf]; omega)
      · have hi32 : i = 32 := by omega
        have hd32 : decide ((i : Int) < 32) = false := by simp; omega
        rw [hi32, fillD_all D 32 HDL.out] at bD
        clear hi32
        obtain ⟨hds, hdo⟩ := row_facts D 32 HDL.out
        have HID : Hid ((Tryd.prog.info? 30).map (·.size) = some (byteVals D).toArray.size) := by rw [hds]; show _ = _; kernel_rfl
        have HZD : Hid (zero32.size = (byteVals D).toArray.size) := by rw [hds]; rfl
        have HOD := Lib.hid hdo
        have hrD : wr.heap[pD]? = some (.cells (byteVals D).toArray 30 (0, 0)) := bD
        have HRD := Lib.hid hrD
        have HRR := Lib.hid bR
        clear hds hdo hrD
        go_wp2_with (first
          | (refine wpList_load_row rfl 30 _ rfl pD rfl 30 _ (0, 0) _ HRD.out Tryd.underlying30 rfl HID.out ?_)
          | (refine wpList_store_row rfl 30 _ _ rfl pR (byteVals D).toArray rfl rfl 30 _ HRR.out HID.out HZD.out HOD.out ?_))
        refine bodyPost_ret (results_cell_row (p := 6) (ty := 30) Tryd.results24 _ _ pR 30 (byteVals D).toArray (0, 0) _ rfl (setRow_heap _ _ _ _ _ _ HRR.out) Tryd.underlying30 rfl HID.out) rfl ⟨by rw [HDX.out], ?_⟩
        exact Chg.own (b := pR) gi (chg_setRow _ _ _) (by rw [HPH.out]; omega)

end Go.Proofs.YtkcammaccgkflaaDoor
