/-
  The document's digest: digits, primes and roots, plainly.
-/
import Derived.Test.YtdkgecphkppglaaDoorB
namespace Go.Proofs.YtdkgecphkppglaaDoor

/-- The value of digits to the base 65536, the lowest first. -/
def val : List Nat → Nat
  | [] => 0
  | v :: vs => v + 65536 * val vs
def Dig (o : List Nat) : Prop := o.length = 10 ∧ ∀ v ∈ o, v < 65536
theorem Dig.at {o : List Nat} (h : Dig o) (i : Nat) : o.getD i 0 < 65536 := by
  by_cases hi : i < o.length
  · rw [List.getD_eq_getElem?_getD, List.getElem?_eq_getElem hi]
    exact h.2 _ (List.getElem_mem hi)
  · rw [List.getD_eq_getElem?_getD, List.getElem?_eq_none (by omega)]; decide
theorem Dig.set {o : List Nat} (h : Dig o) (i v : Nat) (hv : v < 65536) : Dig (o.set i v) :=
  ⟨by rw [List.length_set]; exact h.1, fun u hu => by
    rcases List.mem_or_eq_of_mem_set hu with h1 | h1
    · exact h.2 u h1
    · omega⟩
theorem dig_zero : Dig (List.replicate 10 0) := ⟨by simp, fun v hv => by have := List.eq_of_mem_replicate hv; omega⟩
theorem val_zero : ∀ n, val (List.replicate n 0) = 0
  | 0 => rfl
  | n + 1 => by rw [List.replicate_succ, val, val_zero n]
theorem val_lt : ∀ (o : List Nat), (∀ v ∈ o, v < 65536) → val o < 65536 ^ o.length
  | [], _ => by simp [val]
  | v :: vs, h => by
    have h1 := val_lt vs (fun u hu => h u (by simp [hu]))
    have h2 := h v (by simp)
    rw [val, List.length_cons, Nat.pow_succ]
    omega
theorem val_set : ∀ (o : List Nat) (i v : Nat), i < o.length → val (o.set i v) + o.getD i 0 * 65536 ^ i = val o + v * 65536 ^ i
  | [], _, _, h => by simp at h
  | x :: xs, 0, v, _ => by simp [val]; omega
  | x :: xs, i + 1, v, h => by
    have h1 := val_set xs i v (by simpa using h)
    rw [List.set_cons_succ, val, val, List.getD_cons_succ, Nat.pow_succ, ← Nat.mul_assoc, ← Nat.mul_assoc]
    omega
theorem val_take_succ : ∀ (o : List Nat) (i : Nat), i < o.length → val (o.take (i + 1)) = val (o.take i) + o.getD i 0 * 65536 ^ i
  | [], _, h => by simp at h
  | x :: xs, 0, _ => by simp [val]
  | x :: xs, i + 1, h => by
    have h1 := val_take_succ xs i (by simpa using h)
    rw [List.take_succ_cons, List.take_succ_cons, val, val, List.getD_cons_succ, h1, Nat.pow_succ, ← Nat.mul_assoc]
    omega
theorem val_split : ∀ (o : List Nat) (i : Nat), i ≤ o.length → val o = val (o.take i) + 65536 ^ i * val (o.drop i)
  | o, 0, _ => by simp [val]
  | [], i + 1, h => by simp at h
  | x :: xs, i + 1, h => by
    have h1 := val_split xs i (by simpa using h)
    rw [List.take_succ_cons, List.drop_succ_cons, val, val, h1, Nat.pow_succ, Nat.mul_add, Nat.mul_comm (65536 ^ i) 65536, Nat.mul_assoc]
    omega

/-! ### times -/
/-- A round's step, of one digit. -/
theorem times_step {o b : List Nat} {i k x c ai V : Nat} (ho : o.length = 10) (hb : b.length = 10) (hik : i + k < 10)
    (hx : x = o.getD (i + k) 0 + ai * b.getD k 0 + c) (hV : val o + c * 65536 ^ (i + k) = V + ai * 65536 ^ i * val (b.take k)) :
    val (o.set (i + k) (x % 65536)) + x / 65536 * 65536 ^ (i + (k + 1)) = V + ai * 65536 ^ i * val (b.take (k + 1)) := by
  have h1 := val_set o (i + k) (x % 65536) (by omega)
  have h2 := val_take_succ b k (by omega)
  have h3 : x % 65536 * 65536 ^ (i + k) + x / 65536 * 65536 ^ (i + (k + 1)) = x * 65536 ^ (i + k) := by
    rw [show i + (k + 1) = (i + k) + 1 by omega, Nat.pow_succ, Nat.mul_comm (65536 ^ (i + k)) 65536, ← Nat.mul_assoc, ← Nat.add_mul]
    congr 1
    omega
  have h4 : x * 65536 ^ (i + k) = o.getD (i + k) 0 * 65536 ^ (i + k) + ai * b.getD k 0 * 65536 ^ (i + k) + c * 65536 ^ (i + k) := by
    rw [hx, Nat.add_mul, Nat.add_mul]
  have h5 : ai * 65536 ^ i * val (b.take (k + 1)) = ai * 65536 ^ i * val (b.take k) + ai * b.getD k 0 * 65536 ^ (i + k) := by
    rw [h2, Nat.mul_add, Nat.pow_add]
    congr 1
    rw [Nat.mul_assoc ai, Nat.mul_assoc ai, ← Nat.mul_assoc (65536 ^ i), Nat.mul_comm (65536 ^ i) (b.getD k 0), Nat.mul_assoc]
  omega
theorem times_bound {o b : List Nat} {i k c ai : Nat} (ho : Dig o) (hb : Dig b) (ha : ai < 65536) (hc : c < 65536) : o.getD (i + k) 0 + ai * b.getD k 0 + c < 4294967296 := by
  have h1 := ho.at (i + k)
  have h2 := hb.at k
  have h3 : ai * b.getD k 0 ≤ 65535 * 65535 := Nat.mul_le_mul (by omega) (by omega)
  omega
theorem times_round {o a b : List Nat} {i c V : Nat} (hi : i < 10) (ha : Dig a) (hb : Dig b) (hV0 : V % 65536 ^ 10 = val (a.take i) * val b % 65536 ^ 10)
    (hV : val o + c * 65536 ^ 10 = V + a.getD i 0 * 65536 ^ i * val (b.take (10 - i))) : val o % 65536 ^ 10 = val (a.take (i + 1)) * val b % 65536 ^ 10 := by
  have h1 := val_take_succ a i (by have := ha.1; omega)
  have h2 := val_split b (10 - i) (by have := hb.1; omega)
  have h3 : val (a.take (i + 1)) * val b = val (a.take i) * val b + a.getD i 0 * 65536 ^ i * val (b.take (10 - i)) + 65536 ^ 10 * (a.getD i 0 * val (b.drop (10 - i))) := by
    have e : 65536 ^ 10 = 65536 ^ i * 65536 ^ (10 - i) := by rw [← Nat.pow_add]; congr 1; omega
    rw [h1, Nat.add_mul, e, Nat.add_assoc]
    congr 1
    conv => lhs; rw [h2]
    rw [Nat.mul_add]
    congr 1
    rw [Nat.mul_assoc, Nat.mul_assoc, Nat.mul_left_comm (a.getD i 0)]
    congr 1
    rw [Nat.mul_left_comm]
  rw [h3, Nat.add_mul_mod_self_left, Nat.add_mod, ← hV0, ← Nat.add_mod, ← hV, Nat.add_mul_mod_self_right]

/-! ### above -/
theorem above_eq {a b : List Nat} (h : a.drop 0 = b.drop 0) : decide (val b < val a) = false := by
  simp only [List.drop_zero] at h
  rw [h]; simp
theorem above_at {a b : List Nat} {j : Nat} (hj : j < 10) (ha : Dig a) (hb : Dig b) (h : a.drop (j + 1) = b.drop (j + 1)) (hne : a.getD j 0 ≠ b.getD j 0) :
    decide (val b < val a) = decide (b.getD j 0 < a.getD j 0) := by
  have a1 := val_split a (j + 1) (by have := ha.1; omega)
  have b1 := val_split b (j + 1) (by have := hb.1; omega)
  have a2 := val_take_succ a j (by have := ha.1; omega)
  have b2 := val_take_succ b j (by have := hb.1; omega)
  have a3 := val_lt (a.take j) (fun v hv => ha.2 v (List.mem_of_mem_take hv))
  have b3 := val_lt (b.take j) (fun v hv => hb.2 v (List.mem_of_mem_take hv))
  rw [List.length_take, ha.1, Nat.min_eq_left (by omega)] at a3
  rw [List.length_take, hb.1, Nat.min_eq_left (by omega)] at b3
  rw [h] at a1
  generalize a.getD j 0 = x at *
  generalize b.getD j 0 = y at *
  have hxy : x < y ∨ y < x := by omega
  have hm : ∀ u v : Nat, u < v → (u + 1) * 65536 ^ j ≤ v * 65536 ^ j := fun u v h => Nat.mul_le_mul_right _ h
  rw [decide_eq_decide]
  rcases hxy with h1 | h1
  · have := hm x y h1
    rw [Nat.add_mul, Nat.one_mul] at this
    constructor <;> intro h2 <;> omega
  · have := hm y x h1
    rw [Nat.add_mul, Nat.one_mul] at this
    constructor <;> intro h2 <;> omega
theorem drop_eq {a b : List Nat} {j : Nat} (hj : j < 10) (ha : Dig a) (hb : Dig b) (h : a.drop (j + 1) = b.drop (j + 1)) (he : a.getD j 0 = b.getD j 0) : a.drop j = b.drop j := by
  have h1 : j < a.length := by have := ha.1; omega
  have h2 : j < b.length := by have := hb.1; omega
  rw [List.getD_eq_getElem?_getD, List.getD_eq_getElem?_getD, List.getElem?_eq_getElem h1, List.getElem?_eq_getElem h2] at he
  rw [List.drop_eq_getElem_cons h1, List.drop_eq_getElem_cons h2, h]
  congr 1

/-! ### digits -/
def dgs (n i : Nat) : List Nat := (List.range 10).map fun j => if j < i then n / 65536 ^ j % 65536 else 0
theorem dgs_dig (n i : Nat) : Dig (dgs n i) := ⟨by simp [dgs], fun v hv => by
  unfold dgs at hv
  obtain ⟨j, _, rfl⟩ := List.mem_map.1 hv
  by_cases h : j < i
  · rw [if_pos h]; exact Nat.mod_lt _ (by decide)
  · rw [if_neg h]; decide⟩
theorem dgs_zero (n : Nat) : dgs n 0 = List.replicate 10 0 := by simp [dgs, List.range_succ]
theorem dgs_set (n i : Nat) (h : i < 10) : (dgs n i).set i (n / 65536 ^ i % 65536) = dgs n (i + 1) := by
  apply List.ext_getElem?
  intro j
  by_cases hj : j < 10
  · by_cases hij : i = j
    · subst hij
      rw [List.getElem?_set_self (by rw [(dgs_dig n i).1]; exact h)]
      simp [dgs, hj]
    · rw [List.getElem?_set_ne hij]
      simp only [dgs, List.getElem?_map, List.getElem?_range hj, Option.map_some, Option.some.injEq]
      by_cases h2 : j < i
      · rw [if_pos h2, if_pos (by omega)]
      · rw [if_neg h2, if_neg (by omega)]
  · rw [List.getElem?_eq_none (by rw [List.length_set, (dgs_dig n i).1]; omega), List.getElem?_eq_none (by rw [(dgs_dig n (i + 1)).1]; omega)]
theorem dgs_val (n : Nat) (h : n < 65536 ^ 4) : val (dgs n 4) = n := by
  simp [dgs, List.range_succ, val]
  omega

/-! ### roots -/
def mostN (p power : Nat) : List Nat := (List.replicate 10 0).set (2 * power) p
theorem most_dig (p power : Nat) (hp : p < 65536) : Dig (mostN p power) := dig_zero.set _ _ hp
theorem most_val (p power : Nat) (h : 2 * power < 10) : val (mostN p power) = p * 65536 ^ (2 * power) := by
  have h1 := val_set (List.replicate 10 0) (2 * power) p (by simpa using h)
  have h2 : (List.replicate 10 0).getD (2 * power) 0 = 0 := by rw [List.getD_eq_getElem?_getD, List.getElem?_replicate]; split <;> rfl
  rw [h2, val_zero] at h1
  unfold mostN
  omega
/-- The k-th bit of the search, from the greatest on; none behind the last. -/
def bitN (k : Nat) : Nat := 2 ^ 38 / 2 ^ (k + 1)
theorem bit_half (k : Nat) : bitN k / 2 = bitN (k + 1) := by
  unfold bitN
  rw [Nat.div_div_eq_div_mul, ← Nat.pow_succ]
theorem bit_pos (k : Nat) (h : k < 38) : 0 < bitN k := Nat.div_pos (Nat.pow_le_pow_right (by decide) (by omega)) (Nat.pow_pos (by decide))
theorem bit_end : bitN 38 = 0 := by decide
def rootX (p power : Nat) : Nat → Nat
  | 0 => 0
  | k + 1 => if p * 65536 ^ (2 * power) < (rootX p power k + bitN k) ^ power then rootX p power k else rootX p power k + bitN k
theorem rootX_le (p power : Nat) : ∀ k, k ≤ 38 → rootX p power k + 2 ^ (38 - k) ≤ 2 ^ 38
  | 0, _ => by simp [rootX]
  | k + 1, h => by
    have h1 := rootX_le p power k (by omega)
    have h2 : bitN k = 2 ^ (38 - (k + 1)) := by unfold bitN; rw [Nat.pow_div (by omega) (by decide)]
    have h3 : 2 ^ (38 - k) = 2 ^ (38 - (k + 1)) + 2 ^ (38 - (k + 1)) := by
      rw [show 38 - k = (38 - (k + 1)) + 1 by omega, Nat.pow_succ]; omega
    rw [rootX]
    split <;> omega
def rootV (p power : Nat) : Nat := rootX p power 38 % 4294967296
theorem root_bound (p power k : Nat) (h : k < 38) : rootX p power k + bitN k < 274877906945 := by
  have h1 := rootX_le p power k (by omega)
  have h2 : bitN k ≤ 2 ^ (38 - k) := by
    unfold bitN; rw [Nat.pow_div (by omega) (by decide)]; exact Nat.pow_le_pow_right (by decide) (by omega)
  omega

/-! ### primes -/
def primeB (n : Nat) : Bool := decide (1 < n) && (List.range n).all fun j => decide (j < 2) || decide (n < j * j) || decide (n % j ≠ 0)
def primesB (n : Nat) : List Nat := (List.range n).filter primeB
theorem prime_no {n k : Nat} (h2 : 2 ≤ k) (hk : k * k ≤ n) (hd : n % k = 0) : primeB n = false := by
  unfold primeB
  rw [Bool.and_eq_false_iff]
  right
  rw [List.all_eq_false]
  have hkn : k < n := Nat.lt_of_lt_of_le (by have : k * 2 ≤ k * k := Nat.mul_le_mul_left _ h2; omega) hk
  exact ⟨k, List.mem_range.2 hkn, by simp [hd]; omega⟩
theorem prime_yes {n k : Nat} (hk : n < k * k) (h : ∀ j, 2 ≤ j → j < k → n % j ≠ 0) : primeB n = decide (1 < n) := by
  unfold primeB
  have : ((List.range n).all fun j => decide (j < 2) || decide (n < j * j) || decide (n % j ≠ 0)) = true := by
    rw [List.all_eq_true]
    intro j _
    by_cases h1 : j < 2
    · simp [h1]
    · by_cases h3 : j < k
      · simp [h j (by omega) h3]
      · have : k * k ≤ j * j := Nat.mul_le_mul (by omega) (by omega)
        have h4 : n < j * j := by omega
        simp [h4]
  rw [this, Bool.and_true]
theorem primes_succ (n : Nat) : primesB (n + 1) = primesB n ++ if primeB n = true then [n] else [] := by
  unfold primesB
  rw [List.range_succ, List.filter_append]
  congr 1
  by_cases h : primeB n = true <;> simp [h]
set_option maxRecDepth 100000 in
theorem primes_few : ∀ n, n < 312 → (primesB n).length < 64 := by decide +kernel
set_option maxRecDepth 100000 in
theorem primes_all : (primesB 312).length = 64 := by decide +kernel

set_option maxRecDepth 100000 in
theorem roots_K : ∀ i, i < 64 → ((rootV ((primesB 312).getD i 0) 3 : Nat) : Int) = K0.getD i 0 := by decide +kernel
set_option maxRecDepth 100000 in
theorem roots_H : ∀ i, i < 8 → ((rootV ((primesB 312).getD i 0) 2 : Nat) : Int) = H0.getD i 0 := by decide +kernel
theorem primes_lt : ∀ n, ∀ p ∈ primesB n, p < n := fun _ _ hp => List.mem_range.1 ((List.mem_filter.1 hp).1)

end Go.Proofs.YtdkgecphkppglaaDoor
