/-
  Package attest: which of two results comes first.
-/
import Derived.Test.YtehpigmcmgfkoaaDoorBL
namespace Go.Proofs.YtehpigmcmgfkoaaDoor
open Go.RowKit

theorem be_cmp : ∀ (k m n : Nat), cmpB (be k m) (be k n) < 0 ↔ m % 2 ^ (8 * k) < n % 2 ^ (8 * k)
  | 0, m, n => by
    have : cmpB (be 0 m) (be 0 n) = 0 := rfl
    rw [this, Nat.mul_zero, Nat.pow_zero, Nat.mod_one, Nat.mod_one]; decide
  | k + 1, m, n => by
    have ih := be_cmp k m n
    have e : 2 ^ (8 * (k + 1)) = 2 ^ (8 * k) * 256 := by rw [Nat.mul_succ, Nat.pow_add]
    rw [e, Nat.mod_mul, Nat.mod_mul]
    show cmpB (UInt8.ofNat (m / 2 ^ (8 * k)) :: be k m) (UInt8.ofNat (n / 2 ^ (8 * k)) :: be k n) < 0 ↔ _
    rw [cmp_cons]
    have hB : 0 < 2 ^ (8 * k) := Nat.pow_pos (by decide)
    have l1 := Nat.mod_lt m hB
    have l2 := Nat.mod_lt n hB
    have x1 : (UInt8.ofNat (m / 2 ^ (8 * k)) < UInt8.ofNat (n / 2 ^ (8 * k))) ↔ m / 2 ^ (8 * k) % 256 < n / 2 ^ (8 * k) % 256 := by rw [UInt8.lt_iff_toNat_lt, UInt8.toNat_ofNat', UInt8.toNat_ofNat']
    have x2 : (UInt8.ofNat (n / 2 ^ (8 * k)) < UInt8.ofNat (m / 2 ^ (8 * k))) ↔ n / 2 ^ (8 * k) % 256 < m / 2 ^ (8 * k) % 256 := by rw [UInt8.lt_iff_toNat_lt, UInt8.toNat_ofNat', UInt8.toNat_ofNat']
    generalize hp : m / 2 ^ (8 * k) % 256 = p at *
    generalize hq : n / 2 ^ (8 * k) % 256 = q at *
    generalize m % 2 ^ (8 * k) = r at *
    generalize n % 2 ^ (8 * k) = s at *
    generalize 2 ^ (8 * k) = B at *
    rcases Nat.lt_trichotomy p q with h | h | h
    · rw [if_pos (x1.2 h)]
      have := Nat.mul_le_mul_left B (show p + 1 ≤ q from h)
      rw [Nat.mul_succ] at this
      exact ⟨fun _ => by omega, fun _ => by decide⟩
    · subst h
      rw [if_neg (by rw [x1]; omega), if_neg (by rw [x2]; omega), ih]
      omega
    · rw [if_neg (by rw [x1]; omega), if_pos (x2.2 h)]
      have := Nat.mul_le_mul_left B (show q + 1 ≤ p from h)
      rw [Nat.mul_succ] at this
      exact ⟨fun h => absurd h (by decide), fun _ => by omega⟩

def u64n (n : Int) : Nat := (n % 18446744073709551616).toNat
def lessB (a b : Att) : Bool := decide (cmpB (attBytes a (u64n a.n)) (attBytes b (u64n b.n)) < 0)
theorem less_k (a b : Att) (h : a.k.1 ≠ b.k.1) : lessB a b = decide (cmpB a.k.1 b.k.1 < 0) := by
  unfold lessB attBytes
  rw [cmp_append _ _ _ _ (by rw [a.k.2, b.k.2]), if_neg h]
theorem less_r (a b : Att) (h1 : a.k.1 = b.k.1) (h : a.r.1 ≠ b.r.1) : lessB a b = decide (cmpB a.r.1 b.r.1 < 0) := by
  unfold lessB attBytes
  rw [cmp_append _ _ _ _ (by rw [a.k.2, b.k.2]), if_pos h1, cmp_append _ _ _ _ (by rw [a.r.2, b.r.2]), if_neg h]
theorem less_n (a b : Att) (h1 : a.k.1 = b.k.1) (h2 : a.r.1 = b.r.1) (ha : -9223372036854775808 ≤ a.n ∧ a.n ≤ 9223372036854775807) (hb : -9223372036854775808 ≤ b.n ∧ b.n ≤ 9223372036854775807) (h : a.n ≠ b.n) :
    lessB a b = decide (a.n % 18446744073709551616 < b.n % 18446744073709551616) := by
  have hc := be_cmp 8 (u64n a.n) (u64n b.n)
  have hne : be 8 (u64n a.n) ≠ be 8 (u64n b.n) := fun e => by
    have h3 := be_cmp 8 (u64n b.n) (u64n a.n)
    rw [e, cmp_self] at hc
    rw [e, cmp_self] at h3
    have e1 : (2 : Nat) ^ (8 * 8) = 18446744073709551616 := by decide
    rw [e1] at hc h3
    unfold u64n at hc h3
    omega
  unfold lessB attBytes
  rw [cmp_append _ _ _ _ (by rw [a.k.2, b.k.2]), if_pos h1, cmp_append _ _ _ _ (by rw [a.r.2, b.r.2]), if_pos h2, cmp_append _ _ _ _ (by rw [be_len, be_len]), if_neg hne]
  have e1 : (2 : Nat) ^ (8 * 8) = 18446744073709551616 := by decide
  rw [e1] at hc
  apply decide_eq_decide.2
  rw [hc]
  unfold u64n
  omega
theorem less_t (a b : Att) (h1 : a.k.1 = b.k.1) (h2 : a.r.1 = b.r.1) (h3 : a.n = b.n) : lessB a b = decide (cmpB a.t.1 b.t.1 < 0) := by
  unfold lessB attBytes
  rw [cmp_append _ _ _ _ (by rw [a.k.2, b.k.2]), if_pos h1, cmp_append _ _ _ _ (by rw [a.r.2, b.r.2]), if_pos h2, cmp_append _ _ _ _ (by rw [be_len, be_len]), h3, if_pos rfl]
theorem txt_range {w : World} {b o : Nat} {bs : List UInt8} (h : w.rangeAt b o (byteVals bs)) (hl : b < w.heap.size) : Txt w (some ⟨b, o, none⟩) bs :=
  fun _ => ⟨b, o, rfl, hl, fun _ _ hj => h _ _ (byteVals_get hj)⟩

set_option maxRecDepth 100000 in
set_option maxHeartbeats 16000000 in
theorem less_any (a b : Att) (w : World) (ha : -9223372036854775808 ≤ a.n ∧ a.n ≤ 9223372036854775807) (hb : -9223372036854775808 ≤ b.n ∧ b.n ≤ 9223372036854775807) :
    Calls Tryd.prog 30 #[.agg (attCells a).toArray, .agg (attCells b).toArray] w fun e w' => e = .returned (.bool (lessB a b)) ∧ Chg none w w' := by
  obtain ⟨CA, hCA⟩ : ∃ CA, CA = (attCells a).toArray := ⟨_, rfl⟩
  obtain ⟨CB, hCB⟩ : ∃ CB, CB = (attCells b).toArray := ⟨_, rfl⟩
  obtain ⟨W2, hW2⟩ : ∃ W2, W2 = (w.alloc (.cells CA 46)).alloc (.cells CB 46) := ⟨_, rfl⟩
  have HW2 : Hid ((w.alloc (.cells CA 46)).alloc (.cells CB 46) = W2) := hW2.symm
  have gR : Chg none w W2 := by rw [hW2]; exact ((Chg.refl _ _).alloc _).alloc _
  have bA : BlkL W2 w.heap.size (attCells a) 46 := by rw [hW2, hCA]; exact Blk.alloc (Blk.new _ _ _) _
  have bB : BlkL W2 (w.heap.size + 1) (attCells b) 46 := by rw [hW2, hCB]; exact Blk.newAt _ _ (by simp)
  have E0 := gR.drew
  have E00 := gR
  have HTK : Hid (∀ A B : Option Addr, A = some ⟨w.heap.size, 0, none⟩ → B = some ⟨w.heap.size + 1, 0, none⟩ → Txt W2.drew A a.k.1 ∧ Txt W2.drew B b.k.1) := fun A B e1 e2 => by
    subst e1; subst e2
    exact ⟨Txt.chg (txt_range (att_key (Blk.range bA)) (Blk.lt bA)) (Chg.refl none W2).drew, Txt.chg (txt_range (att_key (Blk.range bB)) (Blk.lt bB)) (Chg.refl none W2).drew⟩
  have HTR : Hid (∀ A B : Option Addr, A = some ⟨w.heap.size, 32, none⟩ → B = some ⟨w.heap.size + 1, 32, none⟩ → Txt W2.drew A a.r.1 ∧ Txt W2.drew B b.r.1) := fun A B e1 e2 => by
    subst e1; subst e2
    exact ⟨Txt.chg (txt_range (att_root (Blk.range bA)) (Blk.lt bA)) (Chg.refl none W2).drew, Txt.chg (txt_range (att_root (Blk.range bB)) (Blk.lt bB)) (Chg.refl none W2).drew⟩
  have HTT : Hid (∀ A B : Option Addr, A = some ⟨w.heap.size, 65, none⟩ → B = some ⟨w.heap.size + 1, 65, none⟩ → Txt W2.drew A a.t.1 ∧ Txt W2.drew B b.t.1) := fun A B e1 e2 => by
    subst e1; subst e2
    exact ⟨Txt.chg (txt_range (att_tag (Blk.range bA)) (Blk.lt bA)) (Chg.refl none W2).drew, Txt.chg (txt_range (att_tag (Blk.range bB)) (Blk.lt bB)) (Chg.refl none W2).drew⟩
  have HAK := Lib.hid (att_key (Blk.range bA))
  have HBK := Lib.hid (att_key (Blk.range bB))
  have HAR := Lib.hid (att_root (Blk.range bA))
  have HBR := Lib.hid (att_root (Blk.range bB))
  have ca := att_num (Blk.range bA)
  have cb := att_num (Blk.range bB)
  have HI : Hid (∀ d : Dg, (Tryd.prog.info? 30).map (·.size) = some (byteVals d.1).length) := fun d => by rw [byteVals_len, d.2]; show _ = _; kernel_rfl
  have HNQ : Hid (∀ (x y : Dg) (v : World), (binOp .neq 30 (.agg (byteVals x.1).toArray) (.agg (byteVals y.1).toArray)).run Tryd.prog v = .ok (.bool (!(x.1 == y.1))) v) := fun x y v => neq30 x.1 y.1 x.2 y.2 v
  have HCM : Hid (∀ (x y : Dg) (A B : Option Addr) (v : World), Txt v A x.1 → Txt v B y.1 → Calls Tryd.prog 48 #[.slice A 32 32, .slice B 32 32] v fun e w' => e = .returned (.int .i64 (cmpB x.1 y.1)) ∧ v = w') := fun x y A B v h1 h2 => compare_any A B 32 32 32 32 x.1 y.1 v h1 x.2.symm h2 y.2.symm
  have hg30 := guard30
  rw [← hCA, ← hCB]
  clear hCA hCB hW2 bA bB gR
  by_cases hk : a.k.1 = b.k.1
  rotate_left
  · have HL := Lib.hid (less_k a b hk)
    have hq : ∀ v : World, (binOp .neq 30 (.agg (byteVals a.k.1).toArray) (.agg (byteVals b.k.1).toArray)).run Tryd.prog v = .ok (.bool true) v := fun v => by rw [HNQ.out]; simp [hk]
    generalize lessB a b = LB at *
    clear hk HTR HTT HAR HBR ca cb HNQ ha hb
    go_enter Tryd.func30, Tryd.ntmps30
    go_upto_region 1 with fail
    rw [HW2.out]
    clear HW2
    have hT := HTK.out _ _ rfl rfl
    generalize w.heap.size + 1 = pB at *
    generalize w.heap.size = pA at *
    clear HTK
    go_upto_region 2 with (first
      | (refine wpList_load_mid rfl 30 _ rfl pA 0 rfl (byteVals a.k.1) _ HAK.out Tryd.underlying30 rfl (HI.out a.k) ?_)
      | (refine wpList_load_mid rfl 30 _ rfl pB 0 rfl (byteVals b.k.1) _ HBK.out Tryd.underlying30 rfl (HI.out b.k) ?_))
    refine wp_region_held_drew (S := fun _ => True) (by kernel_rfl) trivial (fun _ => ?_)
    generalize W2.drew = v0 at *
    refine wpAnyH_take (i := 0) (oi := ⟨some 10, _, _, _, _, _⟩) (v := ?_) rfl (by kernel_rfl) (by kernel_rfl) (by kernel_rfl) (fun _ _ _ h => h) (Or.inl ⟨by rfl, ?_⟩) (by assumption) ?_
    rotate_left
    · intro w hSw; (try dsimp only at hSw); go_simp; (try with_reducible rfl)
    try simp only [Act.put, List.setIfInBounds_toArray, List.set_cons_zero, List.set_cons_succ]
    refine wpAnyH_take (i := 1) (oi := ⟨some 11, _, _, _, _, _⟩) (v := .slice (some ⟨pA, 0, none⟩) 32 32) rfl (by kernel_rfl) (by kernel_rfl) (by kernel_rfl) (fun _ _ _ h => h) (Or.inl ⟨by rfl, ?_⟩) (by assumption) ?_
    · intro w _; have hcw := cut30o w pA 0; go_simp
    try simp only [Act.put, List.setIfInBounds_toArray, List.set_cons_zero, List.set_cons_succ]
    refine wpAnyH_take (i := 2) (oi := ⟨some 12, _, _, _, _, _⟩) (v := ?_) rfl (by kernel_rfl) (by kernel_rfl) (by kernel_rfl) (fun _ _ _ h => h) (Or.inl ⟨by rfl, ?_⟩) (by assumption) ?_
    rotate_left
    · intro w hSw; (try dsimp only at hSw); go_simp; (try with_reducible rfl)
    try simp only [Act.put, List.setIfInBounds_toArray, List.set_cons_zero, List.set_cons_succ]
    refine wpAnyH_take (i := 3) (oi := ⟨some 13, _, _, _, _, _⟩) (v := .slice (some ⟨pB, 0, none⟩) 32 32) rfl (by kernel_rfl) (by kernel_rfl) (by kernel_rfl) (fun _ _ _ h => h) (Or.inl ⟨by rfl, ?_⟩) (by assumption) ?_
    · intro w _; have hcw := cut30o w pB 0; go_simp
    try simp only [Act.put, List.setIfInBounds_toArray, List.set_cons_zero, List.set_cons_succ]
    refine wpAnyH_ready (rs := [4]) (by kernel_rfl) (by simp) ?_
    refine AllReadyH.cons (o := ⟨some 14, _, _, _, _, _⟩) rfl (fun K hK => ?_) (AllReadyH.nil)
    go_simp
    go_at_call 48
    refine (HCM.out a.k b.k _ _ _ hT.1 hT.2).mono ?_
    rintro e v1 ⟨rfl, rfl⟩
    go_wp2_with fail
    refine hK.out _ _ trivial (fun _ => ?_)
    clear hK K
    try simp only [Act.put, List.setIfInBounds_toArray, List.set_cons_zero, List.set_cons_succ]
    refine wpAnyH_take (i := 5) (oi := ⟨some 15, _, _, _, _, _⟩) (v := ?_) rfl (by kernel_rfl) (by kernel_rfl) (by kernel_rfl) (fun _ _ _ h => h) (Or.inl ⟨by rfl, ?_⟩) (by assumption) ?_
    rotate_left
    · intro w hSw; (try dsimp only at hSw); go_simp; (try with_reducible rfl)
    try simp only [Act.put, List.setIfInBounds_toArray, List.set_cons_zero, List.set_cons_succ]
    refine wpAnyH_take (i := 6) (oi := ⟨some 4, _, _, _, _, _⟩) (v := ?_) rfl (by kernel_rfl) (by kernel_rfl) (by kernel_rfl) (fun _ _ _ h => h) (Or.inl ⟨by rfl, ?_⟩) (by assumption) ?_
    rotate_left
    · intro w hSw; (try dsimp only at hSw); go_simp; (try with_reducible rfl)
    try simp only [Act.put, List.setIfInBounds_toArray, List.set_cons_zero, List.set_cons_succ]
    refine wpAnyH_done (by kernel_rfl) ?_ _
    try simp only [Act.put]
    go_wp2_with fail
    go_ret
    exact ⟨by rw [HL.out]; rfl, E0⟩
  have hqk : ∀ v : World, (binOp .neq 30 (.agg (byteVals a.k.1).toArray) (.agg (byteVals b.k.1).toArray)).run Tryd.prog v = .ok (.bool false) v := fun v => by rw [HNQ.out]; simp [hk]
  by_cases hr : a.r.1 = b.r.1
  rotate_left
  · have HL := Lib.hid (less_r a b hk hr)
    have hq : ∀ v : World, (binOp .neq 30 (.agg (byteVals a.r.1).toArray) (.agg (byteVals b.r.1).toArray)).run Tryd.prog v = .ok (.bool true) v := fun v => by rw [HNQ.out]; simp [hr]
    generalize lessB a b = LB at *
    clear hk hr HTK HTT ca cb HNQ ha hb
    go_enter Tryd.func30, Tryd.ntmps30
    go_upto_region 1 with fail
    rw [HW2.out]
    clear HW2
    have hT := HTR.out _ _ rfl rfl
    generalize w.heap.size + 1 = pB at *
    generalize w.heap.size = pA at *
    clear HTR
    go_upto_region 4 with (first
      | (refine wpList_load_mid rfl 30 _ rfl pA 0 rfl (byteVals a.k.1) _ HAK.out Tryd.underlying30 rfl (HI.out a.k) ?_)
      | (refine wpList_load_mid rfl 30 _ rfl pB 0 rfl (byteVals b.k.1) _ HBK.out Tryd.underlying30 rfl (HI.out b.k) ?_)
      | (refine wpList_load_mid rfl 30 _ rfl pA 32 rfl (byteVals a.r.1) _ HAR.out Tryd.underlying30 rfl (HI.out a.r) ?_)
      | (refine wpList_load_mid rfl 30 _ rfl pB 32 rfl (byteVals b.r.1) _ HBR.out Tryd.underlying30 rfl (HI.out b.r) ?_))
    refine wp_region_held_drew (S := fun _ => True) (by kernel_rfl) trivial (fun _ => ?_)
    generalize W2.drew = v0 at *
    refine wpAnyH_take (i := 0) (oi := ⟨some 21, _, _, _, _, _⟩) (v := ?_) rfl (by kernel_rfl) (by kernel_rfl) (by kernel_rfl) (fun _ _ _ h => h) (Or.inl ⟨by rfl, ?_⟩) (by assumption) ?_
    rotate_left
    · intro w hSw; (try dsimp only at hSw); go_simp; (try with_reducible rfl)
    try simp only [Act.put, List.setIfInBounds_toArray, List.set_cons_zero, List.set_cons_succ]
    refine wpAnyH_take (i := 1) (oi := ⟨some 22, _, _, _, _, _⟩) (v := .slice (some ⟨pA, 32, none⟩) 32 32) rfl (by kernel_rfl) (by kernel_rfl) (by kernel_rfl) (fun _ _ _ h => h) (Or.inl ⟨by rfl, ?_⟩) (by assumption) ?_
    · intro w _; have hcw := cut30o w pA 32; go_simp
    try simp only [Act.put, List.setIfInBounds_toArray, List.set_cons_zero, List.set_cons_succ]
    refine wpAnyH_take (i := 2) (oi := ⟨some 23, _, _, _, _, _⟩) (v := ?_) rfl (by kernel_rfl) (by kernel_rfl) (by kernel_rfl) (fun _ _ _ h => h) (Or.inl ⟨by rfl, ?_⟩) (by assumption) ?_
    rotate_left
    · intro w hSw; (try dsimp only at hSw); go_simp; (try with_reducible rfl)
    try simp only [Act.put, List.setIfInBounds_toArray, List.set_cons_zero, List.set_cons_succ]
    refine wpAnyH_take (i := 3) (oi := ⟨some 24, _, _, _, _, _⟩) (v := .slice (some ⟨pB, 32, none⟩) 32 32) rfl (by kernel_rfl) (by kernel_rfl) (by kernel_rfl) (fun _ _ _ h => h) (Or.inl ⟨by rfl, ?_⟩) (by assumption) ?_
    · intro w _; have hcw := cut30o w pB 32; go_simp
    try simp only [Act.put, List.setIfInBounds_toArray, List.set_cons_zero, List.set_cons_succ]
    refine wpAnyH_ready (rs := [4]) (by kernel_rfl) (by simp) ?_
    refine AllReadyH.cons (o := ⟨some 25, _, _, _, _, _⟩) rfl (fun K hK => ?_) (AllReadyH.nil)
    go_simp
    go_at_call 48
    refine (HCM.out a.r b.r _ _ _ hT.1 hT.2).mono ?_
    rintro e v1 ⟨rfl, rfl⟩
    go_wp2_with fail
    refine hK.out _ _ trivial (fun _ => ?_)
    clear hK K
    try simp only [Act.put, List.setIfInBounds_toArray, List.set_cons_zero, List.set_cons_succ]
    refine wpAnyH_take (i := 5) (oi := ⟨some 26, _, _, _, _, _⟩) (v := ?_) rfl (by kernel_rfl) (by kernel_rfl) (by kernel_rfl) (fun _ _ _ h => h) (Or.inl ⟨by rfl, ?_⟩) (by assumption) ?_
    rotate_left
    · intro w hSw; (try dsimp only at hSw); go_simp; (try with_reducible rfl)
    try simp only [Act.put, List.setIfInBounds_toArray, List.set_cons_zero, List.set_cons_succ]
    refine wpAnyH_take (i := 6) (oi := ⟨some 4, _, _, _, _, _⟩) (v := ?_) rfl (by kernel_rfl) (by kernel_rfl) (by kernel_rfl) (fun _ _ _ h => h) (Or.inl ⟨by rfl, ?_⟩) (by assumption) ?_
    rotate_left
    · intro w hSw; (try dsimp only at hSw); go_simp; (try with_reducible rfl)
    try simp only [Act.put, List.setIfInBounds_toArray, List.set_cons_zero, List.set_cons_succ]
    refine wpAnyH_done (by kernel_rfl) ?_ _
    try simp only [Act.put]
    go_wp2_with fail
    go_ret
    exact ⟨by rw [HL.out]; rfl, E0⟩
  have hqr : ∀ v : World, (binOp .neq 30 (.agg (byteVals a.r.1).toArray) (.agg (byteVals b.r.1).toArray)).run Tryd.prog v = .ok (.bool false) v := fun v => by rw [HNQ.out]; simp [hr]
  by_cases hn : a.n = b.n
  rotate_left
  · have HL := Lib.hid (less_n a b hk hr ha hb hn)
    have dn : (a.n != b.n) = true := by simpa using hn
    generalize lessB a b = LB at *
    generalize a.n = x at *
    generalize b.n = y at *
    clear hk hr hn HTK HTR HTT HNQ HCM ha hb
    go_enter Tryd.func30, Tryd.ntmps30
    go_upto_region 1 with fail
    rw [HW2.out]
    clear HW2
    generalize w.heap.size + 1 = pB at *
    generalize w.heap.size = pA at *
    go_wp2_with (first
      | (refine wpList_load_mid rfl 30 _ rfl pA 0 rfl (byteVals a.k.1) _ HAK.out Tryd.underlying30 rfl (HI.out a.k) ?_)
      | (refine wpList_load_mid rfl 30 _ rfl pB 0 rfl (byteVals b.k.1) _ HBK.out Tryd.underlying30 rfl (HI.out b.k) ?_)
      | (refine wpList_load_mid rfl 30 _ rfl pA 32 rfl (byteVals a.r.1) _ HAR.out Tryd.underlying30 rfl (HI.out a.r) ?_)
      | (refine wpList_load_mid rfl 30 _ rfl pB 32 rfl (byteVals b.r.1) _ HBR.out Tryd.underlying30 rfl (HI.out b.r) ?_))
    go_ret
    exact ⟨by rw [HL.out]; rfl, E00⟩
  have HL := Lib.hid (less_t a b hk hr hn)
  have dn : (a.n != b.n) = false := by simpa using hn
  generalize lessB a b = LB at *
  generalize a.n = x at *
  generalize b.n = y at *
  clear hk hr HTK HTR HNQ ha hb
  subst hn
  go_enter Tryd.func30, Tryd.ntmps30
  go_upto_region 1 with fail
  rw [HW2.out]
  clear HW2
  have hT := HTT.out _ _ rfl rfl
  generalize w.heap.size + 1 = pB at *
  generalize w.heap.size = pA at *
  clear HTT
  go_upto_region 7 with (first
    | (refine wpList_load_mid rfl 30 _ rfl pA 0 rfl (byteVals a.k.1) _ HAK.out Tryd.underlying30 rfl (HI.out a.k) ?_)
    | (refine wpList_load_mid rfl 30 _ rfl pB 0 rfl (byteVals b.k.1) _ HBK.out Tryd.underlying30 rfl (HI.out b.k) ?_)
    | (refine wpList_load_mid rfl 30 _ rfl pA 32 rfl (byteVals a.r.1) _ HAR.out Tryd.underlying30 rfl (HI.out a.r) ?_)
    | (refine wpList_load_mid rfl 30 _ rfl pB 32 rfl (byteVals b.r.1) _ HBR.out Tryd.underlying30 rfl (HI.out b.r) ?_))
  refine wp_region_held_drew (S := fun _ => True) (by kernel_rfl) trivial (fun _ => ?_)
  generalize W2.drew = v0 at *
  refine wpAnyH_take (i := 0) (oi := ⟨some 39, _, _, _, _, _⟩) (v := ?_) rfl (by kernel_rfl) (by kernel_rfl) (by kernel_rfl) (fun _ _ _ h => h) (Or.inl ⟨by rfl, ?_⟩) (by assumption) ?_
  rotate_left
  · intro w hSw; (try dsimp only at hSw); go_simp; (try with_reducible rfl)
  try simp only [Act.put, List.setIfInBounds_toArray, List.set_cons_zero, List.set_cons_succ]
  refine wpAnyH_take (i := 1) (oi := ⟨some 40, _, _, _, _, _⟩) (v := .slice (some ⟨pA, 65, none⟩) 32 32) rfl (by kernel_rfl) (by kernel_rfl) (by kernel_rfl) (fun _ _ _ h => h) (Or.inl ⟨by rfl, ?_⟩) (by assumption) ?_
  · intro w _; have hcw := cut30o w pA 65; go_simp
  try simp only [Act.put, List.setIfInBounds_toArray, List.set_cons_zero, List.set_cons_succ]
  refine wpAnyH_take (i := 2) (oi := ⟨some 41, _, _, _, _, _⟩) (v := ?_) rfl (by kernel_rfl) (by kernel_rfl) (by kernel_rfl) (fun _ _ _ h => h) (Or.inl ⟨by rfl, ?_⟩) (by assumption) ?_
  rotate_left
  · intro w hSw; (try dsimp only at hSw); go_simp; (try with_reducible rfl)
  try simp only [Act.put, List.setIfInBounds_toArray, List.set_cons_zero, List.set_cons_succ]
  refine wpAnyH_take (i := 3) (oi := ⟨some 42, _, _, _, _, _⟩) (v := .slice (some ⟨pB, 65, none⟩) 32 32) rfl (by kernel_rfl) (by kernel_rfl) (by kernel_rfl) (fun _ _ _ h => h) (Or.inl ⟨by rfl, ?_⟩) (by assumption) ?_
  · intro w _; have hcw := cut30o w pB 65; go_simp
  try simp only [Act.put, List.setIfInBounds_toArray, List.set_cons_zero, List.set_cons_succ]
  refine wpAnyH_ready (rs := [4]) (by kernel_rfl) (by simp) ?_
  refine AllReadyH.cons (o := ⟨some 43, _, _, _, _, _⟩) rfl (fun K hK => ?_) (AllReadyH.nil)
  go_simp
  go_at_call 48
  refine (HCM.out a.t b.t _ _ _ hT.1 hT.2).mono ?_
  rintro e v1 ⟨rfl, rfl⟩
  go_wp2_with fail
  refine hK.out _ _ trivial (fun _ => ?_)
  clear hK K
  try simp only [Act.put, List.setIfInBounds_toArray, List.set_cons_zero, List.set_cons_succ]
  refine wpAnyH_take (i := 5) (oi := ⟨some 44, _, _, _, _, _⟩) (v := ?_) rfl (by kernel_rfl) (by kernel_rfl) (by kernel_rfl) (fun _ _ _ h => h) (Or.inl ⟨by rfl, ?_⟩) (by assumption) ?_
  rotate_left
  · intro w hSw; (try dsimp only at hSw); go_simp; (try with_reducible rfl)
  try simp only [Act.put, List.setIfInBounds_toArray, List.set_cons_zero, List.set_cons_succ]
  refine wpAnyH_take (i := 6) (oi := ⟨some 4, _, _, _, _, _⟩) (v := ?_) rfl (by kernel_rfl) (by kernel_rfl) (by kernel_rfl) (fun _ _ _ h => h) (Or.inl ⟨by rfl, ?_⟩) (by assumption) ?_
  rotate_left
  · intro w hSw; (try dsimp only at hSw); go_simp; (try with_reducible rfl)
  try simp only [Act.put, List.setIfInBounds_toArray, List.set_cons_zero, List.set_cons_succ]
  refine wpAnyH_done (by kernel_rfl) ?_ _
  try simp only [Act.put]
  go_wp2_with fail
  go_ret
  exact ⟨by rw [HL.out]; rfl, E0⟩

end Go.Proofs.YtehpigmcmgfkoaaDoor
