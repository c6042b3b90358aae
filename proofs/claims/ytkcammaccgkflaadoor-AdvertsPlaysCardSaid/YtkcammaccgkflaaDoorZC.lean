/-
  Package adverts: the search, Has, Insert (merged).
-/
import Derived.Test.YtkcammaccgkflaaDoorZB
import Derived.RegionTactic
import Derived.Lib.Overlaps
import Derived.Lib.AppendZerosOnto
import Derived.Laws.CopyRow
import Derived.Laws.Externs
import Derived.Shelf.Spec.SlicesInsert
namespace Go.Proofs.YtkcammaccgkflaaDoor

section
open Go.RowKit

abbrev Big (n : Int) : Prop := -9223372036854775808 ≤ n ∧ n ≤ 9223372036854775807
theorem flatA_len (L : List Att) : (L.flatMap attCells).length = L.length * 97 := flat_len attCells 97 attCells_len L
theorem arow_at {w : World} {B : Nat} {T : TypeId} {L : List Att} {v : Value} (h : w.ownsRow B T 97 v L.length (L.flatMap attCells)) {k : Nat} {o : Att} (hk : L[k]? = some o) :
    ∃ b c, v = .slice (some ⟨b, 0, none⟩) L.length c ∧ B ≤ b ∧ b < w.heap.size ∧ w.rangeAt b (k * 97) (attCells o) := by
  have hl := (List.getElem?_eq_some_iff.1 hk).1
  rcases h.2 with ⟨rfl, h0⟩ | ⟨g, cap, cur, rfl, hb, hgg, rest⟩
  · omega
  · refine ⟨g, cap, rfl, hb, (Array.getElem?_eq_some_iff.1 hgg).1, fun j u hj => ?_⟩
    have hj2 : j < 97 := by have := (List.getElem?_eq_some_iff.1 hj).1; rw [attCells_len] at this; exact this
    rw [h.cellAt (k * 97 + j) (by have : (k + 1) * 97 ≤ L.length * 97 := Nat.mul_le_mul_right _ hl; omega), flat_get attCells 97 attCells_len L k j o hk hj2]
    exact hj
theorem arow_form {w : World} {B : Nat} {T : TypeId} {L : List Att} {v : Value} (h : w.ownsRow B T 97 v L.length (L.flatMap attCells)) : ∃ A c, v = .slice A L.length c ∧ L.length ≤ c ∧ c ≤ maxLen := by
  rcases h.2 with ⟨rfl, h0⟩ | ⟨g, cap, cur, rfl, _, _, h1, h2, _⟩
  · rw [h0]; exact ⟨none, 0, rfl, Nat.le_refl _, Nat.zero_le _⟩
  · exact ⟨_, cap, rfl, h1, h2⟩
/-- Minus one, one or nought. -/
def cmpA (a b : Att) : Int := if lessB a b then -1 else if lessB b a then 1 else 0
theorem cmpA_neg (a b : Att) : decide (cmpA a b < 0) = lessB a b := by
  unfold cmpA
  cases lessB a b
  · cases lessB b a <;> rfl
  · rfl
theorem cmpA_zero (a b : Att) (ha : Big a.n) (hb : Big b.n) : cmpA a b = 0 ↔ a = b := by
  unfold cmpA
  constructor
  · intro h
    cases h1 : lessB a b with
    | true => rw [h1] at h; cases h
    | false =>
      cases h2 : lessB b a with
      | true => rw [h1, h2] at h; cases h
      | false => exact lessB_none a b ha hb h1 h2
  · rintro rfl
    rw [lessB_self]; rfl

set_option maxRecDepth 100000 in
set_option maxHeartbeats 8000000 in
theorem cmpA_any (a b : Att) (w : World) (ha : Big a.n) (hb : Big b.n) :
    Calls Tryd.prog 76 #[.agg (attCells a).toArray, .agg (attCells b).toArray] w fun e w' => e = .returned (.int .i64 (cmpA a b)) ∧ Chg none w w' := by
  obtain ⟨W, hW⟩ : ∃ W, W = (w.alloc (.cells (attCells a).toArray 46)).alloc (.cells (attCells b).toArray 46) := ⟨_, rfl⟩
  have g0 : Chg none w W := by rw [hW]; exact ((Chg.refl _ _).alloc _).alloc _
  have bA : BlkL W w.heap.size (attCells a) 46 := by rw [hW]; exact Blk.alloc (Blk.new _ _ _) _
  have bB : BlkL W (w.heap.size + 1) (attCells b) 46 := by rw [hW]; exact Blk.newAt _ _ (by simp)
  have HA : Hid (∀ v, Chg none w v → Chg none W v → v.rangeAt w.heap.size 0 (attCells a)) := Lib.hid fun v _ g => Blk.range (Blk.chg bA g (by simp))
  have HB : Hid (∀ v, Chg none w v → Chg none W v → v.rangeAt (w.heap.size + 1) 0 (attCells b)) := Lib.hid fun v _ g => Blk.range (Blk.chg bB g (by simp))
  have HIA := Lib.hid (info46 a)
  have HIB := Lib.hid (info46 b)
  have HAB := Lib.hid (fun v => less_any a b v ha hb)
  have HBA := Lib.hid (fun v => less_any b a v hb ha)
  have HC : Hid (cmpA a b = if lessB a b then -1 else if lessB b a then 1 else 0) := Lib.hid rfl
  obtain ⟨CA, hCA⟩ : ∃ CA, CA = (attCells a).toArray := ⟨_, rfl⟩
  obtain ⟨CB, hCB⟩ : ∃ CB, CB = (attCells b).toArray := ⟨_, rfl⟩
  have HCA := Lib.hid hCA
  have HCB := Lib.hid hCB
  have HG := Lib.hid g0
  have HR0 := Lib.hid (HA.out W g0 (Chg.refl _ _))
  have HS0 := Lib.hid (HB.out W g0 (Chg.refl _ _))
  rw [← hCA, ← hCB] at hW HAB HBA ⊢
  have HW := Lib.hid hW
  clear hCA hCB hW bA bB g0 ha hb
  generalize cmpA a b = z at *
  go_enter Tryd.func76, Tryd.ntmps76
  go_upto_region 1 with fail
  rw [← HW.out]
  generalize hpB : w.heap.size + 1 = pB at *
  generalize hpA : w.heap.size = pA at *
  clear hpA hpB HW
  go_wp2_with (first
    | (refine wpList_load_mid rfl 46 _ rfl pA 0 rfl (attCells a) _ HR0.out Tryd.underlying46 rfl HIA.out ?_; rw [← HCA.out])
    | (refine wpList_load_mid rfl 46 _ rfl pB 0 rfl (attCells b) _ HS0.out Tryd.underlying46 rfl HIB.out ?_; rw [← HCB.out]))
  refine (HAB.out _).mono ?_
  rintro e w1 ⟨rfl, g1⟩
  have HG1 := Lib.hid g1
  have HR1 := Lib.hid (HA.out w1 (HG.out.trans g1) g1)
  have HS1 := Lib.hid (HB.out w1 (HG.out.trans g1) g1)
  clear g1 HR0 HS0
  cases h1 : lessB a b with
  | true =>
    have HE : Hid (z = -1) := Lib.hid (by rw [HC.out, h1]; rfl)
    clear HAB HBA
    go_wp2_with fail
    go_ret
    exact ⟨by rw [HE.out]; rfl, HG.out.trans HG1.out⟩
  | false =>
    have HC1 : Hid (z = if lessB b a then 1 else 0) := Lib.hid (by rw [HC.out, h1]; rfl)
    clear HC HAB
    go_wp2_with (first
      | (refine wpList_load_mid rfl 46 _ rfl pA 0 rfl (attCells a) _ HR1.out Tryd.underlying46 rfl HIA.out ?_; rw [← HCA.out])
      | (refine wpList_load_mid rfl 46 _ rfl pB 0 rfl (attCells b) _ HS1.out Tryd.underlying46 rfl HIB.out ?_; rw [← HCB.out]))
    refine (HBA.out _).mono ?_
    rintro e w2 ⟨rfl, g2⟩
    have HG2 := Lib.hid g2
    clear g2 HBA
    cases h2 : lessB b a with
    | true =>
      have HE : Hid (z = 1) := Lib.hid (by rw [HC1.out, h2]; rfl)
      go_wp2_with fail
      go_ret
      exact ⟨by rw [HE.out]; rfl, (HG.out.trans HG1.out).trans HG2.out⟩
    | false =>
      have HE : Hid (z = 0) := Lib.hid (by rw [HC1.out, h2]; rfl)
      go_wp2_with fail
      go_ret
      exact ⟨by rw [HE.out]; rfl, (HG.out.trans HG1.out).trans HG2.out⟩
end

section
open Go.RowKit

def SortA (L : List Att) : Prop := ∀ (i j : Nat) x y, i < j → L[i]? = some x → L[j]? = some y → lessB x y = true
def AtA (L : List Att) (a : Att) (k : Nat) : Prop := k ≤ L.length ∧ (∀ (j : Nat) y, j < k → L[j]? = some y → lessB y a = true) ∧ ∀ (j : Nat) y, k ≤ j → L[j]? = some y → lessB y a = false
def hitA (L : List Att) (a : Att) (k : Nat) : Bool := match L[k]? with | some y => cmpA y a == 0 | none => false
/-- What the search has come to know. -/
def InA (L : List Att) (a : Att) (i j : Nat) : Prop := i ≤ j ∧ j ≤ L.length ∧ (∀ (m : Nat) y, m < i → L[m]? = some y → lessB y a = true) ∧ ∀ (m : Nat) y, j ≤ m → L[m]? = some y → lessB y a = false
theorem InA.up {L : List Att} {a : Att} {i j h : Nat} {x : Att} (H : InA L a i j) (hS : SortA L) (hh : i ≤ h ∧ h < j) (hx : L[h]? = some x) (hl : lessB x a = true) : InA L a (h + 1) j := by
  refine ⟨hh.2, H.2.1, fun m y hm hy => ?_, H.2.2.2⟩
  rcases Nat.lt_or_ge m h with h1 | h1
  · exact lessB_trans y x a (hS m h y x h1 hy hx) hl
  · obtain rfl : m = h := by omega
    obtain rfl := Option.some.inj (hx.symm.trans hy)
    exact hl
theorem InA.down {L : List Att} {a : Att} {i j h : Nat} {x : Att} (H : InA L a i j) (hS : SortA L) (hh : i ≤ h ∧ h < j) (hx : L[h]? = some x) (hl : lessB x a = false) : InA L a i h := by
  have := H.2.1
  refine ⟨hh.1, by omega, H.2.2.1, fun m y hm hy => ?_⟩
  rcases Nat.lt_or_ge h m with h1 | h1
  · cases hq : lessB y a with
    | false => rfl
    | true => exact absurd (lessB_trans x y a (hS h m x y h1 hx hy) hq) (by rw [hl]; decide)
  · obtain rfl : m = h := by omega
    obtain rfl := Option.some.inj (hx.symm.trans hy)
    exact hl
theorem InA.at {L : List Att} {a : Att} {i j : Nat} (H : InA L a i j) (h : ¬ i < j) : AtA L a i :=
  ⟨by have := H.1; have := H.2.1; omega, H.2.2.1, fun m y hm hy => H.2.2.2 m y (by have := H.1; omega) hy⟩

set_option maxRecDepth 100000 in
set_option maxHeartbeats 16000000 in
theorem bsearch_any (L : List Att) (B : Nat) (A : Option Addr) (c : Nat) (a : Att) (w : World) (h : w.ownsRow B 46 97 (.slice A L.length c) L.length (L.flatMap attCells)) (hb : ∀ x ∈ L, Big x.n) (ha : Big a.n) (hl : L.length ≤ 1000) (hs : SortA L) :
    Calls Tryd.prog 75 #[.slice A L.length c, .agg (attCells a).toArray, .func (.func 76) #[] #[]] w fun e w' => ∃ k, AtA L a k ∧ e = .returned (.tuple #[.int .i64 (k : Nat), .bool (hitA L a k)]) ∧ Chg none w w' := by
  obtain ⟨W, hW⟩ : ∃ W, W = w.alloc (.cells (attCells a).toArray 46) := ⟨_, rfl⟩
  have g0 : Chg none w W := by rw [hW]; exact (Chg.refl _ _).alloc _
  have bA : BlkL W w.heap.size (attCells a) 46 := by rw [hW]; exact Blk.new _ _ _
  have h' : W.ownsRow B 46 97 (.slice A L.length c) L.length (L.flatMap attCells) := by rw [hW]; exact h.alloc _
  have HRA : Hid (∀ v, Chg none W v → v.rangeAt w.heap.size 0 (attCells a)) := Lib.hid fun v g => Blk.range (Blk.chg bA g (by simp))
  have HROW : Hid (∀ k x, L[k]? = some x → ∃ b, A = some ⟨b, 0, none⟩ ∧ ∀ v, Chg none W v → v.rangeAt b (k * 97) (attCells x)) := Lib.hid fun k x hk => by
    obtain ⟨b, c', e, -, hbl, hr⟩ := arow_at h' hk
    injection e with e1 _ _
    exact ⟨b, e1, fun v g => rangeAt_chg hr g (by simp)⟩
  have HCMP : Hid (∀ x ∈ L, ∀ v, Calls Tryd.prog 76 #[.agg (attCells x).toArray, .agg (attCells a).toArray] v fun e w' => e = .returned (.int .i64 (cmpA x a)) ∧ Chg none v w') := Lib.hid fun x hx v => cmpA_any x a v (hb x hx) ha
  have HG0 := Lib.hid g0
  have HIA := Lib.hid (info46 a)
  have HL := Lib.hid hl
  have HSO := Lib.hid hs
  have HW := Lib.hid hW
  clear hW bA g0 h h' hb ha hl hs
  go_enter Tryd.func75, Tryd.ntmps75
  go_upto_region 3 with fail
  rw [← HW.out]
  generalize w.heap.size = pA at *
  clear HW
  go_loopw [9, 10] (fun s9 s10 wr => ∃ i j : Nat, s9 = .int .i64 i ∧ s10 = .int .i64 j ∧ Hid (InA L a i j) ∧ Hid (Chg none W wr)) (fun s9 s10 _ => (intOf s10).toNat - (intOf s9).toNat)
  case atStart => exact ⟨0, L.length, rfl, rfl, Lib.hid ⟨Nat.zero_le _, Nat.le_refl _, fun m y hm => by omega, fun m y hm hy => by have := (List.getElem?_eq_some_iff.1 hy).1; omega⟩, Lib.hid (Chg.refl _ _)⟩
  case round =>
    obtain ⟨i, j, rfl, rfl, HIN, HG⟩ := hrel
    have hij : i ≤ 1000 ∧ j ≤ 1000 := by have := HIN.out.1; have := HIN.out.2.1; have := HL.out; omega
    obtain ⟨hi1, hj1⟩ := hij
    have hi2 : (i : Int) ≤ 1000 := by omega
    have hj2 : (j : Int) ≤ 1000 := by omega
    by_cases hlt : i < j
    · have hd : decide (i < j) = true := by rw [decide_eq_true_eq]; exact hlt
      have hd2 : decide ((i : Int) < (j : Int)) = true := by rw [decide_eq_true_eq]; omega
      have HLT := Lib.hid hlt
      clear hlt
      go_upto_region 5 with fail
      have hq : ((i : Int) + (j : Int)) / 2 = (((i + j) / 2 : Nat) : Int) := by omega
      rw [hq]
      have HH : Hid (i ≤ (i + j) / 2 ∧ (i + j) / 2 < j) := Lib.hid (by have := HLT.out; omega)
      clear hq
      generalize (i + j) / 2 = h at *
      have hhl : h < L.length := by have := HH.out.2; have := HIN.out.2.1; omega
      have hhi : (h : Int) < (L.length : Int) := by omega
      have hh1 : (h : Int) ≤ 1000 := by have := HL.out; omega
      obtain ⟨x, hx⟩ : ∃ x, L[h]? = some x := ⟨_, List.getElem?_eq_getElem hhl⟩
      obtain ⟨rb, rfl, hr⟩ := HROW.out h x hx
      have HRX := Lib.hid hr
      have HIX := Lib.hid (info46 x)
      have HCX : Hid (∀ v, Calls Tryd.prog 76 #[.agg (attCells x).toArray, .agg (attCells a).toArray] v fun e w' => e = .returned (.int .i64 (cmpA x a)) ∧ Chg none v w') := Lib.hid fun v => HCMP.out x (List.mem_of_getElem? hx) v
      have HX := Lib.hid hx
      have hS0 := HG.out.drew
      clear hr hx hhl
      have hcn := cmpA_neg x a
      cases hz : lessB x a with
      | true =>
        rw [hz] at hcn
        have HNX := Lib.hid (HIN.out.up HSO.out HH.out HX.out hz)
        clear hz
        refine wp_region_held_drew (S := fun v => Chg none W v) (by kernel_rfl) hS0 (fun _ => ?_)
        generalize wr.drew = v0 at *
        refine wpAnyH_take (i := 0) (oi := ⟨some 24, _, _, _, _, _⟩) (v := ?_) rfl (by kernel_rfl) (by kernel_rfl) (by kernel_rfl) (fun _ _ _ h => h) (Or.inl ⟨by rfl, ?_⟩) (by assumption) ?_
        rotate_left
        · intro v hSv; (try dsimp only at hSv); skip; go_simp; (try with_reducible rfl)
        try simp only [Act.put, List.setIfInBounds_toArray, List.set_cons_zero, List.set_cons_succ]
        refine wpAnyH_take (i := 1) (oi := ⟨some 25, _, _, _, _, _⟩) (v := ?_) rfl (by kernel_rfl) (by kernel_rfl) (by kernel_rfl) (fun _ _ _ h => h) (Or.inl ⟨by rfl, ?_⟩) (by assumption) ?_
        rotate_left
        · intro v hSv; (try dsimp only at hSv); skip; go_simp; (try with_reducible rfl)
        try simp only [Act.put, List.setIfInBounds_toArray, List.set_cons_zero, List.set_cons_succ]
        refine wpAnyH_take (i := 2) (oi := ⟨some 26, _, _, _, _, _⟩) (v := ?_) rfl (by kernel_rfl) (by kernel_rfl) (by kernel_rfl) (fun _ _ _ h => h) (Or.inl ⟨by rfl, ?_⟩) (by assumption) ?_
        rotate_left
        · intro v hSv; (try dsimp only at hSv); skip; go_simp; (try with_reducible rfl)
        try simp only [Act.put, List.setIfInBounds_toArray, List.set_cons_zero, List.set_cons_succ]
        refine wpAnyH_take (i := 3) (oi := ⟨some 27, _, _, _, _, _⟩) (v := ?_) rfl (by kernel_rfl) (by kernel_rfl) (by kernel_rfl) (fun _ _ _ h => h) (Or.inl ⟨by rfl, ?_⟩) (by assumption) ?_
        rotate_left
        · intro v hSv; (try dsimp only at hSv); skip; go_simp; (try with_reducible rfl)
        try simp only [Act.put, List.setIfInBounds_toArray, List.set_cons_zero, List.set_cons_succ]
        refine wpAnyH_take (i := 4) (oi := ⟨some 28, _, _, _, _, _⟩) (v := .agg (attCells x).toArray) rfl (by kernel_rfl) (by kernel_rfl) (by kernel_rfl) (fun _ _ _ h => h) (yieldsIf_load_mid (by rfl) 46 _ rfl rb (h * 97) rfl (attCells x) _ (fun v h => (HRX).out v h) Tryd.underlying46 rfl HIX.out) (by assumption) ?_
        try simp only [Act.put, List.setIfInBounds_toArray, List.set_cons_zero, List.set_cons_succ]
        refine wpAnyH_take (i := 5) (oi := ⟨some 29, _, _, _, _, _⟩) (v := .agg (attCells a).toArray) rfl (by kernel_rfl) (by kernel_rfl) (by kernel_rfl) (fun _ _ _ h => h) (yieldsIf_load_mid (by rfl) 46 _ rfl pA 0 rfl (attCells a) _ (fun v h => HRA.out v h) Tryd.underlying46 rfl HIA.out) (by assumption) ?_
        try simp only [Act.put, List.setIfInBounds_toArray, List.set_cons_zero, List.set_cons_succ]
        refine wpAnyH_ready (rs := [6]) (by kernel_rfl) (by simp) ?_
        refine AllReadyH.cons (o := ⟨some 30, _, _, _, _, _⟩) rfl (fun K hK => ?_) (AllReadyH.nil)
        go_simp
        go_at_call 76
        refine (HCX.out _).mono ?_
        rintro e v1 ⟨rfl, g1⟩
        have hS1 := hS0.trans g1
        go_wp2_with fail
        refine hK.out _ _ hS1 (fun _ => ?_)
        clear hK K
        try simp only [Act.put, List.setIfInBounds_toArray, List.set_cons_zero, List.set_cons_succ]
        refine wpAnyH_take (i := 7) (oi := ⟨some 31, _, _, _, _, _⟩) (v := ?_) rfl (by kernel_rfl) (by kernel_rfl) (by kernel_rfl) (fun _ _ _ h => h) (Or.inl ⟨by rfl, ?_⟩) (by assumption) ?_
        rotate_left
        · intro v hSv; (try dsimp only at hSv); skip; go_simp; (try with_reducible rfl)
        try simp only [Act.put, List.setIfInBounds_toArray, List.set_cons_zero, List.set_cons_succ]
        refine wpAnyH_done (by kernel_rfl) ?_ _
        try simp only [Act.put]
        go_wp2_with fail
        go_roundw
        case rel => exact ⟨h + 1, j, by first | rfl | go_num, rfl, HNX, Lib.hid hS1⟩
        case measure => have := HH.out; have := HLT.out; first | omega | (simp only [intOf]; omega) | (simp [intOf]; omega)
      | false =>
        rw [hz] at hcn
        have HNX := Lib.hid (HIN.out.down HSO.out HH.out HX.out hz)
        clear hz
        refine wp_region_held_drew (S := fun v => Chg none W v) (by kernel_rfl) hS0 (fun _ => ?_)
        generalize wr.drew = v0 at *
        refine wpAnyH_take (i := 0) (oi := ⟨some 24, _, _, _, _, _⟩) (v := ?_) rfl (by kernel_rfl) (by kernel_rfl) (by kernel_rfl) (fun _ _ _ h => h) (Or.inl ⟨by rfl, ?_⟩) (by assumption) ?_
        rotate_left
        · intro v hSv; (try dsimp only at hSv); skip; go_simp; (try with_reducible rfl)
        try simp only [Act.put, List.setIfInBounds_toArray, List.set_cons_zero, List.set_cons_succ]
        refine wpAnyH_take (i := 1) (oi := ⟨some 25, _, _, _, _, _⟩) (v := ?_) rfl (by kernel_rfl) (by kernel_rfl) (by kernel_rfl) (fun _ _ _ h => h) (Or.inl ⟨by rfl, ?_⟩) (by assumption) ?_
        rotate_left
        · intro v hSv; (try dsimp only at hSv); skip; go_simp; (try with_reducible rfl)
        try simp only [Act.put, List.setIfInBounds_toArray, List.set_cons_zero, List.set_cons_succ]
        refine wpAnyH_take (i := 2) (oi := ⟨some 26, _, _, _, _, _⟩) (v := ?_) rfl (by kernel_rfl) (by kernel_rfl) (by kernel_rfl) (fun _ _ _ h => h) (Or.inl ⟨by rfl, ?_⟩) (by assumption) ?_
        rotate_left
        · intro v hSv; (try dsimp only at hSv); skip; go_simp; (try with_reducible rfl)
        try simp only [Act.put, List.setIfInBounds_toArray, List.set_cons_zero, List.set_cons_succ]
        refine wpAnyH_take (i := 3) (oi := ⟨some 27, _, _, _, _, _⟩) (v := ?_) rfl (by kernel_rfl) (by kernel_rfl) (by kernel_rfl) (fun _ _ _ h => h) (Or.inl ⟨by rfl, ?_⟩) (by assumption) ?_
        rotate_left
        · intro v hSv; (try dsimp only at hSv); skip; go_simp; (try with_reducible rfl)
        try simp only [Act.put, List.setIfInBounds_toArray, List.set_cons_zero, List.set_cons_succ]
        refine wpAnyH_take (i := 4) (oi := ⟨some 28, _, _, _, _, _⟩) (v := .agg (attCells x).toArray) rfl (by kernel_rfl) (by kernel_rfl) (by kernel_rfl) (fun _ _ _ h => h) (yieldsIf_load_mid (by rfl) 46 _ rfl rb (h * 97) rfl (attCells x) _ (fun v h => (HRX).out v h) Tryd.underlying46 rfl HIX.out) (by assumption) ?_
        try simp only [Act.put, List.setIfInBounds_toArray, List.set_cons_zero, List.set_cons_succ]
        refine wpAnyH_take (i := 5) (oi := ⟨some 29, _, _, _, _, _⟩) (v := .agg (attCells a).toArray) rfl (by kernel_rfl) (by kernel_rfl) (by kernel_rfl) (fun _ _ _ h => h) (yieldsIf_load_mid (by rfl) 46 _ rfl pA 0 rfl (attCells a) _ (fun v h => HRA.out v h) Tryd.underlying46 rfl HIA.out) (by assumption) ?_
        try simp only [Act.put, List.setIfInBounds_toArray, List.set_cons_zero, List.set_cons_succ]
        refine wpAnyH_ready (rs := [6]) (by kernel_rfl) (by simp) ?_
        refine AllReadyH.cons (o := ⟨some 30, _, _, _, _, _⟩) rfl (fun K hK => ?_) (AllReadyH.nil)
        go_simp
        go_at_call 76
        refine (HCX.out _).mono ?_
        rintro e v1 ⟨rfl, g1⟩
        have hS1 := hS0.trans g1
        go_wp2_with fail
        refine hK.out _ _ hS1 (fun _ => ?_)
        clear hK K
        try simp only [Act.put, List.setIfInBounds_toArray, List.set_cons_zero, List.set_cons_succ]
        refine wpAnyH_take (i := 7) (oi := ⟨some 31, _, _, _, _, _⟩) (v := ?_) rfl (by kernel_rfl) (by kernel_rfl) (by kernel_rfl) (fun _ _ _ h => h) (Or.inl ⟨by rfl, ?_⟩) (by assumption) ?_
        rotate_left
        · intro v hSv; (try dsimp only at hSv); skip; go_simp; (try with_reducible rfl)
        try simp only [Act.put, List.setIfInBounds_toArray, List.set_cons_zero, List.set_cons_succ]
        refine wpAnyH_done (by kernel_rfl) ?_ _
        try simp only [Act.put]
        go_wp2_with fail
        go_roundw
        case rel => exact ⟨i, h, rfl, rfl, HNX, Lib.hid hS1⟩
        case measure => have := HH.out; have := HLT.out; first | omega | (simp only [intOf]; omega) | (simp [intOf]; omega)
    · have hd : decide (i < j) = false := by rw [decide_eq_false_iff_not]; exact hlt
      have hd2 : decide ((i : Int) < (j : Int)) = false := by rw [decide_eq_false_iff_not]; omega
      have HAT := Lib.hid (HIN.out.at hlt)
      clear hlt
      by_cases hil : i < L.length
      · have hei : decide (i < L.length) = true := by rw [decide_eq_true_eq]; exact hil
        have hei2 : decide ((i : Int) < (L.length : Int)) = true := by rw [decide_eq_true_eq]; omega
        have hhi : (i : Int) < (L.length : Int) := by omega
        obtain ⟨x, hx⟩ : ∃ x, L[i]? = some x := ⟨_, List.getElem?_eq_getElem hil⟩
        obtain ⟨rb, rfl, hr⟩ := HROW.out i x hx
        have HRX := Lib.hid hr
        have HIX := Lib.hid (info46 x)
        have HCX : Hid (∀ v, Calls Tryd.prog 76 #[.agg (attCells x).toArray, .agg (attCells a).toArray] v fun e w' => e = .returned (.int .i64 (cmpA x a)) ∧ Chg none v w') := Lib.hid fun v => HCMP.out x (List.mem_of_getElem? hx) v
        have HHT : Hid (hitA L a i = (cmpA x a == 0)) := Lib.hid (by unfold hitA; rw [hx])
        have hS0 := HG.out.drew
        clear hr hx hil
        go_upto_region 8 with fail
        refine wp_region_held_drew (S := fun v => Chg none W v) (by kernel_rfl) hS0 (fun _ => ?_)
        generalize wr.drew = v0 at *
        refine wpAnyH_take (i := 0) (oi := ⟨some 35, _, _, _, _, _⟩) (v := ?_) rfl (by kernel_rfl) (by kernel_rfl) (by kernel_rfl) (fun _ _ _ h => h) (Or.inl ⟨by rfl, ?_⟩) (by assumption) ?_
        rotate_left
        · intro v hSv; (try dsimp only at hSv); skip; go_simp; (try with_reducible rfl)
        try simp only [Act.put, List.setIfInBounds_toArray, List.set_cons_zero, List.set_cons_succ]
        refine wpAnyH_take (i := 1) (oi := ⟨some 36, _, _, _, _, _⟩) (v := ?_) rfl (by kernel_rfl) (by kernel_rfl) (by kernel_rfl) (fun _ _ _ h => h) (Or.inl ⟨by rfl, ?_⟩) (by assumption) ?_
        rotate_left
        · intro v hSv; (try dsimp only at hSv); skip; go_simp; (try with_reducible rfl)
        try simp only [Act.put, List.setIfInBounds_toArray, List.set_cons_zero, List.set_cons_succ]
        refine wpAnyH_take (i := 2) (oi := ⟨some 37, _, _, _, _, _⟩) (v := ?_) rfl (by kernel_rfl) (by kernel_rfl) (by kernel_rfl) (fun _ _ _ h => h) (Or.inl ⟨by rfl, ?_⟩) (by assumption) ?_
        rotate_left
        · intro v hSv; (try dsimp only at hSv); skip; go_simp; (try with_reducible rfl)
        try simp only [Act.put, List.setIfInBounds_toArray, List.set_cons_zero, List.set_cons_succ]
        refine wpAnyH_take (i := 3) (oi := ⟨some 38, _, _, _, _, _⟩) (v := ?_) rfl (by kernel_rfl) (by kernel_rfl) (by kernel_rfl) (fun _ _ _ h => h) (Or.inl ⟨by rfl, ?_⟩) (by assumption) ?_
        rotate_left
        · intro v hSv; (try dsimp only at hSv); skip; go_simp; (try with_reducible rfl)
        try simp only [Act.put, List.setIfInBounds_toArray, List.set_cons_zero, List.set_cons_succ]
        refine wpAnyH_take (i := 4) (oi := ⟨some 39, _, _, _, _, _⟩) (v := ?_) rfl (by kernel_rfl) (by kernel_rfl) (by kernel_rfl) (fun _ _ _ h => h) (Or.inl ⟨by rfl, ?_⟩) (by assumption) ?_
        rotate_left
        · intro v hSv; (try dsimp only at hSv); skip; go_simp; (try with_reducible rfl)
        try simp only [Act.put, List.setIfInBounds_toArray, List.set_cons_zero, List.set_cons_succ]
        refine wpAnyH_take (i := 5) (oi := ⟨some 40, _, _, _, _, _⟩) (v := ?_) rfl (by kernel_rfl) (by kernel_rfl) (by kernel_rfl) (fun _ _ _ h => h) (Or.inl ⟨by rfl, ?_⟩) (by assumption) ?_
        rotate_left
        · intro v hSv; (try dsimp only at hSv); skip; go_simp; (try with_reducible rfl)
        try simp only [Act.put, List.setIfInBounds_toArray, List.set_cons_zero, List.set_cons_succ]
        refine wpAnyH_take (i := 6) (oi := ⟨some 41, _, _, _, _, _⟩) (v := ?_) rfl (by kernel_rfl) (by kernel_rfl) (by kernel_rfl) (fun _ _ _ h => h) (Or.inl ⟨by rfl, ?_⟩) (by assumption) ?_
        rotate_left
        · intro v hSv; (try dsimp only at hSv); skip; go_simp; (try with_reducible rfl)
        try simp only [Act.put, List.setIfInBounds_toArray, List.set_cons_zero, List.set_cons_succ]
        refine wpAnyH_take (i := 7) (oi := ⟨some 42, _, _, _, _, _⟩) (v := ?_) rfl (by kernel_rfl) (by kernel_rfl) (by kernel_rfl) (fun _ _ _ h => h) (Or.inl ⟨by rfl, ?_⟩) (by assumption) ?_
        rotate_left
        · intro v hSv; (try dsimp only at hSv); skip; go_simp; (try with_reducible rfl)
        try simp only [Act.put, List.setIfInBounds_toArray, List.set_cons_zero, List.set_cons_succ]
        refine wpAnyH_take (i := 8) (oi := ⟨some 43, _, _, _, _, _⟩) (v := ?_) rfl (by kernel_rfl) (by kernel_rfl) (by kernel_rfl) (fun _ _ _ h => h) (Or.inl ⟨by rfl, ?_⟩) (by assumption) ?_
        rotate_left
        · intro v hSv; (try dsimp only at hSv); skip; go_simp; (try with_reducible rfl)
        try simp only [Act.put, List.setIfInBounds_toArray, List.set_cons_zero, List.set_cons_succ]
        refine wpAnyH_take (i := 9) (oi := ⟨some 44, _, _, _, _, _⟩) (v := .agg (attCells x).toArray) rfl (by kernel_rfl) (by kernel_rfl) (by kernel_rfl) (fun _ _ _ h => h) (yieldsIf_load_mid (by rfl) 46 _ rfl rb (i * 97) rfl (attCells x) _ (fun v h => (HRX).out v h) Tryd.underlying46 rfl HIX.out) (by assumption) ?_
        try simp only [Act.put, List.setIfInBounds_toArray, List.set_cons_zero, List.set_cons_succ]
        refine wpAnyH_take (i := 10) (oi := ⟨some 45, _, _, _, _, _⟩) (v := .agg (attCells a).toArray) rfl (by kernel_rfl) (by kernel_rfl) (by kernel_rfl) (fun _ _ _ h => h) (yieldsIf_load_mid (by rfl) 46 _ rfl pA 0 rfl (attCells a) _ (fun v h => HRA.out v h) Tryd.underlying46 rfl HIA.out) (by assumption) ?_
        try simp only [Act.put, List.setIfInBounds_toArray, List.set_cons_zero, List.set_cons_succ]
        refine wpAnyH_ready (rs := [11]) (by kernel_rfl) (by simp) ?_
        refine AllReadyH.cons (o := ⟨some 46, _, _, _, _, _⟩) rfl (fun K hK => ?_) (AllReadyH.nil)
        go_simp
        go_at_call 76
        refine (HCX.out _).mono ?_
        rintro e v1 ⟨rfl, g1⟩
        have hS1 := hS0.trans g1
        go_wp2_with fail
        refine hK.out _ _ hS1 (fun _ => ?_)
        clear hK K
        try simp only [Act.put, List.setIfInBounds_toArray, List.set_cons_zero, List.set_cons_succ]
        refine wpAnyH_take (i := 12) (oi := ⟨some 47, _, _, _, _, _⟩) (v := ?_) rfl (by kernel_rfl) (by kernel_rfl) (by kernel_rfl) (fun _ _ _ h => h) (Or.inl ⟨by rfl, ?_⟩) (by assumption) ?_
        rotate_left
        · intro v hSv; (try dsimp only at hSv); skip; go_simp; (try with_reducible rfl)
        try simp only [Act.put, List.setIfInBounds_toArray, List.set_cons_zero, List.set_cons_succ]
        refine wpAnyH_take (i := 13) (oi := ⟨some 48, _, _, _, _, _⟩) (v := ?_) rfl (by kernel_rfl) (by kernel_rfl) (by kernel_rfl) (fun _ _ _ h => h) (Or.inl ⟨by rfl, ?_⟩) (by assumption) ?_
        rotate_left
        · intro v hSv; (try dsimp only at hSv); skip; go_simp; (try with_reducible rfl)
        try simp only [Act.put, List.setIfInBounds_toArray, List.set_cons_zero, List.set_cons_succ]
        refine wpAnyH_take (i := 14) (oi := ⟨some 6, _, _, _, _, _⟩) (v := ?_) rfl (by kernel_rfl) (by kernel_rfl) (by kernel_rfl) (fun _ _ _ h => h) (Or.inl ⟨by rfl, ?_⟩) (by assumption) ?_
        rotate_left
        · intro v hSv; (try dsimp only at hSv); skip; go_simp; (try with_reducible rfl)
        try simp only [Act.put, List.setIfInBounds_toArray, List.set_cons_zero, List.set_cons_succ]
        refine wpAnyH_take (i := 15) (oi := ⟨some 7, _, _, _, _, _⟩) (v := ?_) rfl (by kernel_rfl) (by kernel_rfl) (by kernel_rfl) (fun _ _ _ h => h) (Or.inl ⟨by rfl, ?_⟩) (by assumption) ?_
        rotate_left
        · intro v hSv; (try dsimp only at hSv); skip; go_simp; (try with_reducible rfl)
        try simp only [Act.put, List.setIfInBounds_toArray, List.set_cons_zero, List.set_cons_succ]
        refine wpAnyH_done (by kernel_rfl) ?_ _
        try simp only [Act.put]
        go_wp2_with fail
        go_ret2
        refine ⟨i, HAT.out, ?_, HG0.out.trans hS1⟩
        rw [HHT.out]
        rfl
      · have hei : decide (i < L.length) = false := by rw [decide_eq_false_iff_not]; exact hil
        have hei2 : decide ((i : Int) < (L.length : Int)) = false := by rw [decide_eq_false_iff_not]; omega
        have HHT : Hid (hitA L a i = false) := Lib.hid (by unfold hitA; rw [List.getElem?_eq_none (by omega)])
        have hS0 := HG.out.drew
        clear hil
        go_upto_region 8 with fail
        refine wp_region_held_drew (S := fun v => Chg none W v) (by kernel_rfl) hS0 (fun _ => ?_)
        generalize wr.drew = v0 at *
        refine wpAnyH_take (i := 0) (oi := ⟨some 35, _, _, _, _, _⟩) (v := ?_) rfl (by kernel_rfl) (by kernel_rfl) (by kernel_rfl) (fun _ _ _ h => h) (Or.inl ⟨by rfl, ?_⟩) (by assumption) ?_
        rotate_left
        · intro v hSv; (try dsimp only at hSv); skip; go_simp; (try with_reducible rfl)
        try simp only [Act.put, List.setIfInBounds_toArray, List.set_cons_zero, List.set_cons_succ]
        refine wpAnyH_take (i := 1) (oi := ⟨some 36, _, _, _, _, _⟩) (v := ?_) rfl (by kernel_rfl) (by kernel_rfl) (by kernel_rfl) (fun _ _ _ h => h) (Or.inl ⟨by rfl, ?_⟩) (by assumption) ?_
        rotate_left
        · intro v hSv; (try dsimp only at hSv); skip; go_simp; (try with_reducible rfl)
        try simp only [Act.put, List.setIfInBounds_toArray, List.set_cons_zero, List.set_cons_succ]
        refine wpAnyH_take (i := 2) (oi := ⟨some 37, _, _, _, _, _⟩) (v := ?_) rfl (by kernel_rfl) (by kernel_rfl) (by kernel_rfl) (fun _ _ _ h => h) (Or.inl ⟨by rfl, ?_⟩) (by assumption) ?_
        rotate_left
        · intro v hSv; (try dsimp only at hSv); skip; go_simp; (try with_reducible rfl)
        try simp only [Act.put, List.setIfInBounds_toArray, List.set_cons_zero, List.set_cons_succ]
        refine wpAnyH_take (i := 3) (oi := ⟨some 38, _, _, _, _, _⟩) (v := ?_) rfl (by kernel_rfl) (by kernel_rfl) (by kernel_rfl) (fun _ _ _ h => h) (Or.inl ⟨by rfl, ?_⟩) (by assumption) ?_
        rotate_left
        · intro v hSv; (try dsimp only at hSv); skip; go_simp; (try with_reducible rfl)
        try simp only [Act.put, List.setIfInBounds_toArray, List.set_cons_zero, List.set_cons_succ]
        refine wpAnyH_take (i := 4) (oi := ⟨some 39, _, _, _, _, _⟩) (v := ?_) rfl (by kernel_rfl) (by kernel_rfl) (by kernel_rfl) (fun _ _ _ h => h) (Or.inl ⟨by rfl, ?_⟩) (by assumption) ?_
        rotate_left
        · intro v hSv; (try dsimp only at hSv); skip; go_simp; (try with_reducible rfl)
        try simp only [Act.put, List.setIfInBounds_toArray, List.set_cons_zero, List.set_cons_succ]
        refine wpAnyH_take (i := 5) (oi := ⟨some 40, _, _, _, _, _⟩) (v := undef) rfl (by kernel_rfl) (by kernel_rfl) (by kernel_rfl) (fun _ _ _ h => h) (Or.inr ⟨by rfl, by rfl⟩) (by assumption) ?_
        try simp only [Act.put, List.setIfInBounds_toArray, List.set_cons_zero, List.set_cons_succ]
        refine wpAnyH_take (i := 6) (oi := ⟨some 41, _, _, _, _, _⟩) (v := undef) rfl (by kernel_rfl) (by kernel_rfl) (by kernel_rfl) (fun _ _ _ h => h) (Or.inr ⟨by rfl, by rfl⟩) (by assumption) ?_
        try simp only [Act.put, List.setIfInBounds_toArray, List.set_cons_zero, List.set_cons_succ]
        refine wpAnyH_take (i := 7) (oi := ⟨some 42, _, _, _, _, _⟩) (v := undef) rfl (by kernel_rfl) (by kernel_rfl) (by kernel_rfl) (fun _ _ _ h => h) (Or.inr ⟨by rfl, by rfl⟩) (by assumption) ?_
        try simp only [Act.put, List.setIfInBounds_toArray, List.set_cons_zero, List.set_cons_succ]
        refine wpAnyH_take (i := 8) (oi := ⟨some 43, _, _, _, _, _⟩) (v := undef) rfl (by kernel_rfl) (by kernel_rfl) (by kernel_rfl) (fun _ _ _ h => h) (Or.inr ⟨by rfl, by rfl⟩) (by assumption) ?_
        try simp only [Act.put, List.setIfInBounds_toArray, List.set_cons_zero, List.set_cons_succ]
        refine wpAnyH_take (i := 9) (oi := ⟨some 44, _, _, _, _, _⟩) (v := undef) rfl (by kernel_rfl) (by kernel_rfl) (by kernel_rfl) (fun _ _ _ h => h) (Or.inr ⟨by rfl, by rfl⟩) (by assumption) ?_
        try simp only [Act.put, List.setIfInBounds_toArray, List.set_cons_zero, List.set_cons_succ]
        refine wpAnyH_take (i := 10) (oi := ⟨some 45, _, _, _, _, _⟩) (v := undef) rfl (by kernel_rfl) (by kernel_rfl) (by kernel_rfl) (fun _ _ _ h => h) (Or.inr ⟨by rfl, by rfl⟩) (by assumption) ?_
        try simp only [Act.put, List.setIfInBounds_toArray, List.set_cons_zero, List.set_cons_succ]
        refine wpAnyH_take (i := 11) (oi := ⟨some 46, _, _, _, _, _⟩) (v := undef) rfl (by kernel_rfl) (by kernel_rfl) (by kernel_rfl) (fun _ _ _ h => h) (Or.inr ⟨by rfl, by rfl⟩) (by assumption) ?_
        try simp only [Act.put, List.setIfInBounds_toArray, List.set_cons_zero, List.set_cons_succ]
        refine wpAnyH_take (i := 12) (oi := ⟨some 47, _, _, _, _, _⟩) (v := undef) rfl (by kernel_rfl) (by kernel_rfl) (by kernel_rfl) (fun _ _ _ h => h) (Or.inr ⟨by rfl, by rfl⟩) (by assumption) ?_
        try simp only [Act.put, List.setIfInBounds_toArray, List.set_cons_zero, List.set_cons_succ]
        refine wpAnyH_take (i := 13) (oi := ⟨some 48, _, _, _, _, _⟩) (v := ?_) rfl (by kernel_rfl) (by kernel_rfl) (by kernel_rfl) (fun _ _ _ h => h) (Or.inl ⟨by rfl, ?_⟩) (by assumption) ?_
        rotate_left
        · intro v hSv; (try dsimp only at hSv); skip; go_simp; (try with_reducible rfl)
        try simp only [Act.put, List.setIfInBounds_toArray, List.set_cons_zero, List.set_cons_succ]
        refine wpAnyH_take (i := 14) (oi := ⟨some 6, _, _, _, _, _⟩) (v := ?_) rfl (by kernel_rfl) (by kernel_rfl) (by kernel_rfl) (fun _ _ _ h => h) (Or.inl ⟨by rfl, ?_⟩) (by assumption) ?_
        rotate_left
        · intro v hSv; (try dsimp only at hSv); skip; go_simp; (try with_reducible rfl)
        try simp only [Act.put, List.setIfInBounds_toArray, List.set_cons_zero, List.set_cons_succ]
        refine wpAnyH_take (i := 15) (oi := ⟨some 7, _, _, _, _, _⟩) (v := ?_) rfl (by kernel_rfl) (by kernel_rfl) (by kernel_rfl) (fun _ _ _ h => h) (Or.inl ⟨by rfl, ?_⟩) (by assumption) ?_
        rotate_left
        · intro v hSv; (try dsimp only at hSv); skip; go_simp; (try with_reducible rfl)
        try simp only [Act.put, List.setIfInBounds_toArray, List.set_cons_zero, List.set_cons_succ]
        refine wpAnyH_done (by kernel_rfl) ?_ _
        try simp only [Act.put]
        go_wp2_with fail
        go_ret2
        refine ⟨i, HAT.out, ?_, HG0.out.trans hS0⟩
        rw [HHT.out]
        rfl
end

section
open Go.RowKit

/-- From w to w' nothing has changed but blocks of S, and blocks that are new. -/
structure Kept (S : Nat → Prop) (w w' : World) : Prop where
  os : w'.os = w.os
  tape : w'.tape = w.tape
  output : w'.output = w.output
  size : w.heap.size ≤ w'.heap.size
  block : ∀ k, k < w.heap.size → ¬ S k → w'.heap[k]? = w.heap[k]?

section
variable {S T : Nat → Prop} {u v w w' : World}
theorem Kept.refl (S : Nat → Prop) (w : World) : Kept S w w := ⟨rfl, rfl, rfl, Nat.le_refl _, fun _ _ _ => rfl⟩
theorem Kept.trans (h : Kept S u v) (k : Kept S v w) : Kept S u w :=
  ⟨k.os.trans h.os, k.tape.trans h.tape, k.output.trans h.output, Nat.le_trans h.size k.size,
    fun i hi hn => (k.block i (Nat.lt_of_lt_of_le hi h.size) hn).trans (h.block i hi hn)⟩
theorem Kept.mono (h : Kept S w w') (hs : ∀ g, S g → T g) : Kept T w w' := ⟨h.os, h.tape, h.output, h.size, fun i hi hn => h.block i hi (fun k => hn (hs i k))⟩
theorem Kept.then (h : Kept S u v) (k : Kept T v w) (hs : ∀ g, T g → S g ∨ u.heap.size ≤ g) : Kept S u w :=
  ⟨k.os.trans h.os, k.tape.trans h.tape, k.output.trans h.output, Nat.le_trans h.size k.size,
    fun i hi hn => (k.block i (Nat.lt_of_lt_of_le hi h.size) (fun t => by rcases hs i t with s | s; exact hn s; omega)).trans (h.block i hi hn)⟩
theorem Kept.of_chg {c : Option Nat} (h : Chg c w w') : Kept (fun g => c = some g) w w' := ⟨h.os, h.tape, h.output, h.size, fun i hi hn => h.block i hi (fun e => hn e.symm)⟩
theorem Kept.chg (h : Kept S u v) (k : Chg none v w) : Kept S u w := h.then (Kept.of_chg k) (fun g e => by cases e)
theorem Kept.drew (h : Kept S u v) : Kept S u v.drew := ⟨h.os, h.tape, h.output, h.size, h.block⟩
theorem Kept.drewN (h : Kept S u v) (n : Nat) : Kept S u (v.drewN n) := ⟨h.os, h.tape, h.output, h.size, h.block⟩
theorem Kept.alloc (h : Kept S u v) (o : Obj) : Kept S u (v.alloc o) := h.chg ((Chg.refl _ _).alloc o)
theorem Kept.setCell (h : Kept S u v) (a : Addr) (x : Value) (ha : S a.block ∨ u.heap.size ≤ a.block) : Kept S u (v.setCell a x) :=
  h.then (T := fun g => g = a.block) ⟨rfl, rfl, rfl, by simp [World.setCell], fun k _ hn => Below.heap_setCell _ _ _ _ hn⟩ (fun g e => by subst e; exact ha)
theorem Kept.toChg (h : Kept (fun _ => False) w w') : Chg none w w' := ⟨h.os, h.tape, h.output, h.size, fun i hi _ => h.block i hi (fun e => e)⟩
theorem Kept.fresh (h : Chg none u v) (k : Kept S v w) (hs : ∀ g, S g → u.heap.size ≤ g) : Chg none u w :=
  Kept.toChg (((Kept.of_chg h).mono (fun _ e => by cases e)).then k (fun g hg => .inr (hs g hg)))
theorem Kept.chgOf {b : Nat} (h : Kept S u v) (k : Chg (some b) v w) (hb : S b) : Kept S u w := h.then (Kept.of_chg k) (fun g e => .inl (by injection e with e; exact e ▸ hb))

end
end

section
open Go.RowKit

def overB (x : UInt8) : Bool := decide (15 < x.toNat)
def overI (p : List UInt8) : Int := match p.findIdx? overB with | some i => i | none => -1
def prefB (p : List UInt8) : Bool := decide (p.length ≤ 8) && !p.any overB
theorem over81 (x : UInt8) (w : World) : Calls Tryd.prog 81 #[.int .u8 x.toNat] w fun e w' => e = .returned (.bool (overB x)) ∧ w = w' := by
  have h1 : decide ((15 : Int) < (x.toNat : Int)) = overB x := by unfold overB; exact decide_eq_decide.2 (by omega)
  have h2 : decide (15 < x.toNat) = overB x := rfl
  generalize overB x = z at *
  go_enter Tryd.func81, Tryd.ntmps81
  go_wp2
  go_ret
  exact ⟨rfl, rfl⟩
set_option maxRecDepth 100000 in
set_option maxHeartbeats 4000000 in
theorem index94 (p : List UInt8) (A : Option Addr) (c : Nat) (w : World) (hT : Txt w A p) (hl : p.length ≤ 8) :
    Calls Tryd.prog 94 #[.slice A p.length c, .func (.func 81) #[] #[]] w fun e w' => e = .returned (.int .i64 (overI p)) ∧ w = w' := by
  have HT := Lib.hid hT
  have HO := Lib.hid over81
  clear hT
  go_enter Tryd.func94, Tryd.ntmps94
  go_upto_region 2 with fail
  go_loopw [8] (fun i wr => ∃ k : Nat, k ≤ p.length ∧ i = .int .i64 k ∧ Hid (∀ (j : Nat) y, j < k → p[j]? = some y → overB y = false) ∧ w = wr) (fun i _ => p.length - (intOf i).toNat)
  case atStart => exact ⟨0, Nat.zero_le _, rfl, Lib.hid fun j y hj => by omega, rfl⟩
  case round =>
    obtain ⟨k, hk, rfl, HN, rfl⟩ := hrel
    by_cases hlt : k < p.length
    · have hd : decide (k < p.length) = true := by rw [decide_eq_true_eq]; exact hlt
      have hd2 : decide ((k : Int) < (p.length : Int)) = true := by rw [decide_eq_true_eq]; omega
      obtain ⟨x, hx⟩ : ∃ x, p[k]? = some x := ⟨_, List.getElem?_eq_getElem hlt⟩
      obtain ⟨b, o, rfl, -, hcell⟩ := HT.out (by omega)
      have y0 := hcell k x hx
      have hlt' : (k : Int) < (p.length : Int) := by omega
      have HX := Lib.hid hx
      have HLT := Lib.hid hlt
      clear hcell hx
      cases hz : overB x with
      | false =>
        have HN2 : Hid (∀ (j : Nat) y, j < k + 1 → p[j]? = some y → overB y = false) := Lib.hid fun j y hj hy => by
          rcases Nat.lt_or_ge j k with h | h
          · exact HN.out j y h hy
          · obtain rfl : j = k := by omega
            obtain rfl := Option.some.inj (HX.out.symm.trans hy)
            exact hz
        have HC : Hid (Calls Tryd.prog 81 #[.int .u8 x.toNat] w fun e w' => e = .returned (.bool false) ∧ w = w') := Lib.hid (by rw [← hz]; exact HO.out x w)
        clear hz HO
        go_wp2_with fail
        refine HC.out.mono ?_
        rintro e w' ⟨rfl, rfl⟩
        go_wp2_with fail
        go_roundw
        case rel => exact ⟨k + 1, by have := HLT.out; omega, by go_num, HN2, by first | rfl | trivial⟩
        case measure => have := HLT.out; first | omega | (simp only [intOf]; omega) | (simp [intOf]; omega)
      | true =>
        have HR : Hid (overI p = k) := Lib.hid (by
          have : p.findIdx? overB = some k := by
            rw [List.findIdx?_eq_some_iff_getElem]
            have hx := HX.out
            rw [List.getElem?_eq_getElem hlt] at hx
            refine ⟨hlt, by rw [Option.some.inj hx]; exact hz, fun j hj => ?_⟩
            rw [HN.out j _ hj (List.getElem?_eq_getElem (by omega))]; decide
          unfold overI; rw [this])
        have HC : Hid (Calls Tryd.prog 81 #[.int .u8 x.toNat] w fun e w' => e = .returned (.bool true) ∧ w = w') := Lib.hid (by rw [← hz]; exact HO.out x w)
        clear hz HO
        go_wp2_with fail
        refine HC.out.mono ?_
        rintro e w' ⟨rfl, rfl⟩
        go_wp2_with fail
        go_ret
        exact ⟨by rw [HR.out]; rfl, rfl⟩
    · have hd : decide (k < p.length) = false := by rw [decide_eq_false_iff_not]; exact hlt
      have hd2 : decide ((k : Int) < (p.length : Int)) = false := by rw [decide_eq_false_iff_not]; omega
      have HR : Hid (overI p = -1) := Lib.hid (by
        have : p.findIdx? overB = none := by
          rw [List.findIdx?_eq_none_iff]
          intro x hx
          obtain ⟨j, hj, rfl⟩ := List.getElem_of_mem hx
          exact HN.out j _ (by omega) (List.getElem?_eq_getElem hj)
        unfold overI; rw [this])
      clear hlt
      go_wp2_with fail
      go_ret
      exact ⟨by rw [HR.out]; rfl, rfl⟩
theorem overI_any (p : List UInt8) : decide (0 ≤ overI p) = p.any overB := by
  unfold overI
  cases h : p.findIdx? overB with
  | none =>
    rw [List.findIdx?_eq_none_iff] at h
    have : p.any overB = false := by rw [List.any_eq_false]; intro x hx; rw [h x hx]; decide
    rw [this]; rfl
  | some i =>
    obtain ⟨h1, h2, _⟩ := List.findIdx?_eq_some_iff_getElem.1 h
    have : p.any overB = true := List.any_eq_true.2 ⟨_, List.getElem_mem h1, h2⟩
    rw [this]
    exact decide_eq_true (by show (0 : Int) ≤ (i : Int); omega)
set_option maxHeartbeats 4000000 in
theorem contains80 (p : List UInt8) (A : Option Addr) (c : Nat) (w : World) (hT : Txt w A p) (hl : p.length ≤ 8) :
    Calls Tryd.prog 80 #[.slice A p.length c, .func (.func 81) #[] #[]] w fun e w' => e = .returned (.bool (p.any overB)) ∧ w = w' := by
  have HI := Lib.hid (index94 p A c w hT hl)
  have hz := overI_any p
  generalize overI p = F at *
  generalize p.any overB = z at *
  clear hT hl
  go_enter Tryd.func80, Tryd.ntmps80
  go_wp2_with fail
  refine HI.out.mono ?_
  rintro e w' ⟨rfl, rfl⟩
  go_wp2_with fail
  go_ret
  exact ⟨rfl, rfl⟩
set_option maxRecDepth 100000 in
set_option maxHeartbeats 4000000 in
theorem isprefix_any (p : List UInt8) (A : Option Addr) (c : Nat) (w : World) (hT : Txt w A p) (hl : p.length < 9223372036854775808) :
    Calls Tryd.prog 54 #[.slice A p.length c] w fun e w' => e = .returned (.bool (prefB p)) ∧ w = w' := by
  by_cases h8 : p.length ≤ 8
  · have hd : decide (p.length ≤ 8) = true := by rw [decide_eq_true_eq]; exact h8
    have hd2 : decide ((p.length : Int) ≤ 8) = true := by rw [decide_eq_true_eq]; omega
    have HC := Lib.hid (contains80 p A c w hT h8)
    have HE : Hid (prefB p = !p.any overB) := Lib.hid (by unfold prefB; rw [hd]; rfl)
    generalize p.any overB = z at *
    clear hT h8 hl
    go_enter Tryd.func54, Tryd.ntmps54
    go_wp2_with fail
    refine HC.out.mono ?_
    rintro e w' ⟨rfl, rfl⟩
    go_wp2_with fail
    go_ret
    exact ⟨by rw [HE.out]; rfl, rfl⟩
  · have hd : decide (p.length ≤ 8) = false := by rw [decide_eq_false_iff_not]; exact h8
    have hd2 : decide ((p.length : Int) ≤ 8) = false := by rw [decide_eq_false_iff_not]; omega
    have HE : Hid (prefB p = false) := Lib.hid (by unfold prefB; rw [hd]; rfl)
    clear hT h8
    go_enter Tryd.func54, Tryd.ntmps54
    go_wp2_with fail
    go_ret
    exact ⟨by rw [HE.out]; rfl, rfl⟩
end

section
open Go.RowKit

/-- The half i of a key's bytes, the higher one first. -/
def halfN (d : List UInt8) (i : Nat) : Nat := if i % 2 = 0 then (d.getD (i / 2) 0).toNat / 16 else (d.getD (i / 2) 0).toNat % 16
set_option maxRecDepth 100000 in
set_option maxHeartbeats 4000000 in
theorem half_any (d : Dg) (i : Nat) (w : World) (hi : i < 64) :
    Calls Tryd.prog 93 #[.agg (byteVals d.1).toArray, .int .i64 i] w fun e w' => e = .returned (.int .u8 (halfN d.1 i)) ∧ Chg none w w' := by
  obtain ⟨W, hW⟩ : ∃ W, W = w.alloc (.cells (byteVals d.1).toArray 30) := ⟨_, rfl⟩
  have g0 : Chg none w W := by rw [hW]; exact (Chg.refl _ _).alloc _
  have bA : BlkL W w.heap.size (byteVals d.1) 30 := by rw [hW]; exact Blk.new _ _ _
  have hx : (byteVals d.1)[i / 2]? = some (.int .u8 (d.1.getD (i / 2) 0).toNat) := byte_at (by rw [d.2]; omega)
  have hc : W.cell? ⟨w.heap.size, i / 2, none⟩ = some (.int .u8 (d.1.getD (i / 2) 0).toNat) := by rw [BlkL.cell bA]; exact hx
  have HE : Hid (halfN d.1 i = if i % 2 = 0 then (d.1.getD (i / 2) 0).toNat / 16 else (d.1.getD (i / 2) 0).toNat % 16) := Lib.hid rfl
  have hxl : (d.1.getD (i / 2) 0).toNat < 256 := UInt8.toNat_lt _
  have HW := Lib.hid hW
  have HG := Lib.hid g0
  clear hW bA g0 hx
  generalize (byteVals d.1).toArray = CD at *
  generalize (d.1.getD (i / 2) 0).toNat = x at *
  generalize halfN d.1 i = z at *
  by_cases h2 : i % 2 = 0
  · have h3 : (((i : Int) % 2) == 0) = true := by simp; omega
    have h4 := Lib.hid (show ((i : Int) / 2) = ((i / 2 : Nat) : Int) by omega)
    go_enter Tryd.func93, Tryd.ntmps93
    go_upto_region 1 with fail
    rw [← HW.out]
    go_upto_region 2 with fail
    go_wp2_with fail
    go_ret
    refine ⟨?_, HG.out⟩
    rw [HE.out]
    first | rw [if_pos h2] | rw [if_neg h2]
    simp
  · have h3 : (((i : Int) % 2) == 0) = false := by simp; omega
    have h4 := Lib.hid (show ((i : Int) / 2) = ((i / 2 : Nat) : Int) by omega)
    go_enter Tryd.func93, Tryd.ntmps93
    go_upto_region 1 with fail
    rw [← HW.out]
    go_wp2_with fail
    go_ret
    refine ⟨?_, HG.out⟩
    rw [HE.out]
    first | rw [if_pos h2] | rw [if_neg h2]
    simp


/-- A set: the block p holds the row of its results. -/
structure SetAt (w : World) (B p : Nat) (A : Option Addr) (c : Nat) (L : List Att) : Prop where
  hd : Blk w p #[.slice A L.length c] 82
  low : B ≤ p
  ow : w.ownsRow B 46 97 (.slice A L.length c) L.length (L.flatMap attCells)
/-- The blocks of a set. -/
def setS (p : Nat) (A : Option Addr) (g : Nat) : Prop := g = p ∨ A = some ⟨g, 0, none⟩
structure OkA (L : List Att) : Prop where
  sort : SortA L
  len : L.length ≤ 200
  may : ∀ x ∈ L, mayB x.n = true
theorem may_big {n : Int} (h : mayB n = true) : Big n := by
  have h2 : 1 ≤ n ∧ n ≤ 5000 := by unfold mayB at h; simpa using h
  exact ⟨by omega, by omega⟩
theorem SetAt.cell {w : World} {B p : Nat} {A : Option Addr} {c : Nat} {L : List Att} (h : SetAt w B p A c L) : w.cell? ⟨p, 0, none⟩ = some (.slice A L.length c) := by rw [h.hd.cell]; rfl
theorem own_keep {S : Nat → Prop} {w w' : World} {B s n : Nat} {e : TypeId} {v : Value} {xs : List Value} (h : w.ownsRow B e s v n xs) (hk : Kept S w w') (hn : ∀ g, v.ownBlock = some g → ¬ S g) : w'.ownsRow B e s v n xs := by
  refine ⟨h.1, ?_⟩
  rcases h.2 with hn' | ⟨g, cap, cur, rfl, hb, hgg, rest⟩
  · exact .inl hn'
  · refine .inr ⟨g, cap, cur, rfl, hb, ?_, rest⟩
    rw [hk.block g (Array.getElem?_eq_some_iff.1 hgg).1 (hn g rfl)]
    exact hgg
theorem own_addr {A : Option Addr} {n c g : Nat} (h : (Value.slice A n c).ownBlock = some g) : ∃ o s, A = some ⟨g, o, s⟩ := by
  rcases A with _ | ⟨b, o, s⟩
  · cases h
  · obtain rfl : b = g := by simpa [Value.ownBlock] using h
    exact ⟨o, s, rfl⟩
theorem SetAt.kept {S : Nat → Prop} {w w' : World} {B p : Nat} {A : Option Addr} {c : Nat} {L : List Att} (h : SetAt w B p A c L) (hk : Kept S w w') (hn : ∀ g, setS p A g → ¬ S g) : SetAt w' B p A c L := by
  refine ⟨(hk.block p (Blk.lt h.hd) (hn p (.inl rfl))).trans h.hd, h.low, own_keep h.ow hk fun g hg => hn g (.inr ?_)⟩
  rcases h.ow.2 with ⟨e, -⟩ | ⟨g', cap, cur, e, -⟩
  · rw [e] at hg; cases hg
  · injection e with e1 e2 e3
    subst e1
    obtain rfl : g' = g := by simpa [Value.ownBlock] using hg
    rfl
theorem SetAt.chg {w w' : World} {B p : Nat} {A : Option Addr} {c : Nat} {L : List Att} (h : SetAt w B p A c L) (hk : Chg none w w') : SetAt w' B p A c L :=
  h.kept (Kept.of_chg hk) (fun _ _ e => by cases e)
set_option maxHeartbeats 4000000 in
theorem new_any (w : World) : Calls Tryd.prog 43 #[] w fun e w' => e = .returned (.pointer (some ⟨w.heap.size, 0, none⟩)) ∧ SetAt w' w.heap.size w.heap.size none 0 [] ∧ Chg none w w' := by
  have HE : Hid (SetAt (w.alloc (.cells #[.slice none 0 0] 82)) w.heap.size w.heap.size none 0 [] ∧ Chg none w (w.alloc (.cells #[.slice none 0 0] 82))) := Lib.hid ⟨⟨Blk.new _ _ _, Nat.le_refl _, World.ownsRow_nil _ _ _ _⟩, (Chg.refl _ _).alloc _⟩
  go_enter Tryd.func43, Tryd.ntmps43
  go_wp2
  go_ret
  exact ⟨rfl, HE.out⟩
set_option maxHeartbeats 4000000 in
theorem len_any (w : World) (B p : Nat) (A : Option Addr) (c : Nat) (L : List Att) (h : SetAt w B p A c L) : Calls Tryd.prog 51 #[.pointer (some ⟨p, 0, none⟩)] w fun e w' => e = .returned (.int .i64 L.length) ∧ w = w' := by
  have o0 := h.cell
  clear h
  go_enter Tryd.func51, Tryd.ntmps51
  go_wp2
  go_ret
  exact ⟨rfl, rfl⟩
theorem len_nil (w : World) : Calls Tryd.prog 51 #[.pointer none] w fun e w' => e = .returned (.int .i64 0) ∧ w = w' := by
  go_enter Tryd.func51, Tryd.ntmps51
  go_wp2
  go_ret
  exact ⟨rfl, rfl⟩
end

section
open Go.RowKit

instance : DecidableEq Att := fun a b => decidable_of_iff (sameAtt a b = true) (sameAtt_iff a b)
theorem sort_inj {L : List Att} (hs : SortA L) {i j : Nat} {x : Att} (hi : L[i]? = some x) (hj : L[j]? = some x) : i = j := by
  rcases Nat.lt_trichotomy i j with h | h | h
  · have := hs i j x x h hi hj
    rw [lessB_self] at this; cases this
  · exact h
  · have := hs j i x x h hj hi
    rw [lessB_self] at this; cases this
theorem hitA_mem {L : List Att} {a : Att} {k : Nat} (hs : SortA L) (hb : ∀ x ∈ L, Big x.n) (ha : Big a.n) (h : AtA L a k) : hitA L a k = decide (a ∈ L) := by
  by_cases hm : a ∈ L
  · rw [decide_eq_true hm]
    obtain ⟨j, hj, e⟩ := List.getElem_of_mem hm
    have hx : L[j]? = some a := by rw [List.getElem?_eq_getElem hj, e]
    have h1 : k ≤ j := by
      rcases Nat.lt_or_ge j k with hlt | hge
      · have := h.2.1 j a hlt hx
        rw [lessB_self] at this; cases this
      · exact hge
    have h2 : j = k := by
      rcases Nat.lt_or_ge k j with hlt | hge
      · obtain ⟨y, hy⟩ : ∃ y, L[k]? = some y := ⟨_, List.getElem?_eq_getElem (by omega)⟩
        have := h.2.2 k y (Nat.le_refl _) hy
        rw [hs k j y a hlt hy hx] at this; cases this
      · omega
    subst h2
    unfold hitA
    rw [hx]
    show (cmpA a a == 0) = true
    rw [(cmpA_zero a a ha ha).2 rfl]; rfl
  · rw [decide_eq_false hm]
    unfold hitA
    cases hx : L[k]? with
    | none => rfl
    | some y =>
      have hy := List.mem_of_getElem? hx
      show (cmpA y a == 0) = false
      cases hq : (cmpA y a == 0) with
      | false => rfl
      | true =>
        have : cmpA y a = 0 := by simpa using hq
        rw [(cmpA_zero y a (hb y hy) ha).1 this] at hy
        exact absurd hy hm
theorem has_nil (a : Att) (w : World) : Calls Tryd.prog 46 #[.pointer none, .agg (attCells a).toArray] w fun e w' => e = .returned (.bool false) ∧ Chg none w w' := by
  have HE : Hid (∀ C, Chg none w (w.alloc (.cells C 46))) := Lib.hid fun C => (Chg.refl _ _).alloc _
  generalize (attCells a).toArray = CA
  go_enter Tryd.func46, Tryd.ntmps46
  go_wp2
  go_ret
  exact ⟨rfl, HE.out _⟩
set_option maxRecDepth 100000 in
set_option maxHeartbeats 8000000 in
theorem has_any (w : World) (B p : Nat) (A : Option Addr) (c : Nat) (L : List Att) (a : Att) (h : SetAt w B p A c L) (ok : OkA L) (ha : Big a.n) :
    Calls Tryd.prog 46 #[.pointer (some ⟨p, 0, none⟩), .agg (attCells a).toArray] w fun e w' => e = .returned (.bool (decide (a ∈ L))) ∧ Chg none w w' := by
  obtain ⟨W, hW⟩ : ∃ W, W = w.alloc (.cells (attCells a).toArray 46) := ⟨_, rfl⟩
  have g0 : Chg none w W := by rw [hW]; exact (Chg.refl _ _).alloc _
  have bA : BlkL W w.heap.size (attCells a) 46 := by rw [hW]; exact Blk.new _ _ _
  have h' := h.chg g0
  have HRA : Hid (∀ v, Chg none W v → v.rangeAt w.heap.size 0 (attCells a)) := Lib.hid fun v g => Blk.range (Blk.chg bA g (by simp))
  have HC : Hid (∀ v, Chg none W v → v.cell? ⟨p, 0, none⟩ = some (.slice A L.length c)) := Lib.hid fun v g => (h'.chg g).cell
  have hbig : ∀ x ∈ L, Big x.n := fun x hx => may_big (ok.may x hx)
  have HBS : Hid (∀ v, Chg none W v → Calls Tryd.prog 75 #[.slice A L.length c, .agg (attCells a).toArray, .func (.func 76) #[] #[]] v fun e w' => ∃ k, AtA L a k ∧ e = .returned (.tuple #[.int .i64 (k : Nat), .bool (hitA L a k)]) ∧ Chg none v w') :=
    Lib.hid fun v g => bsearch_any L B A c a v (h'.chg g).ow hbig ha (by have := ok.len; omega) ok.sort
  have HHT : Hid (∀ k, AtA L a k → hitA L a k = decide (a ∈ L)) := Lib.hid fun k hk => hitA_mem ok.sort hbig ha hk
  have HIA := Lib.hid (info46 a)
  have HW := Lib.hid hW
  have HG0 := Lib.hid g0
  have hS0 : Chg none W W.drew := (Chg.refl _ _).drew
  clear hW bA g0 h h' ok ha hbig
  go_enter Tryd.func46, Tryd.ntmps46
  go_upto_region 3 with fail
  rw [← HW.out]
  refine wp_region_held_drew (S := fun v => Chg none W v) (by kernel_rfl) hS0 (fun _ => ?_)
  generalize W.drew = v0 at *
  refine wpAnyH_take (i := 0) (oi := ⟨some 10, _, _, _, _, _⟩) (v := ?_) rfl (by kernel_rfl) (by kernel_rfl) (by kernel_rfl) (fun _ _ _ h => h) (Or.inl ⟨by rfl, ?_⟩) (by assumption) ?_
  rotate_left
  · intro v hSv; (try dsimp only at hSv); skip; go_simp; (try with_reducible rfl)
  try simp only [Act.put, List.setIfInBounds_toArray, List.set_cons_zero, List.set_cons_succ]
  refine wpAnyH_take (i := 1) (oi := ⟨some 11, _, _, _, _, _⟩) (v := ?_) rfl (by kernel_rfl) (by kernel_rfl) (by kernel_rfl) (fun _ _ _ h => h) (Or.inl ⟨by rfl, ?_⟩) (by assumption) ?_
  rotate_left
  · intro v hSv; (try dsimp only at hSv); skip; go_simp; (try with_reducible rfl)
  try simp only [Act.put, List.setIfInBounds_toArray, List.set_cons_zero, List.set_cons_succ]
  refine wpAnyH_take (i := 2) (oi := ⟨some 12, _, _, _, _, _⟩) (v := ?_) rfl (by kernel_rfl) (by kernel_rfl) (by kernel_rfl) (fun _ _ _ h => h) (Or.inl ⟨by rfl, ?_⟩) (by assumption) ?_
  rotate_left
  · intro v hSv; (try dsimp only at hSv); skip; go_simp; (try with_reducible rfl)
  try simp only [Act.put, List.setIfInBounds_toArray, List.set_cons_zero, List.set_cons_succ]
  refine wpAnyH_take (i := 3) (oi := ⟨some 13, _, _, _, _, _⟩) (v := .slice A L.length c) rfl (by kernel_rfl) (by kernel_rfl) (by kernel_rfl) (fun _ _ _ h => h) (Or.inl ⟨by rfl, ?_⟩) (by assumption) ?_
  · intro v hSv; have z := HC.out v hSv; go_simp
  try simp only [Act.put, List.setIfInBounds_toArray, List.set_cons_zero, List.set_cons_succ]
  refine wpAnyH_take (i := 4) (oi := ⟨some 14, _, _, _, _, _⟩) (v := .agg (attCells a).toArray) rfl (by kernel_rfl) (by kernel_rfl) (by kernel_rfl) (fun _ _ _ h => h) (yieldsIf_load_mid (by rfl) 46 _ rfl w.heap.size 0 rfl (attCells a) _ (fun v h => HRA.out v h) Tryd.underlying46 rfl HIA.out) (by assumption) ?_
  try simp only [Act.put, List.setIfInBounds_toArray, List.set_cons_zero, List.set_cons_succ]
  refine wpAnyH_ready (rs := [5]) (by kernel_rfl) (by simp) ?_
  refine AllReadyH.cons (o := ⟨some 15, _, _, _, _, _⟩) rfl (fun K hK => ?_) (AllReadyH.nil)
  go_simp
  go_at_call 75
  refine (HBS.out _ (by assumption)).mono ?_
  rintro e v1 ⟨k, hk, rfl, g1⟩
  have HK := Lib.hid hk
  clear hk
  have hS1 := hS0.trans g1
  go_wp2_with fail
  refine hK.out _ _ hS1 (fun _ => ?_)
  clear hK K
  try simp only [Act.put, List.setIfInBounds_toArray, List.set_cons_zero, List.set_cons_succ]
  refine wpAnyH_take (i := 6) (oi := ⟨some 9, _, _, _, _, _⟩) (v := ?_) rfl (by kernel_rfl) (by kernel_rfl) (by kernel_rfl) (fun _ _ _ h => h) (Or.inl ⟨by rfl, ?_⟩) (by assumption) ?_
  rotate_left
  · intro v hSv; (try dsimp only at hSv); skip; go_simp; (try with_reducible rfl)
  try simp only [Act.put, List.setIfInBounds_toArray, List.set_cons_zero, List.set_cons_succ]
  refine wpAnyH_take (i := 7) (oi := ⟨some 16, _, _, _, _, _⟩) (v := ?_) rfl (by kernel_rfl) (by kernel_rfl) (by kernel_rfl) (fun _ _ _ h => h) (Or.inl ⟨by rfl, ?_⟩) (by assumption) ?_
  rotate_left
  · intro v hSv; (try dsimp only at hSv); skip; go_simp; (try with_reducible rfl)
  try simp only [Act.put, List.setIfInBounds_toArray, List.set_cons_zero, List.set_cons_succ]
  refine wpAnyH_take (i := 8) (oi := ⟨some 17, _, _, _, _, _⟩) (v := ?_) rfl (by kernel_rfl) (by kernel_rfl) (by kernel_rfl) (fun _ _ _ h => h) (Or.inl ⟨by rfl, ?_⟩) (by assumption) ?_
  rotate_left
  · intro v hSv; (try dsimp only at hSv); skip; go_simp; (try with_reducible rfl)
  try simp only [Act.put, List.setIfInBounds_toArray, List.set_cons_zero, List.set_cons_succ]
  refine wpAnyH_take (i := 9) (oi := ⟨some 5, _, _, _, _, _⟩) (v := ?_) rfl (by kernel_rfl) (by kernel_rfl) (by kernel_rfl) (fun _ _ _ h => h) (Or.inl ⟨by rfl, ?_⟩) (by assumption) ?_
  rotate_left
  · intro v hSv; (try dsimp only at hSv); skip; go_simp; (try with_reducible rfl)
  try simp only [Act.put, List.setIfInBounds_toArray, List.set_cons_zero, List.set_cons_succ]
  refine wpAnyH_take (i := 10) (oi := ⟨some 6, _, _, _, _, _⟩) (v := ?_) rfl (by kernel_rfl) (by kernel_rfl) (by kernel_rfl) (fun _ _ _ h => h) (Or.inl ⟨by rfl, ?_⟩) (by assumption) ?_
  rotate_left
  · intro v hSv; (try dsimp only at hSv); skip; go_simp; (try with_reducible rfl)
  try simp only [Act.put, List.setIfInBounds_toArray, List.set_cons_zero, List.set_cons_succ]
  refine wpAnyH_done (by kernel_rfl) ?_ _
  try simp only [Act.put]
  go_wp2_with fail
  go_ret
  exact ⟨by rw [HHT.out k HK.out]; rfl, HG0.out.trans hS1⟩
end

section
open Go.RowKit

/-- A row opened at a place by m, and filled there. -/
theorem splice_ins {α : Type} (X Z Y V : List α) {m x : Nat} (hx : X.length = x) (hV : V.length = m) (hZ : m + Y.length ≤ Z.length) :
    (splice (splice (X ++ Z) (x + m) Y) x V).take (x + m + Y.length) = X ++ (V ++ Y) := by
  subst hx
  have e1 : splice (X ++ Z) (X.length + m) Y = X ++ (Z.take m ++ (Y ++ Z.drop (m + Y.length))) := by
    unfold splice
    rw [List.take_length_add_append, List.append_assoc, Nat.add_assoc, List.drop_length_add_append]
  have e2 : splice (X ++ (Z.take m ++ (Y ++ Z.drop (m + Y.length)))) X.length V = X ++ (V ++ (Y ++ Z.drop (m + Y.length))) := by
    unfold splice
    have hm : (Z.take m).length = m := by rw [List.length_take]; omega
    rw [List.take_left' rfl, hV, List.drop_length_add_append]
    congr 2
    rw [List.drop_append_of_le_length (by omega), List.drop_of_length_le (by omega), List.nil_append]
  rw [e1, e2, Nat.add_assoc, List.take_length_add_append]
  congr 1
  rw [← hV, List.take_length_add_append, List.take_left' rfl]
/-- The same, the other way round: first what is new, then what stood behind. -/
theorem splice_ins2 {α : Type} (X Z Y V : List α) {m x : Nat} (hx : X.length = x) (hV : V.length = m) (_hZ : m + Y.length ≤ Z.length) :
    (splice (splice (X ++ Z) x V) (x + m) Y).take (x + m + Y.length) = X ++ (V ++ Y) := by
  subst hx
  have e1 : splice (X ++ Z) X.length V = X ++ (V ++ Z.drop m) := by
    unfold splice
    rw [List.take_left' rfl, hV, List.drop_length_add_append]
  have e2 : splice (X ++ (V ++ Z.drop m)) (X.length + m) Y = X ++ (V ++ (Y ++ (Z.drop m).drop Y.length)) := by
    unfold splice
    rw [List.take_length_add_append, List.append_assoc, Nat.add_assoc, List.drop_length_add_append, ← hV, List.take_left' rfl, List.drop_length_add_append]
  rw [e1, e2, Nat.add_assoc, List.take_length_add_append]
  congr 1
  rw [← hV, List.take_length_add_append, List.take_left' rfl]

theorem run_copy_rows {P : Program} (w : World) (dT sT ty elem : TypeId) (sz : Nat) (g o dLen dCap : Nat) (a : Addr) (sLen sCap : Nat) (cur : List Value) (t : TypeId) (cs : List Value)
    (hu : P.underlying dT = some (.slice elem)) (hs : (P.info? elem).map (·.size) = some sz)
    (hg : w.heap[g]? = some (.cells cur.toArray t (0, 0))) (hn : cs.length = Nat.min sLen dLen * sz)
    (hsrc : ∀ j v, cs[j]? = some v → w.cell? (a.add j) = some v) (hfit : o + cs.length ≤ cur.length) (h1 : ∀ v ∈ cs, v.oneCell' = true) :
    (Builtin.copy_ #[dT, sT] ty #[.slice (some ⟨g, o, none⟩) dLen dCap, .slice (some a) sLen sCap]).run P w =
      .ok (goInt (Nat.min sLen dLen)) (w.setRow g (splice cur o cs).toArray) := by
  have hl := run_loadCells_list (P := P) w a cs hsrc
  have hst := run_storeCells_at P g o t cs 0 cur.toArray w hg (by simpa using hfit) h1
  cases hq : P.info? elem with
  | none => simp [hq] at hs
  | some i =>
    have hi : i.size = sz := by simpa [hq] using hs
    simp [Builtin.copy_, run_underlying hu, Builtin.lenOf, Builtin.firstCells, sizeOf, typeInfo, hq, hi, ← hn, hl, hst, splice]

def attZero : Att := ⟨zeroDg, zeroDg, 0, zeroDg⟩
theorem zinfo46 : ∃ i0, Tryd.prog.info? 46 = some i0 ∧ i0.zero = some (.agg (attCells attZero).toArray) ∧ i0.size = 97 ∧ i0.bytes = 104 := info_parts (by kernel_rfl)
theorem ones_att (a : Att) : ∀ v ∈ attCells a, v.oneCell' = true := fun v hv => by
  have := Array.all_eq_true_iff_forall_mem.1 (attCells_one a) v (by simpa using hv)
  exact this
theorem ones_atts (L : List Att) : ∀ v ∈ L.flatMap attCells, v.oneCell' = true := fun v hv => by
  obtain ⟨x, -, h⟩ := List.mem_flatMap.1 hv
  exact ones_att x v h
theorem overlaps90 (w : World) (q g o lb cb : Nat) (cA cB : Array Value) (hqg : q ≠ g) (hq : Blk w q cA 46) (hg : Blk w g cB 46) (hc : cB.size ≠ 0) :
    (callFunc 90 #[.slice (some ⟨q, 0, none⟩) 1 1, .slice (some ⟨g, o, none⟩) lb cb]).run Tryd.prog w = .ok (.value (.bool false)) w := by
  rw [run_callFunc_extern Tryd.func90 (by kernel_rfl) (by kernel_rfl) (by kernel_rfl) (e := Extern.SlicesOverlaps.overlaps #[64, 64] #[4]) (by kernel_rfl),
    Lib.run_overlaps_apart w 64 4 46 Tryd.underlying64 97 (fun w => by obtain ⟨i0, h1, -, h2, -⟩ := zinfo46; simp [Go.sizeOf, typeInfo, h1, h2]) ⟨q, 0, none⟩ ⟨g, o, none⟩ 1 1 lb cb hqg 46 46 cA.size cB.size (by unfold World.shape?; rw [hq]) (by unfold World.shape?; rw [hg]) hc (Blk.frozen hq 0) (Blk.frozen hq _)]
  rfl
theorem cut_hi64 (A : Option Addr) (n c hi : Nat) (h1 : hi ≤ c) (w : World) :
    (Instr.sliceAt 64 (.slice A n c) none (some (.int .i64 hi)) none).run Tryd.prog w = .ok (.slice A hi c) w := by
  have u22 := Tryd.underlying64
  have z5 := Tryd.sizeOf46
  have h4 : (hi : Int) ≤ c := by omega
  go_simp
theorem cut_lo64 (A : Option Addr) (len cap lo : Nat) (h1 : lo ≤ len) (h2 : len ≤ cap) (w : World) :
    (Instr.sliceAt 64 (.slice A len cap) (some (.int .i64 lo)) none none).run Tryd.prog w = .ok (.slice (if cap = lo then A else A.map (·.add (lo * 97))) (len - lo) (cap - lo)) w := by
  have u22 := Tryd.underlying64
  have z5 := Tryd.sizeOf46
  have h3 : (lo : Int) ≤ len := by omega
  have h4 : (len : Int) ≤ cap := by omega
  have h5 : (lo : Int) ≤ cap := by omega
  go_simp
theorem flatA_take (L : List Att) (i : Nat) : (L.take i).flatMap attCells = (L.flatMap attCells).take (i * 97) := by
  induction L generalizing i with
  | nil => simp
  | cons a L ih =>
    cases i with
    | zero => simp
    | succ i =>
      rw [List.take_succ_cons, List.flatMap_cons, List.flatMap_cons, ih, List.take_append, attCells_len, List.take_of_length_le (l := attCells a) (by rw [attCells_len]; omega), show (i + 1) * 97 - 97 = i * 97 by omega]
theorem flatA_drop (L : List Att) (i : Nat) : (L.drop i).flatMap attCells = (L.flatMap attCells).drop (i * 97) := by
  induction L generalizing i with
  | nil => simp
  | cons a L ih =>
    cases i with
    | zero => simp
    | succ i =>
      rw [List.drop_succ_cons, List.flatMap_cons, ih, List.drop_append, attCells_len, List.drop_of_length_le (l := attCells a) (by rw [attCells_len]; omega), List.nil_append, show (i + 1) * 97 - 97 = i * 97 by omega]
end

section
open Go.RowKit

def InsP (w : World) (B : Nat) (A : Option Addr) (L : List Att) (k : Nat) (a : Att) (e : Ending) (w' : World) : Prop :=
  ∃ A' c', e = .returned (.slice A' (L.length + 1) c') ∧ w'.ownsRow B 46 97 (.slice A' (L.length + 1) c') (L.length + 1) ((L.take k ++ a :: L.drop k).flatMap attCells) ∧
    Kept (fun g => A = some ⟨g, 0, none⟩) w w' ∧ (A' = A ∨ ∃ g, A' = some ⟨g, 0, none⟩ ∧ w.heap.size ≤ g)
theorem own_block {w : World} {B n c : Nat} {A : Option Addr} {xs : List Value} {T s : Nat} (h : w.ownsRow B T s (.slice A n c) n xs) {g : Nat} (hg : (Value.slice A n c).ownBlock = some g) : A = some ⟨g, 0, none⟩ := by
  rcases h.2 with ⟨e, -⟩ | ⟨g', cap, cur, e, -⟩
  · rw [e] at hg; cases hg
  · injection e with e1 e2 e3
    subst e1
    obtain rfl : g' = g := by simpa [Value.ownBlock] using hg
    rfl
set_option maxRecDepth 100000 in
set_option maxHeartbeats 8000000 in
theorem insert_end (L : List Att) (B : Nat) (A : Option Addr) (c : Nat) (a : Att) (w : World) (q : Nat) (h : w.ownsRow B 46 97 (.slice A L.length c) L.length (L.flatMap attCells)) (hl : L.length ≤ 1000) (hB : B ≤ w.heap.size)
    (hq : BlkL w q (attCells a) 46) : Calls Tryd.prog 77 #[.slice A L.length c, .int .i64 L.length, .slice (some ⟨q, 0, none⟩) 1 1] w (InsP w B A L L.length a) := by
  obtain ⟨i0, hi0, hz0, hz1, hz2⟩ := zinfo46
  have hlc : L.length ≤ c := by obtain ⟨A', c', e, h1, -⟩ := arow_form h; injection e with _ _ e; rw [e]; exact h1
  have HQ : Hid (∀ j u, (attCells a)[j]? = some u → w.cell? ((⟨q, 0, none⟩ : Addr).add j) = some u) := Lib.hid fun j u hj => by
    rw [Go.WideShapes.add_plain, Nat.zero_add, BlkL.cell hq]; exact hj
  have HN : Hid ((attCells a).length = 1 * 97) := Lib.hid (by rw [attCells_len])
  have HO := Lib.hid (ones_att a)
  have HZ : Hid ((Value.agg (attCells attZero).toArray).cells.size = 97) := Lib.hid (by show (attCells attZero).toArray.size = 97; rw [List.size_toArray, attCells_len])
  have HOW := Lib.hid h
  have HEND : Hid (∀ v' w', w'.ownsRow B 46 97 v' (L.length + 1) (L.flatMap attCells ++ attCells a) → w.grownBy w' (Value.slice A L.length c).ownBlock → ((v' = .slice none 0 0 ↔ Value.slice A L.length c = .slice none 0 0 ∧ 1 = 0)) →
      (v'.ownBlock = (Value.slice A L.length c).ownBlock ∨ v'.ownBlock = some w.heap.size) → InsP w B A L L.length a (.returned v') w') := Lib.hid fun v' w' h1 h2 h3 h4 => by
    have e1 : (L.take L.length ++ a :: L.drop L.length).flatMap attCells = L.flatMap attCells ++ attCells a := by simp
    have hk : Kept (fun g => A = some ⟨g, 0, none⟩) w w' := (Kept.of_chg h2).mono fun g hg => own_block h hg
    rcases h1.2 with ⟨e, h0⟩ | ⟨g', cap', cur', rfl, r1, r2⟩
    · omega
    · refine ⟨_, _, rfl, by rw [e1]; exact h1, hk, ?_⟩
      rcases h4 with h4 | h4
      · exact .inl (own_block h (g := g') (by rw [← h4]; rfl)).symm
      · have : g' = w.heap.size := by simpa [Value.ownBlock] using h4
        exact .inr ⟨g', rfl, by omega⟩
  have hs1 : L.length + 1 ≤ maxLen := by unfold maxLen; omega
  have hs2 : (L.length + 1) * 104 ≤ 140737488355328 := by omega
  have hct : ∃ A1 c1, ∀ v, (Instr.sliceAt 64 (.slice A L.length c) (some (.int .i64 L.length)) none none).run Tryd.prog v = .ok (.slice A1 0 c1) v := ⟨_, _, fun v => by have := cut_lo64 A L.length c L.length (Nat.le_refl _) hlc v; rwa [Nat.sub_self] at this⟩
  obtain ⟨A1, c1, hct⟩ := hct
  clear h hq
  generalize L.length = n at *
  generalize L.flatMap attCells = fl at *
  generalize attCells a = ca at *
  go_enter Tryd.func77, Tryd.ntmps77
  go_wp2_with (first
    | (refine wpList_append_own_at _ rfl (.tmp 23) (.tmp 24) 64 rfl B 46 i0 (.agg (attCells attZero).toArray) 97 104 Tryd.underlying64 hi0 hz0 hz1 hz2 HZ.out (by decide) (.slice A n c) n fl rfl HOW.out ⟨q, 0, none⟩ 1 1 ca rfl HN.out HQ.out HO.out hs1 hs2 hB ?_
       intro v' w' hown hgr h3 h4
       have HX := Lib.hid (HEND.out v' w' hown hgr h3 h4)
       clear hown hgr h3 h4))
  go_ret
  exact HX.out
end

section
open Go.RowKit

set_option maxRecDepth 100000 in
set_option maxHeartbeats 8000000 in
theorem insert_room (L : List Att) (B g : Nat) (c k : Nat) (a : Att) (w : World) (q : Nat) (h : w.ownsRow B 46 97 (.slice (some ⟨g, 0, none⟩) L.length c) L.length (L.flatMap attCells)) (hl : L.length ≤ 1000)
    (hq : BlkL w q (attCells a) 46) (hqg : q ≠ g) (hk : k < L.length) (hroom : L.length + 1 ≤ c) (_hc63 : c ≤ 9223372036854775807) : Calls Tryd.prog 77 #[.slice (some ⟨g, 0, none⟩) L.length c, .int .i64 k, .slice (some ⟨q, 0, none⟩) 1 1] w (InsP w B (some ⟨g, 0, none⟩) L k a) := by
  obtain ⟨cur, hcur, hsz, htk, hBg, hcm⟩ : ∃ cur : List Value, w.heap[g]? = some (.cells cur.toArray 46 (0, 0)) ∧ cur.length = c * 97 ∧ cur.take (L.length * 97) = L.flatMap attCells ∧ B ≤ g ∧ c ≤ maxLen := by
    rcases h.2 with ⟨e, -⟩ | ⟨g', cap, cur, e, hb, hg, h1, h2, h3, h4⟩
    · cases e
    · injection e with e1 _ e3
      injection e1 with e1
      injection e1 with e1 _ _
      subst e1; subst e3
      exact ⟨cur.toList, by rw [Array.toArray_toList]; exact hg, by rw [Array.length_toList]; exact h3, h4, hb, h2⟩
  have hct1 : ∃ A1 c1, ∀ v, (Instr.sliceAt 64 (.slice (some ⟨g, 0, none⟩) L.length c) (some (.int .i64 k)) none none).run Tryd.prog v = .ok (.slice A1 (L.length - k) c1) v := ⟨_, _, fun v => cut_lo64 _ L.length c k (by omega) (by omega) v⟩
  have hct2 : ∀ v, (Instr.sliceAt 64 (.slice (some ⟨g, 0, none⟩) L.length c) none (some (.int .i64 ((L.length : Int) + 1))) none).run Tryd.prog v = .ok (.slice (some ⟨g, 0, none⟩) (L.length + 1) c) v := fun v => cut_hi64 _ L.length c (L.length + 1) hroom v
  have hct3 : ∀ v, (Instr.sliceAt 64 (.slice (some ⟨g, 0, none⟩) (L.length + 1) c) (some (.int .i64 ((k : Int) + 1))) none none).run Tryd.prog v = .ok (.slice (some ⟨g, (k + 1) * 97, none⟩) (L.length - k) (c - (k + 1))) v := fun v => by
    have := cut_lo64 (some ⟨g, 0, none⟩) (L.length + 1) c (k + 1) (by omega) hroom v
    rw [if_neg (by omega), show L.length + 1 - (k + 1) = L.length - k by omega] at this
    rw [show ((k : Int) + 1) = ((k + 1 : Nat) : Int) by omega, this]
    rw [Option.map_some, Go.WideShapes.add_plain, Nat.zero_add]
  have hct4 : ∀ v, (Instr.sliceAt 64 (.slice (some ⟨g, 0, none⟩) (L.length + 1) c) (some (.int .i64 k)) none none).run Tryd.prog v = .ok (.slice (some ⟨g, k * 97, none⟩) (L.length + 1 - k) (c - k)) v := fun v => by
    have := cut_lo64 (some ⟨g, 0, none⟩) (L.length + 1) c k (by omega) hroom v
    rw [if_neg (by omega)] at this
    rw [this]
    rw [Option.map_some, Go.WideShapes.add_plain, Nat.zero_add]
  obtain ⟨A1, c1, hct1⟩ := hct1
  have hov : ∀ lb cb, (callFunc 90 #[.slice (some ⟨q, 0, none⟩) 1 1, .slice (some ⟨g, (k + 1) * 97, none⟩) lb cb]).run Tryd.prog w = .ok (.value (.bool false)) w := fun lb cb => overlaps90 w q g _ lb cb _ _ hqg hq hcur (by rw [List.size_toArray]; omega)
  have hd1 : (((k : Int)) == (L.length : Int)) = false := by simp; omega
  have hd2 : decide ((c : Int) < (L.length : Int) + 1) = false := by rw [decide_eq_false_iff_not]; omega
  have hb : BlkL w g cur 46 := hcur
  have hfl := flatA_len (L.drop k)
  have hfd : (L.drop k).flatMap attCells = (L.flatMap attCells).drop (k * 97) := flatA_drop L k
  rw [List.length_drop] at hfl
  have h97 : (Tryd.prog.info? 46).map (·.size) = some 97 := by obtain ⟨i0, e1, -, e2, -⟩ := zinfo46; rw [e1]; simp [e2]
  have hsp1 : ((k + 1) * 97) + ((L.drop k).flatMap attCells).length ≤ cur.length := by rw [hfl, hsz]; omega
  have hcp1 : ∀ ty dc sc, (Builtin.copy_ #[64, 64] ty #[.slice (some ⟨g, (k + 1) * 97, none⟩) (L.length - k) dc, .slice (some ⟨g, k * 97, none⟩) (L.length + 1 - k) sc]).run Tryd.prog w.drew =
      .ok (goInt (Nat.min (L.length + 1 - k) (L.length - k))) (w.drew.setRow g (splice cur ((k + 1) * 97) ((L.drop k).flatMap attCells)).toArray) := fun ty dc sc =>
    run_copy_rows w.drew 64 64 ty 46 97 g _ _ dc ⟨g, k * 97, none⟩ _ sc cur 46 _ Tryd.underlying64 h97 hcur (by rw [hfl]; congr 1; simp only [Nat.min_def]; split <;> omega)
      (fun j v hj => by
        rw [Go.WideShapes.add_plain]
        show w.cell? _ = _
        rw [BlkL.cell hb]
        have hj1 := (List.getElem?_eq_some_iff.1 hj).1
        rw [hfd, List.getElem?_drop, ← htk, List.getElem?_take_of_lt (by rw [hfl] at hj1; omega)] at hj
        exact hj) hsp1 (ones_atts _)
  obtain ⟨cur1, hcur1⟩ : ∃ cur1, cur1 = splice cur ((k + 1) * 97) ((L.drop k).flatMap attCells) := ⟨_, rfl⟩
  have hl1 : cur1.length = cur.length := by rw [hcur1]; exact length_splice _ _ _ hsp1
  rw [← hcur1] at hcp1
  obtain ⟨W1, hW1⟩ : ∃ W1, W1 = w.drew.setRow g cur1.toArray := ⟨_, rfl⟩
  have hb1 : BlkL W1 g cur1 46 := by rw [hW1]; exact setRow_heap w.drew g _ _ 46 _ hb
  have hq1 : BlkL W1 q (attCells a) 46 := by rw [hW1]; exact Blk.chg (Blk.chg hq (Chg.refl none w).drew (by simp)) (chg_setRow _ g _) (by simpa using hqg)
  have hsp2 : k * 97 + (attCells a).length ≤ cur1.length := by rw [hl1, hsz, attCells_len]; omega
  have hcp2 : ∀ ty dc, (Builtin.copy_ #[64, 64] ty #[.slice (some ⟨g, k * 97, none⟩) (L.length + 1 - k) dc, .slice (some ⟨q, 0, none⟩) 1 1]).run Tryd.prog W1 =
      .ok (goInt (Nat.min 1 (L.length + 1 - k))) (W1.setRow g (splice cur1 (k * 97) (attCells a)).toArray) := fun ty dc =>
    run_copy_rows W1 64 64 ty 46 97 g _ _ dc ⟨q, 0, none⟩ _ 1 cur1 46 _ Tryd.underlying64 h97 hb1 (by rw [attCells_len]; simp only [Nat.min_def]; split <;> omega)
      (fun j v hj => by
        rw [Go.WideShapes.add_plain, Nat.zero_add, BlkL.cell hq1]
        exact hj) hsp2 (ones_att a)
  have HEND : Hid (InsP w B (some ⟨g, 0, none⟩) L k a (.returned (.slice (some ⟨g, 0, none⟩) (L.length + 1) c)) (W1.setRow g (splice cur1 (k * 97) (attCells a)).toArray)) := Lib.hid (by
    have hkp : Kept (fun b => some (⟨g, 0, none⟩ : Addr) = some ⟨b, 0, none⟩) w (W1.setRow g (splice cur1 (k * 97) (attCells a)).toArray) := by
      refine Kept.mono (S := fun b => some g = some b) ?_ (fun b e => by injection e with e; rw [e])
      rw [hW1]
      exact Kept.of_chg ((((Chg.refl (some g) w).drew).trans (chg_setRow _ g _)).trans (chg_setRow _ g _))
    have hb2 : BlkL (W1.setRow g (splice cur1 (k * 97) (attCells a)).toArray) g (splice cur1 (k * 97) (attCells a)) 46 := setRow_heap W1 g _ _ 46 _ hb1
    have hsplit : cur = (L.take k).flatMap attCells ++ cur.drop (k * 97) := by
      rw [flatA_take, ← htk, List.take_take, Nat.min_eq_left (by omega), List.take_append_drop]
    have hins : (splice cur1 (k * 97) (attCells a)).take ((L.length + 1) * 97) = (L.take k ++ a :: L.drop k).flatMap attCells := by
      have hx : ((L.take k).flatMap attCells).length = k * 97 := by rw [flatA_len, List.length_take, Nat.min_eq_left (by omega)]
      have := splice_ins ((L.take k).flatMap attCells) (cur.drop (k * 97)) ((L.drop k).flatMap attCells) (attCells a) hx (attCells_len a) (by rw [hfl, List.length_drop, hsz]; omega)
      rw [← hsplit, hfl] at this
      rw [List.flatMap_append, List.flatMap_cons, ← this, hcur1, show (k + 1) * 97 = k * 97 + 97 by omega]
      congr 1
      omega
    refine ⟨_, _, rfl, ⟨?_, .inr ⟨g, c, (splice cur1 (k * 97) (attCells a)).toArray, rfl, hBg, hb2, hroom, hcm, ?_, ?_⟩⟩, hkp, .inl rfl⟩
    · rw [← hins, List.length_take, length_splice _ _ _ hsp2, hl1, hsz, Nat.min_eq_left (by omega)]
    · rw [List.size_toArray, length_splice _ _ _ hsp2, hl1, hsz]
    · rw [List.toList_toArray]; exact hins)
  rw [hW1] at hcp2 HEND
  have mixed : Tryd.prog.follows Departure.mixedOrders = true := by kernel_rfl
  have hw1 : IntKind.i64.wrap ((k : Int) + 1) = (k : Int) + 1 := by rw [IntKind.wrap_i64]; omega
  have hb1 : (0 : Int) ≤ (k : Int) + 1 := by omega
  have htn : ((k : Int) + 1).toNat = k + 1 := by omega
  have hb2 : ¬ (c = k + 1) := by omega
  have hb3 : (k : Int) + 1 ≤ (L.length : Int) + 1 := by omega
  have hb4 : ¬ (c = k) := by omega
  have hb5 : (k : Int) ≤ (L.length : Int) + 1 := by omega
  have hb6 : L.length + 1 - (k + 1) = L.length - k := by omega
  clear h hcur htk hsz hfl hfd hsp1 hsp2 hb hq hq1 hcur1 hl1 hqg h97
  go_enter Tryd.func77, Tryd.ntmps77
  go_wp2_with (simp only [hov])
  go_region_law_o (refine step_copy_runI rfl _ _ 64 64 rfl _ _ (by simp [Act.eval, Act.put]) (by simp [Act.eval, Act.put]) (hcp1 _ _ _) ?_)
  go_wp2_with (at_builtin; refine wpList_copy_runI _ rfl _ _ 64 64 rfl _ _ rfl rfl (hcp2 _ _) ?_)
  go_ret
  exact HEND.out
end

section
open Go.RowKit

theorem zeroCells_size (z : Array Value) (n : Nat) : (Builtin.zeroCells z n).size = n * z.size := by simp [Builtin.zeroCells]
set_option maxRecDepth 100000 in
set_option maxHeartbeats 8000000 in
theorem insert_grow (L : List Att) (B g : Nat) (c k : Nat) (a : Att) (w : World) (q : Nat) (h : w.ownsRow B 46 97 (.slice (some ⟨g, 0, none⟩) L.length c) L.length (L.flatMap attCells)) (hl : L.length ≤ 1000) (hB : B ≤ w.heap.size)
    (hq : BlkL w q (attCells a) 46) (hk : k < L.length) (hlc : L.length ≤ c) (hroom : c < L.length + 1) : Calls Tryd.prog 77 #[.slice (some ⟨g, 0, none⟩) L.length c, .int .i64 k, .slice (some ⟨q, 0, none⟩) 1 1] w (InsP w B (some ⟨g, 0, none⟩) L k a) := by
  obtain ⟨i0, hi0, hz0, hz1, hz2⟩ := zinfo46
  obtain ⟨cur, hcur, hsz, htk⟩ : ∃ cur : List Value, w.heap[g]? = some (.cells cur.toArray 46 (0, 0)) ∧ cur.length = c * 97 ∧ cur.take (L.length * 97) = L.flatMap attCells := by
    rcases h.2 with ⟨e, -⟩ | ⟨g', cap, cur, e, hb, hg, h1, h2, h3, h4⟩
    · cases e
    · injection e with e1 _ e3
      injection e1 with e1
      injection e1 with e1 _ _
      subst e1; subst e3
      exact ⟨cur.toList, by rw [Array.toArray_toList]; exact hg, by rw [Array.length_toList]; exact h3, h4⟩
  have hgl : g < w.heap.size := (Array.getElem?_eq_some_iff.1 hcur).1
  have hql : q < w.heap.size := Blk.lt hq
  have hb : BlkL w g cur 46 := hcur
  have h97 : (Tryd.prog.info? 46).map (·.size) = some 97 := by rw [hi0]; simp [hz1]
  have hflt : ((L.take k).flatMap attCells).length = k * 97 := by rw [flatA_len, List.length_take, Nat.min_eq_left (by omega)]
  have hfl : ((L.drop k).flatMap attCells).length = (L.length - k) * 97 := by rw [flatA_len, List.length_drop]
  have hcg : ∀ j v, (L.flatMap attCells)[j]? = some v → w.cell? ⟨g, j, none⟩ = some v := fun j v hj => by
    rw [BlkL.cell hb]
    have hj1 := (List.getElem?_eq_some_iff.1 hj).1
    rw [flatA_len] at hj1
    rw [← htk, List.getElem?_take_of_lt hj1] at hj
    exact hj
  have hold : (Builtin.firstCells i0.size k (.slice (some ⟨g, 0, none⟩) k c)).run Tryd.prog w.drew = .ok ((L.take k).flatMap attCells).toArray w.drew := by
    have := run_loadCells_list (P := Tryd.prog) w.drew ⟨g, 0, none⟩ ((L.take k).flatMap attCells) (fun j v hj => by
      rw [Go.WideShapes.add_plain, Nat.zero_add]
      show w.cell? _ = _
      refine hcg j v ?_
      have hj1 := (List.getElem?_eq_some_iff.1 hj).1
      rw [flatA_take, List.getElem?_take_of_lt (by rw [hflt] at hj1; exact hj1)] at hj
      exact hj)
    rw [hflt] at this
    rw [hz1]
    exact this
  obtain ⟨c2, hc2⟩ : ∃ c2, grownCap w (L.length + 1) c 46 = c2 := ⟨_, rfl⟩
  have hc2g : L.length + 1 ≤ c2 := by rw [← hc2]; exact grownCap_ge w _ _ _
  have hc2m : c2 ≤ maxLen := by rw [← hc2]; exact grownCap_le_maxLen w _ _ _ (by unfold maxLen; omega)
  obtain ⟨Z, hZ⟩ : ∃ Z : List Value, Z = (Builtin.zeroCells (Value.agg (attCells attZero).toArray).cells (L.length + 1 - k)).toList ++ (Builtin.zeroCells (Value.agg (attCells attZero).toArray).cells (c2 - (L.length + 1))).toList := ⟨_, rfl⟩
  have hzs : (Value.agg (attCells attZero).toArray).cells.size = 97 := by show (attCells attZero).toArray.size = 97; rw [List.size_toArray, attCells_len]
  have hzl : ∀ n, (Builtin.zeroCells (Value.agg (attCells attZero).toArray).cells n).toList.length = n * 97 := fun n => by rw [Array.length_toList, zeroCells_size, hzs]
  have hZl : Z.length = (c2 - k) * 97 := by rw [hZ, List.length_append, hzl, hzl]; omega
  obtain ⟨W2, hW2⟩ : ∃ W2, W2 = w.drew.alloc (.cells ((L.take k).flatMap attCells ++ Z).toArray 46) := ⟨_, rfl⟩
  have hap : ∀ ty, (Builtin.append_ #[64, 3] ty #[.slice (some ⟨g, 0, none⟩) k c, .int .i64 ((L.length : Int) + 1 - (k : Int))]).run Tryd.prog w = .ok (.slice (some ⟨w.heap.size, 0, none⟩) (L.length + 1) c2) W2 := fun ty => by
    have := Lib.run_append_grow_zeros (P := Tryd.prog) w 64 3 ty 46 i0 _ .i64 .i64 Tryd.underlying64 Tryd.underlying3 hi0 hz0 (some ⟨g, 0, none⟩) k c _ hold (L.length + 1 - k) (by omega) (by omega) (by omega) (by omega) (by rw [hz2]; omega) (by rw [hz2]; exact growslice_fits (by omega) (by omega))
    rw [show k + (L.length + 1 - k) = L.length + 1 by omega, hc2] at this
    rw [show ((L.length : Int) + 1 - (k : Int)) = ((L.length + 1 - k : Nat) : Int) by omega, this, hW2, hZ]
    congr 3
    simp
  obtain ⟨g2, hg2⟩ : ∃ g2, w.heap.size = g2 := ⟨_, rfl⟩
  obtain ⟨cur2, hcur2⟩ : ∃ cur2, cur2 = (L.take k).flatMap attCells ++ Z := ⟨_, rfl⟩
  have hl2 : cur2.length = c2 * 97 := by rw [hcur2, List.length_append, hflt, hZl]; omega
  rw [← hcur2] at hW2
  have hch2 : Chg none w W2 := by rw [hW2]; exact ((Chg.refl none w).drew).alloc _
  have hb2 : BlkL W2 g2 cur2 46 := by rw [hW2, ← hg2]; exact Blk.new w.drew _ _
  have hq2 : BlkL W2 q (attCells a) 46 := Blk.chg hq hch2 (by simp)
  have hqg2 : q ≠ g2 := by omega
  have hgg2 : g ≠ g2 := by omega
  have hsp1 : k * 97 + (attCells a).length ≤ cur2.length := by rw [hl2, attCells_len]; omega
  obtain ⟨cur3, hcur3⟩ : ∃ cur3, cur3 = splice cur2 (k * 97) (attCells a) := ⟨_, rfl⟩
  have hl3 : cur3.length = cur2.length := by rw [hcur3]; exact length_splice _ _ _ hsp1
  obtain ⟨W3, hW3⟩ : ∃ W3, W3 = W2.setRow g2 cur3.toArray := ⟨_, rfl⟩
  have hcpA : ∀ ty dc, (Builtin.copy_ #[64, 64] ty #[.slice (some ⟨g2, k * 97, none⟩) (L.length + 1 - k) dc, .slice (some ⟨q, 0, none⟩) 1 1]).run Tryd.prog W2 =
      .ok (goInt (Nat.min 1 (L.length + 1 - k))) W3 := fun ty dc => by
    rw [hW3, hcur3]
    exact run_copy_rows W2 64 64 ty 46 97 g2 _ _ dc ⟨q, 0, none⟩ _ 1 cur2 46 _ Tryd.underlying64 h97 hb2 (by rw [attCells_len]; simp only [Nat.min_def]; split <;> omega)
      (fun j v hj => by
        rw [Go.WideShapes.add_plain, Nat.zero_add, BlkL.cell hq2]
        exact hj) hsp1 (ones_att a)
  have hch3 : Chg (some g2) W2 W3 := by rw [hW3]; exact chg_setRow _ _ _
  have hb3 : BlkL W3 g2 cur3 46 := by rw [hW3]; exact setRow_heap W2 g2 _ _ 46 _ hb2
  have hbg3 : BlkL W3 g cur 46 := Blk.chg (Blk.chg hb hch2 (by simp)) hch3 (by simpa using hgg2)
  have hsp2 : (k + 1) * 97 + ((L.drop k).flatMap attCells).length ≤ cur3.length := by rw [hl3, hl2, hfl]; omega
  have hcpB : ∀ ty dc sc, (Builtin.copy_ #[64, 64] ty #[.slice (some ⟨g2, (k + 1) * 97, none⟩) (L.length - k) dc, .slice (some ⟨g, k * 97, none⟩) (L.length - k) sc]).run Tryd.prog W3.drew =
      .ok (goInt (Nat.min (L.length - k) (L.length - k))) (W3.drew.setRow g2 (splice cur3 ((k + 1) * 97) ((L.drop k).flatMap attCells)).toArray) := fun ty dc sc =>
    run_copy_rows W3.drew 64 64 ty 46 97 g2 _ _ dc ⟨g, k * 97, none⟩ _ sc cur3 46 _ Tryd.underlying64 h97 hb3 (by rw [hfl]; congr 1; simp only [Nat.min_def]; split <;> omega)
      (fun j v hj => by
        rw [Go.WideShapes.add_plain]
        show W3.cell? _ = _
        rw [BlkL.cell hbg3]
        have hj1 := (List.getElem?_eq_some_iff.1 hj).1
        rw [flatA_drop, List.getElem?_drop, ← htk, List.getElem?_take_of_lt (by rw [hfl] at hj1; omega)] at hj
        exact hj) hsp2 (ones_atts _)
  have HEND : Hid (InsP w B (some ⟨g, 0, none⟩) L k a (.returned (.slice (some ⟨g2, 0, none⟩) (L.length + 1) c2)) (W3.drew.setRow g2 (splice cur3 ((k + 1) * 97) ((L.drop k).flatMap attCells)).toArray)) := Lib.hid (by
    have hch4 : Chg (some g2) W2 (W3.drew.setRow g2 (splice cur3 ((k + 1) * 97) ((L.drop k).flatMap attCells)).toArray) := (hch3.drew).trans (chg_setRow _ g2 _)
    have hch5 : Chg none w (W3.drew.setRow g2 (splice cur3 ((k + 1) * 97) ((L.drop k).flatMap attCells)).toArray) := hch2.own hch4 (by omega)
    have hb4 : BlkL (W3.drew.setRow g2 (splice cur3 ((k + 1) * 97) ((L.drop k).flatMap attCells)).toArray) g2 (splice cur3 ((k + 1) * 97) ((L.drop k).flatMap attCells)) 46 := setRow_heap W3.drew g2 _ _ 46 _ hb3
    have hins : (splice cur3 ((k + 1) * 97) ((L.drop k).flatMap attCells)).take ((L.length + 1) * 97) = (L.take k ++ a :: L.drop k).flatMap attCells := by
      have := splice_ins2 ((L.take k).flatMap attCells) Z ((L.drop k).flatMap attCells) (attCells a) hflt (attCells_len a) (by rw [hfl, hZl]; omega)
      rw [← hcur2, hfl, ← hcur3] at this
      rw [List.flatMap_append, List.flatMap_cons, ← this, show (k + 1) * 97 = k * 97 + 97 by omega]
      congr 1
      omega
    refine ⟨_, _, rfl, ⟨?_, .inr ⟨g2, c2, (splice cur3 ((k + 1) * 97) ((L.drop k).flatMap attCells)).toArray, rfl, by omega, hb4, hc2g, hc2m, ?_, ?_⟩⟩, (Kept.of_chg hch5).mono (fun _ e => by cases e), .inr ⟨g2, rfl, by omega⟩⟩
    · rw [← hins, List.length_take, length_splice _ _ _ hsp2, hl3, hl2, Nat.min_eq_left (by omega)]
    · rw [List.size_toArray, length_splice _ _ _ hsp2, hl3, hl2]
    · rw [List.toList_toArray]; exact hins)
  have mixed : Tryd.prog.follows Departure.mixedOrders = true := by kernel_rfl
  have hw1 : IntKind.i64.wrap ((k : Int) + 1) = (k : Int) + 1 := by rw [IntKind.wrap_i64]; omega
  have hb1' : (0 : Int) ≤ (k : Int) + 1 := by omega
  have htn : ((k : Int) + 1).toNat = k + 1 := by omega
  have hx1 : ¬ (c2 = k + 1) := by omega
  have hx2 : ¬ (c2 = k) := by omega
  have hx3 : (k : Int) + 1 ≤ (L.length : Int) + 1 := by omega
  have hx4 : ¬ (c = k) := by omega
  have hx5 : (k : Int) ≤ (L.length : Int) := by omega
  have hx6 : (k : Int) ≤ (L.length : Int) + 1 := by omega
  have hx7 : (k : Int) ≤ (c : Int) := by omega
  have hx8 : (L.length : Int) ≤ (c : Int) := by omega
  have hx9 : (L.length : Int) + 1 ≤ (c2 : Int) := by omega
  have hx10 : (c : Int) < (L.length : Int) + 1 := by omega
  have hx11 : decide ((c : Int) < (L.length : Int) + 1) = true := by rw [decide_eq_true_eq]; exact hx10
  have hd1 : (((k : Int)) == (L.length : Int)) = false := by simp; omega
  have hx12 : L.length + 1 - (k + 1) = L.length - k := by omega
  rw [hg2] at hap
  clear h hcur htk hsz hfl hflt hb hq hold hzs hzl hZl hZ hcur2 hW2 hch2 hb2 hq2 hqg2 hgg2 hsp1 hcur3 hl3 hl2 hW3 hch3 hb3 hbg3 hsp2 h97 hcg hi0 hz0 hz1 hz2 hB hgl hql hc2
  go_enter Tryd.func77, Tryd.ntmps77
  go_wp2_with (first
    | (at_builtin; refine Lib.wpList_append_run _ rfl _ _ _ _ rfl _ _ rfl rfl _ _ (hap _) ?_)
    | (at_builtin; refine wpList_copy_runI _ rfl _ _ 64 64 rfl _ _ rfl rfl (hcpA _ _) ?_))
  go_region_law_o (refine step_copy_runI rfl _ _ 64 64 rfl (.slice (some ⟨g2, (k + 1) * 97, none⟩) (L.length - k) (c2 - (k + 1))) (.slice (some ⟨g, k * 97, none⟩) (L.length - k) (c - k)) (by simp [Act.eval, Act.put]) (by simp [Act.eval, Act.put]) (hcpB _ _ _) ?_)
  go_wp2_with fail
  go_ret
  exact HEND.out

theorem insert_any (L : List Att) (B : Nat) (A : Option Addr) (c k : Nat) (a : Att) (w : World) (q : Nat) (h : w.ownsRow B 46 97 (.slice A L.length c) L.length (L.flatMap attCells)) (hl : L.length ≤ 1000) (hB : B ≤ w.heap.size)
    (hq : BlkL w q (attCells a) 46) (hqg : A ≠ some ⟨q, 0, none⟩) (hk : k ≤ L.length) : Calls Tryd.prog 77 #[.slice A L.length c, .int .i64 k, .slice (some ⟨q, 0, none⟩) 1 1] w (InsP w B A L k a) := by
  rcases Nat.lt_or_ge k L.length with hlt | hge
  · obtain ⟨x, hx⟩ : ∃ x, L[k]? = some x := ⟨_, List.getElem?_eq_getElem hlt⟩
    obtain ⟨g, c', e, hbg, -, -⟩ := arow_at h hx
    obtain ⟨A2, c2, e2, h1, h2⟩ := arow_form h
    injection e with e1 _ _
    injection e2 with _ _ e3
    subst e1; subst e3
    have hne : q ≠ g := fun e => hqg (by rw [e])
    rcases Nat.lt_or_ge c (L.length + 1) with hg | hr
    · exact insert_grow L B g c k a w q h hl hB hq hlt h1 hg
    · exact insert_room L B g c k a w q h hl hq hne hlt hr (by unfold maxLen at h2; omega)
  · obtain rfl : k = L.length := by omega
    exact insert_end L B A c a w q h hl hB hq
end

section
open Go.RowKit

def posA (L : List Att) (a : Att) : Nat := (L.takeWhile (fun y => lessB y a)).length
theorem AtA.pos {a : Att} : ∀ {L : List Att} {k : Nat}, AtA L a k → k = posA L a
  | [], k, h => by have := h.1; simpa [posA] using this
  | x :: L, 0, h => by
    have := h.2.2 0 x (Nat.le_refl _) rfl
    simp [posA, this]
  | x :: L, k + 1, h => by
    have hx := h.2.1 0 x (Nat.zero_lt_succ _) rfl
    have := AtA.pos (L := L) (k := k) ⟨by have := h.1; simp at this; omega, fun j y hj hy => h.2.1 (j + 1) y (by omega) (by simpa using hy), fun j y hj hy => h.2.2 (j + 1) y (by omega) (by simpa using hy)⟩
    unfold posA at this ⊢
    rw [List.takeWhile_cons, hx, if_pos rfl, List.length_cons, ← this]
/-- The set behind Add, and what it tells. -/
def putA (L : List Att) (a : Att) : List Att := (L.take (posA L a) ++ a :: L.drop (posA L a)).take 200
def addM (L : List Att) (a : Att) : List Att × Int :=
  if mayB a.n then (if a ∈ L then (L, 7) else if 200 ≤ posA L a then (L, 8) else (putA L a, 0)) else (L, 2)
theorem sortA_iff (L : List Att) : SortA L ↔ L.Pairwise (fun x y => lessB x y = true) := by
  rw [List.pairwise_iff_getElem]
  constructor
  · intro h i j hi hj hij
    exact h i j _ _ hij (List.getElem?_eq_getElem hi) (List.getElem?_eq_getElem hj)
  · intro h i j x y hij hx hy
    obtain ⟨h1, rfl⟩ := List.getElem?_eq_some_iff.1 hx
    obtain ⟨h2, rfl⟩ := List.getElem?_eq_some_iff.1 hy
    exact h i j h1 h2 hij
theorem putA_sort {L : List Att} {a : Att} (hs : SortA L) (hb : ∀ x ∈ L, Big x.n) (ha : Big a.n) (hn : a ∉ L) (h : AtA L a (posA L a)) : SortA (putA L a) := by
  rw [sortA_iff] at hs ⊢
  generalize hk : posA L a = k at h
  unfold putA
  rw [hk]
  refine List.Pairwise.sublist (List.take_sublist _ _) ?_
  have hsp : (L.take k ++ L.drop k).Pairwise (fun x y => lessB x y = true) := by rw [List.take_append_drop]; exact hs
  rw [List.pairwise_append] at hsp ⊢
  have hlt : ∀ x ∈ L.take k, lessB x a = true := fun x hx => by
    obtain ⟨j, hj, rfl⟩ := List.getElem_of_mem hx
    rw [List.length_take] at hj
    rw [List.getElem_take]
    exact h.2.1 j _ (by omega) (List.getElem?_eq_getElem (by omega))
  have hgt : ∀ y ∈ L.drop k, lessB a y = true := fun y hy => by
    obtain ⟨j, hj, rfl⟩ := List.getElem_of_mem hy
    rw [List.length_drop] at hj
    rw [List.getElem_drop]
    have h1 := h.2.2 (k + j) _ (by omega) (List.getElem?_eq_getElem (by omega))
    have hm : L[k + j]'(by omega) ∈ L := List.getElem_mem _
    cases hq : lessB a (L[k + j]'(by omega)) with
    | true => rfl
    | false => exact absurd (lessB_none _ _ ha (hb _ hm) hq h1) (fun e => hn (e ▸ hm))
  refine ⟨hsp.1, List.pairwise_cons.2 ⟨hgt, hsp.2.1⟩, fun x hx y hy => ?_⟩
  rcases List.mem_cons.1 hy with rfl | hy
  · exact hlt x hx
  · exact hsp.2.2 x hx y hy
theorem putA_len (L : List Att) (a : Att) : (putA L a).length ≤ 200 := by unfold putA; rw [List.length_take]; omega
theorem mem_putA {L : List Att} {a x : Att} (h : x ∈ putA L a) : x = a ∨ x ∈ L := by
  have h := List.mem_of_mem_take h
  rcases List.mem_append.1 h with h | h
  · exact .inr (List.mem_of_mem_take h)
  · rcases List.mem_cons.1 h with h | h
    · exact .inl h
    · exact .inr (List.mem_of_mem_drop h)
theorem sort_at {L : List Att} (hs : SortA L) (a : Att) : AtA L a (posA L a) := by
  have key : ∀ (L : List Att), SortA L → AtA L a (posA L a) := by
    intro L
    induction L with
    | nil => intro _; exact ⟨Nat.le_refl _, fun j y _ h => by simp at h, fun j y _ h => by simp at h⟩
    | cons x L ih =>
      intro hs
      rw [sortA_iff, List.pairwise_cons] at hs
      cases hx : lessB x a with
      | true =>
        obtain ⟨h1, h2, h3⟩ := ih ((sortA_iff L).2 hs.2)
        have e : posA (x :: L) a = posA L a + 1 := by unfold posA; rw [List.takeWhile_cons, hx, if_pos rfl, List.length_cons]
        rw [e]
        refine ⟨by simp; omega, fun j y hj hy => ?_, fun j y hj hy => ?_⟩
        · cases j with
          | zero => simp at hy; rw [← hy]; exact hx
          | succ j => exact h2 j y (by omega) (by simpa using hy)
        · cases j with
          | zero => omega
          | succ j => exact h3 j y (by omega) (by simpa using hy)
      | false =>
        have e : posA (x :: L) a = 0 := by unfold posA; rw [List.takeWhile_cons, hx]; rfl
        rw [e]
        refine ⟨Nat.zero_le _, fun j y hj => by omega, fun j y _ hy => ?_⟩
        cases j with
        | zero => simp at hy; rw [← hy]; exact hx
        | succ j =>
          have hm : y ∈ L := List.mem_of_getElem? (by simpa using hy)
          cases hq : lessB y a with
          | false => rfl
          | true => exact absurd (lessB_trans x y a (hs.1 y hm) hq) (by rw [hx]; decide)
  exact key L hs
theorem addM_ok {L : List Att} (ok : OkA L) (a : Att) : OkA (addM L a).1 := by
  unfold addM
  cases hm : mayB a.n with
  | false => exact ok
  | true =>
    rw [if_pos rfl]
    by_cases h1 : a ∈ L
    · rw [if_pos h1]; exact ok
    · rw [if_neg h1]
      by_cases h2 : 200 ≤ posA L a
      · rw [if_pos h2]; exact ok
      · rw [if_neg h2]
        refine ⟨putA_sort ok.sort (fun x hx => may_big (ok.may x hx)) (may_big hm) h1 (sort_at ok.sort a), putA_len L a, fun x hx => ?_⟩
        rcases mem_putA hx with rfl | hx
        · exact hm
        · exact ok.may x hx
theorem own_take {w : World} {B n m c : Nat} {A : Option Addr} {L : List Att} (h : w.ownsRow B 46 97 (.slice A n c) n (L.flatMap attCells)) (hn : L.length = n) (hm : m ≤ n) : w.ownsRow B 46 97 (.slice A m c) m ((L.take m).flatMap attCells) := by
  refine ⟨by rw [flatA_len, List.length_take]; omega, ?_⟩
  rcases h.2 with ⟨e, h0⟩ | ⟨g, cap, cur, e, hb, hg, h1, h2, h3, h4⟩
  · injection e with e1 e2 e3
    subst e1; subst e2; subst e3
    obtain rfl : m = 0 := by omega
    exact .inl ⟨rfl, rfl⟩
  · injection e with e1 e2 e3
    subst e1; subst e3
    refine .inr ⟨g, c, cur, rfl, hb, hg, by omega, h2, h3, ?_⟩
    rw [flatA_take, ← h4, List.take_take, Nat.min_eq_left (by omega)]
end

end Go.Proofs.YtkcammaccgkflaaDoor
