/-
  Package adverts: Add, Copy, Of (merged).
-/
import Derived.Test.YtkcammaccgkflaaDoorZC
import Derived.Great.FillDense
import Derived.Great.BuildSlice
import Derived.Laws.Externs
namespace Go.Proofs.YtkcammaccgkflaaDoor

section
open Go.RowKit

theorem fill46 (a : Att) (ie : TypeInfo) (hs : ie.size = 97) :
    Instr.fill (fun i => some (i * ie.size, ie.size)) ((Array.range (1 * ie.size)).map ((Value.agg (attCells attZero).toArray).cells[· % (Value.agg (attCells attZero).toArray).cells.size]!)) [(0, .agg (attCells a).toArray)] = some (attCells a).toArray := by
  rw [hs]
  have hc : (Value.agg (attCells a).toArray).cells = (attCells a).toArray := rfl
  have := Great.fill_whole (s := 97) (by decide) [.agg (attCells a).toArray] ((Array.range (1 * 97)).map ((Value.agg (attCells attZero).toArray).cells[· % (Value.agg (attCells attZero).toArray).cells.size]!)) (by intro v hv; simp at hv; subst hv; rw [hc, List.size_toArray, attCells_len]) (by simp)
  refine this.trans ?_
  simp [hc]
theorem SetAt.ne {w : World} {B p : Nat} {A : Option Addr} {c : Nat} {L : List Att} (h : SetAt w B p A c L) {A' : Option Addr} {n c' : Nat} {xs : List Value} (k : w.ownsRow B 46 97 (.slice A' n c') n xs) : A' ≠ some ⟨p, 0, none⟩ := fun e => by
  subst e
  rcases k.2 with ⟨e, -⟩ | ⟨g, cap, cur, e, -, hg, -⟩
  · cases e
  · injection e with e1 _ _
    injection e1 with e1
    injection e1 with e1 _ _
    subst e1
    have h1 := h.hd
    unfold Blk at h1
    rw [h1] at hg
    injection hg with hg
    injection hg with _ e2 _
    cases e2
def AddP (w : World) (B p : Nat) (A : Option Addr) (L : List Att) (a : Att) (e : Ending) (w' : World) : Prop :=
  e = .returned (.int .i64 (addM L a).2) ∧ ∃ A' c', SetAt w' B p A' c' (addM L a).1 ∧ Kept (setS p A) w w' ∧ (A' = A ∨ ∃ g, A' = some ⟨g, 0, none⟩ ∧ w.heap.size ≤ g)
theorem add_nil (a : Att) (w : World) : Calls Tryd.prog 45 #[.pointer none, .agg (attCells a).toArray] w fun e w' => e = .returned (.int .i64 1) ∧ Chg none w w' := by
  have HE : Hid (∀ C, Chg none w (w.alloc (.cells C 46))) := Lib.hid fun C => (Chg.refl _ _).alloc _
  generalize (attCells a).toArray = CA
  go_enter Tryd.func45, Tryd.ntmps45
  go_wp2
  go_ret
  exact ⟨rfl, HE.out _⟩
theorem bytes_any (a : Att) (w : World) (hm : mayB a.n = true) : Calls Tryd.prog 35 #[.agg (attCells a).toArray] w fun e w' =>
    ∃ A c, e = .returned (.tuple #[.slice A 104 c, .int .i64 0]) ∧ w'.ownsRow w.heap.size 5 1 (.slice A 104 c) 104 (byteVals (attBytes a (u64n a.n))) ∧ Chg none w w' := by
  have h2 : 1 ≤ a.n ∧ a.n ≤ 5000 := by unfold mayB at hm; simpa using hm
  exact bytes_yes a (u64n a.n) w (by unfold u64n; omega) hm
theorem own_ne {w : World} {B p : Nat} {A : Option Addr} {x : Value} {n c : Nat} {xs : List Value} (k : w.ownsRow B 46 97 (.slice A n c) n xs) (h : Blk w p #[x] 82) : (Value.slice A n c).ownBlock ≠ some p := fun e => by
  rcases k.2 with ⟨e1, -⟩ | ⟨g, cap, cur, e1, -, hg, -⟩
  · rw [e1] at e; cases e
  · rw [e1] at e
    obtain rfl : g = p := by simpa [Value.ownBlock] using e
    unfold Blk at h
    rw [h] at hg
    injection hg with hg
    injection hg with _ e2 _
    cases e2
theorem own_off {w : World} {B q : Nat} {A : Option Addr} {n c : Nat} {xs : List Value} (k : w.ownsRow B 46 97 (.slice A n c) n xs) (e : A = some ⟨q, 0, none⟩) (hq : w.heap.size ≤ q) : False := by
  rcases k.2 with ⟨e1, -⟩ | ⟨g, cap, cur, e1, -, hg, -⟩
  · injection e1 with e1 _ _; rw [e] at e1; cases e1
  · injection e1 with e1 _ _
    rw [e] at e1
    injection e1 with e1
    injection e1 with e1 _ _
    have := (Array.getElem?_eq_some_iff.1 hg).1
    omega
theorem own_cap {w : World} {B : Nat} {A : Option Addr} {n c : Nat} {xs : List Value} (k : w.ownsRow B 46 97 (.slice A n c) n xs) : n ≤ c := by
  rcases k.2 with ⟨e1, h0⟩ | ⟨g, cap, cur, e1, -, hg, h, -⟩
  · omega
  · injection e1 with _ _ e; rw [e]; exact h
theorem own_setO {w : World} {B p : Nat} {v x : Value} {n : Nat} {xs : List Value} (k : w.ownsRow B 46 97 v n xs) (h : v.ownBlock ≠ some p) : (w.setCell ⟨p, 0, none⟩ x).ownsRow B 46 97 v n xs :=
  own_keep (S := fun g => g = p) k ((Kept.refl _ w).setCell _ _ (.inl rfl)) (fun g hg e => h (by rw [hg, e]))
theorem range_set {w : World} {b o p : Nat} {x : Value} {cs : List Value} (h : w.rangeAt b o cs) (hne : p ≠ b) : (w.setCell ⟨p, 0, none⟩ x).rangeAt b o cs := fun j v hj => by
  rw [← h j v hj]
  unfold World.cell?
  rw [Below.heap_setCell w ⟨p, 0, none⟩ x b (fun e => hne e.symm)]
/-- What is there behind the last store. -/
theorem add_end {w u w7 : World} {B p : Nat} {A A' : Option Addr} {c c' n m k : Nat} {L : List Att} {a : Att} (hkk : posA L a = k) (hch : Chg none w u) (h : SetAt u B p A c L) (he : addM L a = (putA L a, 0))
    (hb : Blk w7 p #[.slice A' m c'] 82) (hown : w7.ownsRow B 46 97 (.slice A' n c') n ((L.take k ++ a :: L.drop k).flatMap attCells)) (hn : n = L.length + 1) (hm : m = min 200 n) (hp : k ≤ L.length)
    (hk : Kept (setS p A) u w7) (hor : A' = A ∨ ∃ g, A' = some ⟨g, 0, none⟩ ∧ u.heap.size ≤ g) : AddP w B p A L a (.returned (.int .i64 0)) w7 := by
  subst hkk
  unfold AddP
  rw [he]
  have hl : (L.take (posA L a) ++ a :: L.drop (posA L a)).length = n := by rw [List.length_append, List.length_take, List.length_cons, List.length_drop, hn]; omega
  have hpl : (putA L a).length = m := by unfold putA; rw [List.length_take, hl, hm]
  refine ⟨rfl, A', c', ⟨by rw [hpl]; exact hb, h.low, ?_⟩, ((Kept.of_chg hch).mono (fun _ e => by cases e)).then hk (fun g hg => .inl hg), ?_⟩
  · rw [hpl]
    unfold putA
    have hmn : m ≤ n := by rw [hm]; exact Nat.min_le_right _ _
    have := own_take hown hl hmn
    rw [hm] at this ⊢
    rcases Nat.le_total 200 n with h2 | h2
    · rw [Nat.min_eq_left h2] at this ⊢; exact this
    · rw [Nat.min_eq_right h2] at this ⊢
      rwa [List.take_of_length_le (by omega)] at this ⊢
  · rcases hor with e | ⟨g, e, hg⟩
    · exact .inl e
    · exact .inr ⟨g, e, Nat.le_trans hch.size hg⟩
set_option maxRecDepth 100000 in
set_option maxHeartbeats 16000000 in
theorem add_any (w : World) (B p : Nat) (A : Option Addr) (c : Nat) (L : List Att) (a : Att) (h : SetAt w B p A c L) (ok : OkA L) :
    Calls Tryd.prog 45 #[.pointer (some ⟨p, 0, none⟩), .agg (attCells a).toArray] w (AddP w B p A L a) := by
  obtain ⟨W, hW⟩ : ∃ W, W = w.alloc (.cells (attCells a).toArray 46) := ⟨_, rfl⟩
  have g0 : Chg none w W := by rw [hW]; exact (Chg.refl _ _).alloc _
  obtain ⟨pX, hpX⟩ : ∃ pX, w.heap.size = pX := ⟨_, rfl⟩
  have bA : BlkL W pX (attCells a) 46 := by rw [hW, ← hpX]; exact Blk.new _ _ _
  have h' := h.chg g0
  have HRA : Hid (∀ v, Chg none W v → v.rangeAt pX 0 (attCells a)) := Lib.hid fun v g => Blk.range (Blk.chg bA g (by simp))
  have HC : Hid (∀ v, Chg none W v → v.cell? ⟨p, 0, none⟩ = some (.slice A L.length c)) := Lib.hid fun v g => (h'.chg g).cell
  have HAX : Hid (A ≠ some ⟨pX, 0, none⟩) := Lib.hid fun e => own_off h.ow (by rw [e]) (Nat.le_of_eq hpX)
  have HIA := Lib.hid (info46 a)
  have HW := Lib.hid hW
  have HG0 := Lib.hid g0
  have HKEEP : Hid (∀ v z, Chg none W v → (addM L a) = (L, z) → AddP w B p A L a (.returned (.int .i64 z)) v) := Lib.hid fun v z g e => by
    unfold AddP
    rw [e]
    exact ⟨rfl, A, c, h'.chg g, (Kept.of_chg (g0.trans g)).mono (fun _ e => by cases e), .inl rfl⟩
  have HR0 := Lib.hid (HRA.out W (Chg.refl _ _))
  cases hm : mayB a.n with
  | false =>
    have HM : Hid (addM L a = (L, 2)) := Lib.hid (by unfold addM; rw [hm]; rfl)
    have HBY := Lib.hid (bytes_no a · hm)
    clear hW bA g0 h h' ok hm
    go_enter Tryd.func45, Tryd.ntmps45
    go_upto_region 3 with fail
    rw [← HW.out]
    go_wp2_with (refine wpList_load_mid rfl 46 _ rfl pX 0 rfl (attCells a) _ HR0.out Tryd.underlying46 rfl HIA.out ?_)
    refine (HBY.out _).mono ?_
    rintro e w1 ⟨rfl, g1⟩
    go_wp2_with fail
    go_ret
    exact HKEEP.out w1 2 g1 HM.out
  | true =>
    have hbig : ∀ x ∈ L, Big x.n := fun x hx => may_big (ok.may x hx)
    have ha : Big a.n := may_big hm
    have HBY := Lib.hid (bytes_any a · hm)
    have HBS : Hid (∀ v, Chg none W v → Calls Tryd.prog 75 #[.slice A L.length c, .agg (attCells a).toArray, .func (.func 76) #[] #[]] v fun e w' => ∃ k, AtA L a k ∧ e = .returned (.tuple #[.int .i64 (k : Nat), .bool (hitA L a k)]) ∧ Chg none v w') :=
      Lib.hid fun v g => bsearch_any L B A c a v (h'.chg g).ow hbig ha (by have := ok.len; omega) ok.sort
    have HHT : Hid (∀ k, AtA L a k → hitA L a k = decide (a ∈ L)) := Lib.hid fun k hk => hitA_mem ok.sort hbig ha hk
    have HLN := Lib.hid ok.len
    have HM7 : Hid (a ∈ L → addM L a = (L, 7)) := Lib.hid fun e => by unfold addM; rw [hm, if_pos rfl, if_pos e]
    have HM8 : Hid (a ∉ L → 200 ≤ posA L a → addM L a = (L, 8)) := Lib.hid fun e e2 => by unfold addM; rw [hm, if_pos rfl, if_neg e, if_pos e2]
    have HM0 : Hid (a ∉ L → ¬ 200 ≤ posA L a → addM L a = (putA L a, 0)) := Lib.hid fun e e2 => by unfold addM; rw [hm, if_pos rfl, if_neg e, if_neg e2]
    have HSET := Lib.hid h'
    have HBX := Lib.hid bA
    have HPX := Lib.hid hpX
    have HLO := Lib.hid h.hd
    clear hW bA g0 h h' ok hm hbig ha
    go_enter Tryd.func45, Tryd.ntmps45
    go_upto_region 3 with fail
    rw [← HW.out]
    clear hpX
    go_upto_region 4 with (refine wpList_load_mid rfl 46 _ rfl pX 0 rfl (attCells a) _ HR0.out Tryd.underlying46 rfl HIA.out ?_)
    refine (HBY.out _).mono ?_
    rintro e w1 ⟨A0, c0, rfl, -, g1⟩
    clear HBY
    go_upto_region 6 with fail
    have hS0 : Chg none W w1.drew := g1.drew
    clear g1
    refine wp_region_held_drew (S := fun v => Chg none W v) (by kernel_rfl) hS0 (fun _ => ?_)
    generalize w1.drew = v0 at *
    refine wpAnyH_take (i := 0) (oi := ⟨some 19, _, _, _, _, _⟩) (v := ?_) rfl (by kernel_rfl) (by kernel_rfl) (by kernel_rfl) (fun _ _ _ h => h) (Or.inl ⟨by rfl, ?_⟩) (by assumption) ?_
    rotate_left
    · intro v hSv; (try dsimp only at hSv); skip; go_simp; (try with_reducible rfl)
    try simp only [Act.put, List.setIfInBounds_toArray, List.set_cons_zero, List.set_cons_succ]
    refine wpAnyH_take (i := 1) (oi := ⟨some 20, _, _, _, _, _⟩) (v := ?_) rfl (by kernel_rfl) (by kernel_rfl) (by kernel_rfl) (fun _ _ _ h => h) (Or.inl ⟨by rfl, ?_⟩) (by assumption) ?_
    rotate_left
    · intro v hSv; (try dsimp only at hSv); skip; go_simp; (try with_reducible rfl)
    try simp only [Act.put, List.setIfInBounds_toArray, List.set_cons_zero, List.set_cons_succ]
    refine wpAnyH_take (i := 2) (oi := ⟨some 21, _, _, _, _, _⟩) (v := ?_) rfl (by kernel_rfl) (by kernel_rfl) (by kernel_rfl) (fun _ _ _ h => h) (Or.inl ⟨by rfl, ?_⟩) (by assumption) ?_
    rotate_left
    · intro v hSv; (try dsimp only at hSv); skip; go_simp; (try with_reducible rfl)
    try simp only [Act.put, List.setIfInBounds_toArray, List.set_cons_zero, List.set_cons_succ]
    refine wpAnyH_take (i := 3) (oi := ⟨some 22, _, _, _, _, _⟩) (v := .slice A L.length c) rfl (by kernel_rfl) (by kernel_rfl) (by kernel_rfl) (fun _ _ _ h => h) (Or.inl ⟨by rfl, ?_⟩) (by assumption) ?_
    · intro v hSv; have z := HC.out v hSv; go_simp
    try simp only [Act.put, List.setIfInBounds_toArray, List.set_cons_zero, List.set_cons_succ]
    refine wpAnyH_take (i := 4) (oi := ⟨some 23, _, _, _, _, _⟩) (v := .agg (attCells a).toArray) rfl (by kernel_rfl) (by kernel_rfl) (by kernel_rfl) (fun _ _ _ h => h) (yieldsIf_load_mid (by rfl) 46 _ rfl pX 0 rfl (attCells a) _ (fun v h => HRA.out v h) Tryd.underlying46 rfl HIA.out) (by assumption) ?_
    try simp only [Act.put, List.setIfInBounds_toArray, List.set_cons_zero, List.set_cons_succ]
    refine wpAnyH_ready (rs := [5]) (by kernel_rfl) (by simp) ?_
    refine AllReadyH.cons (o := ⟨some 24, _, _, _, _, _⟩) rfl (fun K hK => ?_) (AllReadyH.nil)
    go_simp
    go_at_call 75
    refine (HBS.out _ (by assumption)).mono ?_
    rintro e v1 ⟨k, hk, rfl, g1⟩
    have HK := Lib.hid hk
    clear hk
    have hS1 := hS0.trans g1
    go_wp2_with fail
    refine hK.out _ _ hS1 (fun _ => ?_)
    clear hK K
    try simp only [Act.put, List.setIfInBounds_toArray, List.set_cons_zero, List.set_cons_succ]
    refine wpAnyH_take (i := 6) (oi := ⟨some 18, _, _, _, _, _⟩) (v := ?_) rfl (by kernel_rfl) (by kernel_rfl) (by kernel_rfl) (fun _ _ _ h => h) (Or.inl ⟨by rfl, ?_⟩) (by assumption) ?_
    rotate_left
    · intro v hSv; (try dsimp only at hSv); skip; go_simp; (try with_reducible rfl)
    try simp only [Act.put, List.setIfInBounds_toArray, List.set_cons_zero, List.set_cons_succ]
    refine wpAnyH_take (i := 7) (oi := ⟨some 25, _, _, _, _, _⟩) (v := ?_) rfl (by kernel_rfl) (by kernel_rfl) (by kernel_rfl) (fun _ _ _ h => h) (Or.inl ⟨by rfl, ?_⟩) (by assumption) ?_
    rotate_left
    · intro v hSv; (try dsimp only at hSv); skip; go_simp; (try with_reducible rfl)
    try simp only [Act.put, List.setIfInBounds_toArray, List.set_cons_zero, List.set_cons_succ]
    refine wpAnyH_take (i := 8) (oi := ⟨some 26, _, _, _, _, _⟩) (v := ?_) rfl (by kernel_rfl) (by kernel_rfl) (by kernel_rfl) (fun _ _ _ h => h) (Or.inl ⟨by rfl, ?_⟩) (by assumption) ?_
    rotate_left
    · intro v hSv; (try dsimp only at hSv); skip; go_simp; (try with_reducible rfl)
    try simp only [Act.put, List.setIfInBounds_toArray, List.set_cons_zero, List.set_cons_succ]
    refine wpAnyH_take (i := 9) (oi := ⟨some 7, _, _, _, _, _⟩) (v := ?_) rfl (by kernel_rfl) (by kernel_rfl) (by kernel_rfl) (fun _ _ _ h => h) (Or.inl ⟨by rfl, ?_⟩) (by assumption) ?_
    rotate_left
    · intro v hSv; (try dsimp only at hSv); skip; go_simp; (try with_reducible rfl)
    try simp only [Act.put, List.setIfInBounds_toArray, List.set_cons_zero, List.set_cons_succ]
    refine wpAnyH_take (i := 10) (oi := ⟨some 8, _, _, _, _, _⟩) (v := ?_) rfl (by kernel_rfl) (by kernel_rfl) (by kernel_rfl) (fun _ _ _ h => h) (Or.inl ⟨by rfl, ?_⟩) (by assumption) ?_
    rotate_left
    · intro v hSv; (try dsimp only at hSv); skip; go_simp; (try with_reducible rfl)
    try simp only [Act.put, List.setIfInBounds_toArray, List.set_cons_zero, List.set_cons_succ]
    refine wpAnyH_done (by kernel_rfl) ?_ _
    try simp only [Act.put]
    have hpos := HK.out.pos
    have HAL := Lib.hid HK.out.1
    have hht := HHT.out k HK.out
    subst hpos
    clear HHT HBS HK
    by_cases hin : a ∈ L
    · rw [hht, decide_eq_true hin]
      have HM := Lib.hid (HM7.out hin)
      go_wp2_with fail
      go_ret
      exact HKEEP.out v1 7 hS1 HM.out
    · rw [hht, decide_eq_false hin]
      clear hht
      by_cases h200 : 200 ≤ posA L a
      · have HM := Lib.hid (HM8.out hin h200)
        have hd : decide ((200 : Int) ≤ (posA L a : Int)) = true := by rw [decide_eq_true_eq]; omega
        go_wp2_with fail
        go_ret
        exact HKEEP.out v1 8 hS1 HM.out
      · have HM := Lib.hid (HM0.out hin h200)
        have hd : decide ((200 : Int) ≤ (posA L a : Int)) = false := by rw [decide_eq_false_iff_not]; omega
        clear HM7 HM8 HM0 HKEEP h200 hin
        obtain ⟨i0, hi0, hz0, hz1, hz2⟩ := zinfo46
        have HS1 := Lib.hid (HSET.out.chg hS1.drew)
        have HX1 : Hid (BlkL v1.drew pX (attCells a) 46) := Lib.hid (Blk.chg HBX.out hS1.drew (by simp))
        have HCH : Hid (Chg none w v1.drew) := Lib.hid (HG0.out.trans hS1.drew)
        have HFI := Lib.hid (fill46 a i0 hz1)
        obtain ⟨k, HKP⟩ : ∃ k, Hid (posA L a = k) := ⟨_, Lib.hid rfl⟩
        rw [HKP.out] at hd HAL ⊢
        clear hS1 HC HRA HSET HBX
        go_upto_region 11 with fail
        refine wp_region_held_drew (S := fun v => v.rangeAt pX 0 (attCells a)) (by kernel_rfl) (Blk.range HX1.out) (fun _ => ?_)
        generalize v1.drew = v2 at *
        have z1 := HS1.out.cell
        obtain ⟨u, hu⟩ : ∃ u, u = v2.alloc (.cells (attCells a).toArray 46) := ⟨_, rfl⟩
        have HU := Lib.hid hu
        have hchu : Chg none v2 u := by rw [hu]; exact (Chg.refl _ _).alloc _
        have HSU := Lib.hid (HS1.out.chg hchu)
        have HVU := Lib.hid hchu.size
        have z2 := HSU.out.cell
        have HXU : Hid (u.rangeAt pX 0 (attCells a)) := Lib.hid (Blk.range (Blk.chg HX1.out hchu (by simp)))
        have HCU : Hid (Chg none w u) := Lib.hid (HCH.out.trans hchu)
        have HQ : Hid (BlkL u v2.heap.size (attCells a) 46) := Lib.hid (by rw [hu]; exact Blk.new _ _ _)
        have HAF : Hid (A ≠ some ⟨v2.heap.size, 0, none⟩) := Lib.hid fun e => own_off HS1.out.ow (by rw [e]) (Nat.le_refl _)
        have HPXL := Lib.hid (Blk.lt HX1.out)
        have HPP : Hid (p ≠ pX) := Lib.hid (by have := Blk.lt HLO.out; have := HPX.out; omega)
        have HIN := Lib.hid (insert_any L B A c k a u v2.heap.size HSU.out.ow (by have := HLN.out; omega) (Nat.le_trans HSU.out.low (Nat.le_of_lt (Blk.lt HSU.out.hd))) HQ.out (fun e => HAF.out (by rw [e])) HAL.out)
        have HB6F : Hid (∀ w6, Kept (fun g => A = some ⟨g, 0, none⟩) u w6 → Blk w6 p #[.slice A L.length c] 82) := Lib.hid fun w6 hk => (hk.block p (Blk.lt HSU.out.hd) (HSU.out.ne HSU.out.ow)).trans HSU.out.hd
        have HR6F : Hid (∀ w6, Kept (fun g => A = some ⟨g, 0, none⟩) u w6 → w6.rangeAt pX 0 (attCells a)) := Lib.hid fun w6 hk j v hj => by
          rw [← HXU.out j v hj]
          unfold World.cell?
          rw [hk.block pX (Nat.lt_of_lt_of_le HPXL.out HVU.out) HAX.out]
        clear hchu hu
        refine wpAnyH_take (i := 0) (oi := ⟨some 30, _, _, _, _, _⟩) (v := ?_) rfl (by kernel_rfl) (by kernel_rfl) (by kernel_rfl) (fun _ _ _ h => h) (Or.inl ⟨by rfl, ?_⟩) (by assumption) ?_
        rotate_left
        · intro v hSv; (try dsimp only at hSv); skip; go_simp; (try with_reducible rfl)
        try simp only [Act.put, List.setIfInBounds_toArray, List.set_cons_zero, List.set_cons_succ]
        refine wpAnyH_take (i := 1) (oi := ⟨some 31, _, _, _, _, _⟩) (v := ?_) rfl (by kernel_rfl) (by kernel_rfl) (by kernel_rfl) (fun _ _ _ h => h) (Or.inl ⟨by rfl, ?_⟩) (by assumption) ?_
        rotate_left
        · intro v hSv; (try dsimp only at hSv); skip; go_simp; (try with_reducible rfl)
        try simp only [Act.put, List.setIfInBounds_toArray, List.set_cons_zero, List.set_cons_succ]
        refine wpAnyH_take (i := 2) (oi := ⟨some 32, _, _, _, _, _⟩) (v := ?_) rfl (by kernel_rfl) (by kernel_rfl) (by kernel_rfl) (fun _ _ _ h => h) (Or.inl ⟨by rfl, ?_⟩) (by assumption) ?_
        rotate_left
        · intro v hSv; (try dsimp only at hSv); skip; go_simp; (try with_reducible rfl)
        try simp only [Act.put, List.setIfInBounds_toArray, List.set_cons_zero, List.set_cons_succ]
        refine wpAnyH_take (i := 3) (oi := ⟨some 33, _, _, _, _, _⟩) (v := ?_) rfl (by kernel_rfl) (by kernel_rfl) (by kernel_rfl) (fun _ _ _ h => h) (Or.inl ⟨by rfl, ?_⟩) (by assumption) ?_
        rotate_left
        · intro v hSv; (try dsimp only at hSv); skip; go_simp; (try with_reducible rfl)
        try simp only [Act.put, List.setIfInBounds_toArray, List.set_cons_zero, List.set_cons_succ]
        refine wpAnyH_take (i := 5) (oi := ⟨some 35, _, _, _, _, _⟩) (v := ?_) rfl (by kernel_rfl) (by kernel_rfl) (by kernel_rfl) (fun _ _ _ h => h) (Or.inl ⟨by rfl, ?_⟩) (by assumption) ?_
        rotate_left
        · intro v hSv; (try dsimp only at hSv); skip; go_simp; (try with_reducible rfl)
        try simp only [Act.put, List.setIfInBounds_toArray, List.set_cons_zero, List.set_cons_succ]
        refine wpAnyH_take (i := 6) (oi := ⟨some 36, _, _, _, _, _⟩) (v := .agg (attCells a).toArray) rfl (by kernel_rfl) (by kernel_rfl) (by kernel_rfl) (fun _ _ _ h => h) (yieldsIf_load_mid (by rfl) 46 _ rfl pX 0 rfl (attCells a) _ (fun v h => h) Tryd.underlying46 rfl HIA.out) (by assumption) ?_
        try simp only [Act.put, List.setIfInBounds_toArray, List.set_cons_zero, List.set_cons_succ]
        refine wpAnyH_ready (rs := [4, 7]) (by kernel_rfl) (by simp) ?_
        refine AllReadyH.cons (o := ⟨some 34, _, _, _, _, _⟩) rfl (fun K hK => ?_) (AllReadyH.cons (o := ⟨some 37, _, _, _, _, _⟩) rfl (fun K hK => ?_) (AllReadyH.nil))
        · go_simp
          refine hK.out _ _ (by first | exact Blk.range HX1.out | exact HXU.out) (fun _ => ?_)
          clear hK K
          try simp only [Act.put, List.setIfInBounds_toArray, List.set_cons_zero, List.set_cons_succ]
          refine wpAnyH_ready (rs := [7]) (by kernel_rfl) (by simp) ?_
          refine AllReadyH.cons (o := ⟨some 37, _, _, _, _, _⟩) rfl (fun K hK => ?_) (AllReadyH.nil)
          refine wp_buildSlice 64 46 1 _ (by rfl) (attCells a).toArray i0 (.agg (attCells attZero).toArray) Tryd.underlying64 hi0 hz0 (by rw [hz1]; decide) (by rw [hz1]; decide) (by simp only [List.map_toArray, List.map_cons, List.map_nil]; exact HFI.out) ?_
          rw [← HU.out]
          refine hK.out _ _ HXU.out (fun _ => ?_)
          clear hK K
          try simp only [Act.put, List.setIfInBounds_toArray, List.set_cons_zero, List.set_cons_succ]
          refine wpAnyH_ready (rs := [8]) (by kernel_rfl) (by simp) ?_
          refine AllReadyH.cons (o := ⟨some 38, _, _, _, _, _⟩) rfl (fun K hK => ?_) (AllReadyH.nil)
          go_simp
          go_at_call 77
          refine HIN.out.mono ?_
          rintro e w6 ⟨A', c', rfl, hown, hkp, hor⟩
          have HNE := Lib.hid (own_ne hown (HB6F.out w6 hkp))
          have HCC := Lib.hid (own_cap hown)
          have hb6 := HB6F.out w6 hkp
          have z6 : w6.cell? ⟨p, 0, none⟩ = some (.slice A L.length c) := by rw [hb6.cell]; rfl
          have f6 := hb6.frozen 0
          have HR6 : Hid (w6.rangeAt pX 0 (attCells a)) := Lib.hid (HR6F.out w6 hkp)
          have HB7 : Hid (Blk (w6.setCell ⟨p, 0, none⟩ (.slice A' (L.length + 1) c')) p #[.slice A' (L.length + 1) c'] 82) := Lib.hid (hb6.set 0 _)
          have HO7 := Lib.hid (own_setO (x := .slice A' (L.length + 1) c') hown HNE.out)
          have HK7 : Hid (Kept (setS p A) u (w6.setCell ⟨p, 0, none⟩ (.slice A' (L.length + 1) c'))) := Lib.hid ((hkp.mono (fun g e => .inr e)).setCell _ _ (.inl (.inl rfl)))
          have HR7 : Hid ((w6.setCell ⟨p, 0, none⟩ (.slice A' (L.length + 1) c')).rangeAt pX 0 (attCells a)) := Lib.hid (range_set (HR6F.out w6 hkp) HPP.out)
          have HOR := Lib.hid hor
          clear hown hkp hor hb6
          go_wp2_with fail
          refine hK.out _ _ HR6.out (fun _ => ?_)
          clear hK K
          try simp only [Act.put, List.setIfInBounds_toArray, List.set_cons_zero, List.set_cons_succ]
          refine wpAnyH_take (i := 9) (oi := ⟨some 39, _, _, _, _, _⟩) (v := ?_) rfl (by kernel_rfl) (by kernel_rfl) (by kernel_rfl) (fun _ _ _ h => h) (Or.inl ⟨by rfl, ?_⟩) (by assumption) ?_
          rotate_left
          · intro v hSv; (try dsimp only at hSv); skip; go_simp; (try with_reducible rfl)
          try simp only [Act.put, List.setIfInBounds_toArray, List.set_cons_zero, List.set_cons_succ]
          refine wpAnyH_take (i := 10) (oi := ⟨some 40, _, _, _, _, _⟩) (v := ?_) rfl (by kernel_rfl) (by kernel_rfl) (by kernel_rfl) (fun _ _ _ h => h) (Or.inl ⟨by rfl, ?_⟩) (by assumption) ?_
          rotate_left
          · intro v hSv; (try dsimp only at hSv); skip; go_simp; (try with_reducible rfl)
          try simp only [Act.put, List.setIfInBounds_toArray, List.set_cons_zero, List.set_cons_succ]
          refine wpAnyH_ready (rs := [11]) (by kernel_rfl) (by simp) ?_
          refine AllReadyH.cons (o := ⟨none, _, _, _, _, _⟩) rfl (fun K hK => ?_) (AllReadyH.nil)
          go_simp
          refine hK.out _ _ HR7.out (fun _ => ?_)
          clear hK K
          refine wpAnyH_done (by kernel_rfl) ?_ _
          obtain ⟨w7, hw7⟩ : ∃ w7, w7 = w6.setCell ⟨p, 0, none⟩ (.slice A' (L.length + 1) c') := ⟨_, rfl⟩
          rw [← hw7]
          rw [← hw7] at HB7 HO7 HK7 HR7
          clear hw7
          have z7 : w7.cell? ⟨p, 0, none⟩ = some (.slice A' (L.length + 1) c') := by rw [HB7.out.cell]; rfl
          have f7 := HB7.out.frozen 0
          by_cases hfull : 200 < L.length + 1
          · have hd1 : decide ((200 : Int) < (L.length : Int) + 1) = true := by rw [decide_eq_true_eq]; omega
            have hd2 : decide (200 < L.length + 1) = true := by rw [decide_eq_true_eq]; exact hfull
            have hc1 : (200 : Int) ≤ (c' : Int) := by have := HCC.out; omega
            have hct := fun v => cut_hi64 A' (L.length + 1) c' 200 (by omega) v
            have HE : Hid (AddP w B p A L a (.returned (.int .i64 0)) (w7.setCell ⟨p, 0, none⟩ (.slice A' 200 c'))) := Lib.hid (by
              refine add_end (m := 200) HKP.out HCU.out HSU.out (by rw [HM.out]) (HB7.out.set 0 _) (own_setO HO7.out HNE.out) rfl (Nat.min_eq_left (by omega)).symm HAL.out (HK7.out.setCell _ _ (.inl (.inl rfl))) HOR.out)
            go_wp2_with fail
            go_ret
            exact HE.out
          · have hd1 : decide ((200 : Int) < (L.length : Int) + 1) = false := by rw [decide_eq_false_iff_not]; omega
            have hd2 : decide (200 < L.length + 1) = false := by rw [decide_eq_false_iff_not]; exact hfull
            have HE : Hid (AddP w B p A L a (.returned (.int .i64 0)) w7) := Lib.hid (add_end (m := L.length + 1) HKP.out HCU.out HSU.out (by rw [HM.out]) HB7.out HO7.out rfl (Nat.min_eq_right (by omega)).symm HAL.out HK7.out HOR.out)
            go_wp2_with fail
            go_ret
            exact HE.out
        · refine wp_buildSlice 64 46 1 _ (by rfl) (attCells a).toArray i0 (.agg (attCells attZero).toArray) Tryd.underlying64 hi0 hz0 (by rw [hz1]; decide) (by rw [hz1]; decide) (by simp only [List.map_toArray, List.map_cons, List.map_nil]; exact HFI.out) ?_
          rw [← HU.out]
          refine hK.out _ _ HXU.out (fun _ => ?_)
          clear hK K
          try simp only [Act.put, List.setIfInBounds_toArray, List.set_cons_zero, List.set_cons_succ]
          refine wpAnyH_ready (rs := [4]) (by kernel_rfl) (by simp) ?_
          refine AllReadyH.cons (o := ⟨some 34, _, _, _, _, _⟩) rfl (fun K hK => ?_) (AllReadyH.nil)
          go_simp
          refine hK.out _ _ (by first | exact Blk.range HX1.out | exact HXU.out) (fun _ => ?_)
          clear hK K
          try simp only [Act.put, List.setIfInBounds_toArray, List.set_cons_zero, List.set_cons_succ]
          refine wpAnyH_ready (rs := [8]) (by kernel_rfl) (by simp) ?_
          refine AllReadyH.cons (o := ⟨some 38, _, _, _, _, _⟩) rfl (fun K hK => ?_) (AllReadyH.nil)
          go_simp
          go_at_call 77
          refine HIN.out.mono ?_
          rintro e w6 ⟨A', c', rfl, hown, hkp, hor⟩
          have HNE := Lib.hid (own_ne hown (HB6F.out w6 hkp))
          have HCC := Lib.hid (own_cap hown)
          have hb6 := HB6F.out w6 hkp
          have z6 : w6.cell? ⟨p, 0, none⟩ = some (.slice A L.length c) := by rw [hb6.cell]; rfl
          have f6 := hb6.frozen 0
          have HR6 : Hid (w6.rangeAt pX 0 (attCells a)) := Lib.hid (HR6F.out w6 hkp)
          have HB7 : Hid (Blk (w6.setCell ⟨p, 0, none⟩ (.slice A' (L.length + 1) c')) p #[.slice A' (L.length + 1) c'] 82) := Lib.hid (hb6.set 0 _)
          have HO7 := Lib.hid (own_setO (x := .slice A' (L.length + 1) c') hown HNE.out)
          have HK7 : Hid (Kept (setS p A) u (w6.setCell ⟨p, 0, none⟩ (.slice A' (L.length + 1) c'))) := Lib.hid ((hkp.mono (fun g e => .inr e)).setCell _ _ (.inl (.inl rfl)))
          have HR7 : Hid ((w6.setCell ⟨p, 0, none⟩ (.slice A' (L.length + 1) c')).rangeAt pX 0 (attCells a)) := Lib.hid (range_set (HR6F.out w6 hkp) HPP.out)
          have HOR := Lib.hid hor
          clear hown hkp hor hb6
          go_wp2_with fail
          refine hK.out _ _ HR6.out (fun _ => ?_)
          clear hK K
          try simp only [Act.put, List.setIfInBounds_toArray, List.set_cons_zero, List.set_cons_succ]
          refine wpAnyH_take (i := 9) (oi := ⟨some 39, _, _, _, _, _⟩) (v := ?_) rfl (by kernel_rfl) (by kernel_rfl) (by kernel_rfl) (fun _ _ _ h => h) (Or.inl ⟨by rfl, ?_⟩) (by assumption) ?_
          rotate_left
          · intro v hSv; (try dsimp only at hSv); skip; go_simp; (try with_reducible rfl)
          try simp only [Act.put, List.setIfInBounds_toArray, List.set_cons_zero, List.set_cons_succ]
          refine wpAnyH_take (i := 10) (oi := ⟨some 40, _, _, _, _, _⟩) (v := ?_) rfl (by kernel_rfl) (by kernel_rfl) (by kernel_rfl) (fun _ _ _ h => h) (Or.inl ⟨by rfl, ?_⟩) (by assumption) ?_
          rotate_left
          · intro v hSv; (try dsimp only at hSv); skip; go_simp; (try with_reducible rfl)
          try simp only [Act.put, List.setIfInBounds_toArray, List.set_cons_zero, List.set_cons_succ]
          refine wpAnyH_ready (rs := [11]) (by kernel_rfl) (by simp) ?_
          refine AllReadyH.cons (o := ⟨none, _, _, _, _, _⟩) rfl (fun K hK => ?_) (AllReadyH.nil)
          go_simp
          refine hK.out _ _ HR7.out (fun _ => ?_)
          clear hK K
          refine wpAnyH_done (by kernel_rfl) ?_ _
          obtain ⟨w7, hw7⟩ : ∃ w7, w7 = w6.setCell ⟨p, 0, none⟩ (.slice A' (L.length + 1) c') := ⟨_, rfl⟩
          rw [← hw7]
          rw [← hw7] at HB7 HO7 HK7 HR7
          clear hw7
          have z7 : w7.cell? ⟨p, 0, none⟩ = some (.slice A' (L.length + 1) c') := by rw [HB7.out.cell]; rfl
          have f7 := HB7.out.frozen 0
          by_cases hfull : 200 < L.length + 1
          · have hd1 : decide ((200 : Int) < (L.length : Int) + 1) = true := by rw [decide_eq_true_eq]; omega
            have hd2 : decide (200 < L.length + 1) = true := by rw [decide_eq_true_eq]; exact hfull
            have hc1 : (200 : Int) ≤ (c' : Int) := by have := HCC.out; omega
            have hct := fun v => cut_hi64 A' (L.length + 1) c' 200 (by omega) v
            have HE : Hid (AddP w B p A L a (.returned (.int .i64 0)) (w7.setCell ⟨p, 0, none⟩ (.slice A' 200 c'))) := Lib.hid (by
              refine add_end (m := 200) HKP.out HCU.out HSU.out (by rw [HM.out]) (HB7.out.set 0 _) (own_setO HO7.out HNE.out) rfl (Nat.min_eq_left (by omega)).symm HAL.out (HK7.out.setCell _ _ (.inl (.inl rfl))) HOR.out)
            go_wp2_with fail
            go_ret
            exact HE.out
          · have hd1 : decide ((200 : Int) < (L.length : Int) + 1) = false := by rw [decide_eq_false_iff_not]; omega
            have hd2 : decide (200 < L.length + 1) = false := by rw [decide_eq_false_iff_not]; exact hfull
            have HE : Hid (AddP w B p A L a (.returned (.int .i64 0)) w7) := Lib.hid (add_end (m := L.length + 1) HKP.out HCU.out HSU.out (by rw [HM.out]) HB7.out HO7.out rfl (Nat.min_eq_right (by omega)).symm HAL.out HK7.out HOR.out)
            go_wp2_with fail
            go_ret
            exact HE.out
end

section
open Go.RowKit

theorem wpList_append_zero {P : Program} {w : World} {ops : Array Oper} {rest : List Oper} {o : Oper} {a : Act} {Q : Exit → Act → World → Prop} (hgd : o.guard = none) (s x : Operand) (t : TypeId)
    (ho : o.op = .call { callee := .builtin .append, args := #[s, x], argTypes := #[t, t] }) (e : TypeId) (i : TypeInfo) (ht : P.underlying t = some (.slice e)) (hi : P.info? e = some i)
    (g : Nat) (ad : Addr) (c : Nat) (hs : a.eval s = .slice (some ⟨g, 0, none⟩) 0 0) (hx : a.eval x = .slice (some ad) 0 c) (_hg : w.heap[g]? = some (.cells #[] e (0, 0)))
    (h : wpList P ops Q rest (a.put o.dst (.slice (some ⟨g, 0, none⟩) 0 0)) w) : wpList P ops Q (o :: rest) a w := by
  refine wpList_plain hgd fun K hK => ?_
  have hrun : (Builtin.append_ #[t, t] o.type #[.slice (some ⟨g, 0, none⟩) 0 0, .slice (some ad) 0 c]).run P w = .ok (.slice (some ⟨g, 0, none⟩) 0 0) w := by
    simp [Builtin.append_, run_underlying ht, sizeOf, typeInfo, hi, Builtin.lenOf, Builtin.firstCells, storeCells, loadCells, loadCellsFrom, Result.andThen]
  unfold Oper.wp execOp
  simp only [ho, resolve, invoke, builtin, Sem.run_bind, Sem.run_pure, Result.andThen_ok, List.map_toArray, List.map_cons, List.map_nil, hs, hx, hrun]
  exact hK _ _ h

theorem eq_nil64 (w : World) (a : Option Addr) (n c n' c' : Nat) : (binOp .eql 64 (.slice a n c) (.slice none n' c')).run Tryd.prog w = .ok (.bool a.isNone) w := Lib.run_eql_slice_nil w _ _ a n c n' c' Tryd.underlying64
def ClP (v : World) (L : List Att) (e : Ending) (w' : World) : Prop := ∃ A' c', e = .returned (.slice A' L.length c') ∧ w'.ownsRow v.heap.size 46 97 (.slice A' L.length c') L.length (L.flatMap attCells) ∧ Chg none v w'
set_option maxHeartbeats 4000000 in
theorem clone_any (L : List Att) (B : Nat) (A : Option Addr) (c : Nat) (v : World) (h : v.ownsRow B 46 97 (.slice A L.length c) L.length (L.flatMap attCells)) (hl : L.length ≤ 1000) :
    Calls Tryd.prog 78 #[.slice A L.length c] v (ClP v L) := by
  obtain ⟨i0, hi0, hz0, hz1, hz2⟩ := zinfo46
  have hq := fun w n c => eq_nil64 w A n c 0 0
  have HZ : Hid ((Value.agg (attCells attZero).toArray).cells.size = 97) := Lib.hid (by show (attCells attZero).toArray.size = 97; rw [List.size_toArray, attCells_len])
  rcases h.2 with ⟨e1, h0⟩ | ⟨g, cap, cur, e1, hb, hg, h1, h2, h3, h4⟩
  · injection e1 with e1 e2 e3
    subst e1; subst e3
    have hL : L = [] := List.eq_nil_of_length_eq_zero h0
    subst hL
    have HE : Hid (ClP v [] (.returned (.slice none 0 0)) v) := Lib.hid ⟨none, 0, rfl, World.ownsRow_nil _ _ _ _, Chg.refl _ _⟩
    clear h h0
    go_enter Tryd.func78, Tryd.ntmps78
    go_wp2_with fail
    go_ret
    exact HE.out
  · injection e1 with e1 e2 e3
    subst e1; subst e3
    cases L with
    | nil =>
      have hnew : (v.alloc (.cells #[] 46 (0, 0))).heap[v.heap.size]? = some (.cells #[] 46 (0, 0)) := heap_alloc_new v _
      have HE : Hid (ClP v [] (.returned (.slice (some ⟨v.heap.size, 0, none⟩) 0 0)) (v.alloc (.cells #[] 46))) := Lib.hid ⟨_, 0, rfl, World.ownsRow_made v #[] 0 (Nat.le_refl _) (Nat.zero_le _) rfl, (Chg.refl _ _).alloc _⟩
      clear h
      go_enter Tryd.func78, Tryd.ntmps78
      go_wp2_with (first
        | (refine wpList_append_zero rfl (.tmp 5) (.tmp 6) 64 rfl 46 i0 Tryd.underlying64 hi0 v.heap.size ⟨g, 0, none⟩ c rfl rfl hnew ?_))
      go_ret
      exact HE.out
    | cons x L =>
      have hcell : ∀ j u, ((x :: L).flatMap attCells)[j]? = some u → v.cell? ⟨g, j, none⟩ = some u := fun j u hj => by
        have hj1 := (List.getElem?_eq_some_iff.1 hj).1
        rw [flatA_len] at hj1
        rw [← h4, List.getElem?_take_of_lt hj1] at hj
        rw [Blk.cell (show Blk v g cur 46 from hg)]
        rw [← Array.getElem?_toList]; exact hj
      have HC : Hid (∀ j u, ((x :: L).flatMap attCells)[j]? = some u → (v.alloc (.cells #[] 46)).cell? ((⟨g, 0, none⟩ : Addr).add j) = some u) := Lib.hid fun j u hj => by
        rw [Go.WideShapes.add_plain, Nat.zero_add]
        exact World.grownBy.cell ((Chg.refl none v).alloc _) (hcell j u hj) (by simp)
      have HO := Lib.hid (ones_atts (x :: L))
      have HW : Hid ((v.alloc (.cells #[] 46)).ownsRow v.heap.size 46 97 (.slice (some ⟨v.heap.size, 0, none⟩) 0 0) 0 []) := Lib.hid (World.ownsRow_made v #[] 0 (Nat.le_refl _) (Nat.zero_le _) rfl)
      have HN : Hid (((x :: L).flatMap attCells).length = (x :: L).length * 97) := Lib.hid (flatA_len _)
      have HEND : Hid (∀ v' w', w'.ownsRow v.heap.size 46 97 v' (0 + (x :: L).length) ([] ++ (x :: L).flatMap attCells) → (v.alloc (.cells #[] 46)).grownBy w' (some v.heap.size) → ClP v (x :: L) (.returned v') w') := Lib.hid fun v' w' h g => by
        rw [Nat.zero_add, List.nil_append] at h
        obtain ⟨A', c', rfl, -, -⟩ := arow_form h
        exact ⟨A', c', rfl, h, Chg.own ((Chg.refl none v).alloc _) g (Nat.le_refl _)⟩
      have hs1 : 0 + (x :: L).length ≤ maxLen := by unfold maxLen; omega
      have hs2 : (0 + (x :: L).length) * 104 ≤ 140737488355328 := by omega
      have hs3 : v.heap.size ≤ (v.alloc (.cells #[] 46)).heap.size := by simp
      generalize (x :: L).flatMap attCells = fl at *
      generalize (x :: L).length = n at *
      clear h hcell
      go_enter Tryd.func78, Tryd.ntmps78
      go_wp2_with (first
        | (refine wpList_append_own _ rfl (.tmp 5) (.tmp 6) 64 rfl v.heap.size 46 i0 (.agg (attCells attZero).toArray) 97 104 Tryd.underlying64 hi0 hz0 hz1 hz2 HZ.out (by decide) (.slice (some ⟨v.heap.size, 0, none⟩) 0 0) 0 [] rfl HW.out ⟨g, 0, none⟩ n c fl rfl HN.out HC.out HO.out hs1 hs2 hs3 ?_
           intro v' w' hown hgr _
           have HX := Lib.hid (HEND.out v' w' hown hgr)
           clear hown hgr))
      go_ret
      exact HX.out
theorem copy_nil (w : World) : Calls Tryd.prog 47 #[.pointer none] w fun e w' => e = .returned (.pointer none) ∧ w = w' := by
  go_enter Tryd.func47, Tryd.ntmps47
  go_wp2
  go_ret
  exact ⟨rfl, rfl⟩
set_option maxHeartbeats 4000000 in
theorem copy_any (w : World) (B p : Nat) (A : Option Addr) (c : Nat) (L : List Att) (h : SetAt w B p A c L) (hl : L.length ≤ 1000) : Calls Tryd.prog 47 #[.pointer (some ⟨p, 0, none⟩)] w fun e w' =>
    ∃ p' A' c', e = .returned (.pointer (some ⟨p', 0, none⟩)) ∧ SetAt w' w.heap.size p' A' c' L ∧ Chg none w w' := by
  have o0 := h.cell
  have HC := Lib.hid (clone_any L B A c w h.ow hl)
  clear h
  go_enter Tryd.func47, Tryd.ntmps47
  go_wp2_with fail
  refine HC.out.mono ?_
  rintro e w1 ⟨A', c', rfl, hown, g1⟩
  have HE : Hid (SetAt (w1.alloc (.cells #[.slice A' L.length c'] 82)) w.heap.size w1.heap.size A' c' L ∧ Chg none w (w1.alloc (.cells #[.slice A' L.length c'] 82))) := Lib.hid ⟨⟨Blk.new _ _ _, g1.size, hown.alloc _⟩, g1.alloc _⟩
  clear hown g1
  go_wp2_with fail
  go_ret
  exact ⟨_, _, _, rfl, HE.out⟩
end

section
open Go.RowKit

theorem Chg.ownRow {u v w : World} {row : Option Nat} (h : Chg none u v) (k : v.grownBy w row) (hr : ∀ y, row = some y → u.heap.size ≤ y) : Chg none u w := by
  cases row with
  | none => exact h.trans k
  | some b => exact Chg.own h k (hr b rfl)
def ofA (L : List Att) (key : Dg) : List Att := L.filter (fun x => x.k.1 == key.1)
theorem ofA_step {L : List Att} {key : Dg} {k : Nat} {x : Att} (h : L[k]? = some x) : ofA (L.take (k + 1)) key = ofA (L.take k) key ++ (if x.k.1 == key.1 then [x] else []) := by
  unfold ofA
  rw [List.take_add_one, h, List.filter_append]
  congr 1
  show List.filter _ [x] = _
  rw [List.filter_cons]
  rfl
theorem of_nil (key : Dg) (w : World) : Calls Tryd.prog 56 #[.pointer none, .agg (byteVals key.1).toArray] w fun e w' => e = .returned (.slice none 0 0) ∧ Chg none w w' := by
  have HE : Hid (∀ C, Chg none w (w.alloc (.cells C 30))) := Lib.hid fun C => (Chg.refl _ _).alloc _
  generalize (byteVals key.1).toArray = CA
  go_enter Tryd.func56, Tryd.ntmps56
  go_wp2
  go_ret
  exact ⟨rfl, HE.out _⟩
set_option maxRecDepth 100000 in
set_option maxHeartbeats 16000000 in
theorem of_any (w : World) (B p : Nat) (A : Option Addr) (c : Nat) (L : List Att) (key : Dg) (h : SetAt w B p A c L) (hl : L.length ≤ 1000) :
    Calls Tryd.prog 56 #[.pointer (some ⟨p, 0, none⟩), .agg (byteVals key.1).toArray] w fun e w' =>
      ∃ A' c', e = .returned (.slice A' (ofA L key).length c') ∧ w'.ownsRow w.heap.size 46 97 (.slice A' (ofA L key).length c') (ofA L key).length ((ofA L key).flatMap attCells) ∧ Chg none w w' := by
  obtain ⟨i0, hi0, hz0, hz1, hz2⟩ := zinfo46
  obtain ⟨W, hW⟩ : ∃ W, W = w.alloc (.cells (byteVals key.1).toArray 30) := ⟨_, rfl⟩
  have g0 : Chg none w W := by rw [hW]; exact (Chg.refl _ _).alloc _
  obtain ⟨pK, hpK⟩ : ∃ pK, w.heap.size = pK := ⟨_, rfl⟩
  have bK : BlkL W pK (byteVals key.1) 30 := by rw [hW, ← hpK]; exact Blk.new _ _ _
  have h' := h.chg g0
  have HRK : Hid (∀ v, Chg none W v → v.rangeAt pK 0 (byteVals key.1)) := Lib.hid fun v g => Blk.range (Blk.chg bK g (by simp))
  have HROW : Hid (∀ k x, L[k]? = some x → ∃ b, A = some ⟨b, 0, none⟩ ∧ ∀ v, Chg none W v → v.rangeAt b (k * 97) (attCells x)) := Lib.hid fun k x hk => by
    obtain ⟨b, c', e, -, hbl, hr⟩ := arow_at h'.ow hk
    injection e with e1 _ _
    exact ⟨b, e1, fun v g => rangeAt_chg hr g (by simp)⟩
  have hcell := h'.cell
  have HW := Lib.hid hW
  have HG0 := Lib.hid g0
  have HL := Lib.hid hl
  have HSZ : Hid (pK < W.heap.size) := Lib.hid (Blk.lt bK)
  have HI30 : Hid (∀ d : Dg, (Tryd.prog.info? 30).map (·.size) = some (byteVals d.1).length) := fun d => by rw [byteVals_len, d.2]; show _ = _; kernel_rfl
  have HEQ : Hid (∀ (x y : Dg) (v : World), (binOp .eql 30 (.agg (byteVals x.1).toArray) (.agg (byteVals y.1).toArray)).run Tryd.prog v = .ok (.bool (x.1 == y.1)) v) := fun x y v => eql30 x.1 y.1 x.2 y.2 v
  have hg30 := guard30
  have HPK := Lib.hid hpK
  clear hW g0 bK h h' hl
  go_enter Tryd.func56, Tryd.ntmps56
  go_upto_region 4 with fail
  rw [← HW.out]
  go_upto_region 5 with fail
  clear hcell
  go_loopw [5, 15] (fun s5 s15 wr => ∃ (k : Nat) (A' : Option Addr) (c' : Nat), k ≤ L.length ∧ s15 = .int .i64 k ∧ s5 = .slice A' (ofA (L.take k) key).length c' ∧
      Hid (wr.ownsRow W.heap.size 46 97 (.slice A' (ofA (L.take k) key).length c') (ofA (L.take k) key).length ((ofA (L.take k) key).flatMap attCells)) ∧ Hid (Chg none W wr)) (fun _ s15 _ => L.length - (intOf s15).toNat)
  case atStart => exact ⟨0, none, 0, Nat.zero_le _, rfl, rfl, Lib.hid (World.ownsRow_nil _ _ _ _), Lib.hid (Chg.refl _ _)⟩
  case round =>
    obtain ⟨k, A', c', hk, rfl, rfl, HOW, HG⟩ := hrel
    by_cases hlt : k < L.length
    · have hd : decide (k < L.length) = true := by rw [decide_eq_true_eq]; exact hlt
      have hd2 : decide ((k : Int) < (L.length : Int)) = true := by rw [decide_eq_true_eq]; omega
      have hlt' : (k : Int) < (L.length : Int) := by omega
      have hkl : (k : Int) ≤ 1000 := by have := HL.out; omega
      obtain ⟨x, hx⟩ : ∃ x, L[k]? = some x := ⟨_, List.getElem?_eq_getElem hlt⟩
      obtain ⟨rb, rfl, hr⟩ := HROW.out k x hx
      have HRX := Lib.hid (hr wr HG.out)
      have HIX := Lib.hid (info46 x)
      have HLT := Lib.hid hlt
      have HX := Lib.hid hx
      clear hr hx hlt
      obtain ⟨WA, hWA⟩ : ∃ WA, WA = (wr.alloc (.cells Tryd.zeroCells46 46)).setRow wr.heap.size (attCells x).toArray := ⟨_, rfl⟩
      have hzb : (wr.alloc (.cells Tryd.zeroCells46 46)).heap[wr.heap.size]? = some (.cells Tryd.zeroCells46 46 (0, 0)) := heap_alloc_new wr _
      have hbx : BlkL WA wr.heap.size (attCells x) 46 := by rw [hWA]; exact setRow_heap _ _ _ _ 46 _ hzb
      have hga : Chg none wr WA := by rw [hWA]; exact Chg.own ((Chg.refl none wr).alloc _) (chg_setRow _ _ _) (Nat.le_refl _)
      have HZB := Lib.hid hzb
      have HZS : Hid (Tryd.zeroCells46.size = (attCells x).toArray.size) := Lib.hid (by
        have h97 : (attCells x).toArray.size = 97 := by rw [List.size_toArray, attCells_len]
        rw [h97]; show _ = _; kernel_rfl)
      have HI46 := Lib.hid (info46a x)
      have HO1 := Lib.hid (attCells_one x)
      have HWA := Lib.hid hWA
      have HGA := Lib.hid (HG.out.trans hga)
      have HRXA := Lib.hid (Blk.range hbx)
      have HKXA := Lib.hid (att_key (Blk.range hbx))
      have HKA := Lib.hid (HRK.out WA (HG.out.trans hga))
      have HOWA := Lib.hid (World.ownsRow.kept HOW.out hga (by cases (Value.slice A' (ofA (L.take k) key).length c').ownBlock <;> simp))
      have HLE : Hid (pK ≤ wr.heap.size) := Lib.hid (Nat.le_trans (Nat.le_of_lt HSZ.out) HG.out.size)
      have HLE2 := Lib.hid hga.size
      have HB1 := Lib.hid hbx
      clear hWA hzb hbx hga HOW
      have hst := ofA_step (key := key) HX.out
      cases hz : (x.k.1 == key.1) with
      | false =>
        rw [hz] at hst
        have hq : ∀ v : World, (binOp .eql 30 (.agg (byteVals x.k.1).toArray) (.agg (byteVals key.1).toArray)).run Tryd.prog v = .ok (.bool false) v := fun v => by rw [HEQ.out, hz]
        have HST : Hid (ofA (L.take (k + 1)) key = ofA (L.take k) key) := Lib.hid (by rw [hst]; simp)
        clear hst hz
        go_wp2_with (first
          | (refine wpList_load_mid rfl 46 _ rfl rb (k * 97) rfl (attCells x) _ HRX.out Tryd.underlying46 rfl HIX.out ?_)
          | (refine wpList_store_row rfl 46 _ _ rfl wr.heap.size (attCells x).toArray rfl rfl 46 _ HZB.out HI46.out HZS.out HO1.out ?_; rw [← HWA.out])
          | (refine wpList_load_mid rfl 30 _ rfl wr.heap.size 0 rfl (byteVals x.k.1) _ HKXA.out Tryd.underlying30 rfl (HI30.out x.k) ?_)
          | (refine wpList_load_mid rfl 30 _ rfl pK 0 rfl (byteVals key.1) _ HKA.out Tryd.underlying30 rfl (HI30.out key) ?_))
        go_roundw
        case rel => exact ⟨k + 1, A', c', by have := HLT.out; omega, by first | rfl | go_num, by rw [HST.out], by rw [HST.out]; exact HOWA, HGA⟩
        case measure => have := HLT.out; first | omega | (simp only [intOf]; omega) | (simp [intOf]; omega)
      | true =>
        rw [hz] at hst
        have hq : ∀ v : World, (binOp .eql 30 (.agg (byteVals x.k.1).toArray) (.agg (byteVals key.1).toArray)).run Tryd.prog v = .ok (.bool true) v := fun v => by rw [HEQ.out, hz]
        have HST : Hid (ofA (L.take (k + 1)) key = ofA (L.take k) key ++ [x]) := Lib.hid (by rw [hst]; simp)
        have HFI := Lib.hid (fill46 x i0 hz1)
        have HZ : Hid ((Value.agg (attCells attZero).toArray).cells.size = 97) := Lib.hid (by show (attCells attZero).toArray.size = 97; rw [List.size_toArray, attCells_len])
        obtain ⟨WB, hWB⟩ : ∃ WB, WB = WA.alloc (.cells (attCells x).toArray 46) := ⟨_, rfl⟩
        have HOWB : Hid (WB.ownsRow W.heap.size 46 97 (.slice A' (ofA (L.take k) key).length c') (ofA (L.take k) key).length ((ofA (L.take k) key).flatMap attCells)) := Lib.hid (by rw [hWB]; exact HOWA.out.alloc _)
        have HGB : Hid (Chg none W WB) := Lib.hid (by rw [hWB]; exact HGA.out.alloc _)
        have HNW : Hid (∀ j u, (attCells x)[j]? = some u → WB.cell? ((⟨WA.heap.size, 0, none⟩ : Addr).add j) = some u) := Lib.hid fun j u hj => by
          rw [Go.WideShapes.add_plain, Nat.zero_add, hWB, BlkL.cell (show BlkL (WA.alloc (.cells (attCells x).toArray 46)) WA.heap.size (attCells x) 46 from Blk.new _ _ _)]
          exact hj
        have HNL : Hid ((attCells x).length = 1 * 97) := Lib.hid (by rw [attCells_len])
        have HONE := Lib.hid (ones_att x)
        have hml : (ofA (L.take k) key).length ≤ 1000 := by
          have h1 : (ofA (L.take k) key).length ≤ (L.take k).length := List.length_filter_le _ _
          rw [List.length_take] at h1
          have := HL.out; omega
        have hs1 : (ofA (L.take k) key).length + 1 ≤ maxLen := by unfold maxLen; omega
        have hs2 : ((ofA (L.take k) key).length + 1) * 104 ≤ 140737488355328 := by omega
        have hs3 : W.heap.size ≤ WB.heap.size := HGB.out.size
        have HWB := Lib.hid hWB
        clear hst hz hWB
        go_wp2_with (first
          | (refine wpList_load_mid rfl 46 _ rfl rb (k * 97) rfl (attCells x) _ HRX.out Tryd.underlying46 rfl HIX.out ?_)
          | (refine wpList_store_row rfl 46 _ _ rfl wr.heap.size (attCells x).toArray rfl rfl 46 _ HZB.out HI46.out HZS.out HO1.out ?_; rw [← HWA.out])
          | (refine wpList_load_mid rfl 30 _ rfl wr.heap.size 0 rfl (byteVals x.k.1) _ HKXA.out Tryd.underlying30 rfl (HI30.out x.k) ?_)
          | (refine wpList_load_mid rfl 30 _ rfl pK 0 rfl (byteVals key.1) _ HKA.out Tryd.underlying30 rfl (HI30.out key) ?_)
          | (refine wpList_load_mid rfl 46 _ rfl wr.heap.size 0 rfl (attCells x) _ HRXA.out Tryd.underlying46 rfl HIX.out ?_)
          | (refine wpList_buildSlice rfl 64 46 1 _ rfl (attCells x).toArray i0 (.agg (attCells attZero).toArray) Tryd.underlying64 hi0 hz0 (by rw [hz1]; decide) (by rw [hz1]; decide) (by simp only [List.map_toArray, List.map_cons, List.map_nil]; exact HFI.out) ?_; rw [← HWB.out])
          | (refine wpList_append_own _ rfl (.tmp 23) (.tmp 25) 64 rfl W.heap.size 46 i0 (.agg (attCells attZero).toArray) 97 104 Tryd.underlying64 hi0 hz0 hz1 hz2 HZ.out (by decide) (.slice A' (ofA (L.take k) key).length c') (ofA (L.take k) key).length _ rfl HOWB.out ⟨WA.heap.size, 0, none⟩ 1 1 (attCells x) rfl HNL.out HNW.out HONE.out hs1 hs2 hs3 ?_
             intro v' w' hown hgr _
             obtain ⟨A2, c2, rfl⟩ : ∃ A2 c2, v' = .slice A2 ((ofA (L.take k) key).length + 1) c2 := by
               rcases hown.2 with ⟨e, h0⟩ | ⟨g, cap, cur, e, -⟩
               · omega
               · exact ⟨_, _, e⟩
             have HOW2 := Lib.hid hown
             have HG2 : Hid (Chg none W w') := Lib.hid (Chg.ownRow HGB.out hgr (fun y hy => (HOWB.out.lt y hy).1))
             clear hown hgr))
        go_roundw
        case rel =>
          refine ⟨k + 1, A2, c2, by have := HLT.out; omega, by first | rfl | go_num, by rw [HST.out, List.length_append]; rfl, ?_, HG2⟩
          rw [HST.out, List.length_append, List.flatMap_append]
          have := HOW2.out
          refine Lib.hid ?_
          simpa using this
        case measure => have := HLT.out; first | omega | (simp only [intOf]; omega) | (simp [intOf]; omega)
    · have hd : decide (k < L.length) = false := by rw [decide_eq_false_iff_not]; exact hlt
      have hd2 : decide ((k : Int) < (L.length : Int)) = false := by rw [decide_eq_false_iff_not]; omega
      obtain rfl : k = L.length := by omega
      have HOWF := Lib.hid (show wr.ownsRow W.heap.size 46 97 (.slice A' (ofA L key).length c') (ofA L key).length ((ofA L key).flatMap attCells) by have := HOW.out; rwa [List.take_length] at this)
      rw [List.take_length]
      clear HOW hlt
      go_wp2_with fail
      go_ret
      exact ⟨A', c', rfl, own_base HOWF.out (by rw [HPK.out]; exact Nat.le_of_lt HSZ.out), HG0.out.trans HG.out⟩
end

end Go.Proofs.YtkcammaccgkflaaDoor
