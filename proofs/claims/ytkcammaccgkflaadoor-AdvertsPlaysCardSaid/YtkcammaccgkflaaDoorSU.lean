/-
  Package adverts, the document's: Add.
-/
import Derived.Test.YtkcammaccgkflaaDoorST
namespace Go.Proofs.YtkcammaccgkflaaDoor
open Go.RowKit

theorem outK_len (L : List Att) (a : Att) (p k : Nat) : (outK L a p k).length ≤ k + 1 := by
  unfold outK
  split
  · rw [List.length_append, List.length_cons, List.length_take, List.length_take, List.length_drop]; omega
  · rw [List.length_take]; omega
theorem outK_at2 {L : List Att} {a x : Att} {p k : Nat} (hk : k = p) (hx : L[k]? = some x) : outK L a p (k + 1) = (outK L a p k ++ [a]) ++ [x] := by subst hk; exact outK_at hx
theorem bd3 {n : Nat} (h : n ≤ 201) : n + 1 ≤ maxLen := by unfold maxLen; omega
theorem bd4 {n : Nat} (h : n ≤ 201) : (n + 1) * 104 ≤ 140737488355328 := by omega
theorem bd1 {n : Nat} (h : n ≤ 201) : (n + 1) + 1 ≤ maxLen := by unfold maxLen; omega
theorem bd2 {n : Nat} (h : n ≤ 201) : ((n + 1) + 1) * 104 ≤ 140737488355328 := by omega
def RAddP (w : World) (B : Nat) (A : Option Addr) (L : List Att) (a : Att) (e : Ending) (w' : World) : Prop :=
  ∃ A' c', e = .returned (.tuple #[.slice A' (addM L a).1.length c', .int .i64 (addM L a).2]) ∧ w'.ownsRow B 46 97 (.slice A' (addM L a).1.length c') (addM L a).1.length ((addM L a).1.flatMap attCells) ∧ Chg none w w' ∧ (A' = A ∨ ∀ b, A' = some b → w.heap.size ≤ b.block)
theorem own_fresh {w : World} {B n c : Nat} {A : Option Addr} {xs : List Value} (h : w.ownsRow B 46 97 (.slice A n c) n xs) : ∀ b, A = some b → B ≤ b.block := fun b e => by
  rcases h.2 with ⟨e1, -⟩ | ⟨g, cap, cur, e1, hb, -⟩
  · injection e1 with e1 _ _; rw [e] at e1; cases e1
  · injection e1 with e1 _ _
    rw [e] at e1
    injection e1 with e1
    rw [e1]; exact hb
theorem RAddP.same {w w' : World} {B c : Nat} {A : Option Addr} {L : List Att} {a : Att} {z : Int} (h : w.ownsRow B 46 97 (.slice A L.length c) L.length (L.flatMap attCells)) (g : Chg none w w') (he : addM L a = (L, z)) : RAddP w B A L a (.returned (.tuple #[.slice A L.length c, .int .i64 z])) w' := by
  unfold RAddP
  rw [he]
  exact ⟨A, c, rfl, World.ownsRow.kept h g (by cases (Value.slice A L.length c).ownBlock <;> simp), g, .inl rfl⟩
theorem cut_hi69 (A : Option Addr) (n c hi : Nat) (h1 : hi ≤ c) (w : World) :
    (Instr.sliceAt 69 (.slice A n c) none (some (.int .i64 hi)) none).run Tryd.prog w = .ok (.slice A hi c) w := by
  have u22 := Tryd.underlying69
  have z5 := Tryd.sizeOf46
  have h4 : (hi : Int) ≤ c := by omega
  go_simp
set_option maxRecDepth 100000 in
set_option maxHeartbeats 16000000 in
theorem refadd_any (w : World) (B : Nat) (A : Option Addr) (c : Nat) (L : List Att) (a : Att) (h : w.ownsRow B 46 97 (.slice A L.length c) L.length (L.flatMap attCells)) (hB : B ≤ w.heap.size) (ok : OkA L) (ha : Big a.n) :
    Calls Tryd.prog 44 #[.slice A L.length c, .agg (attCells a).toArray] w (RAddP w B A L a) := by
  obtain ⟨i0, hi0, hz0, hz1, hz2⟩ := zinfo46
  obtain ⟨W, hW⟩ : ∃ W, W = w.alloc (.cells (attCells a).toArray 46) := ⟨_, rfl⟩
  have g0 : Chg none w W := by rw [hW]; exact (Chg.refl _ _).alloc _
  obtain ⟨pX, hpX⟩ : ∃ pX, w.heap.size = pX := ⟨_, rfl⟩
  have bA : BlkL W pX (attCells a) 46 := by rw [hW, ← hpX]; exact Blk.new _ _ _
  have HRA : Hid (∀ v, Chg none W v → v.rangeAt pX 0 (attCells a)) := Lib.hid fun v g => Blk.range (Blk.chg bA g (by simp))
  have HROW : Hid (∀ k x, L[k]? = some x → ∃ b, A = some ⟨b, 0, none⟩ ∧ ∀ v, Chg none W v → v.rangeAt b (k * 97) (attCells x)) := Lib.hid fun k x hk => by
    obtain ⟨b, c', e, -, hbl, hr⟩ := arow_at h hk
    injection e with e1 _ _
    exact ⟨b, e1, fun v g => rangeAt_chg hr (g0.trans g) (by simp)⟩
  have HIA := Lib.hid (info46 a)
  have HMY := Lib.hid (mayr_any a W)
  have HG0 := Lib.hid g0
  have HOWN := Lib.hid h
  have HBW : Hid (B ≤ W.heap.size) := Lib.hid (Nat.le_trans hB g0.size)
  have HZ : Hid ((Value.agg (attCells attZero).toArray).cells.size = 97) := Lib.hid (by show (attCells attZero).toArray.size = 97; rw [List.size_toArray, attCells_len])
  have HABIG := Lib.hid ha
  have hl := ok.len
  have ok := Lib.hid ok
  have hg46 := guard46
  have HW := Lib.hid hW
  clear h hB ha g0 bA hW
  cases hm : mayB a.n with
  | false =>
    have HE : Hid (addM L a = (L, 2)) := Lib.hid (by unfold addM; rw [hm]; rfl)
    rw [hm] at HMY
    clear hm
    go_enter Tryd.func44, Tryd.ntmps44
    go_upto_region 1 with fail
    rw [← HW.out]
    try rw [hpX]
    go_wp2_with (refine wpList_load_mid rfl 46 _ rfl pX 0 rfl (attCells a) _ (HRA.out _ (Chg.refl _ _)) Tryd.underlying46 rfl HIA.out ?_)
    refine HMY.out.mono ?_
    rintro e w1 ⟨rfl, g1⟩
    go_wp2_with fail
    go_ret2
    exact RAddP.same HOWN.out (HG0.out.trans g1) HE.out
  | true =>
    rw [hm] at HMY
    have HM := Lib.hid hm
    clear hm
    obtain ⟨p, hpp⟩ : ∃ p, posA L a = p := ⟨_, rfl⟩
    have HPP := Lib.hid hpp
    have HPL : Hid (p ≤ L.length) := Lib.hid (by have := (sort_at ok.out.sort a).1; omega)
    go_enter Tryd.func44, Tryd.ntmps44
    go_upto_region 1 with fail
    rw [← HW.out]
    try rw [hpX]
    clear hpX hpp
    go_wp2_with (refine wpList_load_mid rfl 46 _ rfl pX 0 rfl (attCells a) _ (HRA.out _ (Chg.refl _ _)) Tryd.underlying46 rfl HIA.out ?_)
    refine HMY.out.mono ?_
    rintro e w1 ⟨rfl, g1⟩
    have HG1 := Lib.hid g1
    clear g1 HMY
    go_upto_region 6 with fail
    go_loopw [6, 7, 8] (fun s6 s7 s8 wr => ∃ (k : Nat) (A' : Option Addr) (c' : Nat), k ≤ L.length ∧ s8 = .int .i64 k ∧ s7 = .bool (decide (p < k)) ∧ s6 = .slice A' (outK L a p k).length c' ∧
      Hid (wr.ownsRow W.heap.size 46 97 (.slice A' (outK L a p k).length c') (outK L a p k).length ((outK L a p k).flatMap attCells)) ∧ Hid (∀ j, j < k → L[j]? ≠ some a) ∧ Hid (Chg none W wr)) (fun _ _ s8 _ => L.length - (intOf s8).toNat)
    case atStart => exact ⟨0, none, 0, Nat.zero_le _, rfl, by rw [decide_eq_false (by omega)], by rw [outK_zero]; rfl, by rw [outK_zero]; exact Lib.hid (World.ownsRow_nil _ _ _ _), Lib.hid fun j hj => by omega, HG1⟩
    case round =>
      obtain ⟨k, A', c', hk, rfl, rfl, rfl, HOW, HN, HG⟩ := hrel
      by_cases hlt : k < L.length
      · have hd : decide (k < L.length) = true := by rw [decide_eq_true_eq]; exact hlt
        have hd2 : decide ((k : Int) < (L.length : Int)) = true := by rw [decide_eq_true_eq]; omega
        have hlt' : (k : Int) < (L.length : Int) := by omega
        have hkl : (k : Int) ≤ 200 := by omega
        obtain ⟨x, hx⟩ : ∃ x, L[k]? = some x := ⟨_, List.getElem?_eq_getElem hlt⟩
        obtain ⟨rb, rfl, hr⟩ := HROW.out k x hx
        have HRX := Lib.hid hr
        have HIX := Lib.hid (info46 x)
        have HLT := Lib.hid hlt
        have HX := Lib.hid hx
        have HEQ := Lib.hid (eql46 x a)
        have hml : (outK L a p k).length ≤ 201 := by have := outK_len L a p k; omega
        clear hr hx hlt
        cases hzz : sameAtt x a with
        | true =>
          have hxa : x = a := (sameAtt_iff x a).1 hzz
          have HE : Hid (addM L a = (L, 7)) := Lib.hid (by unfold addM; rw [HM.out, if_pos rfl, if_pos (hxa ▸ List.mem_of_getElem? HX.out)])
          rw [hzz] at HEQ
          clear hzz hxa
          go_upto_region 8 with fail
          have HKEEP : Hid (∀ v, Chg none wr v → v.ownsRow W.heap.size 46 97 (.slice A' (outK L a p k).length c') (outK L a p k).length ((outK L a p k).flatMap attCells)) := Lib.hid fun v g => World.ownsRow.kept HOW.out g (by cases (Value.slice A' (outK L a p k).length c').ownBlock <;> simp)
          have hS0 : Chg none W wr.drew ∧ Chg none wr wr.drew := ⟨HG.out.drew, (Chg.refl _ _).drew⟩
          refine wp_region_held_drew (S := fun v => Chg none W v ∧ Chg none wr v) (by kernel_rfl) hS0 (fun _ => ?_)
          generalize wr.drew = v0 at *
          refine wpAnyH_take (i := 0) (oi := ⟨some 19, _, _, _, _, _⟩) (v := ?_) rfl (by kernel_rfl) (by kernel_rfl) (by kernel_rfl) (fun _ _ _ h => h) (Or.inl ⟨by rfl, ?_⟩) (by assumption) ?_
          rotate_left
          · intro v hSv; (try dsimp only at hSv); skip; go_simp; (try with_reducible rfl)
          try simp only [Act.put, List.setIfInBounds_toArray, List.set_cons_zero, List.set_cons_succ]
          refine wpAnyH_take (i := 1) (oi := ⟨some 20, _, _, _, _, _⟩) (v := ?_) rfl (by kernel_rfl) (by kernel_rfl) (by kernel_rfl) (fun _ _ _ h => h) (Or.inl ⟨by rfl, ?_⟩) (by assumption) ?_
          rotate_left
          · intro v hSv; (try dsimp only at hSv); skip; go_simp; (try with_reducible rfl)
          try simp only [Act.put, List.setIfInBounds_toArray, List.set_cons_zero, List.set_cons_succ]
          refine wpAnyH_take (i := 2) (oi := ⟨some 21, _, _, _, _, _⟩) (v := ?_) rfl (by kernel_rfl) (by kernel_rfl) (by kernel_rfl) (fun _ _ _ h => h) (Or.inl ⟨by rfl, ?_⟩) (by assumption) ?_
          rotate_left
          · intro v hSv; (try dsimp only at hSv); skip; go_simp; (try with_reducible rfl)
          try simp only [Act.put, List.setIfInBounds_toArray, List.set_cons_zero, List.set_cons_succ]
          refine wpAnyH_take (i := 3) (oi := ⟨some 22, _, _, _, _, _⟩) (v := .agg (attCells x).toArray) rfl (by kernel_rfl) (by kernel_rfl) (by kernel_rfl) (fun _ _ _ h => h) (yieldsIf_load_mid (by rfl) 46 _ rfl rb (k * 97) rfl (attCells x) _ (fun v h => HRX.out v h.1) Tryd.underlying46 rfl HIX.out) (by assumption) ?_
          try simp only [Act.put, List.setIfInBounds_toArray, List.set_cons_zero, List.set_cons_succ]
          refine wpAnyH_take (i := 4) (oi := ⟨some 23, _, _, _, _, _⟩) (v := .agg (attCells a).toArray) rfl (by kernel_rfl) (by kernel_rfl) (by kernel_rfl) (fun _ _ _ h => h) (yieldsIf_load_mid (by rfl) 46 _ rfl pX 0 rfl (attCells a) _ (fun v h => HRA.out v h.1) Tryd.underlying46 rfl HIA.out) (by assumption) ?_
          try simp only [Act.put, List.setIfInBounds_toArray, List.set_cons_zero, List.set_cons_succ]
          refine wpAnyH_take (i := 5) (oi := ⟨some 24, _, _, _, _, _⟩) (v := .bool true) rfl (by kernel_rfl) (by kernel_rfl) (by kernel_rfl) (fun _ _ _ h => h) (Or.inl ⟨by rfl, ?_⟩) (by assumption) ?_
          · intro v hSv; have hz := HEQ.out; go_simp
          try simp only [Act.put, List.setIfInBounds_toArray, List.set_cons_zero, List.set_cons_succ]
          refine wpAnyH_done (by kernel_rfl) ?_ _
          try simp only [Act.put]
          go_wp2_with fail
          go_ret2
          exact RAddP.same HOWN.out (HG0.out.trans hS0.1) HE.out
        | false =>
          have hxa : x ≠ a := fun e => by rw [(sameAtt_iff x a).2 e] at hzz; cases hzz
          have HN2 : Hid (∀ j, j < k + 1 → L[j]? ≠ some a) := Lib.hid fun j hj => by
            rcases Nat.lt_or_ge j k with h | h
            · exact HN.out j h
            · obtain rfl : j = k := by omega
              rw [HX.out]; exact fun e => hxa (Option.some.inj e)
          have hrl := ref_less ok.out HABIG.out HX.out hxa
          rw [HPP.out] at hrl
          rw [hzz] at HEQ
          clear hzz hxa
          go_upto_region 8 with fail
          have HKEEP : Hid (∀ v, Chg none wr v → v.ownsRow W.heap.size 46 97 (.slice A' (outK L a p k).length c') (outK L a p k).length ((outK L a p k).flatMap attCells)) := Lib.hid fun v g => World.ownsRow.kept HOW.out g (by cases (Value.slice A' (outK L a p k).length c').ownBlock <;> simp)
          have hS0 : Chg none W wr.drew ∧ Chg none wr wr.drew := ⟨HG.out.drew, (Chg.refl _ _).drew⟩
          refine wp_region_held_drew (S := fun v => Chg none W v ∧ Chg none wr v) (by kernel_rfl) hS0 (fun _ => ?_)
          generalize wr.drew = v0 at *
          refine wpAnyH_take (i := 0) (oi := ⟨some 19, _, _, _, _, _⟩) (v := ?_) rfl (by kernel_rfl) (by kernel_rfl) (by kernel_rfl) (fun _ _ _ h => h) (Or.inl ⟨by rfl, ?_⟩) (by assumption) ?_
          rotate_left
          · intro v hSv; (try dsimp only at hSv); skip; go_simp; (try with_reducible rfl)
          try simp only [Act.put, List.setIfInBounds_toArray, List.set_cons_zero, List.set_cons_succ]
          refine wpAnyH_take (i := 1) (oi := ⟨some 20, _, _, _, _, _⟩) (v := ?_) rfl (by kernel_rfl) (by kernel_rfl) (by kernel_rfl) (fun _ _ _ h => h) (Or.inl ⟨by rfl, ?_⟩) (by assumption) ?_
          rotate_left
          · intro v hSv; (try dsimp only at hSv); skip; go_simp; (try with_reducible rfl)
          try simp only [Act.put, List.setIfInBounds_toArray, List.set_cons_zero, List.set_cons_succ]
          refine wpAnyH_take (i := 2) (oi := ⟨some 21, _, _, _, _, _⟩) (v := ?_) rfl (by kernel_rfl) (by kernel_rfl) (by kernel_rfl) (fun _ _ _ h => h) (Or.inl ⟨by rfl, ?_⟩) (by assumption) ?_
          rotate_left
          · intro v hSv; (try dsimp only at hSv); skip; go_simp; (try with_reducible rfl)
          try simp only [Act.put, List.setIfInBounds_toArray, List.set_cons_zero, List.set_cons_succ]
          refine wpAnyH_take (i := 3) (oi := ⟨some 22, _, _, _, _, _⟩) (v := .agg (attCells x).toArray) rfl (by kernel_rfl) (by kernel_rfl) (by kernel_rfl) (fun _ _ _ h => h) (yieldsIf_load_mid (by rfl) 46 _ rfl rb (k * 97) rfl (attCells x) _ (fun v h => HRX.out v h.1) Tryd.underlying46 rfl HIX.out) (by assumption) ?_
          try simp only [Act.put, List.setIfInBounds_toArray, List.set_cons_zero, List.set_cons_succ]
          refine wpAnyH_take (i := 4) (oi := ⟨some 23, _, _, _, _, _⟩) (v := .agg (attCells a).toArray) rfl (by kernel_rfl) (by kernel_rfl) (by kernel_rfl) (fun _ _ _ h => h) (yieldsIf_load_mid (by rfl) 46 _ rfl pX 0 rfl (attCells a) _ (fun v h => HRA.out v h.1) Tryd.underlying46 rfl HIA.out) (by assumption) ?_
          try simp only [Act.put, List.setIfInBounds_toArray, List.set_cons_zero, List.set_cons_succ]
          refine wpAnyH_take (i := 5) (oi := ⟨some 24, _, _, _, _, _⟩) (v := .bool false) rfl (by kernel_rfl) (by kernel_rfl) (by kernel_rfl) (fun _ _ _ h => h) (Or.inl ⟨by rfl, ?_⟩) (by assumption) ?_
          · intro v hSv; have hz := HEQ.out; go_simp
          try simp only [Act.put, List.setIfInBounds_toArray, List.set_cons_zero, List.set_cons_succ]
          refine wpAnyH_done (by kernel_rfl) ?_ _
          try simp only [Act.put]
          rcases Nat.lt_trichotomy k p with hkp | hkp | hkp
          · have HST := Lib.hid (outK_before (a := a) hkp HX.out)
            have hdn : decide (p < k) = false := decide_eq_false (by omega)
            rw [hdn]
            have hls := fun v => refless_any a x v
            rw [hrl, decide_eq_false (show ¬ p ≤ k by omega)] at hls
            have HLS := Lib.hid hls
            clear hls
            have HKP := Lib.hid hkp
            clear hkp hdn hrl
            go_upto_region 10 with fail
            have hS0' : Chg none W v0.drew ∧ Chg none wr v0.drew := ⟨hS0.1.drew, hS0.2.drew⟩
            refine wp_region_held_drew (S := fun v => Chg none W v ∧ Chg none wr v) (by kernel_rfl) hS0' (fun _ => ?_)
            generalize v0.drew = v0' at *
            refine wpAnyH_take (i := 0) (oi := ⟨some 26, _, _, _, _, _⟩) (v := ?_) rfl (by kernel_rfl) (by kernel_rfl) (by kernel_rfl) (fun _ _ _ h => h) (Or.inl ⟨by rfl, ?_⟩) (by assumption) ?_
            rotate_left
            · intro v hSv; (try dsimp only at hSv); skip; go_simp; (try with_reducible rfl)
            try simp only [Act.put, List.setIfInBounds_toArray, List.set_cons_zero, List.set_cons_succ]
            refine wpAnyH_take (i := 1) (oi := ⟨some 27, _, _, _, _, _⟩) (v := ?_) rfl (by kernel_rfl) (by kernel_rfl) (by kernel_rfl) (fun _ _ _ h => h) (Or.inl ⟨by rfl, ?_⟩) (by assumption) ?_
            rotate_left
            · intro v hSv; (try dsimp only at hSv); skip; go_simp; (try with_reducible rfl)
            try simp only [Act.put, List.setIfInBounds_toArray, List.set_cons_zero, List.set_cons_succ]
            refine wpAnyH_take (i := 2) (oi := ⟨some 28, _, _, _, _, _⟩) (v := ?_) rfl (by kernel_rfl) (by kernel_rfl) (by kernel_rfl) (fun _ _ _ h => h) (Or.inl ⟨by rfl, ?_⟩) (by assumption) ?_
            rotate_left
            · intro v hSv; (try dsimp only at hSv); skip; go_simp; (try with_reducible rfl)
            try simp only [Act.put, List.setIfInBounds_toArray, List.set_cons_zero, List.set_cons_succ]
            refine wpAnyH_take (i := 3) (oi := ⟨some 29, _, _, _, _, _⟩) (v := .agg (attCells a).toArray) rfl (by kernel_rfl) (by kernel_rfl) (by kernel_rfl) (fun _ _ _ h => h) (yieldsIf_load_mid (by rfl) 46 _ rfl pX 0 rfl (attCells a) _ (fun v h => HRA.out v h.1) Tryd.underlying46 rfl HIA.out) (by assumption) ?_
            try simp only [Act.put, List.setIfInBounds_toArray, List.set_cons_zero, List.set_cons_succ]
            refine wpAnyH_take (i := 4) (oi := ⟨some 30, _, _, _, _, _⟩) (v := ?_) rfl (by kernel_rfl) (by kernel_rfl) (by kernel_rfl) (fun _ _ _ h => h) (Or.inl ⟨by rfl, ?_⟩) (by assumption) ?_
            rotate_left
            · intro v hSv; (try dsimp only at hSv); skip; go_simp; (try with_reducible rfl)
            try simp only [Act.put, List.setIfInBounds_toArray, List.set_cons_zero, List.set_cons_succ]
            refine wpAnyH_take (i := 5) (oi := ⟨some 31, _, _, _, _, _⟩) (v := ?_) rfl (by kernel_rfl) (by kernel_rfl) (by kernel_rfl) (fun _ _ _ h => h) (Or.inl ⟨by rfl, ?_⟩) (by assumption) ?_
            rotate_left
            · intro v hSv; (try dsimp only at hSv); skip; go_simp; (try with_reducible rfl)
            try simp only [Act.put, List.setIfInBounds_toArray, List.set_cons_zero, List.set_cons_succ]
            refine wpAnyH_take (i := 6) (oi := ⟨some 32, _, _, _, _, _⟩) (v := ?_) rfl (by kernel_rfl) (by kernel_rfl) (by kernel_rfl) (fun _ _ _ h => h) (Or.inl ⟨by rfl, ?_⟩) (by assumption) ?_
            rotate_left
            · intro v hSv; (try dsimp only at hSv); skip; go_simp; (try with_reducible rfl)
            try simp only [Act.put, List.setIfInBounds_toArray, List.set_cons_zero, List.set_cons_succ]
            refine wpAnyH_take (i := 7) (oi := ⟨some 33, _, _, _, _, _⟩) (v := .agg (attCells x).toArray) rfl (by kernel_rfl) (by kernel_rfl) (by kernel_rfl) (fun _ _ _ h => h) (yieldsIf_load_mid (by rfl) 46 _ rfl rb (k * 97) rfl (attCells x) _ (fun v h => HRX.out v h.1) Tryd.underlying46 rfl HIX.out) (by assumption) ?_
            try simp only [Act.put, List.setIfInBounds_toArray, List.set_cons_zero, List.set_cons_succ]
            refine wpAnyH_ready (rs := [8]) (by kernel_rfl) (by simp) ?_
            refine AllReadyH.cons (o := ⟨some 34, _, _, _, _, _⟩) rfl (fun K hK => ?_) (AllReadyH.nil)
            go_simp
            go_at_call 59
            refine (HLS.out _).mono ?_
            rintro e v1 ⟨rfl, g1⟩
            have hS1 : Chg none W v1 ∧ Chg none wr v1 := ⟨hS0'.1.trans g1, hS0'.2.trans g1⟩
            clear g1
            go_wp2_with fail
            refine hK.out _ _ hS1 (fun _ => ?_)
            clear hK K
            try simp only [Act.put, List.setIfInBounds_toArray, List.set_cons_zero, List.set_cons_succ]
            refine wpAnyH_take (i := 9) (oi := ⟨some 35, _, _, _, _, _⟩) (v := ?_) rfl (by kernel_rfl) (by kernel_rfl) (by kernel_rfl) (fun _ _ _ h => h) (Or.inl ⟨by rfl, ?_⟩) (by assumption) ?_
            rotate_left
            · intro v hSv; (try dsimp only at hSv); skip; go_simp; (try with_reducible rfl)
            try simp only [Act.put, List.setIfInBounds_toArray, List.set_cons_zero, List.set_cons_succ]
            refine wpAnyH_done (by kernel_rfl) ?_ _
            try simp only [Act.put]
            have HGV := Lib.hid hS1.1
            have HOWV := Lib.hid (HKEEP.out _ hS1.2)
            have hs1x : (outK L a p k).length + 1 ≤ maxLen := bd3 hml
            have hs2x : ((outK L a p k).length + 1) * 104 ≤ 140737488355328 := bd4 hml
            obtain ⟨WBx, hWBx⟩ : ∃ WB, WB = v1.alloc (.cells (attCells x).toArray 46) := ⟨_, rfl⟩
            have HOWBx : Hid (WBx.ownsRow W.heap.size 46 97 (.slice A' (outK L a p k).length c') (outK L a p k).length ((outK L a p k).flatMap attCells)) := Lib.hid (by rw [hWBx]; exact HOWV.out.alloc _)
            have HGBx : Hid (Chg none W WBx) := Lib.hid (by rw [hWBx]; exact HGV.out.alloc _)
            have HNWx : Hid (∀ j u, (attCells x)[j]? = some u → WBx.cell? ((⟨v1.heap.size, 0, none⟩ : Addr).add j) = some u) := Lib.hid fun j u hj => by
              rw [Go.WideShapes.add_plain, Nat.zero_add, hWBx, BlkL.cell (show BlkL (v1.alloc (.cells (attCells x).toArray 46)) v1.heap.size (attCells x) 46 from Blk.new _ _ _)]
              exact hj
            have HNLx : Hid ((attCells x).length = 1 * 97) := Lib.hid (by rw [attCells_len])
            have HONEx := Lib.hid (ones_att x)
            have HFIx := Lib.hid (fill46 x i0 hz1)
            have hs3x : W.heap.size ≤ WBx.heap.size := HGBx.out.size
            have HWBx := Lib.hid hWBx
            clear hWBx
            go_wp2_with (first
              | (refine wpList_load_mid rfl 46 _ rfl rb (k * 97) rfl (attCells x) _ (HRX.out _ HGV.out) Tryd.underlying46 rfl HIX.out ?_)
              | (refine wpList_buildSlice rfl 69 46 1 _ rfl (attCells x).toArray i0 (.agg (attCells attZero).toArray) Tryd.underlying69 hi0 hz0 (by rw [hz1]; decide) (by rw [hz1]; decide) (by simp only [List.map_toArray, List.map_cons, List.map_nil]; exact HFIx.out) ?_; rw [← HWBx.out])
              | (refine wpList_append_own _ rfl (.tmp 40) (.tmp 45) 69 rfl W.heap.size 46 i0 (.agg (attCells attZero).toArray) 97 104 Tryd.underlying69 hi0 hz0 hz1 hz2 HZ.out (by decide) (.slice A' (outK L a p k).length c') (outK L a p k).length _ rfl HOWBx.out ⟨v1.heap.size, 0, none⟩ 1 1 (attCells x) rfl HNLx.out HNWx.out HONEx.out hs1x hs2x hs3x ?_
                 intro v' w4 hown hgr hno
                 obtain ⟨A4, c4, rfl⟩ : ∃ A2 c2, v' = .slice A2 ((outK L a p k).length + 1) c2 := by
                   rcases hown.2 with ⟨e, h0⟩ | ⟨g, cap, cur, e, -⟩
                   · omega
                   · exact ⟨_, _, e⟩
                 have HOW4 := Lib.hid hown
                 have HG4 : Hid (Chg none W w4) := Lib.hid (Chg.ownRow HGBx.out hgr (fun y hy => (HOWBx.out.lt y hy).1))
                 clear hown hgr hno hs1x hs2x hs3x)
              )
            have hkp := HKP.out
            go_roundw
            case rel =>
              refine ⟨k + 1, A4, c4, by have := HLT.out; omega, by first | rfl | go_num, ?_, ?_, ?_, ?_, HG4⟩
              · congr 1; exact (decide_eq_false (by omega)).symm
              · rw [HST.out]; simp
              · refine Lib.hid ?_; rw [HST.out]; have := HOW4.out; simpa using this
              · exact HN2
            case measure => have := HLT.out; first | omega | (simp only [intOf]; omega) | (simp [intOf]; omega)
          · have HST := Lib.hid (outK_at2 (a := a) hkp HX.out)
            have hdn : decide (p < k) = false := decide_eq_false (by omega)
            rw [hdn]
            have hls := fun v => refless_any a x v
            rw [hrl, decide_eq_true (show p ≤ k by omega)] at hls
            have HLS := Lib.hid hls
            clear hls
            have HKP := Lib.hid hkp
            clear hkp hdn hrl
            go_upto_region 10 with fail
            have hS0' : Chg none W v0.drew ∧ Chg none wr v0.drew := ⟨hS0.1.drew, hS0.2.drew⟩
            refine wp_region_held_drew (S := fun v => Chg none W v ∧ Chg none wr v) (by kernel_rfl) hS0' (fun _ => ?_)
            generalize v0.drew = v0' at *
            refine wpAnyH_take (i := 0) (oi := ⟨some 26, _, _, _, _, _⟩) (v := ?_) rfl (by kernel_rfl) (by kernel_rfl) (by kernel_rfl) (fun _ _ _ h => h) (Or.inl ⟨by rfl, ?_⟩) (by assumption) ?_
            rotate_left
            · intro v hSv; (try dsimp only at hSv); skip; go_simp; (try with_reducible rfl)
            try simp only [Act.put, List.setIfInBounds_toArray, List.set_cons_zero, List.set_cons_succ]
            refine wpAnyH_take (i := 1) (oi := ⟨some 27, _, _, _, _, _⟩) (v := ?_) rfl (by kernel_rfl) (by kernel_rfl) (by kernel_rfl) (fun _ _ _ h => h) (Or.inl ⟨by rfl, ?_⟩) (by assumption) ?_
            rotate_left
            · intro v hSv; (try dsimp only at hSv); skip; go_simp; (try with_reducible rfl)
            try simp only [Act.put, List.setIfInBounds_toArray, List.set_cons_zero, List.set_cons_succ]
            refine wpAnyH_take (i := 2) (oi := ⟨some 28, _, _, _, _, _⟩) (v := ?_) rfl (by kernel_rfl) (by kernel_rfl) (by kernel_rfl) (fun _ _ _ h => h) (Or.inl ⟨by rfl, ?_⟩) (by assumption) ?_
            rotate_left
            · intro v hSv; (try dsimp only at hSv); skip; go_simp; (try with_reducible rfl)
            try simp only [Act.put, List.setIfInBounds_toArray, List.set_cons_zero, List.set_cons_succ]
            refine wpAnyH_take (i := 3) (oi := ⟨some 29, _, _, _, _, _⟩) (v := .agg (attCells a).toArray) rfl (by kernel_rfl) (by kernel_rfl) (by kernel_rfl) (fun _ _ _ h => h) (yieldsIf_load_mid (by rfl) 46 _ rfl pX 0 rfl (attCells a) _ (fun v h => HRA.out v h.1) Tryd.underlying46 rfl HIA.out) (by assumption) ?_
            try simp only [Act.put, List.setIfInBounds_toArray, List.set_cons_zero, List.set_cons_succ]
            refine wpAnyH_take (i := 4) (oi := ⟨some 30, _, _, _, _, _⟩) (v := ?_) rfl (by kernel_rfl) (by kernel_rfl) (by kernel_rfl) (fun _ _ _ h => h) (Or.inl ⟨by rfl, ?_⟩) (by assumption) ?_
            rotate_left
            · intro v hSv; (try dsimp only at hSv); skip; go_simp; (try with_reducible rfl)
            try simp only [Act.put, List.setIfInBounds_toArray, List.set_cons_zero, List.set_cons_succ]
            refine wpAnyH_take (i := 5) (oi := ⟨some 31, _, _, _, _, _⟩) (v := ?_) rfl (by kernel_rfl) (by kernel_rfl) (by kernel_rfl) (fun _ _ _ h => h) (Or.inl ⟨by rfl, ?_⟩) (by assumption) ?_
            rotate_left
            · intro v hSv; (try dsimp only at hSv); skip; go_simp; (try with_reducible rfl)
            try simp only [Act.put, List.setIfInBounds_toArray, List.set_cons_zero, List.set_cons_succ]
            refine wpAnyH_take (i := 6) (oi := ⟨some 32, _, _, _, _, _⟩) (v := ?_) rfl (by kernel_rfl) (by kernel_rfl) (by kernel_rfl) (fun _ _ _ h => h) (Or.inl ⟨by rfl, ?_⟩) (by assumption) ?_
            rotate_left
            · intro v hSv; (try dsimp only at hSv); skip; go_simp; (try with_reducible rfl)
            try simp only [Act.put, List.setIfInBounds_toArray, List.set_cons_zero, List.set_cons_succ]
            refine wpAnyH_take (i := 7) (oi := ⟨some 33, _, _, _, _, _⟩) (v := .agg (attCells x).toArray) rfl (by kernel_rfl) (by kernel_rfl) (by kernel_rfl) (fun _ _ _ h => h) (yieldsIf_load_mid (by rfl) 46 _ rfl rb (k * 97) rfl (attCells x) _ (fun v h => HRX.out v h.1) Tryd.underlying46 rfl HIX.out) (by assumption) ?_
            try simp only [Act.put, List.setIfInBounds_toArray, List.set_cons_zero, List.set_cons_succ]
            refine wpAnyH_ready (rs := [8]) (by kernel_rfl) (by simp) ?_
            refine AllReadyH.cons (o := ⟨some 34, _, _, _, _, _⟩) rfl (fun K hK => ?_) (AllReadyH.nil)
            go_simp
            go_at_call 59
            refine (HLS.out _).mono ?_
            rintro e v1 ⟨rfl, g1⟩
            have hS1 : Chg none W v1 ∧ Chg none wr v1 := ⟨hS0'.1.trans g1, hS0'.2.trans g1⟩
            clear g1
            go_wp2_with fail
            refine hK.out _ _ hS1 (fun _ => ?_)
            clear hK K
            try simp only [Act.put, List.setIfInBounds_toArray, List.set_cons_zero, List.set_cons_succ]
            refine wpAnyH_take (i := 9) (oi := ⟨some 35, _, _, _, _, _⟩) (v := ?_) rfl (by kernel_rfl) (by kernel_rfl) (by kernel_rfl) (fun _ _ _ h => h) (Or.inl ⟨by rfl, ?_⟩) (by assumption) ?_
            rotate_left
            · intro v hSv; (try dsimp only at hSv); skip; go_simp; (try with_reducible rfl)
            try simp only [Act.put, List.setIfInBounds_toArray, List.set_cons_zero, List.set_cons_succ]
            refine wpAnyH_done (by kernel_rfl) ?_ _
            try simp only [Act.put]
            have HGV := Lib.hid hS1.1
            have HOWV := Lib.hid (HKEEP.out _ hS1.2)
            have hs1x : ((outK L a p k).length + 1) + 1 ≤ maxLen := bd1 hml
            have hs2x : (((outK L a p k).length + 1) + 1) * 104 ≤ 140737488355328 := bd2 hml
            have hs1a : (outK L a p k).length + 1 ≤ maxLen := bd3 hml
            have hs2a : ((outK L a p k).length + 1) * 104 ≤ 140737488355328 := bd4 hml
            obtain ⟨WBa, hWBa⟩ : ∃ WB, WB = v1.alloc (.cells (attCells a).toArray 46) := ⟨_, rfl⟩
            have HOWBa : Hid (WBa.ownsRow W.heap.size 46 97 (.slice A' (outK L a p k).length c') (outK L a p k).length ((outK L a p k).flatMap attCells)) := Lib.hid (by rw [hWBa]; exact HOWV.out.alloc _)
            have HGBa : Hid (Chg none W WBa) := Lib.hid (by rw [hWBa]; exact HGV.out.alloc _)
            have HNWa : Hid (∀ j u, (attCells a)[j]? = some u → WBa.cell? ((⟨v1.heap.size, 0, none⟩ : Addr).add j) = some u) := Lib.hid fun j u hj => by
              rw [Go.WideShapes.add_plain, Nat.zero_add, hWBa, BlkL.cell (show BlkL (v1.alloc (.cells (attCells a).toArray 46)) v1.heap.size (attCells a) 46 from Blk.new _ _ _)]
              exact hj
            have HNLa : Hid ((attCells a).length = 1 * 97) := Lib.hid (by rw [attCells_len])
            have HONEa := Lib.hid (ones_att a)
            have HFIa := Lib.hid (fill46 a i0 hz1)
            have hs3a : W.heap.size ≤ WBa.heap.size := HGBa.out.size
            have HWBa := Lib.hid hWBa
            clear hWBa
            go_upto_region 13 with (first
              | (refine wpList_load_mid rfl 46 _ rfl pX 0 rfl (attCells a) _ (HRA.out _ HGV.out) Tryd.underlying46 rfl HIA.out ?_)
              | (refine wpList_buildSlice rfl 69 46 1 _ rfl (attCells a).toArray i0 (.agg (attCells attZero).toArray) Tryd.underlying69 hi0 hz0 (by rw [hz1]; decide) (by rw [hz1]; decide) (by simp only [List.map_toArray, List.map_cons, List.map_nil]; exact HFIa.out) ?_; rw [← HWBa.out])
              | (refine wpList_append_own _ rfl (.tmp 36) (.tmp 38) 69 rfl W.heap.size 46 i0 (.agg (attCells attZero).toArray) 97 104 Tryd.underlying69 hi0 hz0 hz1 hz2 HZ.out (by decide) (.slice A' (outK L a p k).length c') (outK L a p k).length _ rfl HOWBa.out ⟨v1.heap.size, 0, none⟩ 1 1 (attCells a) rfl HNLa.out HNWa.out HONEa.out hs1a hs2a hs3a ?_
                 intro v' w3 hown hgr hno
                 obtain ⟨A3, c3, rfl⟩ : ∃ A2 c2, v' = .slice A2 ((outK L a p k).length + 1) c2 := by
                   rcases hown.2 with ⟨e, h0⟩ | ⟨g, cap, cur, e, -⟩
                   · omega
                   · exact ⟨_, _, e⟩
                 have HOW3 := Lib.hid hown
                 have HG3 : Hid (Chg none W w3) := Lib.hid (Chg.ownRow HGBa.out hgr (fun y hy => (HOWBa.out.lt y hy).1))
                 clear hown hgr hno hs1a hs2a hs3a)
              )
            obtain ⟨WBx, hWBx⟩ : ∃ WB, WB = w3.alloc (.cells (attCells x).toArray 46) := ⟨_, rfl⟩
            have HOWBx : Hid (WBx.ownsRow W.heap.size 46 97 (.slice A3 ((outK L a p k).length + 1) c3) ((outK L a p k).length + 1) ((outK L a p k).flatMap attCells ++ attCells a)) := Lib.hid (by rw [hWBx]; exact HOW3.out.alloc _)
            have HGBx : Hid (Chg none W WBx) := Lib.hid (by rw [hWBx]; exact HG3.out.alloc _)
            have HNWx : Hid (∀ j u, (attCells x)[j]? = some u → WBx.cell? ((⟨w3.heap.size, 0, none⟩ : Addr).add j) = some u) := Lib.hid fun j u hj => by
              rw [Go.WideShapes.add_plain, Nat.zero_add, hWBx, BlkL.cell (show BlkL (w3.alloc (.cells (attCells x).toArray 46)) w3.heap.size (attCells x) 46 from Blk.new _ _ _)]
              exact hj
            have HNLx : Hid ((attCells x).length = 1 * 97) := Lib.hid (by rw [attCells_len])
            have HONEx := Lib.hid (ones_att x)
            have HFIx := Lib.hid (fill46 x i0 hz1)
            have hs3x : W.heap.size ≤ WBx.heap.size := HGBx.out.size
            have HWBx := Lib.hid hWBx
            clear hWBx
            go_wp2_with (first
              | (refine wpList_load_mid rfl 46 _ rfl rb (k * 97) rfl (attCells x) _ (HRX.out _ HG3.out) Tryd.underlying46 rfl HIX.out ?_)
              | (refine wpList_buildSlice rfl 69 46 1 _ rfl (attCells x).toArray i0 (.agg (attCells attZero).toArray) Tryd.underlying69 hi0 hz0 (by rw [hz1]; decide) (by rw [hz1]; decide) (by simp only [List.map_toArray, List.map_cons, List.map_nil]; exact HFIx.out) ?_; rw [← HWBx.out])
              | (refine wpList_append_own _ rfl (.tmp 40) (.tmp 45) 69 rfl W.heap.size 46 i0 (.agg (attCells attZero).toArray) 97 104 Tryd.underlying69 hi0 hz0 hz1 hz2 HZ.out (by decide) (.slice A3 ((outK L a p k).length + 1) c3) ((outK L a p k).length + 1) _ rfl HOWBx.out ⟨w3.heap.size, 0, none⟩ 1 1 (attCells x) rfl HNLx.out HNWx.out HONEx.out hs1x hs2x hs3x ?_
                 intro v' w4 hown hgr hno
                 obtain ⟨A4, c4, rfl⟩ : ∃ A2 c2, v' = .slice A2 (((outK L a p k).length + 1) + 1) c2 := by
                   rcases hown.2 with ⟨e, h0⟩ | ⟨g, cap, cur, e, -⟩
                   · omega
                   · exact ⟨_, _, e⟩
                 have HOW4 := Lib.hid hown
                 have HG4 : Hid (Chg none W w4) := Lib.hid (Chg.ownRow HGBx.out hgr (fun y hy => (HOWBx.out.lt y hy).1))
                 clear hown hgr hno hs1x hs2x hs3x)
              )
            have hkp := HKP.out
            go_roundw
            case rel =>
              refine ⟨k + 1, A4, c4, by have := HLT.out; omega, by first | rfl | go_num, ?_, ?_, ?_, ?_, HG4⟩
              · congr 1; exact (decide_eq_true (by omega)).symm
              · rw [HST.out]; simp
              · refine Lib.hid ?_; rw [HST.out]; have := HOW4.out; simpa using this
              · exact HN2
            case measure => have := HLT.out; first | omega | (simp only [intOf]; omega) | (simp [intOf]; omega)
          · have HST := Lib.hid (outK_behind (a := a) hkp HX.out)
            have hdn : decide (p < k) = true := decide_eq_true (by omega)
            rw [hdn]
            have HKP := Lib.hid hkp
            clear hkp hdn hrl
            go_upto_region 10 with fail
            have hS0' : Chg none W v0.drew ∧ Chg none wr v0.drew := ⟨hS0.1.drew, hS0.2.drew⟩
            refine wp_region_held_drew (S := fun v => Chg none W v ∧ Chg none wr v) (by kernel_rfl) hS0' (fun _ => ?_)
            generalize v0.drew = v0' at *
            refine wpAnyH_take (i := 0) (oi := ⟨some 26, _, _, _, _, _⟩) (v := ?_) rfl (by kernel_rfl) (by kernel_rfl) (by kernel_rfl) (fun _ _ _ h => h) (Or.inl ⟨by rfl, ?_⟩) (by assumption) ?_
            rotate_left
            · intro v hSv; (try dsimp only at hSv); skip; go_simp; (try with_reducible rfl)
            try simp only [Act.put, List.setIfInBounds_toArray, List.set_cons_zero, List.set_cons_succ]
            refine wpAnyH_take (i := 1) (oi := ⟨some 27, _, _, _, _, _⟩) (v := ?_) rfl (by kernel_rfl) (by kernel_rfl) (by kernel_rfl) (fun _ _ _ h => h) (Or.inl ⟨by rfl, ?_⟩) (by assumption) ?_
            rotate_left
            · intro v hSv; (try dsimp only at hSv); skip; go_simp; (try with_reducible rfl)
            try simp only [Act.put, List.setIfInBounds_toArray, List.set_cons_zero, List.set_cons_succ]
            refine wpAnyH_take (i := 2) (oi := ⟨some 28, _, _, _, _, _⟩) (v := ?_) rfl (by kernel_rfl) (by kernel_rfl) (by kernel_rfl) (fun _ _ _ h => h) (Or.inl ⟨by rfl, ?_⟩) (by assumption) ?_
            rotate_left
            · intro v hSv; (try dsimp only at hSv); skip; go_simp; (try with_reducible rfl)
            try simp only [Act.put, List.setIfInBounds_toArray, List.set_cons_zero, List.set_cons_succ]
            refine wpAnyH_take (i := 3) (oi := ⟨some 29, _, _, _, _, _⟩) (v := undef) rfl (by kernel_rfl) (by kernel_rfl) (by kernel_rfl) (fun _ _ _ h => h) (Or.inr ⟨by rfl, by rfl⟩) (by assumption) ?_
            try simp only [Act.put, List.setIfInBounds_toArray, List.set_cons_zero, List.set_cons_succ]
            refine wpAnyH_take (i := 4) (oi := ⟨some 30, _, _, _, _, _⟩) (v := undef) rfl (by kernel_rfl) (by kernel_rfl) (by kernel_rfl) (fun _ _ _ h => h) (Or.inr ⟨by rfl, by rfl⟩) (by assumption) ?_
            try simp only [Act.put, List.setIfInBounds_toArray, List.set_cons_zero, List.set_cons_succ]
            refine wpAnyH_take (i := 5) (oi := ⟨some 31, _, _, _, _, _⟩) (v := undef) rfl (by kernel_rfl) (by kernel_rfl) (by kernel_rfl) (fun _ _ _ h => h) (Or.inr ⟨by rfl, by rfl⟩) (by assumption) ?_
            try simp only [Act.put, List.setIfInBounds_toArray, List.set_cons_zero, List.set_cons_succ]
            refine wpAnyH_take (i := 6) (oi := ⟨some 32, _, _, _, _, _⟩) (v := undef) rfl (by kernel_rfl) (by kernel_rfl) (by kernel_rfl) (fun _ _ _ h => h) (Or.inr ⟨by rfl, by rfl⟩) (by assumption) ?_
            try simp only [Act.put, List.setIfInBounds_toArray, List.set_cons_zero, List.set_cons_succ]
            refine wpAnyH_take (i := 7) (oi := ⟨some 33, _, _, _, _, _⟩) (v := undef) rfl (by kernel_rfl) (by kernel_rfl) (by kernel_rfl) (fun _ _ _ h => h) (Or.inr ⟨by rfl, by rfl⟩) (by assumption) ?_
            try simp only [Act.put, List.setIfInBounds_toArray, List.set_cons_zero, List.set_cons_succ]
            refine wpAnyH_take (i := 8) (oi := ⟨some 34, _, _, _, _, _⟩) (v := undef) rfl (by kernel_rfl) (by kernel_rfl) (by kernel_rfl) (fun _ _ _ h => h) (Or.inr ⟨by rfl, by rfl⟩) (by assumption) ?_
            try simp only [Act.put, List.setIfInBounds_toArray, List.set_cons_zero, List.set_cons_succ]
            refine wpAnyH_take (i := 9) (oi := ⟨some 35, _, _, _, _, _⟩) (v := ?_) rfl (by kernel_rfl) (by kernel_rfl) (by kernel_rfl) (fun _ _ _ h => h) (Or.inl ⟨by rfl, ?_⟩) (by assumption) ?_
            rotate_left
            · intro v hSv; (try dsimp only at hSv); skip; go_simp; (try with_reducible rfl)
            try simp only [Act.put, List.setIfInBounds_toArray, List.set_cons_zero, List.set_cons_succ]
            refine wpAnyH_done (by kernel_rfl) ?_ _
            try simp only [Act.put]
            have HGV := Lib.hid hS0'.1
            have HOWV := Lib.hid (HKEEP.out _ hS0'.2)
            have hs1x : (outK L a p k).length + 1 ≤ maxLen := bd3 hml
            have hs2x : ((outK L a p k).length + 1) * 104 ≤ 140737488355328 := bd4 hml
            obtain ⟨WBx, hWBx⟩ : ∃ WB, WB = v0'.alloc (.cells (attCells x).toArray 46) := ⟨_, rfl⟩
            have HOWBx : Hid (WBx.ownsRow W.heap.size 46 97 (.slice A' (outK L a p k).length c') (outK L a p k).length ((outK L a p k).flatMap attCells)) := Lib.hid (by rw [hWBx]; exact HOWV.out.alloc _)
            have HGBx : Hid (Chg none W WBx) := Lib.hid (by rw [hWBx]; exact HGV.out.alloc _)
            have HNWx : Hid (∀ j u, (attCells x)[j]? = some u → WBx.cell? ((⟨v0'.heap.size, 0, none⟩ : Addr).add j) = some u) := Lib.hid fun j u hj => by
              rw [Go.WideShapes.add_plain, Nat.zero_add, hWBx, BlkL.cell (show BlkL (v0'.alloc (.cells (attCells x).toArray 46)) v0'.heap.size (attCells x) 46 from Blk.new _ _ _)]
              exact hj
            have HNLx : Hid ((attCells x).length = 1 * 97) := Lib.hid (by rw [attCells_len])
            have HONEx := Lib.hid (ones_att x)
            have HFIx := Lib.hid (fill46 x i0 hz1)
            have hs3x : W.heap.size ≤ WBx.heap.size := HGBx.out.size
            have HWBx := Lib.hid hWBx
            clear hWBx
            go_wp2_with (first
              | (refine wpList_load_mid rfl 46 _ rfl rb (k * 97) rfl (attCells x) _ (HRX.out _ HGV.out) Tryd.underlying46 rfl HIX.out ?_)
              | (refine wpList_buildSlice rfl 69 46 1 _ rfl (attCells x).toArray i0 (.agg (attCells attZero).toArray) Tryd.underlying69 hi0 hz0 (by rw [hz1]; decide) (by rw [hz1]; decide) (by simp only [List.map_toArray, List.map_cons, List.map_nil]; exact HFIx.out) ?_; rw [← HWBx.out])
              | (refine wpList_append_own _ rfl (.tmp 40) (.tmp 45) 69 rfl W.heap.size 46 i0 (.agg (attCells attZero).toArray) 97 104 Tryd.underlying69 hi0 hz0 hz1 hz2 HZ.out (by decide) (.slice A' (outK L a p k).length c') (outK L a p k).length _ rfl HOWBx.out ⟨v0'.heap.size, 0, none⟩ 1 1 (attCells x) rfl HNLx.out HNWx.out HONEx.out hs1x hs2x hs3x ?_
                 intro v' w4 hown hgr hno
                 obtain ⟨A4, c4, rfl⟩ : ∃ A2 c2, v' = .slice A2 ((outK L a p k).length + 1) c2 := by
                   rcases hown.2 with ⟨e, h0⟩ | ⟨g, cap, cur, e, -⟩
                   · omega
                   · exact ⟨_, _, e⟩
                 have HOW4 := Lib.hid hown
                 have HG4 : Hid (Chg none W w4) := Lib.hid (Chg.ownRow HGBx.out hgr (fun y hy => (HOWBx.out.lt y hy).1))
                 clear hown hgr hno hs1x hs2x hs3x)
              )
            have hkp := HKP.out
            go_roundw
            case rel =>
              refine ⟨k + 1, A4, c4, by have := HLT.out; omega, by first | rfl | go_num, ?_, ?_, ?_, ?_, HG4⟩
              · congr 1; exact (decide_eq_true (by omega)).symm
              · rw [HST.out]; simp
              · refine Lib.hid ?_; rw [HST.out]; have := HOW4.out; simpa using this
              · exact HN2
            case measure => have := HLT.out; first | omega | (simp only [intOf]; omega) | (simp [intOf]; omega)
      · have hd : decide (k < L.length) = false := by rw [decide_eq_false_iff_not]; exact hlt
        have hd2 : decide ((k : Int) < (L.length : Int)) = false := by rw [decide_eq_false_iff_not]; omega
        obtain rfl : k = L.length := by omega
        have HNIN : Hid (a ∉ L) := Lib.hid fun hin => by
          obtain ⟨j, hj, e⟩ := List.getElem_of_mem hin
          exact HN.out j hj (by rw [List.getElem?_eq_getElem hj, e])
        have hend := outK_end (a := a) ok.out.sort
        rw [HPP.out] at hend
        clear hlt hk HN
        obtain ⟨F, hF⟩ : ∃ F, L.take p ++ a :: L.drop p = F := ⟨_, rfl⟩
        have HF := Lib.hid hF
        have HFL : Hid (F.length = L.length + 1) := Lib.hid (by rw [← hF, List.length_append, List.length_cons, List.length_take, List.length_drop]; have := HPL.out; omega)
        rw [hF] at hend
        clear hF
        by_cases hpl : p < L.length
        · rw [if_pos hpl] at hend
          have hdn : decide (p < L.length) = true := decide_eq_true hpl
          rw [hend] at HOW ⊢
          have HFN := Lib.hid HFL.out
          clear hend
          go_upto_region 16 with fail
          obtain ⟨wf, rfl⟩ : ∃ wf : World, wf = wr := ⟨_, rfl⟩
          have HOWF := Lib.hid HOW.out
          have HGF := Lib.hid HG.out
          obtain ⟨A6, rfl⟩ : ∃ A6, A6 = A' := ⟨_, rfl⟩
          obtain ⟨c6, rfl⟩ : ∃ c6, c6 = c' := ⟨_, rfl⟩
          have HF200 : Hid (F.length ≤ 201) := Lib.hid (by have := HFL.out; omega)
          have hfl : F.length ≤ 201 := HF200.out
          by_cases h200 : 200 < F.length
          · have q1 : decide ((200 : Int) < (F.length : Int)) = true := decide_eq_true (by omega)
            have q2 : decide (200 < F.length) = true := decide_eq_true h200
            have hL2 : L.length = 200 := by have := HFL.out; omega
            obtain ⟨z, hz⟩ : ∃ z, F[200]? = some z := ⟨_, List.getElem?_eq_getElem h200⟩
            have hpf := put_full (a := a) hL2 HNIN.out (by rw [HPP.out]; exact HPL.out)
            rw [HPP.out, HF.out, hz] at hpf
            obtain ⟨ro, ca, erow, -, -, hrz⟩ := arow_at HOWF.out hz
            obtain ⟨rfl, rfl⟩ : A6 = some ⟨ro, 0, none⟩ ∧ ca = c6 := by
              injection erow with e1 _ e3
              exact ⟨e1, e3.symm⟩
            clear erow
            have HRZ : Hid (∀ v, Chg none wf v → v.rangeAt ro (200 * 97) (attCells z)) := Lib.hid fun v g => rangeAt_chg hrz g (by simp)
            have HIZ := Lib.hid (info46 z)
            have HEQ2 := Lib.hid (eql46 z a)
            have q3 : (200 : Int) < (F.length : Int) := by omega
            clear hrz hz
            cases hzz : sameAtt z a with
            | true =>
              have HE : Hid (addM L a = (L, 8)) := Lib.hid (by
                have h3 := hpf.1 (by rw [(sameAtt_iff z a).1 hzz])
                unfold addM; rw [HM.out, if_pos rfl, if_neg HNIN.out, HPP.out, if_pos h3])
              rw [hzz] at HEQ2
              clear hzz hpf hL2
              go_upto_region 17 with fail
              have hS0 : Chg none W wf.drew ∧ Chg none wf wf.drew := ⟨HGF.out.drew, (Chg.refl _ _).drew⟩
              refine wp_region_held_drew (S := fun v => Chg none W v ∧ Chg none wf v) (by kernel_rfl) hS0 (fun _ => ?_)
              generalize wf.drew = v0 at *
              refine wpAnyH_take (i := 0) (oi := ⟨some 56, _, _, _, _, _⟩) (v := ?_) rfl (by kernel_rfl) (by kernel_rfl) (by kernel_rfl) (fun _ _ _ h => h) (Or.inl ⟨by rfl, ?_⟩) (by assumption) ?_
              rotate_left
              · intro v hSv; (try dsimp only at hSv); skip; go_simp; (try with_reducible rfl)
              try simp only [Act.put, List.setIfInBounds_toArray, List.set_cons_zero, List.set_cons_succ]
              refine wpAnyH_take (i := 1) (oi := ⟨some 57, _, _, _, _, _⟩) (v := ?_) rfl (by kernel_rfl) (by kernel_rfl) (by kernel_rfl) (fun _ _ _ h => h) (Or.inl ⟨by rfl, ?_⟩) (by assumption) ?_
              rotate_left
              · intro v hSv; (try dsimp only at hSv); skip; go_simp; (try with_reducible rfl)
              try simp only [Act.put, List.setIfInBounds_toArray, List.set_cons_zero, List.set_cons_succ]
              refine wpAnyH_take (i := 2) (oi := ⟨some 58, _, _, _, _, _⟩) (v := .agg (attCells z).toArray) rfl (by kernel_rfl) (by kernel_rfl) (by kernel_rfl) (fun _ _ _ h => h) (yieldsIf_load_mid (by rfl) 46 _ rfl ro (200 * 97) rfl (attCells z) _ (fun v h => HRZ.out v h.2) Tryd.underlying46 rfl HIZ.out) (by assumption) ?_
              try simp only [Act.put, List.setIfInBounds_toArray, List.set_cons_zero, List.set_cons_succ]
              refine wpAnyH_take (i := 3) (oi := ⟨some 59, _, _, _, _, _⟩) (v := .agg (attCells a).toArray) rfl (by kernel_rfl) (by kernel_rfl) (by kernel_rfl) (fun _ _ _ h => h) (yieldsIf_load_mid (by rfl) 46 _ rfl pX 0 rfl (attCells a) _ (fun v h => HRA.out v h.1) Tryd.underlying46 rfl HIA.out) (by assumption) ?_
              try simp only [Act.put, List.setIfInBounds_toArray, List.set_cons_zero, List.set_cons_succ]
              refine wpAnyH_take (i := 4) (oi := ⟨some 60, _, _, _, _, _⟩) (v := .bool true) rfl (by kernel_rfl) (by kernel_rfl) (by kernel_rfl) (fun _ _ _ h => h) (Or.inl ⟨by rfl, ?_⟩) (by assumption) ?_
              · intro v hSv; have hz := HEQ2.out; go_simp
              try simp only [Act.put, List.setIfInBounds_toArray, List.set_cons_zero, List.set_cons_succ]
              refine wpAnyH_done (by kernel_rfl) ?_ _
              try simp only [Act.put]
              go_wp2_with fail
              go_ret2
              exact RAddP.same HOWN.out (HG0.out.trans hS0.1) HE.out
            | false =>
              have HE : Hid (addM L a = (F.take 200, 0)) := Lib.hid (by
                have h3 : ¬ 200 ≤ p := fun h => by
                  have := hpf.2 h
                  rw [(sameAtt_iff z a).2 (Option.some.inj this)] at hzz; cases hzz
                unfold addM putA; rw [HM.out, if_pos rfl, if_neg HNIN.out, HPP.out, if_neg h3, HF.out])
              have hcap := own_cap HOWF.out
              have hcut := cut_hi69 (some ⟨ro, 0, none⟩) F.length ca 200 (by omega)
              rw [hzz] at HEQ2
              clear hzz hpf hL2
              go_upto_region 17 with fail
              have hS0 : Chg none W wf.drew ∧ Chg none wf wf.drew := ⟨HGF.out.drew, (Chg.refl _ _).drew⟩
              refine wp_region_held_drew (S := fun v => Chg none W v ∧ Chg none wf v) (by kernel_rfl) hS0 (fun _ => ?_)
              generalize wf.drew = v0 at *
              refine wpAnyH_take (i := 0) (oi := ⟨some 56, _, _, _, _, _⟩) (v := ?_) rfl (by kernel_rfl) (by kernel_rfl) (by kernel_rfl) (fun _ _ _ h => h) (Or.inl ⟨by rfl, ?_⟩) (by assumption) ?_
              rotate_left
              · intro v hSv; (try dsimp only at hSv); skip; go_simp; (try with_reducible rfl)
              try simp only [Act.put, List.setIfInBounds_toArray, List.set_cons_zero, List.set_cons_succ]
              refine wpAnyH_take (i := 1) (oi := ⟨some 57, _, _, _, _, _⟩) (v := ?_) rfl (by kernel_rfl) (by kernel_rfl) (by kernel_rfl) (fun _ _ _ h => h) (Or.inl ⟨by rfl, ?_⟩) (by assumption) ?_
              rotate_left
              · intro v hSv; (try dsimp only at hSv); skip; go_simp; (try with_reducible rfl)
              try simp only [Act.put, List.setIfInBounds_toArray, List.set_cons_zero, List.set_cons_succ]
              refine wpAnyH_take (i := 2) (oi := ⟨some 58, _, _, _, _, _⟩) (v := .agg (attCells z).toArray) rfl (by kernel_rfl) (by kernel_rfl) (by kernel_rfl) (fun _ _ _ h => h) (yieldsIf_load_mid (by rfl) 46 _ rfl ro (200 * 97) rfl (attCells z) _ (fun v h => HRZ.out v h.2) Tryd.underlying46 rfl HIZ.out) (by assumption) ?_
              try simp only [Act.put, List.setIfInBounds_toArray, List.set_cons_zero, List.set_cons_succ]
              refine wpAnyH_take (i := 3) (oi := ⟨some 59, _, _, _, _, _⟩) (v := .agg (attCells a).toArray) rfl (by kernel_rfl) (by kernel_rfl) (by kernel_rfl) (fun _ _ _ h => h) (yieldsIf_load_mid (by rfl) 46 _ rfl pX 0 rfl (attCells a) _ (fun v h => HRA.out v h.1) Tryd.underlying46 rfl HIA.out) (by assumption) ?_
              try simp only [Act.put, List.setIfInBounds_toArray, List.set_cons_zero, List.set_cons_succ]
              refine wpAnyH_take (i := 4) (oi := ⟨some 60, _, _, _, _, _⟩) (v := .bool false) rfl (by kernel_rfl) (by kernel_rfl) (by kernel_rfl) (fun _ _ _ h => h) (Or.inl ⟨by rfl, ?_⟩) (by assumption) ?_
              · intro v hSv; have hz := HEQ2.out; go_simp
              try simp only [Act.put, List.setIfInBounds_toArray, List.set_cons_zero, List.set_cons_succ]
              refine wpAnyH_done (by kernel_rfl) ?_ _
              try simp only [Act.put]
              go_wp2_with fail
              go_ret2
              have e200 : (F.take 200).length = 200 := by rw [List.length_take]; omega
              unfold RAddP
              rw [HE.out]
              refine ⟨some ⟨ro, 0, none⟩, ca, by rw [e200]; rfl, ?_, HG0.out.trans hS0.1, .inr fun b e => Nat.le_trans HG0.out.size (own_fresh HOWF.out b e)⟩
              rw [e200]
              exact own_take (own_base (World.ownsRow.kept HOWF.out hS0.2 (by cases (Value.slice (some ⟨ro, 0, none⟩) F.length ca).ownBlock <;> simp)) HBW.out) rfl (by omega)
          · have q1 : decide ((200 : Int) < (F.length : Int)) = false := decide_eq_false (by omega)
            have q2 : decide (200 < F.length) = false := decide_eq_false h200
            have HE : Hid (addM L a = (F, 0)) := Lib.hid (by
              have h3 : ¬ 200 ≤ p := by have := HPL.out; have := HFL.out; omega
              unfold addM putA; rw [HM.out, if_pos rfl, if_neg HNIN.out, HPP.out, if_neg h3, HF.out, List.take_of_length_le (by omega)])
            go_wp2_with fail
            go_ret2
            unfold RAddP
            rw [HE.out]
            exact ⟨_, _, rfl, own_base HOWF.out HBW.out, HG0.out.trans HGF.out, .inr fun b e => Nat.le_trans HG0.out.size (own_fresh HOWF.out b e)⟩
        · rw [if_neg hpl] at hend
          have hdn : decide (p < L.length) = false := decide_eq_false hpl
          have hml : (outK L a p L.length).length ≤ 201 := by have := outK_len L a p L.length; omega
          have HFN : Hid (F.length = (outK L a p L.length).length + 1) := Lib.hid (by rw [← hend, List.length_append]; rfl)
          have hs1a : (outK L a p L.length).length + 1 ≤ maxLen := bd3 hml
          have hs2a : ((outK L a p L.length).length + 1) * 104 ≤ 140737488355328 := bd4 hml
          obtain ⟨WBa, hWBa⟩ : ∃ WB, WB = wr.alloc (.cells (attCells a).toArray 46) := ⟨_, rfl⟩
          have HOWBa : Hid (WBa.ownsRow W.heap.size 46 97 (.slice A' (outK L a p L.length).length c') (outK L a p L.length).length ((outK L a p L.length).flatMap attCells)) := Lib.hid (by rw [hWBa]; exact HOW.out.alloc _)
          have HGBa : Hid (Chg none W WBa) := Lib.hid (by rw [hWBa]; exact HG.out.alloc _)
          have HNWa : Hid (∀ j u, (attCells a)[j]? = some u → WBa.cell? ((⟨wr.heap.size, 0, none⟩ : Addr).add j) = some u) := Lib.hid fun j u hj => by
            rw [Go.WideShapes.add_plain, Nat.zero_add, hWBa, BlkL.cell (show BlkL (wr.alloc (.cells (attCells a).toArray 46)) wr.heap.size (attCells a) 46 from Blk.new _ _ _)]
            exact hj
          have HNLa : Hid ((attCells a).length = 1 * 97) := Lib.hid (by rw [attCells_len])
          have HONEa := Lib.hid (ones_att a)
          have HFIa := Lib.hid (fill46 a i0 hz1)
          have hs3a : W.heap.size ≤ WBa.heap.size := HGBa.out.size
          have HWBa := Lib.hid hWBa
          clear hWBa
          go_upto_region 16 with (first
            | (refine wpList_load_mid rfl 46 _ rfl pX 0 rfl (attCells a) _ (HRA.out _ HG.out) Tryd.underlying46 rfl HIA.out ?_)
            | (refine wpList_buildSlice rfl 69 46 1 _ rfl (attCells a).toArray i0 (.agg (attCells attZero).toArray) Tryd.underlying69 hi0 hz0 (by rw [hz1]; decide) (by rw [hz1]; decide) (by simp only [List.map_toArray, List.map_cons, List.map_nil]; exact HFIa.out) ?_; rw [← HWBa.out])
            | (refine wpList_append_own _ rfl (.tmp 49) (.tmp 51) 69 rfl W.heap.size 46 i0 (.agg (attCells attZero).toArray) 97 104 Tryd.underlying69 hi0 hz0 hz1 hz2 HZ.out (by decide) (.slice A' (outK L a p L.length).length c') (outK L a p L.length).length _ rfl HOWBa.out ⟨wr.heap.size, 0, none⟩ 1 1 (attCells a) rfl HNLa.out HNWa.out HONEa.out hs1a hs2a hs3a ?_
               intro v' w4 hown hgr hno
               obtain ⟨A4, c4, rfl⟩ : ∃ A2 c2, v' = .slice A2 ((outK L a p L.length).length + 1) c2 := by
                 rcases hown.2 with ⟨e, h0⟩ | ⟨g, cap, cur, e, -⟩
                 · omega
                 · exact ⟨_, _, e⟩
               have HOW4 := Lib.hid hown
               have HG4 : Hid (Chg none W w4) := Lib.hid (Chg.ownRow HGBa.out hgr (fun y hy => (HOWBa.out.lt y hy).1))
               clear hown hgr hno hs1a hs2a hs3a)
            )
          have HOWF : Hid (w4.ownsRow W.heap.size 46 97 (.slice A4 F.length c4) F.length (F.flatMap attCells)) := Lib.hid (by
            have := HOW4.out
            rw [← HFN.out] at this
            rw [← hend, List.flatMap_append]
            simpa [hend] using this)
          have HGF := Lib.hid HG4.out
          rw [← HFN.out]
          obtain ⟨wf, rfl⟩ : ∃ wf : World, wf = w4 := ⟨_, rfl⟩
          obtain ⟨A6, rfl⟩ : ∃ A6, A6 = A4 := ⟨_, rfl⟩
          obtain ⟨c6, rfl⟩ : ∃ c6, c6 = c4 := ⟨_, rfl⟩
          clear hend
          have HF200 : Hid (F.length ≤ 201) := Lib.hid (by have := HFL.out; omega)
          have hfl : F.length ≤ 201 := HF200.out
          by_cases h200 : 200 < F.length
          · have q1 : decide ((200 : Int) < (F.length : Int)) = true := decide_eq_true (by omega)
            have q2 : decide (200 < F.length) = true := decide_eq_true h200
            have hL2 : L.length = 200 := by have := HFL.out; omega
            obtain ⟨z, hz⟩ : ∃ z, F[200]? = some z := ⟨_, List.getElem?_eq_getElem h200⟩
            have hpf := put_full (a := a) hL2 HNIN.out (by rw [HPP.out]; exact HPL.out)
            rw [HPP.out, HF.out, hz] at hpf
            obtain ⟨ro, ca, erow, -, -, hrz⟩ := arow_at HOWF.out hz
            obtain ⟨rfl, rfl⟩ : A6 = some ⟨ro, 0, none⟩ ∧ ca = c6 := by
              injection erow with e1 _ e3
              exact ⟨e1, e3.symm⟩
            clear erow
            have HRZ : Hid (∀ v, Chg none wf v → v.rangeAt ro (200 * 97) (attCells z)) := Lib.hid fun v g => rangeAt_chg hrz g (by simp)
            have HIZ := Lib.hid (info46 z)
            have HEQ2 := Lib.hid (eql46 z a)
            have q3 : (200 : Int) < (F.length : Int) := by omega
            clear hrz hz
            cases hzz : sameAtt z a with
            | true =>
              have HE : Hid (addM L a = (L, 8)) := Lib.hid (by
                have h3 := hpf.1 (by rw [(sameAtt_iff z a).1 hzz])
                unfold addM; rw [HM.out, if_pos rfl, if_neg HNIN.out, HPP.out, if_pos h3])
              rw [hzz] at HEQ2
              clear hzz hpf hL2
              go_upto_region 17 with fail
              have hS0 : Chg none W wf.drew ∧ Chg none wf wf.drew := ⟨HGF.out.drew, (Chg.refl _ _).drew⟩
              refine wp_region_held_drew (S := fun v => Chg none W v ∧ Chg none wf v) (by kernel_rfl) hS0 (fun _ => ?_)
              generalize wf.drew = v0 at *
              refine wpAnyH_take (i := 0) (oi := ⟨some 56, _, _, _, _, _⟩) (v := ?_) rfl (by kernel_rfl) (by kernel_rfl) (by kernel_rfl) (fun _ _ _ h => h) (Or.inl ⟨by rfl, ?_⟩) (by assumption) ?_
              rotate_left
              · intro v hSv; (try dsimp only at hSv); skip; go_simp; (try with_reducible rfl)
              try simp only [Act.put, List.setIfInBounds_toArray, List.set_cons_zero, List.set_cons_succ]
              refine wpAnyH_take (i := 1) (oi := ⟨some 57, _, _, _, _, _⟩) (v := ?_) rfl (by kernel_rfl) (by kernel_rfl) (by kernel_rfl) (fun _ _ _ h => h) (Or.inl ⟨by rfl, ?_⟩) (by assumption) ?_
              rotate_left
              · intro v hSv; (try dsimp only at hSv); skip; go_simp; (try with_reducible rfl)
              try simp only [Act.put, List.setIfInBounds_toArray, List.set_cons_zero, List.set_cons_succ]
              refine wpAnyH_take (i := 2) (oi := ⟨some 58, _, _, _, _, _⟩) (v := .agg (attCells z).toArray) rfl (by kernel_rfl) (by kernel_rfl) (by kernel_rfl) (fun _ _ _ h => h) (yieldsIf_load_mid (by rfl) 46 _ rfl ro (200 * 97) rfl (attCells z) _ (fun v h => HRZ.out v h.2) Tryd.underlying46 rfl HIZ.out) (by assumption) ?_
              try simp only [Act.put, List.setIfInBounds_toArray, List.set_cons_zero, List.set_cons_succ]
              refine wpAnyH_take (i := 3) (oi := ⟨some 59, _, _, _, _, _⟩) (v := .agg (attCells a).toArray) rfl (by kernel_rfl) (by kernel_rfl) (by kernel_rfl) (fun _ _ _ h => h) (yieldsIf_load_mid (by rfl) 46 _ rfl pX 0 rfl (attCells a) _ (fun v h => HRA.out v h.1) Tryd.underlying46 rfl HIA.out) (by assumption) ?_
              try simp only [Act.put, List.setIfInBounds_toArray, List.set_cons_zero, List.set_cons_succ]
              refine wpAnyH_take (i := 4) (oi := ⟨some 60, _, _, _, _, _⟩) (v := .bool true) rfl (by kernel_rfl) (by kernel_rfl) (by kernel_rfl) (fun _ _ _ h => h) (Or.inl ⟨by rfl, ?_⟩) (by assumption) ?_
              · intro v hSv; have hz := HEQ2.out; go_simp
              try simp only [Act.put, List.setIfInBounds_toArray, List.set_cons_zero, List.set_cons_succ]
              refine wpAnyH_done (by kernel_rfl) ?_ _
              try simp only [Act.put]
              go_wp2_with fail
              go_ret2
              exact RAddP.same HOWN.out (HG0.out.trans hS0.1) HE.out
            | false =>
              have HE : Hid (addM L a = (F.take 200, 0)) := Lib.hid (by
                have h3 : ¬ 200 ≤ p := fun h => by
                  have := hpf.2 h
                  rw [(sameAtt_iff z a).2 (Option.some.inj this)] at hzz; cases hzz
                unfold addM putA; rw [HM.out, if_pos rfl, if_neg HNIN.out, HPP.out, if_neg h3, HF.out])
              have hcap := own_cap HOWF.out
              have hcut := cut_hi69 (some ⟨ro, 0, none⟩) F.length ca 200 (by omega)
              rw [hzz] at HEQ2
              clear hzz hpf hL2
              go_upto_region 17 with fail
              have hS0 : Chg none W wf.drew ∧ Chg none wf wf.drew := ⟨HGF.out.drew, (Chg.refl _ _).drew⟩
              refine wp_region_held_drew (S := fun v => Chg none W v ∧ Chg none wf v) (by kernel_rfl) hS0 (fun _ => ?_)
              generalize wf.drew = v0 at *
              refine wpAnyH_take (i := 0) (oi := ⟨some 56, _, _, _, _, _⟩) (v := ?_) rfl (by kernel_rfl) (by kernel_rfl) (by kernel_rfl) (fun _ _ _ h => h) (Or.inl ⟨by rfl, ?_⟩) (by assumption) ?_
              rotate_left
              · intro v hSv; (try dsimp only at hSv); skip; go_simp; (try with_reducible rfl)
              try simp only [Act.put, List.setIfInBounds_toArray, List.set_cons_zero, List.set_cons_succ]
              refine wpAnyH_take (i := 1) (oi := ⟨some 57, _, _, _, _, _⟩) (v := ?_) rfl (by kernel_rfl) (by kernel_rfl) (by kernel_rfl) (fun _ _ _ h => h) (Or.inl ⟨by rfl, ?_⟩) (by assumption) ?_
              rotate_left
              · intro v hSv; (try dsimp only at hSv); skip; go_simp; (try with_reducible rfl)
              try simp only [Act.put, List.setIfInBounds_toArray, List.set_cons_zero, List.set_cons_succ]
              refine wpAnyH_take (i := 2) (oi := ⟨some 58, _, _, _, _, _⟩) (v := .agg (attCells z).toArray) rfl (by kernel_rfl) (by kernel_rfl) (by kernel_rfl) (fun _ _ _ h => h) (yieldsIf_load_mid (by rfl) 46 _ rfl ro (200 * 97) rfl (attCells z) _ (fun v h => HRZ.out v h.2) Tryd.underlying46 rfl HIZ.out) (by assumption) ?_
              try simp only [Act.put, List.setIfInBounds_toArray, List.set_cons_zero, List.set_cons_succ]
              refine wpAnyH_take (i := 3) (oi := ⟨some 59, _, _, _, _, _⟩) (v := .agg (attCells a).toArray) rfl (by kernel_rfl) (by kernel_rfl) (by kernel_rfl) (fun _ _ _ h => h) (yieldsIf_load_mid (by rfl) 46 _ rfl pX 0 rfl (attCells a) _ (fun v h => HRA.out v h.1) Tryd.underlying46 rfl HIA.out) (by assumption) ?_
              try simp only [Act.put, List.setIfInBounds_toArray, List.set_cons_zero, List.set_cons_succ]
              refine wpAnyH_take (i := 4) (oi := ⟨some 60, _, _, _, _, _⟩) (v := .bool false) rfl (by kernel_rfl) (by kernel_rfl) (by kernel_rfl) (fun _ _ _ h => h) (Or.inl ⟨by rfl, ?_⟩) (by assumption) ?_
              · intro v hSv; have hz := HEQ2.out; go_simp
              try simp only [Act.put, List.setIfInBounds_toArray, List.set_cons_zero, List.set_cons_succ]
              refine wpAnyH_done (by kernel_rfl) ?_ _
              try simp only [Act.put]
              go_wp2_with fail
              go_ret2
              have e200 : (F.take 200).length = 200 := by rw [List.length_take]; omega
              unfold RAddP
              rw [HE.out]
              refine ⟨some ⟨ro, 0, none⟩, ca, by rw [e200]; rfl, ?_, HG0.out.trans hS0.1, .inr fun b e => Nat.le_trans HG0.out.size (own_fresh HOWF.out b e)⟩
              rw [e200]
              exact own_take (own_base (World.ownsRow.kept HOWF.out hS0.2 (by cases (Value.slice (some ⟨ro, 0, none⟩) F.length ca).ownBlock <;> simp)) HBW.out) rfl (by omega)
          · have q1 : decide ((200 : Int) < (F.length : Int)) = false := decide_eq_false (by omega)
            have q2 : decide (200 < F.length) = false := decide_eq_false h200
            have HE : Hid (addM L a = (F, 0)) := Lib.hid (by
              have h3 : ¬ 200 ≤ p := by have := HPL.out; have := HFL.out; omega
              unfold addM putA; rw [HM.out, if_pos rfl, if_neg HNIN.out, HPP.out, if_neg h3, HF.out, List.take_of_length_le (by omega)])
            go_wp2_with fail
            go_ret2
            unfold RAddP
            rw [HE.out]
            exact ⟨_, _, rfl, own_base HOWF.out HBW.out, HG0.out.trans HGF.out, .inr fun b e => Nat.le_trans HG0.out.size (own_fresh HOWF.out b e)⟩

end Go.Proofs.YtkcammaccgkflaaDoor
