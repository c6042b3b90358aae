/-
  Package adverts, the document's: prefixes; the same results.
-/
import Derived.Test.YtkcammaccgkflaaDoorZD
namespace Go.Proofs.YtkcammaccgkflaaDoor
open Go.RowKit

set_option maxRecDepth 100000 in
set_option maxHeartbeats 4000000 in
theorem refprefix_any (p : List UInt8) (A : Option Addr) (c : Nat) (w : World) (hT : Txt w A p) (hl : p.length ≤ 1000) :
    Calls Tryd.prog 55 #[.slice A p.length c] w fun e w' => e = .returned (.bool (prefB p)) ∧ w = w' := by
  have HT := Lib.hid hT
  have HL := Lib.hid hl
  clear hT
  go_enter Tryd.func55, Tryd.ntmps55
  go_upto_region 2 with fail
  go_loopw [3] (fun s3 wr => ∃ k : Nat, k ≤ p.length ∧ s3 = .int .i64 k ∧ Hid (∀ (j : Nat) y, j < k → p[j]? = some y → overB y = false) ∧ w = wr) (fun i _ => p.length - (intOf i).toNat)
  case atStart => exact ⟨0, Nat.zero_le _, rfl, Lib.hid fun j y hj => by omega, rfl⟩
  case round =>
    obtain ⟨k, hk, rfl, HN, rfl⟩ := hrel
    have hkl : (k : Int) ≤ 1000 := by have := HL.out; omega
    by_cases hlt : k < p.length
    · have hd : decide (k < p.length) = true := by rw [decide_eq_true_eq]; exact hlt
      have hd2 : decide ((k : Int) < (p.length : Int)) = true := by rw [decide_eq_true_eq]; omega
      obtain ⟨x, hx⟩ : ∃ x, p[k]? = some x := ⟨_, List.getElem?_eq_getElem hlt⟩
      obtain ⟨b, o, rfl, -, hcell⟩ := HT.out (by omega)
      have y0 := hcell k x hx
      have hlt' : (k : Int) < (p.length : Int) := by omega
      have HX := Lib.hid hx
      have HLT := Lib.hid hlt
      have h1 : decide ((15 : Int) < (x.toNat : Int)) = overB x := by unfold overB; exact decide_eq_decide.2 (by omega)
      have h2 : decide (15 < x.toNat) = overB x := rfl
      clear hcell hx
      cases hz : overB x with
      | false =>
        have HN2 : Hid (∀ (j : Nat) y, j < k + 1 → p[j]? = some y → overB y = false) := Lib.hid fun j y hj hy => by
          rcases Nat.lt_or_ge j k with h | h
          · exact HN.out j y h hy
          · obtain rfl : j = k := by omega
            obtain rfl := Option.some.inj (HX.out.symm.trans hy)
            exact hz
        rw [hz] at h1 h2
        clear hz
        go_wp2_with fail
        go_roundw
        case rel => exact ⟨k + 1, by have := HLT.out; omega, by first | rfl | go_num, HN2, by first | rfl | trivial⟩
        case measure => have := HLT.out; first | omega | (simp only [intOf]; omega) | (simp [intOf]; omega)
      | true =>
        have HR : Hid (prefB p = false) := Lib.hid (by
          have : p.any overB = true := List.any_eq_true.2 ⟨x, List.mem_of_getElem? HX.out, hz⟩
          unfold prefB; rw [this]; simp)
        rw [hz] at h1 h2
        clear hz
        go_wp2_with fail
        go_ret
        exact ⟨by rw [HR.out]; rfl, by first | rfl | trivial⟩
    · have hd : decide (k < p.length) = false := by rw [decide_eq_false_iff_not]; exact hlt
      have hd2 : decide ((k : Int) < (p.length : Int)) = false := by rw [decide_eq_false_iff_not]; omega
      have HR : Hid (prefB p = decide (p.length ≤ 8)) := Lib.hid (by
        have : p.any overB = false := by
          rw [List.any_eq_false]
          intro x hx
          obtain ⟨j, hj, rfl⟩ := List.getElem_of_mem hx
          rw [HN.out j _ (by omega) (List.getElem?_eq_getElem hj)]; decide
        unfold prefB; rw [this]; simp)
      have h8 : decide ((p.length : Int) ≤ 8) = decide (p.length ≤ 8) := decide_eq_decide.2 (by omega)
      clear hlt
      generalize decide (p.length ≤ 8) = z at *
      go_wp2_with fail
      go_ret
      exact ⟨by rw [HR.out]; rfl, by first | rfl | trivial⟩
theorem neq46 (a b : Att) (w : World) : (binOp .neq 46 (.agg (attCells a).toArray) (.agg (attCells b).toArray)).run Tryd.prog w = .ok (.bool (!sameAtt a b)) w := by
  skip
  have h30 := fun (x y : Dg) (w : World) => equalIn30 9997 x.1 y.1 x.2 y.2 w
  have h3 := fun (x y : Int) (w : World) => run_equalIn_int (P := Tryd.prog) w 9998 3 .i64 .i64 x y Tryd.underlying3
  simp only [Nat.reduceAdd] at h30 h3
  rw [run_neq_struct, show (10000 : Nat) = 9999 + 1 from rfl, run_equalIn_agg w 9999 46 _ _ Tryd.und46 Tryd.held46]
  simp only [Program.fieldsOf, Tryd.underlying46]
  have pk := fun (a : Att) (w : World) => part30 a 0 _ (att_take_k a) w
  have pr := fun (a : Att) (w : World) => part30 a 32 _ (att_take_r a) w
  have pt := fun (a : Att) (w : World) => part30 a 65 _ (att_take_t a) w
  simp only [Op.eqFields, Sem.run_bind, Sem.run_ite, pk, pr, pt, part64, h30, h3, Result.andThen_ok, Sem.run_pure]
  unfold sameAtt
  cases (a.k.1 == b.k.1) <;> cases (a.r.1 == b.r.1) <;> by_cases hn : a.n = b.n <;> cases (a.t.1 == b.t.1) <;> simp [hn]
def sameL (L M : List Att) : Bool := decide (L = M)
set_option maxRecDepth 100000 in
set_option maxHeartbeats 8000000 in
theorem same52_any (L M : List Att) (B B' : Nat) (A A' : Option Addr) (c c' : Nat) (w : World) (h : w.ownsRow B 46 97 (.slice A L.length c) L.length (L.flatMap attCells)) (h' : w.ownsRow B' 46 97 (.slice A' M.length c') M.length (M.flatMap attCells)) (hl : L.length ≤ 1000) :
    Calls Tryd.prog 52 #[.slice A L.length c, .slice A' M.length c'] w fun e w' => e = .returned (.bool (decide (L = M))) ∧ Chg none w w' := by
  by_cases hlen : L.length = M.length
  · have hd0 : ((L.length : Int) == (M.length : Int)) = true := by simp; omega
    have hd1 : ((L.length : Int) != (M.length : Int)) = false := by simp; omega
    have HROW : Hid (∀ k x, L[k]? = some x → ∃ b, A = some ⟨b, 0, none⟩ ∧ ∀ v, Chg none w v → v.rangeAt b (k * 97) (attCells x)) := Lib.hid fun k x hk => by
      obtain ⟨b, c', e, -, hbl, hr⟩ := arow_at h hk
      injection e with e1 _ _
      exact ⟨b, e1, fun v g => rangeAt_chg hr g (by simp)⟩
    have HROW2 : Hid (∀ k x, M[k]? = some x → ∃ b, A' = some ⟨b, 0, none⟩ ∧ ∀ v, Chg none w v → v.rangeAt b (k * 97) (attCells x)) := Lib.hid fun k x hk => by
      obtain ⟨b, c', e, -, hbl, hr⟩ := arow_at h' hk
      injection e with e1 _ _
      exact ⟨b, e1, fun v g => rangeAt_chg hr g (by simp)⟩
    have HL := Lib.hid hl
    have HLEN := Lib.hid hlen
    have hg46 := guard46
    clear h h' hl
    go_enter Tryd.func52, Tryd.ntmps52
    rw [← HLEN.out] at *
    go_upto_region 4 with fail
    clear hd0 hd1
    go_loopw [5] (fun s5 wr => ∃ k : Nat, k ≤ L.length ∧ s5 = .int .i64 k ∧ Hid (∀ (j : Nat), j < k → L[j]? = M[j]?) ∧ Hid (Chg none w wr)) (fun i _ => L.length - (intOf i).toNat)
    case atStart => exact ⟨0, Nat.zero_le _, rfl, Lib.hid fun j hj => by omega, Lib.hid (Chg.refl _ _)⟩
    case round =>
      obtain ⟨k, hk, rfl, HN, HG⟩ := hrel
      have hkl : (k : Int) ≤ 1000 := by have := HL.out; omega
      by_cases hlt : k < L.length
      · have hd : decide (k < L.length) = true := by rw [decide_eq_true_eq]; exact hlt
        have hd2 : decide ((k : Int) < (L.length : Int)) = true := by rw [decide_eq_true_eq]; omega
        have hlt' : (k : Int) < (L.length : Int) := by omega
        obtain ⟨x, hx⟩ : ∃ x, L[k]? = some x := ⟨_, List.getElem?_eq_getElem hlt⟩
        obtain ⟨y, hy⟩ : ∃ y, M[k]? = some y := ⟨_, List.getElem?_eq_getElem (by have := HLEN.out; omega)⟩
        obtain ⟨ra, rfl, hr⟩ := HROW.out k x hx
        obtain ⟨rb, rfl, hr2⟩ := HROW2.out k y hy
        have HRX := Lib.hid hr
        have HRY := Lib.hid hr2
        have HIX := Lib.hid (info46 x)
        have HIY := Lib.hid (info46 y)
        have HLT := Lib.hid hlt
        have HNQ := Lib.hid (neq46 x y)
        have hS0 := HG.out.drew
        cases hz : sameAtt x y with
        | true =>
          have HN2 : Hid (∀ (j : Nat), j < k + 1 → L[j]? = M[j]?) := Lib.hid fun j hj => by
            rcases Nat.lt_or_ge j k with h | h
            · exact HN.out j h
            · obtain rfl : j = k := by omega
              rw [hx, hy, (sameAtt_iff x y).1 hz]
          rw [hz] at HNQ
          clear hz hx hy hr hr2 hlt
          go_upto_region 6 with fail
          refine wp_region_held_drew (S := fun v => Chg none w v) (by kernel_rfl) hS0 (fun _ => ?_)
          generalize wr.drew = v0 at *
          refine wpAnyH_take (i := 0) (oi := ⟨some 17, _, _, _, _, _⟩) (v := ?_) rfl (by kernel_rfl) (by kernel_rfl) (by kernel_rfl) (fun _ _ _ h => h) (Or.inl ⟨by rfl, ?_⟩) (by assumption) ?_
          rotate_left
          · intro v hSv; (try dsimp only at hSv); skip; go_simp; (try with_reducible rfl)
          try simp only [Act.put, List.setIfInBounds_toArray, List.set_cons_zero, List.set_cons_succ]
          refine wpAnyH_take (i := 1) (oi := ⟨some 18, _, _, _, _, _⟩) (v := ?_) rfl (by kernel_rfl) (by kernel_rfl) (by kernel_rfl) (fun _ _ _ h => h) (Or.inl ⟨by rfl, ?_⟩) (by assumption) ?_
          rotate_left
          · intro v hSv; (try dsimp only at hSv); skip; go_simp; (try with_reducible rfl)
          try simp only [Act.put, List.setIfInBounds_toArray, List.set_cons_zero, List.set_cons_succ]
          refine wpAnyH_take (i := 2) (oi := ⟨some 19, _, _, _, _, _⟩) (v := ?_) rfl (by kernel_rfl) (by kernel_rfl) (by kernel_rfl) (fun _ _ _ h => h) (Or.inl ⟨by rfl, ?_⟩) (by assumption) ?_
          rotate_left
          · intro v hSv; (try dsimp only at hSv); skip; go_simp; (try with_reducible rfl)
          try simp only [Act.put, List.setIfInBounds_toArray, List.set_cons_zero, List.set_cons_succ]
          refine wpAnyH_take (i := 3) (oi := ⟨some 20, _, _, _, _, _⟩) (v := .agg (attCells x).toArray) rfl (by kernel_rfl) (by kernel_rfl) (by kernel_rfl) (fun _ _ _ h => h) (yieldsIf_load_mid (by rfl) 46 _ rfl ra (k * 97) rfl (attCells x) _ (fun v h => HRX.out v h) Tryd.underlying46 rfl HIX.out) (by assumption) ?_
          try simp only [Act.put, List.setIfInBounds_toArray, List.set_cons_zero, List.set_cons_succ]
          refine wpAnyH_take (i := 4) (oi := ⟨some 21, _, _, _, _, _⟩) (v := ?_) rfl (by kernel_rfl) (by kernel_rfl) (by kernel_rfl) (fun _ _ _ h => h) (Or.inl ⟨by rfl, ?_⟩) (by assumption) ?_
          rotate_left
          · intro v hSv; (try dsimp only at hSv); skip; go_simp; (try with_reducible rfl)
          try simp only [Act.put, List.setIfInBounds_toArray, List.set_cons_zero, List.set_cons_succ]
          refine wpAnyH_take (i := 5) (oi := ⟨some 22, _, _, _, _, _⟩) (v := ?_) rfl (by kernel_rfl) (by kernel_rfl) (by kernel_rfl) (fun _ _ _ h => h) (Or.inl ⟨by rfl, ?_⟩) (by assumption) ?_
          rotate_left
          · intro v hSv; (try dsimp only at hSv); skip; go_simp; (try with_reducible rfl)
          try simp only [Act.put, List.setIfInBounds_toArray, List.set_cons_zero, List.set_cons_succ]
          refine wpAnyH_take (i := 6) (oi := ⟨some 23, _, _, _, _, _⟩) (v := ?_) rfl (by kernel_rfl) (by kernel_rfl) (by kernel_rfl) (fun _ _ _ h => h) (Or.inl ⟨by rfl, ?_⟩) (by assumption) ?_
          rotate_left
          · intro v hSv; (try dsimp only at hSv); skip; go_simp; (try with_reducible rfl)
          try simp only [Act.put, List.setIfInBounds_toArray, List.set_cons_zero, List.set_cons_succ]
          refine wpAnyH_take (i := 7) (oi := ⟨some 24, _, _, _, _, _⟩) (v := .agg (attCells y).toArray) rfl (by kernel_rfl) (by kernel_rfl) (by kernel_rfl) (fun _ _ _ h => h) (yieldsIf_load_mid (by rfl) 46 _ rfl rb (k * 97) rfl (attCells y) _ (fun v h => HRY.out v h) Tryd.underlying46 rfl HIY.out) (by assumption) ?_
          try simp only [Act.put, List.setIfInBounds_toArray, List.set_cons_zero, List.set_cons_succ]
          refine wpAnyH_take (i := 8) (oi := ⟨some 25, _, _, _, _, _⟩) (v := .bool (!true)) rfl (by kernel_rfl) (by kernel_rfl) (by kernel_rfl) (fun _ _ _ h => h) (Or.inl ⟨by rfl, ?_⟩) (by assumption) ?_
          · intro v hSv; have hz := HNQ.out; go_simp
          try simp only [Act.put, List.setIfInBounds_toArray, List.set_cons_zero, List.set_cons_succ]
          refine wpAnyH_done (by kernel_rfl) ?_ _
          try simp only [Act.put]
          go_wp2_with fail
          go_roundw
          case rel => exact ⟨k + 1, by have := HLT.out; omega, by first | rfl | go_num, HN2, Lib.hid hS0⟩
          case measure => have := HLT.out; first | omega | (simp only [intOf]; omega) | (simp [intOf]; omega)
        | false =>
          have HE : Hid (decide (L = M) = false) := Lib.hid (decide_eq_false fun e => by
            subst e
            rw [hx] at hy
            injection hy with hy
            rw [(sameAtt_iff x y).2 hy] at hz; cases hz)
          rw [hz] at HNQ
          clear hz hx hy hr hr2 hlt
          go_upto_region 6 with fail
          refine wp_region_held_drew (S := fun v => Chg none w v) (by kernel_rfl) hS0 (fun _ => ?_)
          generalize wr.drew = v0 at *
          refine wpAnyH_take (i := 0) (oi := ⟨some 17, _, _, _, _, _⟩) (v := ?_) rfl (by kernel_rfl) (by kernel_rfl) (by kernel_rfl) (fun _ _ _ h => h) (Or.inl ⟨by rfl, ?_⟩) (by assumption) ?_
          rotate_left
          · intro v hSv; (try dsimp only at hSv); skip; go_simp; (try with_reducible rfl)
          try simp only [Act.put, List.setIfInBounds_toArray, List.set_cons_zero, List.set_cons_succ]
          refine wpAnyH_take (i := 1) (oi := ⟨some 18, _, _, _, _, _⟩) (v := ?_) rfl (by kernel_rfl) (by kernel_rfl) (by kernel_rfl) (fun _ _ _ h => h) (Or.inl ⟨by rfl, ?_⟩) (by assumption) ?_
          rotate_left
          · intro v hSv; (try dsimp only at hSv); skip; go_simp; (try with_reducible rfl)
          try simp only [Act.put, List.setIfInBounds_toArray, List.set_cons_zero, List.set_cons_succ]
          refine wpAnyH_take (i := 2) (oi := ⟨some 19, _, _, _, _, _⟩) (v := ?_) rfl (by kernel_rfl) (by kernel_rfl) (by kernel_rfl) (fun _ _ _ h => h) (Or.inl ⟨by rfl, ?_⟩) (by assumption) ?_
          rotate_left
          · intro v hSv; (try dsimp only at hSv); skip; go_simp; (try with_reducible rfl)
          try simp only [Act.put, List.setIfInBounds_toArray, List.set_cons_zero, List.set_cons_succ]
          refine wpAnyH_take (i := 3) (oi := ⟨some 20, _, _, _, _, _⟩) (v := .agg (attCells x).toArray) rfl (by kernel_rfl) (by kernel_rfl) (by kernel_rfl) (fun _ _ _ h => h) (yieldsIf_load_mid (by rfl) 46 _ rfl ra (k * 97) rfl (attCells x) _ (fun v h => HRX.out v h) Tryd.underlying46 rfl HIX.out) (by assumption) ?_
          try simp only [Act.put, List.setIfInBounds_toArray, List.set_cons_zero, List.set_cons_succ]
          refine wpAnyH_take (i := 4) (oi := ⟨some 21, _, _, _, _, _⟩) (v := ?_) rfl (by kernel_rfl) (by kernel_rfl) (by kernel_rfl) (fun _ _ _ h => h) (Or.inl ⟨by rfl, ?_⟩) (by assumption) ?_
          rotate_left
          · intro v hSv; (try dsimp only at hSv); skip; go_simp; (try with_reducible rfl)
          try simp only [Act.put, List.setIfInBounds_toArray, List.set_cons_zero, List.set_cons_succ]
          refine wpAnyH_take (i := 5) (oi := ⟨some 22, _, _, _, _, _⟩) (v := ?_) rfl (by kernel_rfl) (by kernel_rfl) (by kernel_rfl) (fun _ _ _ h => h) (Or.inl ⟨by rfl, ?_⟩) (by assumption) ?_
          rotate_left
          · intro v hSv; (try dsimp only at hSv); skip; go_simp; (try with_reducible rfl)
          try simp only [Act.put, List.setIfInBounds_toArray, List.set_cons_zero, List.set_cons_succ]
          refine wpAnyH_take (i := 6) (oi := ⟨some 23, _, _, _, _, _⟩) (v := ?_) rfl (by kernel_rfl) (by kernel_rfl) (by kernel_rfl) (fun _ _ _ h => h) (Or.inl ⟨by rfl, ?_⟩) (by assumption) ?_
          rotate_left
          · intro v hSv; (try dsimp only at hSv); skip; go_simp; (try with_reducible rfl)
          try simp only [Act.put, List.setIfInBounds_toArray, List.set_cons_zero, List.set_cons_succ]
          refine wpAnyH_take (i := 7) (oi := ⟨some 24, _, _, _, _, _⟩) (v := .agg (attCells y).toArray) rfl (by kernel_rfl) (by kernel_rfl) (by kernel_rfl) (fun _ _ _ h => h) (yieldsIf_load_mid (by rfl) 46 _ rfl rb (k * 97) rfl (attCells y) _ (fun v h => HRY.out v h) Tryd.underlying46 rfl HIY.out) (by assumption) ?_
          try simp only [Act.put, List.setIfInBounds_toArray, List.set_cons_zero, List.set_cons_succ]
          refine wpAnyH_take (i := 8) (oi := ⟨some 25, _, _, _, _, _⟩) (v := .bool (!false)) rfl (by kernel_rfl) (by kernel_rfl) (by kernel_rfl) (fun _ _ _ h => h) (Or.inl ⟨by rfl, ?_⟩) (by assumption) ?_
          · intro v hSv; have hz := HNQ.out; go_simp
          try simp only [Act.put, List.setIfInBounds_toArray, List.set_cons_zero, List.set_cons_succ]
          refine wpAnyH_done (by kernel_rfl) ?_ _
          try simp only [Act.put]
          go_wp2_with fail
          go_ret
          exact ⟨by rw [HE.out]; rfl, hS0⟩
      · have hd : decide (k < L.length) = false := by rw [decide_eq_false_iff_not]; exact hlt
        have hd2 : decide ((k : Int) < (L.length : Int)) = false := by rw [decide_eq_false_iff_not]; omega
        have hd3 : decide (k < M.length) = false := by rw [← hlen]; exact hd
        have hd4 : decide ((k : Int) < (M.length : Int)) = false := by rw [← hlen]; exact hd2
        have HE : Hid (decide (L = M) = true) := Lib.hid (decide_eq_true (List.ext_getElem? fun j => by
          rcases Nat.lt_or_ge j k with h | h
          · exact HN.out j h
          · have := HLEN.out
            rw [List.getElem?_eq_none (by omega), List.getElem?_eq_none (by omega)]))
        clear hlt
        go_wp2_with fail
        go_ret
        exact ⟨by rw [HE.out]; rfl, HG.out⟩
  · have hd0 : ((L.length : Int) == (M.length : Int)) = false := by simp; omega
    have hd1 : ((L.length : Int) != (M.length : Int)) = true := by simp; omega
    have hd2 : ¬ ((L.length : Int) = (M.length : Int)) := by omega
    have hd3 : ¬ (L.length = M.length) := hlen
    have HE : Hid (decide (L = M) = false) := Lib.hid (decide_eq_false fun e => hlen (by rw [e]))
    clear h h' hl
    go_enter Tryd.func52, Tryd.ntmps52
    go_wp2_with fail
    go_ret
    exact ⟨by rw [HE.out]; rfl, Chg.refl _ _⟩

end Go.Proofs.YtkcammaccgkflaaDoor
