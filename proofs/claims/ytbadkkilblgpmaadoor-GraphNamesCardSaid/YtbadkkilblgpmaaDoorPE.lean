/-
  The document's program: one.
-/
import Derived.Test.YtbadkkilblgpmaaDoorPI
import Derived.Handy
import Derived.Deep.Cut
import Derived.Deep.CutBlock
import Derived.Deep.DeepCutAuto
import Derived.Deep.RegionHeld3
namespace Go.Proofs.YtbadkkilblgpmaaDoor
open Go.RowKit

theorem insB_1 (a b c : List UInt8) (n m places : Int) : insB ⟨1, a, b, c, n, m⟩ places = (pathB a && (pathB b && (c.isEmpty && (n == 0 && (m == 0))))) := rfl
theorem insB_6 (a b c : List UInt8) (n m places : Int) : insB ⟨6, a, b, c, n, m⟩ places = (pathB a && (pathB b && (c.isEmpty && (n == 0 && (m == 0))))) := rfl
theorem insB_7 (a b c : List UInt8) (n m places : Int) : insB ⟨7, a, b, c, n, m⟩ places = (pathB a && (pathB b && (c.isEmpty && (n == 0 && (m == 0))))) := rfl
theorem insB_2 (a b c : List UInt8) (n m places : Int) : insB ⟨2, a, b, c, n, m⟩ places = (pathB a && (pathB b && (pathB c && (n == 0 && (m == 0))))) := rfl
theorem insB_3 (a b c : List UInt8) (n m places : Int) : insB ⟨3, a, b, c, n, m⟩ places = (pathB a && (pathB b && (c.isEmpty && ((decide (0 ≤ n) && decide (n ≤ 2000)) && (decide (0 ≤ m) && decide (m ≤ 2000)))))) := rfl
theorem insB_4 (a b c : List UInt8) (n m places : Int) : insB ⟨4, a, b, c, n, m⟩ places = (pathB a && ((decide (0 < b.length) && decide (b.length ≤ 40)) && (decide (c.length ≤ 40) && (n == 0 && m == 0)))) := rfl
theorem insB_5 (a b c : List UInt8) (n m places : Int) : insB ⟨5, a, b, c, n, m⟩ places = (pathB a && (b.isEmpty && (c.isEmpty && (n == 0 && (m == 0))))) := rfl
theorem insB_8 (a b c : List UInt8) (n m places : Int) : insB ⟨8, a, b, c, n, m⟩ places = (a.isEmpty && (b.isEmpty && (c.isEmpty && ((decide (0 ≤ n) && decide (n ≤ places)) && (m == 0))))) := rfl
theorem insB_9 (a b c : List UInt8) (n m places : Int) : insB ⟨9, a, b, c, n, m⟩ places = (pathB a && (b.isEmpty && (c.isEmpty && ((decide (0 ≤ n) && decide (n ≤ places)) && (m == 0))))) := rfl
theorem insB_10 (a b c : List UInt8) (n m places : Int) : insB ⟨10, a, b, c, n, m⟩ places = (pathB a && (pathB b && (c.isEmpty && ((decide (0 ≤ n) && decide (n ≤ places)) && (m == 0))))) := rfl
theorem insB_11 (a b c : List UInt8) (n m places : Int) : insB ⟨11, a, b, c, n, m⟩ places = sameIns ⟨11, a, b, c, n, m⟩ ⟨11, [], [], [], 0, 0⟩ := by
  show (a.isEmpty && (b.isEmpty && (c.isEmpty && (n == 0 && m == 0)))) = ((11 : Nat) == 11 && (a == [] && (b == [] && (c == [] && (n == 0 && m == 0)))))
  cases a <;> cases b <;> cases c <;> rfl

/-- What stands behind the paths. -/
def MidOne (w : World) (X : Ins) (s5 s6 s7 : Value) (wc : World) : Prop :=
  s5 = .bool (pathB X.a) ∧ s6 = .bool (pathB X.b) ∧ s7 = .bool (pathB X.c) ∧ Chg none (w.alloc (.cells (insCells X).toArray 61)) wc
def MidPl (places : Int) (X : Ins) (s8 : Value) (w wc : World) : Prop := s8 = .bool (decide (0 ≤ X.n) && decide (X.n ≤ places)) ∧ wc = w

set_option maxHeartbeats 32000000 in
set_option maxRecDepth 100000 in
theorem one_any (x : Ins) (places : Int) (w : World) (hx : x.fits) :
    Calls Tryd.prog 87 #[.agg (insCells x).toArray, .int .i64 places] w fun e w' => e = .returned (.bool (insB x places)) ∧ Chg none w w' := by
  obtain ⟨X, hX⟩ : ∃ X : Ins, X = x := ⟨_, rfl⟩
  have HXX := Lib.hid hX
  have HX := Lib.hid hx
  obtain ⟨op, a, b, c, n, m⟩ := x
  have HPA := Lib.hid (fun v => refpath_any a v hx.a)
  have HPB := Lib.hid (fun v => refpath_any b v hx.b)
  have HPC := Lib.hid (fun v => refpath_any c v hx.c)
  clear hx hX
  unfold insCells
  dsimp only
  go_enter Tryd.func87, Tryd.ntmps87
  go_upto_region 1 with fail
  go_cut [5, 6, 7] from 9 (fun s5 s6 s7 wx => MidOne w X s5 s6 s7 wx)
  case first =>
    as_aux_lemma =>
      have HBX : Hid (∀ v, Chg none (w.alloc (.cells (insCells ⟨op, a, b, c, n, m⟩).toArray 61)) v → Blk v w.heap.size (insCells ⟨op, a, b, c, n, m⟩).toArray 61) := fun v g => (blk_newAt w (insCells ⟨op, a, b, c, n, m⟩).toArray 61 rfl).chg g (by simp)
      have hS0 : Chg none (w.alloc (.cells (insCells ⟨op, a, b, c, n, m⟩).toArray 61)) (w.alloc (.cells (insCells ⟨op, a, b, c, n, m⟩).toArray 61)).drew := (Chg.refl _ _).drew
      unfold insCells at HBX hS0
      dsimp only at HBX hS0
      generalize HW : (w.alloc (.cells [Value.int .u8 op, .string ⟨a.toArray⟩, .string ⟨b.toArray⟩, .string ⟨c.toArray⟩, .int .i64 n, .int .i64 m].toArray 61)) = wb at *
      refine wp_region_held_drew (S := fun v => Chg none wb v) (by kernel_rfl) hS0 (fun _ => ?_)
      generalize wb.drew = v0 at *
      refine wpAnyH_take (i := 0) (oi := ⟨some 9, _, _, _, _, _⟩) (v := ?_) rfl (by kernel_rfl) (by kernel_rfl) (by kernel_rfl) (fun _ _ _ h => h) (Or.inl ⟨by rfl, ?_⟩) (by assumption) ?_
      rotate_left
      · intro w hSw; (try dsimp only at hSw); go_simp; (try with_reducible rfl)
      try simp only [Act.put, List.setIfInBounds_toArray, List.set_cons_zero, List.set_cons_succ]
      refine wpAnyH_take (i := 1) (oi := ⟨some 10, _, _, _, _, _⟩) (v := .string ⟨a.toArray⟩) rfl (by kernel_rfl) (by kernel_rfl) (by kernel_rfl) (fun _ _ _ h => h) (Or.inl ⟨by rfl, ?_⟩) (by assumption) ?_
      · intro w hSw; have hcx := (HBX.out _ hSw).cell 1; have hcy : w.cell? _ = some (.string ⟨a.toArray⟩) := hcx; clear hcx; go_simp
      try simp only [Act.put, List.setIfInBounds_toArray, List.set_cons_zero, List.set_cons_succ]
      refine wpAnyH_take (i := 3) (oi := ⟨some 12, _, _, _, _, _⟩) (v := ?_) rfl (by kernel_rfl) (by kernel_rfl) (by kernel_rfl) (fun _ _ _ h => h) (Or.inl ⟨by rfl, ?_⟩) (by assumption) ?_
      rotate_left
      · intro w hSw; (try dsimp only at hSw); go_simp; (try with_reducible rfl)
      try simp only [Act.put, List.setIfInBounds_toArray, List.set_cons_zero, List.set_cons_succ]
      refine wpAnyH_take (i := 4) (oi := ⟨some 13, _, _, _, _, _⟩) (v := .string ⟨b.toArray⟩) rfl (by kernel_rfl) (by kernel_rfl) (by kernel_rfl) (fun _ _ _ h => h) (Or.inl ⟨by rfl, ?_⟩) (by assumption) ?_
      · intro w hSw; have hcx := (HBX.out _ hSw).cell 2; have hcy : w.cell? _ = some (.string ⟨b.toArray⟩) := hcx; clear hcx; go_simp
      try simp only [Act.put, List.setIfInBounds_toArray, List.set_cons_zero, List.set_cons_succ]
      refine wpAnyH_take (i := 6) (oi := ⟨some 15, _, _, _, _, _⟩) (v := ?_) rfl (by kernel_rfl) (by kernel_rfl) (by kernel_rfl) (fun _ _ _ h => h) (Or.inl ⟨by rfl, ?_⟩) (by assumption) ?_
      rotate_left
      · intro w hSw; (try dsimp only at hSw); go_simp; (try with_reducible rfl)
      try simp only [Act.put, List.setIfInBounds_toArray, List.set_cons_zero, List.set_cons_succ]
      refine wpAnyH_take (i := 7) (oi := ⟨some 16, _, _, _, _, _⟩) (v := .string ⟨c.toArray⟩) rfl (by kernel_rfl) (by kernel_rfl) (by kernel_rfl) (fun _ _ _ h => h) (Or.inl ⟨by rfl, ?_⟩) (by assumption) ?_
      · intro w hSw; have hcx := (HBX.out _ hSw).cell 3; have hcy : w.cell? _ = some (.string ⟨c.toArray⟩) := hcx; clear hcx; go_simp
      try simp only [Act.put, List.setIfInBounds_toArray, List.set_cons_zero, List.set_cons_succ]
      refine wpAnyH_ready (rs := [2]) (by kernel_rfl) (by simp) ?_
      refine AllReadyH.cons (o := ⟨some 11, _, _, _, _, _⟩) rfl (fun K hK => ?_) (AllReadyH.nil)
      go_simp
      go_at_call 77
      refine (HPA.out _).mono ?_
      rintro e v1 ⟨rfl, rfl⟩
      go_wp2_with fail
      refine hK.out _ _ (by assumption) (fun _ => ?_)
      clear hK K
      try simp only [Act.put, List.setIfInBounds_toArray, List.set_cons_zero, List.set_cons_succ]
      refine wpAnyH_ready (rs := [5]) (by kernel_rfl) (by simp) ?_
      refine AllReadyH.cons (o := ⟨some 14, _, _, _, _, _⟩) rfl (fun K hK => ?_) (AllReadyH.nil)
      go_simp
      go_at_call 77
      refine (HPB.out _).mono ?_
      rintro e v2 ⟨rfl, rfl⟩
      go_wp2_with fail
      refine hK.out _ _ (by assumption) (fun _ => ?_)
      clear hK K
      try simp only [Act.put, List.setIfInBounds_toArray, List.set_cons_zero, List.set_cons_succ]
      refine wpAnyH_ready (rs := [8]) (by kernel_rfl) (by simp) ?_
      refine AllReadyH.cons (o := ⟨some 17, _, _, _, _, _⟩) rfl (fun K hK => ?_) (AllReadyH.nil)
      go_simp
      go_at_call 77
      refine (HPC.out _).mono ?_
      rintro e v3 ⟨rfl, rfl⟩
      go_wp2_with fail
      refine hK.out _ _ (by assumption) (fun _ => ?_)
      clear hK K
      try simp only [Act.put, List.setIfInBounds_toArray, List.set_cons_zero, List.set_cons_succ]
      refine wpAnyH_take (i := 9) (oi := ⟨some 5, _, _, _, _, _⟩) (v := ?_) rfl (by kernel_rfl) (by kernel_rfl) (by kernel_rfl) (fun _ _ _ h => h) (Or.inl ⟨by rfl, ?_⟩) (by assumption) ?_
      rotate_left
      · intro w hSw; (try dsimp only at hSw); go_simp; (try with_reducible rfl)
      try simp only [Act.put, List.setIfInBounds_toArray, List.set_cons_zero, List.set_cons_succ]
      refine wpAnyH_take (i := 10) (oi := ⟨some 6, _, _, _, _, _⟩) (v := ?_) rfl (by kernel_rfl) (by kernel_rfl) (by kernel_rfl) (fun _ _ _ h => h) (Or.inl ⟨by rfl, ?_⟩) (by assumption) ?_
      rotate_left
      · intro w hSw; (try dsimp only at hSw); go_simp; (try with_reducible rfl)
      try simp only [Act.put, List.setIfInBounds_toArray, List.set_cons_zero, List.set_cons_succ]
      refine wpAnyH_take (i := 11) (oi := ⟨some 7, _, _, _, _, _⟩) (v := ?_) rfl (by kernel_rfl) (by kernel_rfl) (by kernel_rfl) (fun _ _ _ h => h) (Or.inl ⟨by rfl, ?_⟩) (by assumption) ?_
      rotate_left
      · intro w hSw; (try dsimp only at hSw); go_simp; (try with_reducible rfl)
      try simp only [Act.put, List.setIfInBounds_toArray, List.set_cons_zero, List.set_cons_succ]
      refine wpAnyH_done (by kernel_rfl) ?_ _
      try simp only [Act.put]
      go_wp2_with fail
      go_meet
      case rel => exact ⟨by rw [HXX.out], by rw [HXX.out], by rw [HXX.out], by rw [HXX.out]; unfold insCells; dsimp only; rw [HW]; assumption⟩
  case rest =>
    obtain ⟨rfl, rfl, rfl, hcg⟩ := hcut
    have hbx : Blk wc w.heap.size (insCells X).toArray 61 := (blk_newAt w (insCells X).toArray 61 rfl).chg hcg (by simp)
    have HG : Hid (Chg none w wc) := ((Chg.refl none w).alloc _).trans hcg
    rw [HXX.out] at hbx
    have x0 : wc.cell? ⟨w.heap.size, 0, none⟩ = some (.int .u8 op) := hbx.cell 0
    have x1 : wc.cell? ⟨w.heap.size, 1, none⟩ = some (.string ⟨a.toArray⟩) := hbx.cell 1
    have x2 : wc.cell? ⟨w.heap.size, 2, none⟩ = some (.string ⟨b.toArray⟩) := hbx.cell 2
    have x3 : wc.cell? ⟨w.heap.size, 3, none⟩ = some (.string ⟨c.toArray⟩) := hbx.cell 3
    have x4 : wc.cell? ⟨w.heap.size, 4, none⟩ = some (.int .i64 n) := hbx.cell 4
    have x5 : wc.cell? ⟨w.heap.size, 5, none⟩ = some (.int .i64 m) := hbx.cell 5
    clear hbx hcg HPA HPB HPC
    rw [HXX.out]
    dsimp only
    generalize hqA : pathB a = qA at *
    generalize hqB : pathB b = qB at *
    generalize hqC : pathB c = qC at *
    have HQA := Lib.hid hqA
    have HQB := Lib.hid hqB
    have HQC := Lib.hid hqC
    clear hqA hqB hqC
    go_upto_region 2 with fail
    go_cut [8] from 9 (fun s8 wx => MidPl places ⟨op, a, b, c, n, m⟩ s8 wc wx)
    case first =>
      by_cases h1 : 0 ≤ n
      · have e1 : decide (0 ≤ n) = true := decide_eq_true h1
        by_cases h2 : n ≤ places
        · have e2 : decide (n ≤ places) = true := decide_eq_true h2
          have hr : (decide (0 ≤ n) && decide (n ≤ places)) = true := by rw [e1, e2]; rfl
          have HR := Lib.hid hr
          clear hr h1 h2
          go_wp2_with fail
          go_meet
          case rel => exact ⟨by rw [HR.out], rfl⟩
        · have e2 : decide (n ≤ places) = false := decide_eq_false h2
          have hr : (decide (0 ≤ n) && decide (n ≤ places)) = false := by rw [e1, e2]; rfl
          have HR := Lib.hid hr
          clear hr h1 h2
          go_wp2_with fail
          go_meet
          case rel => exact ⟨by rw [HR.out], rfl⟩
      · have e1 : decide (0 ≤ n) = false := decide_eq_false h1
        have hr : (decide (0 ≤ n) && decide (n ≤ places)) = false := by rw [e1]; rfl
        have HR := Lib.hid hr
        clear hr h1
        go_wp2_with fail
        go_meet
        case rel => exact ⟨by rw [HR.out], rfl⟩
    case rest =>
      obtain ⟨rfl, rfl⟩ := hcut
      dsimp only
      generalize hqP : (decide (0 ≤ n) && decide (n ≤ places)) = qP at *
      have HQP := Lib.hid hqP
      clear hqP
      by_cases hin : 1 ≤ op ∧ op ≤ 11
      rotate_left
      · have HR : Hid (insB ⟨op, a, b, c, n, m⟩ places = false) := insB_op (by dsimp only; omega)
        have d1 : ((op : Int) == 1) = false := by rw [beq_eq_false_iff_ne]; omega
        have d2 : ((op : Int) == 2) = false := by rw [beq_eq_false_iff_ne]; omega
        have d3 : ((op : Int) == 3) = false := by rw [beq_eq_false_iff_ne]; omega
        have d4 : ((op : Int) == 4) = false := by rw [beq_eq_false_iff_ne]; omega
        have d5 : ((op : Int) == 5) = false := by rw [beq_eq_false_iff_ne]; omega
        have d6 : ((op : Int) == 6) = false := by rw [beq_eq_false_iff_ne]; omega
        have d7 : ((op : Int) == 7) = false := by rw [beq_eq_false_iff_ne]; omega
        have d8 : ((op : Int) == 8) = false := by rw [beq_eq_false_iff_ne]; omega
        have d9 : ((op : Int) == 9) = false := by rw [beq_eq_false_iff_ne]; omega
        have d10 : ((op : Int) == 10) = false := by rw [beq_eq_false_iff_ne]; omega
        have d11 : ((op : Int) == 11) = false := by rw [beq_eq_false_iff_ne]; omega
        clear hin
        as_aux_lemma =>
          go_wp2_with fail
          go_ret
          exact ⟨by rw [HR.out]; rfl, HG.out⟩
      rcases (show op = 1 ∨ op = 2 ∨ op = 3 ∨ op = 4 ∨ op = 5 ∨ op = 6 ∨ op = 7 ∨ op = 8 ∨ op = 9 ∨ op = 10 ∨ op = 11 by omega) with rfl | rfl | rfl | rfl | rfl | rfl | rfl | rfl | rfl | rfl | rfl
      · clear hin
        as_aux_lemma =>
          rcases Bool.eq_false_or_eq_true (qA) with hz0 | hz0
          rotate_left
          · have z0 : (pathB a) = false := by rw [HQA.out]; exact hz0
            subst hz0
            have HR : Hid (insB ⟨1, a, b, c, n, m⟩ places = false) := by
              show _ = _
              rw [insB_1, z0] <;> rfl
            clear z0
            go_wp2_with fail
            go_ret
            exact ⟨by rw [HR.out]; rfl, HG.out⟩
          have z0 : (pathB a) = true := by rw [HQA.out]; exact hz0
          subst hz0
          rcases Bool.eq_false_or_eq_true (qB) with hz1 | hz1
          rotate_left
          · have z1 : (pathB b) = false := by rw [HQB.out]; exact hz1
            subst hz1
            have HR : Hid (insB ⟨1, a, b, c, n, m⟩ places = false) := by
              show _ = _
              rw [insB_1, z0, z1] <;> rfl
            clear z0 z1
            go_wp2_with fail
            go_ret
            exact ⟨by rw [HR.out]; rfl, HG.out⟩
          have z1 : (pathB b) = true := by rw [HQB.out]; exact hz1
          subst hz1
          rcases Bool.eq_false_or_eq_true (c.isEmpty) with hz2 | hz2
          rotate_left
          · have z2 : (c.isEmpty) = false := hz2
            have y2 := hz2
            clear hz2
            have HR : Hid (insB ⟨1, a, b, c, n, m⟩ places = false) := by
              show _ = _
              rw [insB_1, z0, z1, z2] <;> rfl
            clear z0 z1 z2
            go_wp2_with fail
            go_ret
            exact ⟨by rw [HR.out]; rfl, HG.out⟩
          have z2 : (c.isEmpty) = true := hz2
          have y2 := hz2
          clear hz2
          rcases Bool.eq_false_or_eq_true (n == 0) with hz3 | hz3
          rotate_left
          · have z3 : (n == 0) = false := hz3
            have y3 := hz3
            clear hz3
            have HR : Hid (insB ⟨1, a, b, c, n, m⟩ places = false) := by
              show _ = _
              rw [insB_1, z0, z1, z2, z3] <;> rfl
            clear z0 z1 z2 z3
            go_wp2_with fail
            go_ret
            exact ⟨by rw [HR.out]; rfl, HG.out⟩
          have z3 : (n == 0) = true := hz3
          have y3 := hz3
          clear hz3
          rcases Bool.eq_false_or_eq_true (m == 0) with hz4 | hz4
          rotate_left
          · have z4 : (m == 0) = false := hz4
            have y4 := hz4
            clear hz4
            have HR : Hid (insB ⟨1, a, b, c, n, m⟩ places = false) := by
              show _ = _
              rw [insB_1, z0, z1, z2, z3, z4] <;> rfl
            clear z0 z1 z2 z3 z4
            go_wp2_with fail
            go_ret
            exact ⟨by rw [HR.out]; rfl, HG.out⟩
          have z4 : (m == 0) = true := hz4
          have y4 := hz4
          clear hz4
          have HR : Hid (insB ⟨1, a, b, c, n, m⟩ places = true) := by
            show _ = _
            rw [insB_1, z0, z1, z2, z3, z4] <;> rfl
          clear z0 z1 z2 z3 z4
          go_wp2_with fail
          go_ret
          exact ⟨by rw [HR.out]; rfl, HG.out⟩
      · clear hin
        as_aux_lemma =>
          rcases Bool.eq_false_or_eq_true (qA) with hz0 | hz0
          rotate_left
          · have z0 : (pathB a) = false := by rw [HQA.out]; exact hz0
            subst hz0
            have HR : Hid (insB ⟨2, a, b, c, n, m⟩ places = false) := by
              show _ = _
              rw [insB_2, z0] <;> rfl
            clear z0
            go_wp2_with fail
            go_ret
            exact ⟨by rw [HR.out]; rfl, HG.out⟩
          have z0 : (pathB a) = true := by rw [HQA.out]; exact hz0
          subst hz0
          rcases Bool.eq_false_or_eq_true (qB) with hz1 | hz1
          rotate_left
          · have z1 : (pathB b) = false := by rw [HQB.out]; exact hz1
            subst hz1
            have HR : Hid (insB ⟨2, a, b, c, n, m⟩ places = false) := by
              show _ = _
              rw [insB_2, z0, z1] <;> rfl
            clear z0 z1
            go_wp2_with fail
            go_ret
            exact ⟨by rw [HR.out]; rfl, HG.out⟩
          have z1 : (pathB b) = true := by rw [HQB.out]; exact hz1
          subst hz1
          rcases Bool.eq_false_or_eq_true (qC) with hz2 | hz2
          rotate_left
          · have z2 : (pathB c) = false := by rw [HQC.out]; exact hz2
            subst hz2
            have HR : Hid (insB ⟨2, a, b, c, n, m⟩ places = false) := by
              show _ = _
              rw [insB_2, z0, z1, z2] <;> rfl
            clear z0 z1 z2
            go_wp2_with fail
            go_ret
            exact ⟨by rw [HR.out]; rfl, HG.out⟩
          have z2 : (pathB c) = true := by rw [HQC.out]; exact hz2
          subst hz2
          rcases Bool.eq_false_or_eq_true (n == 0) with hz3 | hz3
          rotate_left
          · have z3 : (n == 0) = false := hz3
            have y3 := hz3
            clear hz3
            have HR : Hid (insB ⟨2, a, b, c, n, m⟩ places = false) := by
              show _ = _
              rw [insB_2, z0, z1, z2, z3] <;> rfl
            clear z0 z1 z2 z3
            go_wp2_with fail
            go_ret
            exact ⟨by rw [HR.out]; rfl, HG.out⟩
          have z3 : (n == 0) = true := hz3
          have y3 := hz3
          clear hz3
          rcases Bool.eq_false_or_eq_true (m == 0) with hz4 | hz4
          rotate_left
          · have z4 : (m == 0) = false := hz4
            have y4 := hz4
            clear hz4
            have HR : Hid (insB ⟨2, a, b, c, n, m⟩ places = false) := by
              show _ = _
              rw [insB_2, z0, z1, z2, z3, z4] <;> rfl
            clear z0 z1 z2 z3 z4
            go_wp2_with fail
            go_ret
            exact ⟨by rw [HR.out]; rfl, HG.out⟩
          have z4 : (m == 0) = true := hz4
          have y4 := hz4
          clear hz4
          have HR : Hid (insB ⟨2, a, b, c, n, m⟩ places = true) := by
            show _ = _
            rw [insB_2, z0, z1, z2, z3, z4] <;> rfl
          clear z0 z1 z2 z3 z4
          go_wp2_with fail
          go_ret
          exact ⟨by rw [HR.out]; rfl, HG.out⟩
      · clear hin
        as_aux_lemma =>
          rcases Bool.eq_false_or_eq_true (qA) with hz0 | hz0
          rotate_left
          · have z0 : (pathB a) = false := by rw [HQA.out]; exact hz0
            subst hz0
            have HR : Hid (insB ⟨3, a, b, c, n, m⟩ places = false) := by
              show _ = _
              rw [insB_3, z0] <;> rfl
            clear z0
            go_wp2_with fail
            go_ret
            exact ⟨by rw [HR.out]; rfl, HG.out⟩
          have z0 : (pathB a) = true := by rw [HQA.out]; exact hz0
          subst hz0
          rcases Bool.eq_false_or_eq_true (qB) with hz1 | hz1
          rotate_left
          · have z1 : (pathB b) = false := by rw [HQB.out]; exact hz1
            subst hz1
            have HR : Hid (insB ⟨3, a, b, c, n, m⟩ places = false) := by
              show _ = _
              rw [insB_3, z0, z1] <;> rfl
            clear z0 z1
            go_wp2_with fail
            go_ret
            exact ⟨by rw [HR.out]; rfl, HG.out⟩
          have z1 : (pathB b) = true := by rw [HQB.out]; exact hz1
          subst hz1
          rcases Bool.eq_false_or_eq_true (c.isEmpty) with hz2 | hz2
          rotate_left
          · have z2 : (c.isEmpty) = false := hz2
            have y2 := hz2
            clear hz2
            have HR : Hid (insB ⟨3, a, b, c, n, m⟩ places = false) := by
              show _ = _
              rw [insB_3, z0, z1, z2] <;> rfl
            clear z0 z1 z2
            go_wp2_with fail
            go_ret
            exact ⟨by rw [HR.out]; rfl, HG.out⟩
          have z2 : (c.isEmpty) = true := hz2
          have y2 := hz2
          clear hz2
          rcases Bool.eq_false_or_eq_true (decide (0 ≤ n)) with hz3 | hz3
          rotate_left
          · have z3 : (decide (0 ≤ n)) = false := hz3
            have y3 := hz3
            clear hz3
            have HR : Hid (insB ⟨3, a, b, c, n, m⟩ places = false) := by
              show _ = _
              rw [insB_3, z0, z1, z2, z3] <;> rfl
            clear z0 z1 z2 z3
            go_wp2_with fail
            go_ret
            exact ⟨by rw [HR.out]; rfl, HG.out⟩
          have z3 : (decide (0 ≤ n)) = true := hz3
          have y3 := hz3
          clear hz3
          rcases Bool.eq_false_or_eq_true (decide (n ≤ 2000)) with hz4 | hz4
          rotate_left
          · have z4 : (decide (n ≤ 2000)) = false := hz4
            have y4 := hz4
            clear hz4
            have HR : Hid (insB ⟨3, a, b, c, n, m⟩ places = false) := by
              show _ = _
              rw [insB_3, z0, z1, z2, z3, z4] <;> rfl
            clear z0 z1 z2 z3 z4
            go_wp2_with fail
            go_ret
            exact ⟨by rw [HR.out]; rfl, HG.out⟩
          have z4 : (decide (n ≤ 2000)) = true := hz4
          have y4 := hz4
          clear hz4
          rcases Bool.eq_false_or_eq_true (decide (0 ≤ m)) with hz5 | hz5
          rotate_left
          · have z5 : (decide (0 ≤ m)) = false := hz5
            have y5 := hz5
            clear hz5
            have HR : Hid (insB ⟨3, a, b, c, n, m⟩ places = false) := by
              show _ = _
              rw [insB_3, z0, z1, z2, z3, z4, z5] <;> rfl
            clear z0 z1 z2 z3 z4 z5
            go_wp2_with fail
            go_ret
            exact ⟨by rw [HR.out]; rfl, HG.out⟩
          have z5 : (decide (0 ≤ m)) = true := hz5
          have y5 := hz5
          clear hz5
          rcases Bool.eq_false_or_eq_true (decide (m ≤ 2000)) with hz6 | hz6
          rotate_left
          · have z6 : (decide (m ≤ 2000)) = false := hz6
            have y6 := hz6
            clear hz6
            have HR : Hid (insB ⟨3, a, b, c, n, m⟩ places = false) := by
              show _ = _
              rw [insB_3, z0, z1, z2, z3, z4, z5, z6] <;> rfl
            clear z0 z1 z2 z3 z4 z5 z6
            go_wp2_with fail
            go_ret
            exact ⟨by rw [HR.out]; rfl, HG.out⟩
          have z6 : (decide (m ≤ 2000)) = true := hz6
          have y6 := hz6
          clear hz6
          have HR : Hid (insB ⟨3, a, b, c, n, m⟩ places = true) := by
            show _ = _
            rw [insB_3, z0, z1, z2, z3, z4, z5, z6] <;> rfl
          clear z0 z1 z2 z3 z4 z5 z6
          go_wp2_with fail
          go_ret
          exact ⟨by rw [HR.out]; rfl, HG.out⟩
      · clear hin
        as_aux_lemma =>
          rcases Bool.eq_false_or_eq_true (qA) with hz0 | hz0
          rotate_left
          · have z0 : (pathB a) = false := by rw [HQA.out]; exact hz0
            subst hz0
            have HR : Hid (insB ⟨4, a, b, c, n, m⟩ places = false) := by
              show _ = _
              rw [insB_4, z0] <;> rfl
            clear z0
            go_wp2_with fail
            go_ret
            exact ⟨by rw [HR.out]; rfl, HG.out⟩
          have z0 : (pathB a) = true := by rw [HQA.out]; exact hz0
          subst hz0
          rcases Bool.eq_false_or_eq_true (decide (0 < b.length)) with hz1 | hz1
          rotate_left
          · have z1 : (decide (0 < b.length)) = false := hz1
            have y1 : b.isEmpty = true := by cases b <;> first | rfl | (simp at hz1)
            clear hz1
            have HR : Hid (insB ⟨4, a, b, c, n, m⟩ places = false) := by
              show _ = _
              rw [insB_4, z0, z1] <;> rfl
            clear z0 z1
            go_wp2_with fail
            go_ret
            exact ⟨by rw [HR.out]; rfl, HG.out⟩
          have z1 : (decide (0 < b.length)) = true := hz1
          have y1 : b.isEmpty = false := by cases b <;> first | rfl | (simp at hz1)
          clear hz1
          rcases Bool.eq_false_or_eq_true (decide (b.length ≤ 40)) with hz2 | hz2
          rotate_left
          · have z2 : (decide (b.length ≤ 40)) = false := hz2
            have y2 : decide ((b.length : Int) ≤ 40) = false := by have hq := of_decide_eq_false hz2; rw [decide_eq_false_iff_not]; omega
            clear hz2
            have HR : Hid (insB ⟨4, a, b, c, n, m⟩ places = false) := by
              show _ = _
              rw [insB_4, z0, z1, z2] <;> rfl
            clear z0 z1 z2
            go_wp2_with fail
            go_ret
            exact ⟨by rw [HR.out]; rfl, HG.out⟩
          have z2 : (decide (b.length ≤ 40)) = true := hz2
          have y2 : decide ((b.length : Int) ≤ 40) = true := by have hq := of_decide_eq_true hz2; rw [decide_eq_true_eq]; omega
          clear hz2
          rcases Bool.eq_false_or_eq_true (decide (c.length ≤ 40)) with hz3 | hz3
          rotate_left
          · have z3 : (decide (c.length ≤ 40)) = false := hz3
            have y3 : decide ((c.length : Int) ≤ 40) = false := by have hq := of_decide_eq_false hz3; rw [decide_eq_false_iff_not]; omega
            clear hz3
            have HR : Hid (insB ⟨4, a, b, c, n, m⟩ places = false) := by
              show _ = _
              rw [insB_4, z0, z1, z2, z3] <;> rfl
            clear z0 z1 z2 z3
            go_wp2_with fail
            go_ret
            exact ⟨by rw [HR.out]; rfl, HG.out⟩
          have z3 : (decide (c.length ≤ 40)) = true := hz3
          have y3 : decide ((c.length : Int) ≤ 40) = true := by have hq := of_decide_eq_true hz3; rw [decide_eq_true_eq]; omega
          clear hz3
          rcases Bool.eq_false_or_eq_true (n == 0) with hz4 | hz4
          rotate_left
          · have z4 : (n == 0) = false := hz4
            have y4 := hz4
            clear hz4
            have HR : Hid (insB ⟨4, a, b, c, n, m⟩ places = false) := by
              show _ = _
              rw [insB_4, z0, z1, z2, z3, z4] <;> rfl
            clear z0 z1 z2 z3 z4
            go_wp2_with fail
            go_ret
            exact ⟨by rw [HR.out]; rfl, HG.out⟩
          have z4 : (n == 0) = true := hz4
          have y4 := hz4
          clear hz4
          rcases Bool.eq_false_or_eq_true (m == 0) with hz5 | hz5
          rotate_left
          · have z5 : (m == 0) = false := hz5
            have y5 := hz5
            clear hz5
            have HR : Hid (insB ⟨4, a, b, c, n, m⟩ places = false) := by
              show _ = _
              rw [insB_4, z0, z1, z2, z3, z4, z5] <;> rfl
            clear z0 z1 z2 z3 z4 z5
            go_wp2_with fail
            go_ret
            exact ⟨by rw [HR.out]; rfl, HG.out⟩
          have z5 : (m == 0) = true := hz5
          have y5 := hz5
          clear hz5
          have HR : Hid (insB ⟨4, a, b, c, n, m⟩ places = true) := by
            show _ = _
            rw [insB_4, z0, z1, z2, z3, z4, z5] <;> rfl
          clear z0 z1 z2 z3 z4 z5
          go_wp2_with fail
          go_ret
          exact ⟨by rw [HR.out]; rfl, HG.out⟩
      · clear hin
        as_aux_lemma =>
          rcases Bool.eq_false_or_eq_true (qA) with hz0 | hz0
          rotate_left
          · have z0 : (pathB a) = false := by rw [HQA.out]; exact hz0
            subst hz0
            have HR : Hid (insB ⟨5, a, b, c, n, m⟩ places = false) := by
              show _ = _
              rw [insB_5, z0] <;> rfl
            clear z0
            go_wp2_with fail
            go_ret
            exact ⟨by rw [HR.out]; rfl, HG.out⟩
          have z0 : (pathB a) = true := by rw [HQA.out]; exact hz0
          subst hz0
          rcases Bool.eq_false_or_eq_true (b.isEmpty) with hz1 | hz1
          rotate_left
          · have z1 : (b.isEmpty) = false := hz1
            have y1 := hz1
            clear hz1
            have HR : Hid (insB ⟨5, a, b, c, n, m⟩ places = false) := by
              show _ = _
              rw [insB_5, z0, z1] <;> rfl
            clear z0 z1
            go_wp2_with fail
            go_ret
            exact ⟨by rw [HR.out]; rfl, HG.out⟩
          have z1 : (b.isEmpty) = true := hz1
          have y1 := hz1
          clear hz1
          rcases Bool.eq_false_or_eq_true (c.isEmpty) with hz2 | hz2
          rotate_left
          · have z2 : (c.isEmpty) = false := hz2
            have y2 := hz2
            clear hz2
            have HR : Hid (insB ⟨5, a, b, c, n, m⟩ places = false) := by
              show _ = _
              rw [insB_5, z0, z1, z2] <;> rfl
            clear z0 z1 z2
            go_wp2_with fail
            go_ret
            exact ⟨by rw [HR.out]; rfl, HG.out⟩
          have z2 : (c.isEmpty) = true := hz2
          have y2 := hz2
          clear hz2
          rcases Bool.eq_false_or_eq_true (n == 0) with hz3 | hz3
          rotate_left
          · have z3 : (n == 0) = false := hz3
            have y3 := hz3
            clear hz3
            have HR : Hid (insB ⟨5, a, b, c, n, m⟩ places = false) := by
              show _ = _
              rw [insB_5, z0, z1, z2, z3] <;> rfl
            clear z0 z1 z2 z3
            go_wp2_with fail
            go_ret
            exact ⟨by rw [HR.out]; rfl, HG.out⟩
          have z3 : (n == 0) = true := hz3
          have y3 := hz3
          clear hz3
          rcases Bool.eq_false_or_eq_true (m == 0) with hz4 | hz4
          rotate_left
          · have z4 : (m == 0) = false := hz4
            have y4 := hz4
            clear hz4
            have HR : Hid (insB ⟨5, a, b, c, n, m⟩ places = false) := by
              show _ = _
              rw [insB_5, z0, z1, z2, z3, z4] <;> rfl
            clear z0 z1 z2 z3 z4
            go_wp2_with fail
            go_ret
            exact ⟨by rw [HR.out]; rfl, HG.out⟩
          have z4 : (m == 0) = true := hz4
          have y4 := hz4
          clear hz4
          have HR : Hid (insB ⟨5, a, b, c, n, m⟩ places = true) := by
            show _ = _
            rw [insB_5, z0, z1, z2, z3, z4] <;> rfl
          clear z0 z1 z2 z3 z4
          go_wp2_with fail
          go_ret
          exact ⟨by rw [HR.out]; rfl, HG.out⟩
      · clear hin
        as_aux_lemma =>
          rcases Bool.eq_false_or_eq_true (qA) with hz0 | hz0
          rotate_left
          · have z0 : (pathB a) = false := by rw [HQA.out]; exact hz0
            subst hz0
            have HR : Hid (insB ⟨6, a, b, c, n, m⟩ places = false) := by
              show _ = _
              rw [insB_6, z0] <;> rfl
            clear z0
            go_wp2_with fail
            go_ret
            exact ⟨by rw [HR.out]; rfl, HG.out⟩
          have z0 : (pathB a) = true := by rw [HQA.out]; exact hz0
          subst hz0
          rcases Bool.eq_false_or_eq_true (qB) with hz1 | hz1
          rotate_left
          · have z1 : (pathB b) = false := by rw [HQB.out]; exact hz1
            subst hz1
            have HR : Hid (insB ⟨6, a, b, c, n, m⟩ places = false) := by
              show _ = _
              rw [insB_6, z0, z1] <;> rfl
            clear z0 z1
            go_wp2_with fail
            go_ret
            exact ⟨by rw [HR.out]; rfl, HG.out⟩
          have z1 : (pathB b) = true := by rw [HQB.out]; exact hz1
          subst hz1
          rcases Bool.eq_false_or_eq_true (c.isEmpty) with hz2 | hz2
          rotate_left
          · have z2 : (c.isEmpty) = false := hz2
            have y2 := hz2
            clear hz2
            have HR : Hid (insB ⟨6, a, b, c, n, m⟩ places = false) := by
              show _ = _
              rw [insB_6, z0, z1, z2] <;> rfl
            clear z0 z1 z2
            go_wp2_with fail
            go_ret
            exact ⟨by rw [HR.out]; rfl, HG.out⟩
          have z2 : (c.isEmpty) = true := hz2
          have y2 := hz2
          clear hz2
          rcases Bool.eq_false_or_eq_true (n == 0) with hz3 | hz3
          rotate_left
          · have z3 : (n == 0) = false := hz3
            have y3 := hz3
            clear hz3
            have HR : Hid (insB ⟨6, a, b, c, n, m⟩ places = false) := by
              show _ = _
              rw [insB_6, z0, z1, z2, z3] <;> rfl
            clear z0 z1 z2 z3
            go_wp2_with fail
            go_ret
            exact ⟨by rw [HR.out]; rfl, HG.out⟩
          have z3 : (n == 0) = true := hz3
          have y3 := hz3
          clear hz3
          rcases Bool.eq_false_or_eq_true (m == 0) with hz4 | hz4
          rotate_left
          · have z4 : (m == 0) = false := hz4
            have y4 := hz4
            clear hz4
            have HR : Hid (insB ⟨6, a, b, c, n, m⟩ places = false) := by
              show _ = _
              rw [insB_6, z0, z1, z2, z3, z4] <;> rfl
            clear z0 z1 z2 z3 z4
            go_wp2_with fail
            go_ret
            exact ⟨by rw [HR.out]; rfl, HG.out⟩
          have z4 : (m == 0) = true := hz4
          have y4 := hz4
          clear hz4
          have HR : Hid (insB ⟨6, a, b, c, n, m⟩ places = true) := by
            show _ = _
            rw [insB_6, z0, z1, z2, z3, z4] <;> rfl
          clear z0 z1 z2 z3 z4
          go_wp2_with fail
          go_ret
          exact ⟨by rw [HR.out]; rfl, HG.out⟩
      · clear hin
        as_aux_lemma =>
          rcases Bool.eq_false_or_eq_true (qA) with hz0 | hz0
          rotate_left
          · have z0 : (pathB a) = false := by rw [HQA.out]; exact hz0
            subst hz0
            have HR : Hid (insB ⟨7, a, b, c, n, m⟩ places = false) := by
              show _ = _
              rw [insB_7, z0] <;> rfl
            clear z0
            go_wp2_with fail
            go_ret
            exact ⟨by rw [HR.out]; rfl, HG.out⟩
          have z0 : (pathB a) = true := by rw [HQA.out]; exact hz0
          subst hz0
          rcases Bool.eq_false_or_eq_true (qB) with hz1 | hz1
          rotate_left
          · have z1 : (pathB b) = false := by rw [HQB.out]; exact hz1
            subst hz1
            have HR : Hid (insB ⟨7, a, b, c, n, m⟩ places = false) := by
              show _ = _
              rw [insB_7, z0, z1] <;> rfl
            clear z0 z1
            go_wp2_with fail
            go_ret
            exact ⟨by rw [HR.out]; rfl, HG.out⟩
          have z1 : (pathB b) = true := by rw [HQB.out]; exact hz1
          subst hz1
          rcases Bool.eq_false_or_eq_true (c.isEmpty) with hz2 | hz2
          rotate_left
          · have z2 : (c.isEmpty) = false := hz2
            have y2 := hz2
            clear hz2
            have HR : Hid (insB ⟨7, a, b, c, n, m⟩ places = false) := by
              show _ = _
              rw [insB_7, z0, z1, z2] <;> rfl
            clear z0 z1 z2
            go_wp2_with fail
            go_ret
            exact ⟨by rw [HR.out]; rfl, HG.out⟩
          have z2 : (c.isEmpty) = true := hz2
          have y2 := hz2
          clear hz2
          rcases Bool.eq_false_or_eq_true (n == 0) with hz3 | hz3
          rotate_left
          · have z3 : (n == 0) = false := hz3
            have y3 := hz3
            clear hz3
            have HR : Hid (insB ⟨7, a, b, c, n, m⟩ places = false) := by
              show _ = _
              rw [insB_7, z0, z1, z2, z3] <;> rfl
            clear z0 z1 z2 z3
            go_wp2_with fail
            go_ret
            exact ⟨by rw [HR.out]; rfl, HG.out⟩
          have z3 : (n == 0) = true := hz3
          have y3 := hz3
          clear hz3
          rcases Bool.eq_false_or_eq_true (m == 0) with hz4 | hz4
          rotate_left
          · have z4 : (m == 0) = false := hz4
            have y4 := hz4
            clear hz4
            have HR : Hid (insB ⟨7, a, b, c, n, m⟩ places = false) := by
              show _ = _
              rw [insB_7, z0, z1, z2, z3, z4] <;> rfl
            clear z0 z1 z2 z3 z4
            go_wp2_with fail
            go_ret
            exact ⟨by rw [HR.out]; rfl, HG.out⟩
          have z4 : (m == 0) = true := hz4
          have y4 := hz4
          clear hz4
          have HR : Hid (insB ⟨7, a, b, c, n, m⟩ places = true) := by
            show _ = _
            rw [insB_7, z0, z1, z2, z3, z4] <;> rfl
          clear z0 z1 z2 z3 z4
          go_wp2_with fail
          go_ret
          exact ⟨by rw [HR.out]; rfl, HG.out⟩
      · clear hin
        as_aux_lemma =>
          rcases Bool.eq_false_or_eq_true (a.isEmpty) with hz0 | hz0
          rotate_left
          · have z0 : (a.isEmpty) = false := hz0
            have y0 := hz0
            clear hz0
            have HR : Hid (insB ⟨8, a, b, c, n, m⟩ places = false) := by
              show _ = _
              rw [insB_8, z0] <;> rfl
            clear z0
            go_wp2_with fail
            go_ret
            exact ⟨by rw [HR.out]; rfl, HG.out⟩
          have z0 : (a.isEmpty) = true := hz0
          have y0 := hz0
          clear hz0
          rcases Bool.eq_false_or_eq_true (b.isEmpty) with hz1 | hz1
          rotate_left
          · have z1 : (b.isEmpty) = false := hz1
            have y1 := hz1
            clear hz1
            have HR : Hid (insB ⟨8, a, b, c, n, m⟩ places = false) := by
              show _ = _
              rw [insB_8, z0, z1] <;> rfl
            clear z0 z1
            go_wp2_with fail
            go_ret
            exact ⟨by rw [HR.out]; rfl, HG.out⟩
          have z1 : (b.isEmpty) = true := hz1
          have y1 := hz1
          clear hz1
          rcases Bool.eq_false_or_eq_true (c.isEmpty) with hz2 | hz2
          rotate_left
          · have z2 : (c.isEmpty) = false := hz2
            have y2 := hz2
            clear hz2
            have HR : Hid (insB ⟨8, a, b, c, n, m⟩ places = false) := by
              show _ = _
              rw [insB_8, z0, z1, z2] <;> rfl
            clear z0 z1 z2
            go_wp2_with fail
            go_ret
            exact ⟨by rw [HR.out]; rfl, HG.out⟩
          have z2 : (c.isEmpty) = true := hz2
          have y2 := hz2
          clear hz2
          rcases Bool.eq_false_or_eq_true (qP) with hz3 | hz3
          rotate_left
          · have z3 : ((decide (0 ≤ n) && decide (n ≤ places))) = false := by rw [HQP.out]; exact hz3
            subst hz3
            have HR : Hid (insB ⟨8, a, b, c, n, m⟩ places = false) := by
              show _ = _
              rw [insB_8, z0, z1, z2, z3] <;> rfl
            clear z0 z1 z2 z3
            go_wp2_with fail
            go_ret
            exact ⟨by rw [HR.out]; rfl, HG.out⟩
          have z3 : ((decide (0 ≤ n) && decide (n ≤ places))) = true := by rw [HQP.out]; exact hz3
          subst hz3
          rcases Bool.eq_false_or_eq_true (m == 0) with hz4 | hz4
          rotate_left
          · have z4 : (m == 0) = false := hz4
            have y4 := hz4
            clear hz4
            have HR : Hid (insB ⟨8, a, b, c, n, m⟩ places = false) := by
              show _ = _
              rw [insB_8, z0, z1, z2, z3, z4] <;> rfl
            clear z0 z1 z2 z3 z4
            go_wp2_with fail
            go_ret
            exact ⟨by rw [HR.out]; rfl, HG.out⟩
          have z4 : (m == 0) = true := hz4
          have y4 := hz4
          clear hz4
          have HR : Hid (insB ⟨8, a, b, c, n, m⟩ places = true) := by
            show _ = _
            rw [insB_8, z0, z1, z2, z3, z4] <;> rfl
          clear z0 z1 z2 z3 z4
          go_wp2_with fail
          go_ret
          exact ⟨by rw [HR.out]; rfl, HG.out⟩
      · clear hin
        as_aux_lemma =>
          rcases Bool.eq_false_or_eq_true (qA) with hz0 | hz0
          rotate_left
          · have z0 : (pathB a) = false := by rw [HQA.out]; exact hz0
            subst hz0
            have HR : Hid (insB ⟨9, a, b, c, n, m⟩ places = false) := by
              show _ = _
              rw [insB_9, z0] <;> rfl
            clear z0
            go_wp2_with fail
            go_ret
            exact ⟨by rw [HR.out]; rfl, HG.out⟩
          have z0 : (pathB a) = true := by rw [HQA.out]; exact hz0
          subst hz0
          rcases Bool.eq_false_or_eq_true (b.isEmpty) with hz1 | hz1
          rotate_left
          · have z1 : (b.isEmpty) = false := hz1
            have y1 := hz1
            clear hz1
            have HR : Hid (insB ⟨9, a, b, c, n, m⟩ places = false) := by
              show _ = _
              rw [insB_9, z0, z1] <;> rfl
            clear z0 z1
            go_wp2_with fail
            go_ret
            exact ⟨by rw [HR.out]; rfl, HG.out⟩
          have z1 : (b.isEmpty) = true := hz1
          have y1 := hz1
          clear hz1
          rcases Bool.eq_false_or_eq_true (c.isEmpty) with hz2 | hz2
          rotate_left
          · have z2 : (c.isEmpty) = false := hz2
            have y2 := hz2
            clear hz2
            have HR : Hid (insB ⟨9, a, b, c, n, m⟩ places = false) := by
              show _ = _
              rw [insB_9, z0, z1, z2] <;> rfl
            clear z0 z1 z2
            go_wp2_with fail
            go_ret
            exact ⟨by rw [HR.out]; rfl, HG.out⟩
          have z2 : (c.isEmpty) = true := hz2
          have y2 := hz2
          clear hz2
          rcases Bool.eq_false_or_eq_true (qP) with hz3 | hz3
          rotate_left
          · have z3 : ((decide (0 ≤ n) && decide (n ≤ places))) = false := by rw [HQP.out]; exact hz3
            subst hz3
            have HR : Hid (insB ⟨9, a, b, c, n, m⟩ places = false) := by
              show _ = _
              rw [insB_9, z0, z1, z2, z3] <;> rfl
            clear z0 z1 z2 z3
            go_wp2_with fail
            go_ret
            exact ⟨by rw [HR.out]; rfl, HG.out⟩
          have z3 : ((decide (0 ≤ n) && decide (n ≤ places))) = true := by rw [HQP.out]; exact hz3
          subst hz3
          rcases Bool.eq_false_or_eq_true (m == 0) with hz4 | hz4
          rotate_left
          · have z4 : (m == 0) = false := hz4
            have y4 := hz4
            clear hz4
            have HR : Hid (insB ⟨9, a, b, c, n, m⟩ places = false) := by
              show _ = _
              rw [insB_9, z0, z1, z2, z3, z4] <;> rfl
            clear z0 z1 z2 z3 z4
            go_wp2_with fail
            go_ret
            exact ⟨by rw [HR.out]; rfl, HG.out⟩
          have z4 : (m == 0) = true := hz4
          have y4 := hz4
          clear hz4
          have HR : Hid (insB ⟨9, a, b, c, n, m⟩ places = true) := by
            show _ = _
            rw [insB_9, z0, z1, z2, z3, z4] <;> rfl
          clear z0 z1 z2 z3 z4
          go_wp2_with fail
          go_ret
          exact ⟨by rw [HR.out]; rfl, HG.out⟩
      · clear hin
        as_aux_lemma =>
          rcases Bool.eq_false_or_eq_true (qA) with hz0 | hz0
          rotate_left
          · have z0 : (pathB a) = false := by rw [HQA.out]; exact hz0
            subst hz0
            have HR : Hid (insB ⟨10, a, b, c, n, m⟩ places = false) := by
              show _ = _
              rw [insB_10, z0] <;> rfl
            clear z0
            go_wp2_with fail
            go_ret
            exact ⟨by rw [HR.out]; rfl, HG.out⟩
          have z0 : (pathB a) = true := by rw [HQA.out]; exact hz0
          subst hz0
          rcases Bool.eq_false_or_eq_true (qB) with hz1 | hz1
          rotate_left
          · have z1 : (pathB b) = false := by rw [HQB.out]; exact hz1
            subst hz1
            have HR : Hid (insB ⟨10, a, b, c, n, m⟩ places = false) := by
              show _ = _
              rw [insB_10, z0, z1] <;> rfl
            clear z0 z1
            go_wp2_with fail
            go_ret
            exact ⟨by rw [HR.out]; rfl, HG.out⟩
          have z1 : (pathB b) = true := by rw [HQB.out]; exact hz1
          subst hz1
          rcases Bool.eq_false_or_eq_true (c.isEmpty) with hz2 | hz2
          rotate_left
          · have z2 : (c.isEmpty) = false := hz2
            have y2 := hz2
            clear hz2
            have HR : Hid (insB ⟨10, a, b, c, n, m⟩ places = false) := by
              show _ = _
              rw [insB_10, z0, z1, z2] <;> rfl
            clear z0 z1 z2
            go_wp2_with fail
            go_ret
            exact ⟨by rw [HR.out]; rfl, HG.out⟩
          have z2 : (c.isEmpty) = true := hz2
          have y2 := hz2
          clear hz2
          rcases Bool.eq_false_or_eq_true (qP) with hz3 | hz3
          rotate_left
          · have z3 : ((decide (0 ≤ n) && decide (n ≤ places))) = false := by rw [HQP.out]; exact hz3
            subst hz3
            have HR : Hid (insB ⟨10, a, b, c, n, m⟩ places = false) := by
              show _ = _
              rw [insB_10, z0, z1, z2, z3] <;> rfl
            clear z0 z1 z2 z3
            go_wp2_with fail
            go_ret
            exact ⟨by rw [HR.out]; rfl, HG.out⟩
          have z3 : ((decide (0 ≤ n) && decide (n ≤ places))) = true := by rw [HQP.out]; exact hz3
          subst hz3
          rcases Bool.eq_false_or_eq_true (m == 0) with hz4 | hz4
          rotate_left
          · have z4 : (m == 0) = false := hz4
            have y4 := hz4
            clear hz4
            have HR : Hid (insB ⟨10, a, b, c, n, m⟩ places = false) := by
              show _ = _
              rw [insB_10, z0, z1, z2, z3, z4] <;> rfl
            clear z0 z1 z2 z3 z4
            go_wp2_with fail
            go_ret
            exact ⟨by rw [HR.out]; rfl, HG.out⟩
          have z4 : (m == 0) = true := hz4
          have y4 := hz4
          clear hz4
          have HR : Hid (insB ⟨10, a, b, c, n, m⟩ places = true) := by
            show _ = _
            rw [insB_10, z0, z1, z2, z3, z4] <;> rfl
          clear z0 z1 z2 z3 z4
          go_wp2_with fail
          go_ret
          exact ⟨by rw [HR.out]; rfl, HG.out⟩
      · clear hin
        as_aux_lemma =>
          have he := eql61 ⟨11, a, b, c, n, m⟩ ⟨11, [], [], [], 0, 0⟩ wc
          have HR := Lib.hid (insB_11 a b c n m places)
          unfold insCells at he
          dsimp only at he
          have hgd := guard61
          clear he
          go_wp2_with fail
          all_goals go_ret
          all_goals
            refine ⟨?_, HG.out⟩
            rw [HR.out]
            clear HR HG HQA HQB HQC HQP HXX HX x0 x1 x2 x3 x4 x5
            first
              | (show Ending.returned (.bool true) = _; refine ret_bool ?_; unfold sameIns; simp [*]; done)
              | (show Ending.returned (.bool false) = _; refine ret_bool ?_; unfold sameIns; simp [*]; done)

end Go.Proofs.YtbadkkilblgpmaaDoor
