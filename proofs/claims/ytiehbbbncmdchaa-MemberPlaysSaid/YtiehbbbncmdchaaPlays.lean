/-
  The law MemberPlays: its walk.
-/
import Derived.Test.YtiehbbbncmdchaaY3
import Derived.Test.YtiehbbbncmdchaaY4
import Derived.Test.YtiehbbbncmdchaaY5
import Derived.Test.YtiehbbbncmdchaaY6
import Derived.Test.YtiehbbbncmdchaaGrows
namespace Go.Proofs.Ytiehbbbncmdchaa
open Go.RowKit

/-- Both members stand as one. -/
def Both (B G cap : Nat) (w : World) (s9 : Value) (wx : World) : Prop :=
  ∃ (pb : Nat) (m : M), s9 = .pointer (some ⟨pb, 0, none⟩) ∧ MemAt wx pb m ∧ RefAt wx B G cap m ∧ m.ok ∧ pb ≠ B ∧ pb ≠ G ∧ w.heap.size ≤ pb ∧ Chg none w wx

theorem hear_agg (b : Nat) (m : M) (u : U) (w : World) (hm : MemAt w b m) (ho : m.ok) (hi : 0 ≤ u.inc) :
    Calls Try.prog 20 #[.pointer (some ⟨b, 0, none⟩), .agg #[.int .i64 u.node, .int .u8 u.st, .int .u64 u.inc]] w (HearPost b w (hear m u)) := hear_any b m u w hm ho hi
theorem rhear_agg (B G cap : Nat) (m : M) (u : U) (w : World) (hm : RefAt w B G cap m) (ho : m.ok) (hi : 0 ≤ u.inc) :
    Calls Try.prog 21 #[.pointer (some ⟨B, 0, none⟩), .agg #[.int .i64 u.node, .int .u8 u.st, .int .u64 u.inc]] w (RHearPost B G cap w (hear m u)) := rhear B G cap m u w hm ho hi

set_option maxRecDepth 100000 in
set_option maxHeartbeats 16000000 in
theorem mplays_main (s c : Nat) (inc : Int) (A : Option Addr) (L : List Opn) (ca : Nat) (w : World)
    (hs : s < c) (hc : c ≤ 16) (hi : 0 ≤ inc ∧ inc ≤ 1099511627776) (hn : L.length ≤ 200) (hA : RowsAt w 4 A Opn.cells L) (hL : ∀ o ∈ L, 0 ≤ o.u.inc) :
    Calls Try.prog 3 #[.int .i64 s, .int .i64 c, .int .u64 inc, .slice A L.length ca] w fun e w' => e = .returned (.bool true) ∧ Chg none w w' := by
  have e2 : decide ((200 : Int) < (L.length : Int)) = false := by simp; omega
  have hok0 := M.fresh_ok s c inc hs hc hi
  have HN := Lib.hid (fun W => new_yes s c inc W hs hc hi)
  have HN2 := Lib.hid (fun W => rnew_yes s c inc W hs hc hi)
  generalize M.fresh s c inc = m0 at *
  go_enter Try.func3, Try.ntmps3
  go_wp2_with fail
  refine (HN.out _).mono ?_
  rintro e w1 ⟨rfl, h1, g1⟩
  have hz1 := Blk.lt h1
  go_wp2_with fail
  refine (HN2.out _).mono ?_
  rintro e w2 ⟨rfl, ⟨G, cap, h2, hBG⟩, g2⟩
  have h12 : MemAt w2 w.heap.size m0 := MemAt.chg h1 g2 (by simp)
  have g12 := g1.trans g2
  generalize hB : w1.heap.size = B at *
  have hBw : w.heap.size ≤ B := by omega
  have hGw : w.heap.size ≤ G := by omega
  have hstart : Both B G cap w (.pointer (some ⟨w.heap.size, 0, none⟩)) w2 := ⟨_, m0, rfl, h12, h2, hok0, by omega, by omega, Nat.le_refl _, g12⟩
  clear HN HN2 h1 h2 h12 hok0 g1 g2 hB hz1
  go_wp2_with fail
  go_loopw [9, 52] (fun s9 s52 wr => ∃ k : Nat, k ≤ L.length ∧ s52 = .int .i64 k ∧ Both B G cap w s9 wr) (fun _ s52 _ => L.length - (intOf s52).toNat)
  case atStart => exact ⟨0, by omega, rfl, hstart⟩
  case round =>
    obtain ⟨k, hk, rfl, pb, m, rfl, hm, hr, hok, hpB, hpG, hpw, hg⟩ := hrel
    obtain ⟨wo, rfl⟩ : ∃ wo : World, wo = wr := ⟨_, rfl⟩
    clear hstart
    by_cases hlt : k < L.length
    · have hxk : L[k]? = some L[k] := List.getElem?_eq_getElem hlt
      have hinc := hL L[k] (List.getElem_mem hlt)
      obtain ⟨ba, oa, hAe, hba, hca⟩ := hA.four (by intro h; rw [h, List.length_nil] at hlt; omega)
      obtain ⟨d0, d1, d2, d3⟩ := hca k _ hxk
      generalize L[k] = o at *
      have hmB := Blk.lt hm
      obtain ⟨hrB, hrG⟩ := hr.lt
      have f0 := World.grownBy.cell hg d0 (by simp)
      have f1 := World.grownBy.cell hg d1 (by simp)
      have f2 := World.grownBy.cell hg d2 (by simp)
      have f3 := World.grownBy.cell hg d3 (by simp)
      have hba4 : ba < wo.heap.size := Nat.lt_of_lt_of_le hba hg.size
      clear hxk hca hA hL d0 d1 d2 d3
      subst hAe
      obtain ⟨kind, un, us, ui⟩ := o
      dsimp only at f0 f1 f2 f3 hinc
      go_upto_block 2 with fail
      have hm5 := hm.alloc (.cells #[.int .i64 kind, .int .i64 un, .int .u8 us, .int .u64 ui] 33)
      have hr5 := hr.alloc (.cells #[.int .i64 kind, .int .i64 un, .int .u8 us, .int .u64 ui] 33)
      have hb5 := Blk.new wo #[.int .i64 kind, .int .i64 un, .int .u8 us, .int .u64 ui] 33
      have HG5 := Lib.hid (hg.alloc (.cells #[.int .i64 kind, .int .i64 un, .int .u8 us, .int .u64 ui] 33))
      generalize hbo : wo.heap.size = bo at *
      obtain ⟨k0, k1, k2, k3⟩ := Blk.four hb5
      have HB5 := Lib.hid hb5
      obtain ⟨w5, hw5⟩ : ∃ w5, w5 = wo.alloc (.cells #[.int .i64 kind, .int .i64 un, .int .u8 us, .int .u64 ui] 33) := ⟨_, rfl⟩
      rw [← hw5] at hm5 hr5 HG5 HB5 k0 k1 k2 k3 ⊢
      clear hw5 hm hr hg f0 f1 f2 f3 hba hba4 hb5
      go_cut [9, 14, 15, 16, 17, 18, 19, 83, 96, 109, 116] (fun s9 _ _ _ _ _ _ _ _ _ _ wx => Both B G cap w s9 wx)
      case first =>
        by_cases hk1 : kind = 1
        · have hb1 : (kind == 1) = true := by simp [hk1]
          have HSU := Lib.hid (fun W (h : MemAt W pb m) => suspect_made pb m un W h hok)
          have HRT := Lib.hid (fun W (h : RefAt W B G cap m) => rturn B G cap m un 1 2 W h hok)
          have HOKT := Lib.hid (turn_ok m un 1 2 hok (by omega))
          generalize m.turn un 1 2 = r at *
          clear hk1
          go_wp2_with fail
          refine wp_region_held_drew (S := fun w' => w'.cell? ⟨bo, 1, none⟩ = some (.int .i64 un)) (by kernel_rfl) k1 (fun _ => ?_)
          refine wpAnyH_take (i := 0) (oi := ⟨some 85, _, _, _, _, _⟩) (v := ?_) rfl (by kernel_rfl) (by kernel_rfl) (by kernel_rfl) (fun _ _ _ h => h) (Or.inl ⟨by rfl, ?_⟩) (by assumption) ?_
          rotate_left
          · intro w hSw; (try dsimp only at hSw); go_simp; (try with_reducible rfl)
          try simp only [Act.put, List.setIfInBounds_toArray, List.set_cons_zero, List.set_cons_succ]
          refine wpAnyH_take (i := 1) (oi := ⟨some 86, _, _, _, _, _⟩) (v := ?_) rfl (by kernel_rfl) (by kernel_rfl) (by kernel_rfl) (fun _ _ _ h => h) (Or.inl ⟨by rfl, ?_⟩) (by assumption) ?_
          rotate_left
          · intro w hSw; (try dsimp only at hSw); go_simp; (try with_reducible rfl)
          try simp only [Act.put, List.setIfInBounds_toArray, List.set_cons_zero, List.set_cons_succ]
          refine wpAnyH_take (i := 2) (oi := ⟨some 87, _, _, _, _, _⟩) (v := ?_) rfl (by kernel_rfl) (by kernel_rfl) (by kernel_rfl) (fun _ _ _ h => h) (Or.inl ⟨by rfl, ?_⟩) (by assumption) ?_
          rotate_left
          · intro w hSw; (try dsimp only at hSw); go_simp; (try with_reducible rfl)
          try simp only [Act.put, List.setIfInBounds_toArray, List.set_cons_zero, List.set_cons_succ]
          refine wpAnyH_take (i := 3) (oi := ⟨some 88, _, _, _, _, _⟩) (v := ?_) rfl (by kernel_rfl) (by kernel_rfl) (by kernel_rfl) (fun _ _ _ h => h) (Or.inl ⟨by rfl, ?_⟩) (by assumption) ?_
          rotate_left
          · intro w hSw; (try dsimp only at hSw); go_simp; (try with_reducible rfl)
          try simp only [Act.put, List.setIfInBounds_toArray, List.set_cons_zero, List.set_cons_succ]
          refine wpAnyH_take (i := 5) (oi := ⟨some 90, _, _, _, _, _⟩) (v := ?_) rfl (by kernel_rfl) (by kernel_rfl) (by kernel_rfl) (fun _ _ _ h => h) (Or.inl ⟨by rfl, ?_⟩) (by assumption) ?_
          rotate_left
          · intro w hSw; (try dsimp only at hSw); go_simp; (try with_reducible rfl)
          try simp only [Act.put, List.setIfInBounds_toArray, List.set_cons_zero, List.set_cons_succ]
          refine wpAnyH_take (i := 6) (oi := ⟨some 91, _, _, _, _, _⟩) (v := ?_) rfl (by kernel_rfl) (by kernel_rfl) (by kernel_rfl) (fun _ _ _ h => h) (Or.inl ⟨by rfl, ?_⟩) (by assumption) ?_
          rotate_left
          · intro w hSw; (try dsimp only at hSw); go_simp; (try with_reducible rfl)
          try simp only [Act.put, List.setIfInBounds_toArray, List.set_cons_zero, List.set_cons_succ]
          refine wpAnyH_take (i := 7) (oi := ⟨some 92, _, _, _, _, _⟩) (v := ?_) rfl (by kernel_rfl) (by kernel_rfl) (by kernel_rfl) (fun _ _ _ h => h) (Or.inl ⟨by rfl, ?_⟩) (by assumption) ?_
          rotate_left
          · intro w hSw; (try dsimp only at hSw); go_simp; (try with_reducible rfl)
          try simp only [Act.put, List.setIfInBounds_toArray, List.set_cons_zero, List.set_cons_succ]
          refine wpAnyH_take (i := 8) (oi := ⟨some 93, _, _, _, _, _⟩) (v := ?_) rfl (by kernel_rfl) (by kernel_rfl) (by kernel_rfl) (fun _ _ _ h => h) (Or.inl ⟨by rfl, ?_⟩) (by assumption) ?_
          rotate_left
          · intro w hSw; (try dsimp only at hSw); go_simp; (try with_reducible rfl)
          try simp only [Act.put, List.setIfInBounds_toArray, List.set_cons_zero, List.set_cons_succ]
          refine wpAnyH_ready (rs := [4]) (by kernel_rfl) (by simp) ?_
          refine AllReadyH.cons (o := ⟨some 89, _, _, _, _, _⟩) rfl (fun K hK => ?_) ?_
          rotate_left
          · exact AllReadyH.nil
          go_simp
          go_at_call 16
          refine (HSU.out _ (by exact hm5)).mono ?_
          rintro e w6 ⟨rfl, h6, g6⟩
          have k16 : w6.cell? ⟨bo, 1, none⟩ = some (.int .i64 un) := World.grownBy.cell g6 k1 (by simp; omega)
          have hr6 : RefAt w6 B G cap m := RefAt.chg hr5.drew g6 (by simp; omega) (by simp; omega)
          go_wp2_with fail
          refine hK.out _ _ k16 (fun _ => ?_)
          clear hK K
          try simp only [Act.put, List.setIfInBounds_toArray, List.set_cons_zero, List.set_cons_succ]
          refine wpAnyH_ready (rs := [9]) (by kernel_rfl) (by simp) ?_
          refine AllReadyH.cons (o := ⟨some 94, _, _, _, _, _⟩) rfl (fun K hK => ?_) ?_
          rotate_left
          · exact AllReadyH.nil
          go_simp
          go_at_call 17
          refine (HRT.out _ hr6).mono ?_
          rintro e w7 ⟨rfl, h7, g7⟩
          have k17 : w7.cell? ⟨bo, 1, none⟩ = some (.int .i64 un) := World.grownBy.cell g7 k16 (by simp; omega)
          have h67 := MemAt.chg h6 g7 (by simp; omega)
          go_wp2_with fail
          refine hK.out _ _ k17 (fun _ => ?_)
          clear hK K
          try simp only [Act.put, List.setIfInBounds_toArray, List.set_cons_zero, List.set_cons_succ]
          refine wpAnyH_take (i := 10) (oi := ⟨some 95, _, _, _, _, _⟩) (v := ?_) rfl (by kernel_rfl) (by kernel_rfl) (by kernel_rfl) (fun _ _ _ h => h) (Or.inl ⟨by rfl, ?_⟩) (by assumption) ?_
          rotate_left
          · intro w hSw; (try dsimp only at hSw); go_simp; (try with_reducible rfl)
          try simp only [Act.put, List.setIfInBounds_toArray, List.set_cons_zero, List.set_cons_succ]
          refine wpAnyH_done (by kernel_rfl) ?_ _
          go_wp2_with fail
          go_meet
          exact ⟨_, _, rfl, h67, h7, HOKT.out, hpB, hpG, hpw, ((HG5.out.drew).own g6 hpw).own g7 hGw⟩
        · have hb1 : (kind == 1) = false := by simp [hk1]
          by_cases hk2 : kind = 2
          · have hb2 : (kind == 2) = true := by simp [hk2]
            have HSU := Lib.hid (fun W (h : MemAt W pb m) => kill_made pb m un W h hok)
            have HRT := Lib.hid (fun W (h : RefAt W B G cap m) => rturn B G cap m un 2 3 W h hok)
            have HOKT := Lib.hid (turn_ok m un 2 3 hok (by omega))
            generalize m.turn un 2 3 = r at *
            clear hk1 hk2
            go_wp2_with fail
            refine wp_region_held_drew (S := fun w' => w'.cell? ⟨bo, 1, none⟩ = some (.int .i64 un)) (by kernel_rfl) k1 (fun _ => ?_)
            refine wpAnyH_take (i := 0) (oi := ⟨some 98, _, _, _, _, _⟩) (v := ?_) rfl (by kernel_rfl) (by kernel_rfl) (by kernel_rfl) (fun _ _ _ h => h) (Or.inl ⟨by rfl, ?_⟩) (by assumption) ?_
            rotate_left
            · intro w hSw; (try dsimp only at hSw); go_simp; (try with_reducible rfl)
            try simp only [Act.put, List.setIfInBounds_toArray, List.set_cons_zero, List.set_cons_succ]
            refine wpAnyH_take (i := 1) (oi := ⟨some 99, _, _, _, _, _⟩) (v := ?_) rfl (by kernel_rfl) (by kernel_rfl) (by kernel_rfl) (fun _ _ _ h => h) (Or.inl ⟨by rfl, ?_⟩) (by assumption) ?_
            rotate_left
            · intro w hSw; (try dsimp only at hSw); go_simp; (try with_reducible rfl)
            try simp only [Act.put, List.setIfInBounds_toArray, List.set_cons_zero, List.set_cons_succ]
            refine wpAnyH_take (i := 2) (oi := ⟨some 100, _, _, _, _, _⟩) (v := ?_) rfl (by kernel_rfl) (by kernel_rfl) (by kernel_rfl) (fun _ _ _ h => h) (Or.inl ⟨by rfl, ?_⟩) (by assumption) ?_
            rotate_left
            · intro w hSw; (try dsimp only at hSw); go_simp; (try with_reducible rfl)
            try simp only [Act.put, List.setIfInBounds_toArray, List.set_cons_zero, List.set_cons_succ]
            refine wpAnyH_take (i := 3) (oi := ⟨some 101, _, _, _, _, _⟩) (v := ?_) rfl (by kernel_rfl) (by kernel_rfl) (by kernel_rfl) (fun _ _ _ h => h) (Or.inl ⟨by rfl, ?_⟩) (by assumption) ?_
            rotate_left
            · intro w hSw; (try dsimp only at hSw); go_simp; (try with_reducible rfl)
            try simp only [Act.put, List.setIfInBounds_toArray, List.set_cons_zero, List.set_cons_succ]
            refine wpAnyH_take (i := 5) (oi := ⟨some 103, _, _, _, _, _⟩) (v := ?_) rfl (by kernel_rfl) (by kernel_rfl) (by kernel_rfl) (fun _ _ _ h => h) (Or.inl ⟨by rfl, ?_⟩) (by assumption) ?_
            rotate_left
            · intro w hSw; (try dsimp only at hSw); go_simp; (try with_reducible rfl)
            try simp only [Act.put, List.setIfInBounds_toArray, List.set_cons_zero, List.set_cons_succ]
            refine wpAnyH_take (i := 6) (oi := ⟨some 104, _, _, _, _, _⟩) (v := ?_) rfl (by kernel_rfl) (by kernel_rfl) (by kernel_rfl) (fun _ _ _ h => h) (Or.inl ⟨by rfl, ?_⟩) (by assumption) ?_
            rotate_left
            · intro w hSw; (try dsimp only at hSw); go_simp; (try with_reducible rfl)
            try simp only [Act.put, List.setIfInBounds_toArray, List.set_cons_zero, List.set_cons_succ]
            refine wpAnyH_take (i := 7) (oi := ⟨some 105, _, _, _, _, _⟩) (v := ?_) rfl (by kernel_rfl) (by kernel_rfl) (by kernel_rfl) (fun _ _ _ h => h) (Or.inl ⟨by rfl, ?_⟩) (by assumption) ?_
            rotate_left
            · intro w hSw; (try dsimp only at hSw); go_simp; (try with_reducible rfl)
            try simp only [Act.put, List.setIfInBounds_toArray, List.set_cons_zero, List.set_cons_succ]
            refine wpAnyH_take (i := 8) (oi := ⟨some 106, _, _, _, _, _⟩) (v := ?_) rfl (by kernel_rfl) (by kernel_rfl) (by kernel_rfl) (fun _ _ _ h => h) (Or.inl ⟨by rfl, ?_⟩) (by assumption) ?_
            rotate_left
            · intro w hSw; (try dsimp only at hSw); go_simp; (try with_reducible rfl)
            try simp only [Act.put, List.setIfInBounds_toArray, List.set_cons_zero, List.set_cons_succ]
            refine wpAnyH_ready (rs := [4]) (by kernel_rfl) (by simp) ?_
            refine AllReadyH.cons (o := ⟨some 102, _, _, _, _, _⟩) rfl (fun K hK => ?_) ?_
            rotate_left
            · exact AllReadyH.nil
            go_simp
            go_at_call 18
            refine (HSU.out _ (by exact hm5)).mono ?_
            rintro e w6 ⟨rfl, h6, g6⟩
            have k16 : w6.cell? ⟨bo, 1, none⟩ = some (.int .i64 un) := World.grownBy.cell g6 k1 (by simp; omega)
            have hr6 : RefAt w6 B G cap m := RefAt.chg hr5.drew g6 (by simp; omega) (by simp; omega)
            go_wp2_with fail
            refine hK.out _ _ k16 (fun _ => ?_)
            clear hK K
            try simp only [Act.put, List.setIfInBounds_toArray, List.set_cons_zero, List.set_cons_succ]
            refine wpAnyH_ready (rs := [9]) (by kernel_rfl) (by simp) ?_
            refine AllReadyH.cons (o := ⟨some 107, _, _, _, _, _⟩) rfl (fun K hK => ?_) ?_
            rotate_left
            · exact AllReadyH.nil
            go_simp
            go_at_call 17
            refine (HRT.out _ hr6).mono ?_
            rintro e w7 ⟨rfl, h7, g7⟩
            have k17 : w7.cell? ⟨bo, 1, none⟩ = some (.int .i64 un) := World.grownBy.cell g7 k16 (by simp; omega)
            have h67 := MemAt.chg h6 g7 (by simp; omega)
            go_wp2_with fail
            refine hK.out _ _ k17 (fun _ => ?_)
            clear hK K
            try simp only [Act.put, List.setIfInBounds_toArray, List.set_cons_zero, List.set_cons_succ]
            refine wpAnyH_take (i := 10) (oi := ⟨some 108, _, _, _, _, _⟩) (v := ?_) rfl (by kernel_rfl) (by kernel_rfl) (by kernel_rfl) (fun _ _ _ h => h) (Or.inl ⟨by rfl, ?_⟩) (by assumption) ?_
            rotate_left
            · intro w hSw; (try dsimp only at hSw); go_simp; (try with_reducible rfl)
            try simp only [Act.put, List.setIfInBounds_toArray, List.set_cons_zero, List.set_cons_succ]
            refine wpAnyH_done (by kernel_rfl) ?_ _
            go_wp2_with fail
            go_meet
            exact ⟨_, _, rfl, h67, h7, HOKT.out, hpB, hpG, hpw, ((HG5.out.drew).own g6 hpw).own g7 hGw⟩
          · have hb2 : (kind == 2) = false := by simp [hk2]
            by_cases hk3 : kind = 3
            · have hb3 : (kind == 3) = true := by simp [hk3]
              clear hk1 hk2 hk3
              go_wp2_with fail
              refine (copy_made pb m _ hm5 hok).mono ?_
              rintro e w6 ⟨rfl, h6, g6⟩
              have hm6 := MemAt.chg hm5 g6 (by simp)
              have hr6 := hr5.chg g6 (by simp) (by simp)
              have hg6 := HG5.out.trans g6
              have hpz := Blk.lt hm5
              obtain ⟨hrB5, hrG5⟩ := hr5.lt
              have hpc : w.heap.size ≤ w5.heap.size := HG5.out.size
              generalize w5.heap.size = pc at *
              clear hm5 hr5
              go_wp2_with fail
              go_loopw [116] (fun s116 wq => ∃ (j : Nat) (mm : M), j ≤ c ∧ s116 = .int .i64 j ∧ MemAt wq pb mm ∧ mm.ok ∧ MemAt wq pc m ∧ RefAt wq B G cap m ∧ Chg none w wq) (fun s116 _ => c - (intOf s116).toNat)
              case atStart => exact ⟨0, m, by omega, rfl, hm6, hok, h6, hr6, hg6⟩
              case round =>
                obtain ⟨j, mm, hj, rfl, hmq, hokq, hcq, hrq, hgq⟩ := hrel
                by_cases hlt2 : j < c
                · have hH := hear_lit2 pb mm ⟨j, 3, 1099511627776⟩ wr hmq hokq (by simp) _ rfl
                  have hho := heard_ok mm ⟨j, 3, 1099511627776⟩ hokq (by simp)
                  generalize heard mm ⟨j, 3, 1099511627776⟩ = mq at *
                  generalize (hear mm ⟨j, 3, 1099511627776⟩).2.2 = ee at *
                  have HH := Lib.hid hH
                  clear hH
                  go_wp2_with fail
                  refine HH.out.mono ?_
                  rintro e w7 ⟨cc, rfl, h7, g7⟩
                  have hc7 := MemAt.chg hcq g7 (by simp; omega)
                  have hr7 := RefAt.chg hrq g7 (by simp; omega) (by simp; omega)
                  have hg7 := hgq.own g7 hpw
                  go_wp2_with fail
                  go_roundw
                  case rel => exact ⟨j + 1, mq, by omega, by go_num, h7, hho, hc7, hr7, hg7⟩
                  case measure => first | (simp [intOf]; done) | (simp [intOf]; omega)
                · obtain rfl : j = c := by omega
                  go_wp2_with fail
                  go_meet
                  exact ⟨pc, m, rfl, hcq, hrq, hok, by omega, by omega, hpc, hgq⟩
            · have hb3 : (kind == 3) = false := by simp [hk3]
              have HHE := Lib.hid (fun W (h : MemAt W pb m) => hear_agg pb m ⟨un, us, ui⟩ W h hok hinc)
              have HRH := Lib.hid (fun W (h : RefAt W B G cap m) => rhear_agg B G cap m ⟨un, us, ui⟩ W h hok hinc)
              have hoo := hear_ok m ⟨un, us, ui⟩ hok hinc
              generalize hear m ⟨un, us, ui⟩ = r at *
              obtain ⟨m', rb, re⟩ := r
              clear hk1 hk2 hk3
              go_wp2_with fail
              refine (HHE.out _ hm5).mono ?_
              rintro e w6 ⟨rfl, h6, g6⟩
              have hr6 : RefAt w6 B G cap m := RefAt.chg hr5 g6 (by simp; omega) (by simp; omega)
              obtain ⟨k60, k61, k62, k63⟩ := Blk.four (HB5.out.chg g6 (by simp; omega))
              go_wp2_with fail
              refine (HRH.out _ hr6).mono ?_
              rintro e w7 ⟨rfl, h7, g7⟩
              have h67 := MemAt.chg h6 g7 (by simp; omega)
              have hg7 := (HG5.out.own g6 hpw).own g7 hGw
              go_wp2_with fail
              go_meet
              exact ⟨pb, m', rfl, h67, h7, hoo, hpB, hpG, hpw, hg7⟩
      case rest =>
        obtain ⟨pb2, m2, rfl, h2, hr2, hok2, hpB2, hpG2, hpw2, hg2⟩ := hcut
        have HSA := Lib.hid (same_any pb2 B G cap m2 _ h2 hr2 hok2)
        go_wp2_with fail
        refine HSA.out.mono ?_
        rintro e w8 ⟨rfl, g8⟩
        have hend : Both B G cap w (.pointer (some ⟨pb2, 0, none⟩)) w8 := ⟨pb2, m2, rfl, h2.chg g8 (by simp), hr2.chg g8 (by simp) (by simp), hok2, hpB2, hpG2, hpw2, hg2.trans g8⟩
        go_wp2_with fail
        go_roundw
        case rel => exact ⟨k + 1, by omega, by go_num, hend⟩
        case measure => first | (simp [intOf]; done) | (simp [intOf]; omega)
    · obtain rfl : k = L.length := by omega
      go_wp2_with fail
      refine (same_any pb B G cap m _ hm hr hok).mono ?_
      rintro e w8 ⟨rfl, g8⟩
      go_wp2_with fail
      refine (known_any _).mono ?_
      rintro e w9 ⟨rfl, g9⟩
      go_wp2_with fail
      go_ret
      exact ⟨rfl, (hg.trans g8).trans g9⟩

end Go.Proofs.Ytiehbbbncmdchaa
