/-
  ShaParts: the walk.
-/
import Derived.Test.YtdkgecphkppglaaDoorP0
namespace Go.Proofs.YtdkgecphkppglaaDoor
open Go.RowKit

theorem join_one (tag : UInt8) (r : List UInt8) (A : Option Addr) (c : Nat) : tag :: joined [cutPrt A (tag :: r) c 1 (tag :: r).length] = tag :: r := by
  show tag :: ((((tag :: r).drop 1).take ((tag :: r).length - 1)) ++ []) = tag :: r
  rw [List.drop_one, List.tail_cons, List.append_nil, List.length_cons, Nat.add_sub_cancel, List.take_length]
theorem join_two (tag : UInt8) (r : List UInt8) (A : Option Addr) (c n : Nat) (hn : 1 ≤ n) : tag :: joined [cutPrt A (tag :: r) c 1 n, cutPrt A (tag :: r) c n (tag :: r).length] = tag :: r := by
  show tag :: ((((tag :: r).drop 1).take (n - 1)) ++ ((((tag :: r).drop n).take ((tag :: r).length - n)) ++ [])) = tag :: r
  obtain ⟨k, rfl⟩ : ∃ k, n = k + 1 := ⟨n - 1, by omega⟩
  rw [List.drop_one, List.tail_cons, List.append_nil, Nat.add_sub_cancel, List.drop_succ_cons, List.length_cons, Nat.add_sub_add_right]
  congr 1
  have : (r.drop k).take (r.length - k) = r.drop k := List.take_of_length_le (by rw [List.length_drop]; omega)
  rw [this, List.take_append_drop]
theorem cut_at (cut : Int) (J : Nat) (hJ : J ≤ 1000000) : ∃ n : Nat, 1 ≤ n ∧ n ≤ 1 + J ∧ wrap64 (1 + wrap64 ((IntKind.u64.wrap cut).tmod (1 + (J : Int)))) = (n : Int) := by
  have hx : 0 ≤ IntKind.u64.wrap cut := by rw [IntKind.wrap_u64]; omega
  rw [Int.tmod_eq_emod_of_nonneg hx]
  generalize IntKind.u64.wrap cut = x at *
  have h1 : 0 ≤ x % (1 + (J : Int)) := Int.emod_nonneg _ (by omega)
  have h2 : x % (1 + (J : Int)) < 1 + (J : Int) := Int.emod_lt_of_pos _ (by omega)
  generalize x % (1 + (J : Int)) = r at *
  have h3 : wrap64 r = r := by unfold wrap64; omega
  have h4 : wrap64 (1 + r) = 1 + r := by unfold wrap64; omega
  rw [h3, h4]
  exact ⟨(1 + r).toNat, by omega, by omega, by omega⟩

set_option maxRecDepth 100000 in
set_option maxHeartbeats 8000000 in
theorem parts_law (tag : UInt8) (A : Option Addr) (L : List Prt) (c : Nat) (cut : Int) (w : World) (hA : PartsAt w A L) (hLc : L.length ≤ 9223372036854775807)
    (hcap : ∀ p ∈ L, p.c ≤ 9223372036854775807) (hT : Tabs w) :
    Calls Tryd.prog 4 #[.int .u8 tag.toNat, .slice A L.length c, .int .i64 cut] w fun e w' => e = .returned (.bool true) ∧ Chg none w w' := by
  obtain ⟨i0, hi, hz0, hz1, hz2⟩ := info_parts Tryd.info5
  by_cases h60 : 60 < L.length
  · have HK := Lib.hid (known_any w hT)
    go_enter Tryd.func4, Tryd.ntmps4
    go_wp2_with fail
    refine HK.out.mono ?_
    rintro e w1 ⟨rfl, g1⟩
    go_wp2_with fail
    go_ret
    exact ⟨rfl, g1⟩
  · have d60 : decide ((60 : Int) < (L.length : Int)) = false := by simp; omega
    go_enter Tryd.func4, Tryd.ntmps4
    go_wp2_with fail
    obtain ⟨W1, hW1⟩ : ∃ W1, W1 = w.alloc (.cells #[.int .u8 tag.toNat] 5) := ⟨_, rfl⟩
    rw [← hW1]
    have hown1 : W1.ownsRow w.heap.size 5 1 (.slice (some ⟨w.heap.size, 0, none⟩) 1 1) (1 + (joined (L.take 0)).length) (byteVals (tag :: joined (L.take 0))) := by
      refine ⟨rfl, .inr ⟨w.heap.size, 1, _, rfl, Nat.le_refl _, by rw [hW1]; exact heap_alloc_new _ _, Nat.le_refl _, by unfold maxLen; decide, rfl, rfl⟩⟩
    have g1 : Chg none w W1 := by rw [hW1]; exact (Chg.refl _ _).alloc _
    have HOWN := Lib.hid hown1
    clear hW1 hown1
    go_loopw [7, 20] (fun s7 s20 wr => ∃ k J : Nat, k ≤ L.length ∧ s20 = .int .i64 k ∧ wr.ownsRow w.heap.size 5 1 s7 (1 + J) (byteVals (tag :: joined (L.take k))) ∧ Hid (J = (joined (L.take k)).length) ∧ J ≤ 300 * k ∧ Chg none w wr) (fun _ s20 _ => L.length - (intOf s20).toNat)
    case atStart => exact ⟨0, 0, by omega, rfl, HOWN.out, rfl, by omega, g1⟩
    case round =>
      obtain ⟨k, J, hk, rfl, hown, HJ, hjl, hgk⟩ := hrel
      obtain ⟨A7, c7, rfl⟩ := own_slice hown
      clear g1 HOWN
      by_cases hlt : k < L.length
      · have hAk := hA.chg hgk
        obtain ⟨pb, off, rfl, hpb, hcell⟩ := hAk.at_ (by omega)
        have hck := hcell k L[k] (List.getElem?_eq_getElem hlt)
        unfold Prt.val at hck
        have hjt := joined_take L k hlt
        have hrd := txt_reads ((hA.all L[k] (List.getElem_mem hlt)).1.chg hgk)
        have hpl := (hA.all L[k] (List.getElem_mem hlt)).2
        have hpc := hcap L[k] (List.getElem_mem hlt)
        generalize L[k] = p at *
        by_cases h300 : 300 < p.x.length
        · have HK := Lib.hid (known_any wr (hT.chg hgk (by simp)))
          have hplm : p.x.length ≤ 9223372036854775807 := by omega
          clear hown hjl hjt hrd hAk hcell
          go_wp2_with fail
          refine HK.out.mono ?_
          rintro e w1 ⟨rfl, g1⟩
          go_wp2_with fail
          go_ret
          exact ⟨rfl, hgk.trans g1⟩
        · have d300 : decide ((300 : Int) < (p.x.length : Int)) = false := by simp; omega
          have hsum : J + p.x.length = (joined (L.take (k + 1))).length := by rw [hjt, List.length_append, HJ.out]
          have HJT := Lib.hid hjt
          have HSUM := Lib.hid hsum
          have HOWN := Lib.hid hown
          have HRD := Lib.hid hrd
          have HO1 := Lib.hid (byteVals_one p.x)
          clear hown hjt hrd hAk hcell hsum
          go_wp2_with (at_builtin; refine wpList_append_any _ rfl (.tmp 30) (.tmp 34) 22 rfl w.heap.size 5 i0 (.int .u8 0) 1 1 Tryd.underlying22 hi hz0 hz1 hz2 rfl (by decide) _ (1 + J) (byteVals (tag :: joined (L.take k))) rfl HOWN.out _ _ p.x.length p.c (byteVals p.x) rfl HRD.out HO1.out ?d1 ?d2 ?d3 ?_)
          case d1 => unfold maxLen; omega
          case d2 => omega
          case d3 => exact hgk.size
          intro v3 w3 hown3 hgr3 _
          rw [byteVals_append, List.cons_append, ← HJT.out, Nat.add_assoc] at hown3
          have g3 := own_chg hgk HOWN.out (Nat.le_refl _) hgr3
          have HOWN3 := Lib.hid hown3
          clear hown3 hgr3 HRD HO1
          go_wp2_with fail
          go_roundw
          case rel => exact ⟨k + 1, J + p.x.length, by omega, by go_num, HOWN3.out, HSUM.out, by omega, g3⟩
          case measure => first | (simp [intOf]; done) | (simp [intOf]; omega)
      · have hkl : k = L.length := by omega
        have hnl : decide ((k : Int) < (L.length : Int)) = false := by simp; omega
        rw [hkl, List.take_length] at hown
        have hJ := HJ.out
        rw [hkl, List.take_length] at hJ
        obtain ⟨hmt, hml, hmc⟩ := own_txt hown
        clear HJ
        obtain ⟨n, hn1, hn2, hnv⟩ : ∃ n : Nat, 1 ≤ n ∧ n ≤ 1 + J ∧ wrap64 (1 + wrap64 ((IntKind.u64.wrap cut).tmod (1 + (J : Int)))) = (n : Int) := cut_at cut J (by omega)
        have hJ18 : J ≤ 18000 := by omega
        obtain ⟨m, hm⟩ : ∃ m, m = tag :: joined L := ⟨_, rfl⟩
        rw [← hm] at hown hmt hml
        obtain ⟨DG, hDG⟩ : ∃ DG, DG = (byteVals (dig m)).toArray := ⟨_, rfl⟩
        have hcs : DG.size = 32 := by rw [hDG, List.size_toArray, byteVals_len, dig_len]
        have HO : Hid (DG.all (·.oneCell') = true) := by rw [hDG]; exact Array.all_eq_true_iff_forall_mem.2 (fun v hv => byteVals_one _ v (by simpa using hv))
        have HI : Hid ((Tryd.prog.info? 30).map (·.size) = some DG.size) := by rw [hcs]; show _ = _; kernel_rfl
        have HZ : Hid (zero32.size = DG.size) := by rw [hcs]; rfl
        have HP1 : Hid (∀ v : World, Chg none wr.drew v → Calls Tryd.prog 19 #[.int .u8 tag.toNat, .slice A L.length c] v fun e w' => e = .returned (.agg DG) ∧ Chg none v w') := fun v g =>
          (parts_any tag A L c v ((hA.chg hgk.drew).chg g) (by omega) (by omega) ((hT.chg hgk.drew (by simp)).chg g (by simp))).mono fun e w' ⟨he, h⟩ => ⟨by rw [he, hDG, hm], h⟩
        have hp1 := (cutPrt_ok (w := wr) (A := A7) (c := c7) hmt (by omega) 1 n (by omega)).chg ((Chg.refl none wr).drew)
        have hp2 := (cutPrt_ok (w := wr) (A := A7) (c := c7) hmt (by omega) n m.length (by omega)).chg ((Chg.refl none wr).drew)
        have hq1 : ∀ v : World, (Instr.sliceAt 22 (.slice A7 (1 + J) c7) (some (.int .i64 1)) (some (.int .i64 n)) none).run Tryd.prog v = .ok (cutPrt A7 m c7 1 n).val v := fun v => by
          have := cut_lo_hi A7 (1 + J) c7 1 n hn1 (by omega) v
          rw [Prt.val, cutPrt_len _ _ _ _ _ hn1 (by omega)]
          exact this
        have hq2 : ∀ v : World, (Instr.sliceAt 22 (.slice A7 (1 + J) c7) (some (.int .i64 n)) none none).run Tryd.prog v = .ok (cutPrt A7 m c7 n m.length).val v := fun v => by
          have := cut_lo A7 (1 + J) c7 n hn2 (by omega) v
          rw [Prt.val, cutPrt_len _ _ _ _ _ (by omega) (by omega), ← hml]
          exact this
        have hj2 : tag :: joined [cutPrt A7 m c7 1 n, cutPrt A7 m c7 n m.length] = m := by
          rw [hm]; exact join_two tag (joined L) A7 c7 n hn1
        have hp3 := (cutPrt_ok (w := wr) (A := A7) (c := c7) hmt (by omega) 1 m.length (by omega)).chg ((Chg.refl none wr).drew)
        have hq3 : ∀ v : World, (Instr.sliceAt 22 (.slice A7 (1 + J) c7) (some (.int .i64 1)) none none).run Tryd.prog v = .ok (cutPrt A7 m c7 1 m.length).val v := fun v => by
          have := cut_lo A7 (1 + J) c7 1 (by omega) (by omega) v
          rw [Prt.val, cutPrt_len _ _ _ _ _ (by omega) (by omega), ← hml]
          exact this
        have hj3 : tag :: joined [cutPrt A7 m c7 1 m.length] = m := by
          rw [hm]; exact join_one tag (joined L) A7 c7
        have HS17 : Hid (∀ v : World, Chg none wr.drew v → Calls Tryd.prog 17 #[.slice A7 (1 + J) c7] v fun e w' => e = .returned (.agg DG) ∧ Chg none v w') := fun v g => by
          have := sum_any A7 m c7 v ((hmt.chg ((Chg.refl none wr).drew)).chg g) (by omega) (by omega) ((hT.chg hgk.drew (by simp)).chg g (by simp))
          rw [← hml] at this
          exact this.mono fun e w' ⟨he, h⟩ => ⟨by rw [he, hDG], h⟩
        have HK15 : Hid (∀ v : World, Chg none wr.drew v → Calls Tryd.prog 15 #[] v fun e w' => e = .returned (.bool true) ∧ Chg none v w') := fun v g => known_any v ((hT.chg hgk.drew (by simp)).chg g (by simp))
        have hqe : ∀ v : World, (binOp .eql 30 (.agg DG) (.agg DG)).run Tryd.prog v = .ok (.bool true) v := fun v => by
          rw [hDG, eql30 _ _ (dig_len m) (dig_len m) v]; simp
        have HQE := Lib.hid hqe
        have HQ3 := Lib.hid hq3
        clear hqe hq3
        generalize cutPrt A7 m c7 1 m.length = p3 at *
        generalize cutPrt A7 m c7 1 n = p1 at *
        generalize cutPrt A7 m c7 n m.length = p2 at *
        have HP2 : Hid (∀ (v : World) (Q : Nat), Chg none wr.drew v → Blk v Q #[p1.val, p2.val] 22 → Calls Tryd.prog 19 #[.int .u8 tag.toNat, .slice (some ⟨Q, 0, none⟩) 2 2] v fun e w' => e = .returned (.agg DG) ∧ Chg none v w') := fun v Q g hQ =>
          (parts_any tag (some ⟨Q, 0, none⟩) [p1, p2] 2 v (parts_two hQ (hp1.chg g) (hp2.chg g)) (by have := congrArg List.length hj2; rw [List.length_cons] at this; omega) (by simp) ((hT.chg hgk.drew (by simp)).chg g (by simp))).mono
            fun e w' ⟨he, h⟩ => ⟨by rw [he, hDG, hj2], h⟩
        have HP3 : Hid (∀ (v : World) (Q : Nat), Chg none wr.drew v → Blk v Q #[p3.val] 22 → Calls Tryd.prog 19 #[.int .u8 tag.toNat, .slice (some ⟨Q, 0, none⟩) 1 1] v fun e w' => e = .returned (.agg DG) ∧ Chg none v w') := fun v Q g hQ =>
          (parts_any tag (some ⟨Q, 0, none⟩) [p3] 1 v (parts_one hQ (hp3.chg g)) (by have := congrArg List.length hj3; rw [List.length_cons] at this; omega) (by simp) ((hT.chg hgk.drew (by simp)).chg g (by simp))).mono
            fun e w' ⟨he, h⟩ => ⟨by rw [he, hDG, hj3], h⟩
        obtain ⟨A3, x3, c3⟩ := p3
        simp only [Prt.val] at HQ3 HP3
        have HJ3 := Lib.hid hj3
        clear hp3 hj3
        generalize x3.length = n3 at *
        obtain ⟨A1, x1, c1⟩ := p1
        obtain ⟨A2, x2, c2⟩ := p2
        simp only [Prt.val] at hq1 hq2 HP2
        have HTT := Lib.hid (hT.chg hgk.drew (by simp))
        have HOWN := Lib.hid hown
        have HDG := Lib.hid hDG
        have HM := Lib.hid hm
        have HJ2 := Lib.hid hj2
        have HJ := Lib.hid hJ
        have HML := Lib.hid hml
        clear hp1 hp2 hown hDG hm hj2 hcs hkl hJ hml hmt
        generalize x1.length = n1 at *
        generalize x2.length = n2 at *
        go_upto_region 12 with (fail)
        rw [hnv]
        have HNV := Lib.hid hnv
        clear hnv
        have gw : Chg none w wr.drew := hgk.drew
        go_cut [10, 11] (fun s10 s11 wx => ∃ P10 P11, s10 = .pointer (some ⟨P10, 0, none⟩) ∧ s11 = .pointer (some ⟨P11, 0, none⟩) ∧ Blk wx P10 DG 30 ∧ Blk wx P11 DG 30 ∧ Chg none wr.drew wx)
        case first =>
          have E0 : Chg none wr.drew wr.drew := Chg.refl _ _
          have hTr : True := trivial
          refine wp_region_held_drew (S := fun _ => True) (by kernel_rfl) trivial (fun _ => ?_)
          generalize wr.drew = v0 at *
          refine wpAnyH_take (i := 0) (oi := ⟨some 45, _, _, _, _, _⟩) (v := ?_) rfl (by kernel_rfl) (by kernel_rfl) (by kernel_rfl) (fun _ _ _ h => h) (Or.inl ⟨by rfl, ?_⟩) (by assumption) ?_
          rotate_left
          · intro w hSw; (try dsimp only at hSw); go_simp; (try with_reducible rfl)
          try simp only [Act.put, List.setIfInBounds_toArray, List.set_cons_zero, List.set_cons_succ]
          refine wpAnyH_take (i := 1) (oi := ⟨some 46, _, _, _, _, _⟩) (v := ?_) rfl (by kernel_rfl) (by kernel_rfl) (by kernel_rfl) (fun _ _ _ h => h) (Or.inl ⟨by rfl, ?_⟩) (by assumption) ?_
          rotate_left
          · intro w hSw; (try dsimp only at hSw); go_simp; (try with_reducible rfl)
          try simp only [Act.put, List.setIfInBounds_toArray, List.set_cons_zero, List.set_cons_succ]
          refine wpAnyH_take (i := 3) (oi := ⟨some 48, _, _, _, _, _⟩) (v := ?_) rfl (by kernel_rfl) (by kernel_rfl) (by kernel_rfl) (fun _ _ _ h => h) (Or.inl ⟨by rfl, ?_⟩) (by assumption) ?_
          rotate_left
          · intro w hSw; (try dsimp only at hSw); go_simp; (try with_reducible rfl)
          try simp only [Act.put, List.setIfInBounds_toArray, List.set_cons_zero, List.set_cons_succ]
          refine wpAnyH_take (i := 4) (oi := ⟨some 49, _, _, _, _, _⟩) (v := ?_) rfl (by kernel_rfl) (by kernel_rfl) (by kernel_rfl) (fun _ _ _ h => h) (Or.inl ⟨by rfl, ?_⟩) (by assumption) ?_
          rotate_left
          · intro w hSw; (try dsimp only at hSw); go_simp; (try with_reducible rfl)
          try simp only [Act.put, List.setIfInBounds_toArray, List.set_cons_zero, List.set_cons_succ]
          refine wpAnyH_take (i := 5) (oi := ⟨some 50, _, _, _, _, _⟩) (v := ?_) rfl (by kernel_rfl) (by kernel_rfl) (by kernel_rfl) (fun _ _ _ h => h) (Or.inl ⟨by rfl, ?_⟩) (by assumption) ?_
          rotate_left
          · intro w hSw; (try dsimp only at hSw); go_simp; (try with_reducible rfl)
          try simp only [Act.put, List.setIfInBounds_toArray, List.set_cons_zero, List.set_cons_succ]
          refine wpAnyH_take (i := 6) (oi := ⟨some 51, _, _, _, _, _⟩) (v := ?_) rfl (by kernel_rfl) (by kernel_rfl) (by kernel_rfl) (fun _ _ _ h => h) (Or.inl ⟨by rfl, ?_⟩) (by assumption) ?_
          rotate_left
          · intro w hSw; (try dsimp only at hSw); go_simp; (try with_reducible rfl)
          try simp only [Act.put, List.setIfInBounds_toArray, List.set_cons_zero, List.set_cons_succ]
          refine wpAnyH_take (i := 7) (oi := ⟨some 52, _, _, _, _, _⟩) (v := ?_) rfl (by kernel_rfl) (by kernel_rfl) (by kernel_rfl) (fun _ _ _ h => h) (Or.inl ⟨by rfl, ?_⟩) (by assumption) ?_
          rotate_left
          · intro w hSw; (try dsimp only at hSw); go_simp; (try with_reducible rfl)
          try simp only [Act.put, List.setIfInBounds_toArray, List.set_cons_zero, List.set_cons_succ]
          refine wpAnyH_take (i := 8) (oi := ⟨some 53, _, _, _, _, _⟩) (v := ?_) rfl (by kernel_rfl) (by kernel_rfl) (by kernel_rfl) (fun _ _ _ h => h) (Or.inl ⟨by rfl, ?_⟩) (by assumption) ?_
          rotate_left
          · intro w hSw; (try dsimp only at hSw); go_simp; (try with_reducible rfl)
          try simp only [Act.put, List.setIfInBounds_toArray, List.set_cons_zero, List.set_cons_succ]
          refine wpAnyH_take (i := 9) (oi := ⟨some 54, _, _, _, _, _⟩) (v := ?_) rfl (by kernel_rfl) (by kernel_rfl) (by kernel_rfl) (fun _ _ _ h => h) (Or.inl ⟨by rfl, ?_⟩) (by assumption) ?_
          rotate_left
          · intro w hSw; (try dsimp only at hSw); go_simp; (try with_reducible rfl)
          try simp only [Act.put, List.setIfInBounds_toArray, List.set_cons_zero, List.set_cons_succ]
          refine wpAnyH_ready (rs := [2, 10, 12, 13]) (by kernel_rfl) (by simp) ?_
          refine AllReadyH.cons (o := ⟨some 47, _, _, _, _, _⟩) rfl (fun K hK => ?_) (AllReadyH.cons (o := ⟨some 55, _, _, _, _, _⟩) rfl (fun K hK => ?_) (AllReadyH.cons (o := ⟨some 10, _, _, _, _, _⟩) rfl (fun K hK => ?_) (AllReadyH.cons (o := ⟨some 11, _, _, _, _, _⟩) rfl (fun K hK => ?_) (AllReadyH.nil))))
          · as_aux_lemma =>
              go_simp
              go_at_call 19
              refine (HP1.out _ E0).mono ?_
              rintro e v1 ⟨rfl, g1⟩
              have E2 := E0.trans g1
              go_wp2_with fail
              refine hK.out _ _ trivial (fun _ => ?_)
              clear hK K
              try simp only [Act.put, List.setIfInBounds_toArray, List.set_cons_zero, List.set_cons_succ]
              refine wpAnyH_ready (rs := [10, 12, 13]) (by kernel_rfl) (by simp) ?_
              refine AllReadyH.cons (o := ⟨some 55, _, _, _, _, _⟩) rfl (fun K hK => ?_) (AllReadyH.cons (o := ⟨some 10, _, _, _, _, _⟩) rfl (fun K hK => ?_) (AllReadyH.cons (o := ⟨some 11, _, _, _, _, _⟩) rfl (fun K hK => ?_) (AllReadyH.nil)))
              · as_aux_lemma =>
                  go_simp
                  refine hK.out _ _ trivial (fun _ => ?_)
                  clear hK K
                  try simp only [Act.put, List.setIfInBounds_toArray, List.set_cons_zero, List.set_cons_succ]
                  generalize hx3 : World.alloc v1 (Obj.cells #[Value.slice A1 n1 c1, Value.slice A2 n2 c2] 22) = v3
                  have g3 : Chg none v1 v3 := by rw [← hx3]; exact (Chg.refl _ _).alloc _
                  have N3 : Blk v3 v1.heap.size #[Value.slice A1 n1 c1, Value.slice A2 n2 c2] 22 := by rw [← hx3]; exact Blk.new _ _ _
                  have E4 := E2.trans g3
                  clear hx3
                  generalize hp3 : v1.heap.size = Q3 at *
                  have z3 : v0.heap.size ≤ Q3 := by rw [← hp3]; exact E2.size
                  clear hp3
                  refine wpAnyH_ready (rs := [11, 12, 13]) (by kernel_rfl) (by simp) ?_
                  refine AllReadyH.cons (o := ⟨some 56, _, _, _, _, _⟩) rfl (fun K hK => ?_) (AllReadyH.cons (o := ⟨some 10, _, _, _, _, _⟩) rfl (fun K hK => ?_) (AllReadyH.cons (o := ⟨some 11, _, _, _, _, _⟩) rfl (fun K hK => ?_) (AllReadyH.nil)))
                  · as_aux_lemma =>
                      go_simp
                      go_at_call 19
                      refine (HP2.out _ Q3 E4 N3).mono ?_
                      rintro e v5 ⟨rfl, g5⟩
                      have E6 := E4.trans g5
                      have BQ_6 := Blk.chg N3 g5 (by simp)
                      go_wp2_with fail
                      refine hK.out _ _ trivial (fun _ => ?_)
                      clear hK K
                      try simp only [Act.put, List.setIfInBounds_toArray, List.set_cons_zero, List.set_cons_succ]
                      refine wpAnyH_ready (rs := [12, 13]) (by kernel_rfl) (by simp) ?_
                      refine AllReadyH.cons (o := ⟨some 10, _, _, _, _, _⟩) rfl (fun K hK => ?_) (AllReadyH.cons (o := ⟨some 11, _, _, _, _, _⟩) rfl (fun K hK => ?_) (AllReadyH.nil))
                      · as_aux_lemma =>
                          go_simp
                          refine hK.out _ _ trivial (fun _ => ?_)
                          clear hK K
                          try simp only [Act.put, List.setIfInBounds_toArray, List.set_cons_zero, List.set_cons_succ]
                          generalize hx7 : World.alloc v5 (Obj.cells #[Value.int IntKind.u8 0, Value.int IntKind.u8 0, Value.int IntKind.u8 0, Value.int IntKind.u8 0, Value.int IntKind.u8 0, Value.int IntKind.u8 0, Value.int IntKind.u8 0, Value.int IntKind.u8 0, Value.int IntKind.u8 0, Value.int IntKind.u8 0, Value.int IntKind.u8 0, Value.int IntKind.u8 0, Value.int IntKind.u8 0, Value.int IntKind.u8 0, Value.int IntKind.u8 0, Value.int IntKind.u8 0, Value.int IntKind.u8 0, Value.int IntKind.u8 0, Value.int IntKind.u8 0, Value.int IntKind.u8 0, Value.int IntKind.u8 0, Value.int IntKind.u8 0, Value.int IntKind.u8 0, Value.int IntKind.u8 0, Value.int IntKind.u8 0, Value.int IntKind.u8 0, Value.int IntKind.u8 0, Value.int IntKind.u8 0, Value.int IntKind.u8 0, Value.int IntKind.u8 0, Value.int IntKind.u8 0, Value.int IntKind.u8 0] 30) = v7
                          have g7 : Chg none v5 v7 := by rw [← hx7]; exact (Chg.refl _ _).alloc _
                          have N7 : Blk v7 v5.heap.size zero32 30 := by rw [← hx7]; exact Blk.new _ _ _
                          have E8 := E6.trans g7
                          have BQ_8 := Blk.chg BQ_6 g7 (by simp)
                          clear hx7
                          generalize hp7 : v5.heap.size = P7 at *
                          have z7 : v0.heap.size ≤ P7 := by rw [← hp7]; exact E6.size
                          clear hp7
                          refine wpAnyH_ready (rs := [13]) (by kernel_rfl) (by simp) ?_
                          refine AllReadyH.cons (o := ⟨some 11, _, _, _, _, _⟩) rfl (fun K hK => ?_) (AllReadyH.nil)
                          go_simp
                          refine hK.out _ _ trivial (fun _ => ?_)
                          clear hK K
                          try simp only [Act.put, List.setIfInBounds_toArray, List.set_cons_zero, List.set_cons_succ]
                          generalize hx9 : World.alloc v7 (Obj.cells #[Value.int IntKind.u8 0, Value.int IntKind.u8 0, Value.int IntKind.u8 0, Value.int IntKind.u8 0, Value.int IntKind.u8 0, Value.int IntKind.u8 0, Value.int IntKind.u8 0, Value.int IntKind.u8 0, Value.int IntKind.u8 0, Value.int IntKind.u8 0, Value.int IntKind.u8 0, Value.int IntKind.u8 0, Value.int IntKind.u8 0, Value.int IntKind.u8 0, Value.int IntKind.u8 0, Value.int IntKind.u8 0, Value.int IntKind.u8 0, Value.int IntKind.u8 0, Value.int IntKind.u8 0, Value.int IntKind.u8 0, Value.int IntKind.u8 0, Value.int IntKind.u8 0, Value.int IntKind.u8 0, Value.int IntKind.u8 0, Value.int IntKind.u8 0, Value.int IntKind.u8 0, Value.int IntKind.u8 0, Value.int IntKind.u8 0, Value.int IntKind.u8 0, Value.int IntKind.u8 0, Value.int IntKind.u8 0, Value.int IntKind.u8 0] 30) = v9
                          have g9 : Chg none v7 v9 := by rw [← hx9]; exact (Chg.refl _ _).alloc _
                          have N9 : Blk v9 v7.heap.size zero32 30 := by rw [← hx9]; exact Blk.new _ _ _
                          have ne9 : v7.heap.size ≠ P7 := by have := Blk.lt N7; omega
                          have E10 := E8.trans g9
                          have B10_10 := Blk.chg N7 g9 (by simp)
                          have BQ_10 := Blk.chg BQ_8 g9 (by simp)
                          clear hx9
                          generalize hp9 : v7.heap.size = R9 at *
                          have z9 : v0.heap.size ≤ R9 := by rw [← hp9]; exact E8.size
                          clear hp9
                          refine wpAnyH_ready (rs := [14]) (by kernel_rfl) (by simp) ?_
                          refine AllReadyH.cons (o := ⟨none, _, _, _, _, _⟩) rfl (fun K hK => ?_) (AllReadyH.nil)
                          rw [if_pos (by rfl)]
                          refine wp_store_row 30 (.tmp 10) (.tmp 47) (by rfl) P7 DG (by rfl) (by rfl) 30 zero32 B10_10 HI.out HZ.out HO.out ?_
                          refine hK.out _ _ trivial (fun _ => ?_)
                          clear hK K
                          have E11 := Chg.own (b := P7) E10 (chg_setRow _ _ DG) z7
                          have S11 : Blk _ P7 DG 30 := setRow_heap _ _ _ _ _ _ B10_10
                          have O11 := Blk.chg N9 (chg_setRow _ P7 DG) (by simpa using ne9)
                          refine wpAnyH_ready (rs := [15]) (by kernel_rfl) (by simp) ?_
                          refine AllReadyH.cons (o := ⟨none, _, _, _, _, _⟩) rfl (fun K hK => ?_) (AllReadyH.nil)
                          rw [if_pos (by rfl)]
                          refine wp_store_row 30 (.tmp 11) (.tmp 56) (by rfl) R9 DG (by rfl) (by rfl) 30 zero32 O11 HI.out HZ.out HO.out ?_
                          refine hK.out _ _ trivial (fun _ => ?_)
                          clear hK K
                          have E12 := Chg.own (b := R9) E11 (chg_setRow _ _ DG) z9
                          have S12 : Blk _ R9 DG 30 := setRow_heap _ _ _ _ _ _ O11
                          have O12 := Blk.chg S11 (chg_setRow _ R9 DG) (by simpa using (Ne.symm ne9))
                          refine wpAnyH_done (by kernel_rfl) ?_ _
                          try simp only [Act.put]
                          go_wp2_with fail
                          go_meet
                          exact ⟨P7, R9, rfl, rfl, O12, S12, E12⟩
                      · as_aux_lemma =>
                          go_simp
                          refine hK.out _ _ trivial (fun _ => ?_)
                          clear hK K
                          try simp only [Act.put, List.setIfInBounds_toArray, List.set_cons_zero, List.set_cons_succ]
                          generalize hx13 : World.alloc v5 (Obj.cells #[Value.int IntKind.u8 0, Value.int IntKind.u8 0, Value.int IntKind.u8 0, Value.int IntKind.u8 0, Value.int IntKind.u8 0, Value.int IntKind.u8 0, Value.int IntKind.u8 0, Value.int IntKind.u8 0, Value.int IntKind.u8 0, Value.int IntKind.u8 0, Value.int IntKind.u8 0, Value.int IntKind.u8 0, Value.int IntKind.u8 0, Value.int IntKind.u8 0, Value.int IntKind.u8 0, Value.int IntKind.u8 0, Value.int IntKind.u8 0, Value.int IntKind.u8 0, Value.int IntKind.u8 0, Value.int IntKind.u8 0, Value.int IntKind.u8 0, Value.int IntKind.u8 0, Value.int IntKind.u8 0, Value.int IntKind.u8 0, Value.int IntKind.u8 0, Value.int IntKind.u8 0, Value.int IntKind.u8 0, Value.int IntKind.u8 0, Value.int IntKind.u8 0, Value.int IntKind.u8 0, Value.int IntKind.u8 0, Value.int IntKind.u8 0] 30) = v13
                          have g13 : Chg none v5 v13 := by rw [← hx13]; exact (Chg.refl _ _).alloc _
                          have N13 : Blk v13 v5.heap.size zero32 30 := by rw [← hx13]; exact Blk.new _ _ _
                          have E14 := E6.trans g13
                          have BQ_14 := Blk.chg BQ_6 g13 (by simp)
                          clear hx13
                          generalize hp13 : v5.heap.size = R13 at *
                          have z13 : v0.heap.size ≤ R13 := by rw [← hp13]; exact E6.size
                          clear hp13
                          refine wpAnyH_ready (rs := [12]) (by kernel_rfl) (by simp) ?_
                          refine AllReadyH.cons (o := ⟨some 10, _, _, _, _, _⟩) rfl (fun K hK => ?_) (AllReadyH.nil)
                          go_simp
                          refine hK.out _ _ trivial (fun _ => ?_)
                          clear hK K
                          try simp only [Act.put, List.setIfInBounds_toArray, List.set_cons_zero, List.set_cons_succ]
                          generalize hx15 : World.alloc v13 (Obj.cells #[Value.int IntKind.u8 0, Value.int IntKind.u8 0, Value.int IntKind.u8 0, Value.int IntKind.u8 0, Value.int IntKind.u8 0, Value.int IntKind.u8 0, Value.int IntKind.u8 0, Value.int IntKind.u8 0, Value.int IntKind.u8 0, Value.int IntKind.u8 0, Value.int IntKind.u8 0, Value.int IntKind.u8 0, Value.int IntKind.u8 0, Value.int IntKind.u8 0, Value.int IntKind.u8 0, Value.int IntKind.u8 0, Value.int IntKind.u8 0, Value.int IntKind.u8 0, Value.int IntKind.u8 0, Value.int IntKind.u8 0, Value.int IntKind.u8 0, Value.int IntKind.u8 0, Value.int IntKind.u8 0, Value.int IntKind.u8 0, Value.int IntKind.u8 0, Value.int IntKind.u8 0, Value.int IntKind.u8 0, Value.int IntKind.u8 0, Value.int IntKind.u8 0, Value.int IntKind.u8 0, Value.int IntKind.u8 0, Value.int IntKind.u8 0] 30) = v15
                          have g15 : Chg none v13 v15 := by rw [← hx15]; exact (Chg.refl _ _).alloc _
                          have N15 : Blk v15 v13.heap.size zero32 30 := by rw [← hx15]; exact Blk.new _ _ _
                          have ne15 : v13.heap.size ≠ R13 := by have := Blk.lt N13; omega
                          have E16 := E14.trans g15
                          have B11_16 := Blk.chg N13 g15 (by simp)
                          have BQ_16 := Blk.chg BQ_14 g15 (by simp)
                          clear hx15
                          generalize hp15 : v13.heap.size = P15 at *
                          have z15 : v0.heap.size ≤ P15 := by rw [← hp15]; exact E14.size
                          clear hp15
                          refine wpAnyH_ready (rs := [14]) (by kernel_rfl) (by simp) ?_
                          refine AllReadyH.cons (o := ⟨none, _, _, _, _, _⟩) rfl (fun K hK => ?_) (AllReadyH.nil)
                          rw [if_pos (by rfl)]
                          refine wp_store_row 30 (.tmp 10) (.tmp 47) (by rfl) P15 DG (by rfl) (by rfl) 30 zero32 N15 HI.out HZ.out HO.out ?_
                          refine hK.out _ _ trivial (fun _ => ?_)
                          clear hK K
                          have E17 := Chg.own (b := P15) E16 (chg_setRow _ _ DG) z15
                          have S17 : Blk _ P15 DG 30 := setRow_heap _ _ _ _ _ _ N15
                          have O17 := Blk.chg B11_16 (chg_setRow _ P15 DG) (by simpa using (Ne.symm ne15))
                          refine wpAnyH_ready (rs := [15]) (by kernel_rfl) (by simp) ?_
                          refine AllReadyH.cons (o := ⟨none, _, _, _, _, _⟩) rfl (fun K hK => ?_) (AllReadyH.nil)
                          rw [if_pos (by rfl)]
                          refine wp_store_row 30 (.tmp 11) (.tmp 56) (by rfl) R13 DG (by rfl) (by rfl) 30 zero32 O17 HI.out HZ.out HO.out ?_
                          refine hK.out _ _ trivial (fun _ => ?_)
                          clear hK K
                          have E18 := Chg.own (b := R13) E17 (chg_setRow _ _ DG) z13
                          have S18 : Blk _ R13 DG 30 := setRow_heap _ _ _ _ _ _ O17
                          have O18 := Blk.chg S17 (chg_setRow _ R13 DG) (by simpa using ne15)
                          refine wpAnyH_done (by kernel_rfl) ?_ _
                          try simp only [Act.put]
                          go_wp2_with fail
                          go_meet
                          exact ⟨P15, R13, rfl, rfl, O18, S18, E18⟩
                  · as_aux_lemma =>
                      go_simp
                      refine hK.out _ _ trivial (fun _ => ?_)
                      clear hK K
                      try simp only [Act.put, List.setIfInBounds_toArray, List.set_cons_zero, List.set_cons_succ]
                      generalize hx19 : World.alloc v3 (Obj.cells #[Value.int IntKind.u8 0, Value.int IntKind.u8 0, Value.int IntKind.u8 0, Value.int IntKind.u8 0, Value.int IntKind.u8 0, Value.int IntKind.u8 0, Value.int IntKind.u8 0, Value.int IntKind.u8 0, Value.int IntKind.u8 0, Value.int IntKind.u8 0, Value.int IntKind.u8 0, Value.int IntKind.u8 0, Value.int IntKind.u8 0, Value.int IntKind.u8 0, Value.int IntKind.u8 0, Value.int IntKind.u8 0, Value.int IntKind.u8 0, Value.int IntKind.u8 0, Value.int IntKind.u8 0, Value.int IntKind.u8 0, Value.int IntKind.u8 0, Value.int IntKind.u8 0, Value.int IntKind.u8 0, Value.int IntKind.u8 0, Value.int IntKind.u8 0, Value.int IntKind.u8 0, Value.int IntKind.u8 0, Value.int IntKind.u8 0, Value.int IntKind.u8 0, Value.int IntKind.u8 0, Value.int IntKind.u8 0, Value.int IntKind.u8 0] 30) = v19
                      have g19 : Chg none v3 v19 := by rw [← hx19]; exact (Chg.refl _ _).alloc _
                      have N19 : Blk v19 v3.heap.size zero32 30 := by rw [← hx19]; exact Blk.new _ _ _
                      have E20 := E4.trans g19
                      have BQ_20 := Blk.chg N3 g19 (by simp)
                      clear hx19
                      generalize hp19 : v3.heap.size = P19 at *
                      have z19 : v0.heap.size ≤ P19 := by rw [← hp19]; exact E4.size
                      clear hp19
                      refine wpAnyH_ready (rs := [11, 13]) (by kernel_rfl) (by simp) ?_
                      refine AllReadyH.cons (o := ⟨some 56, _, _, _, _, _⟩) rfl (fun K hK => ?_) (AllReadyH.cons (o := ⟨some 11, _, _, _, _, _⟩) rfl (fun K hK => ?_) (AllReadyH.nil))
                      · as_aux_lemma =>
                          go_simp
                          go_at_call 19
                          refine (HP2.out _ Q3 E20 BQ_20).mono ?_
                          rintro e v21 ⟨rfl, g21⟩
                          have E22 := E20.trans g21
                          have B10_22 := Blk.chg N19 g21 (by simp)
                          have BQ_22 := Blk.chg BQ_20 g21 (by simp)
                          go_wp2_with fail
                          refine hK.out _ _ trivial (fun _ => ?_)
                          clear hK K
                          try simp only [Act.put, List.setIfInBounds_toArray, List.set_cons_zero, List.set_cons_succ]
                          refine wpAnyH_ready (rs := [13]) (by kernel_rfl) (by simp) ?_
                          refine AllReadyH.cons (o := ⟨some 11, _, _, _, _, _⟩) rfl (fun K hK => ?_) (AllReadyH.nil)
                          go_simp
                          refine hK.out _ _ trivial (fun _ => ?_)
                          clear hK K
                          try simp only [Act.put, List.setIfInBounds_toArray, List.set_cons_zero, List.set_cons_succ]
                          generalize hx23 : World.alloc v21 (Obj.cells #[Value.int IntKind.u8 0, Value.int IntKind.u8 0, Value.int IntKind.u8 0, Value.int IntKind.u8 0, Value.int IntKind.u8 0, Value.int IntKind.u8 0, Value.int IntKind.u8 0, Value.int IntKind.u8 0, Value.int IntKind.u8 0, Value.int IntKind.u8 0, Value.int IntKind.u8 0, Value.int IntKind.u8 0, Value.int IntKind.u8 0, Value.int IntKind.u8 0, Value.int IntKind.u8 0, Value.int IntKind.u8 0, Value.int IntKind.u8 0, Value.int IntKind.u8 0, Value.int IntKind.u8 0, Value.int IntKind.u8 0, Value.int IntKind.u8 0, Value.int IntKind.u8 0, Value.int IntKind.u8 0, Value.int IntKind.u8 0, Value.int IntKind.u8 0, Value.int IntKind.u8 0, Value.int IntKind.u8 0, Value.int IntKind.u8 0, Value.int IntKind.u8 0, Value.int IntKind.u8 0, Value.int IntKind.u8 0, Value.int IntKind.u8 0] 30) = v23
                          have g23 : Chg none v21 v23 := by rw [← hx23]; exact (Chg.refl _ _).alloc _
                          have N23 : Blk v23 v21.heap.size zero32 30 := by rw [← hx23]; exact Blk.new _ _ _
                          have ne23 : v21.heap.size ≠ P19 := by have := Blk.lt B10_22; omega
                          have E24 := E22.trans g23
                          have B10_24 := Blk.chg B10_22 g23 (by simp)
                          have BQ_24 := Blk.chg BQ_22 g23 (by simp)
                          clear hx23
                          generalize hp23 : v21.heap.size = R23 at *
                          have z23 : v0.heap.size ≤ R23 := by rw [← hp23]; exact E22.size
                          clear hp23
                          refine wpAnyH_ready (rs := [14]) (by kernel_rfl) (by simp) ?_
                          refine AllReadyH.cons (o := ⟨none, _, _, _, _, _⟩) rfl (fun K hK => ?_) (AllReadyH.nil)
                          rw [if_pos (by rfl)]
                          refine wp_store_row 30 (.tmp 10) (.tmp 47) (by rfl) P19 DG (by rfl) (by rfl) 30 zero32 B10_24 HI.out HZ.out HO.out ?_
                          refine hK.out _ _ trivial (fun _ => ?_)
                          clear hK K
                          have E25 := Chg.own (b := P19) E24 (chg_setRow _ _ DG) z19
                          have S25 : Blk _ P19 DG 30 := setRow_heap _ _ _ _ _ _ B10_24
                          have O25 := Blk.chg N23 (chg_setRow _ P19 DG) (by simpa using ne23)
                          refine wpAnyH_ready (rs := [15]) (by kernel_rfl) (by simp) ?_
                          refine AllReadyH.cons (o := ⟨none, _, _, _, _, _⟩) rfl (fun K hK => ?_) (AllReadyH.nil)
                          rw [if_pos (by rfl)]
                          refine wp_store_row 30 (.tmp 11) (.tmp 56) (by rfl) R23 DG (by rfl) (by rfl) 30 zero32 O25 HI.out HZ.out HO.out ?_
                          refine hK.out _ _ trivial (fun _ => ?_)
                          clear hK K
                          have E26 := Chg.own (b := R23) E25 (chg_setRow _ _ DG) z23
                          have S26 : Blk _ R23 DG 30 := setRow_heap _ _ _ _ _ _ O25
                          have O26 := Blk.chg S25 (chg_setRow _ R23 DG) (by simpa using (Ne.symm ne23))
                          refine wpAnyH_done (by kernel_rfl) ?_ _
                          try simp only [Act.put]
                          go_wp2_with fail
                          go_meet
                          exact ⟨P19, R23, rfl, rfl, O26, S26, E26⟩
                      · as_aux_lemma =>
                          go_simp
                          refine hK.out _ _ trivial (fun _ => ?_)
                          clear hK K
                          try simp only [Act.put, List.setIfInBounds_toArray, List.set_cons_zero, List.set_cons_succ]
                          generalize hx27 : World.alloc v19 (Obj.cells #[Value.int IntKind.u8 0, Value.int IntKind.u8 0, Value.int IntKind.u8 0, Value.int IntKind.u8 0, Value.int IntKind.u8 0, Value.int IntKind.u8 0, Value.int IntKind.u8 0, Value.int IntKind.u8 0, Value.int IntKind.u8 0, Value.int IntKind.u8 0, Value.int IntKind.u8 0, Value.int IntKind.u8 0, Value.int IntKind.u8 0, Value.int IntKind.u8 0, Value.int IntKind.u8 0, Value.int IntKind.u8 0, Value.int IntKind.u8 0, Value.int IntKind.u8 0, Value.int IntKind.u8 0, Value.int IntKind.u8 0, Value.int IntKind.u8 0, Value.int IntKind.u8 0, Value.int IntKind.u8 0, Value.int IntKind.u8 0, Value.int IntKind.u8 0, Value.int IntKind.u8 0, Value.int IntKind.u8 0, Value.int IntKind.u8 0, Value.int IntKind.u8 0, Value.int IntKind.u8 0, Value.int IntKind.u8 0, Value.int IntKind.u8 0] 30) = v27
                          have g27 : Chg none v19 v27 := by rw [← hx27]; exact (Chg.refl _ _).alloc _
                          have N27 : Blk v27 v19.heap.size zero32 30 := by rw [← hx27]; exact Blk.new _ _ _
                          have ne27 : v19.heap.size ≠ P19 := by have := Blk.lt N19; omega
                          have E28 := E20.trans g27
                          have B10_28 := Blk.chg N19 g27 (by simp)
                          have BQ_28 := Blk.chg BQ_20 g27 (by simp)
                          clear hx27
                          generalize hp27 : v19.heap.size = R27 at *
                          have z27 : v0.heap.size ≤ R27 := by rw [← hp27]; exact E20.size
                          clear hp27
                          refine wpAnyH_ready (rs := [11]) (by kernel_rfl) (by simp) ?_
                          refine AllReadyH.cons (o := ⟨some 56, _, _, _, _, _⟩) rfl (fun K hK => ?_) (AllReadyH.nil)
                          go_simp
                          go_at_call 19
                          refine (HP2.out _ Q3 E28 BQ_28).mono ?_
                          rintro e v29 ⟨rfl, g29⟩
                          have E30 := E28.trans g29
                          have B10_30 := Blk.chg B10_28 g29 (by simp)
                          have B11_30 := Blk.chg N27 g29 (by simp)
                          have BQ_30 := Blk.chg BQ_28 g29 (by simp)
                          go_wp2_with fail
                          refine hK.out _ _ trivial (fun _ => ?_)
                          clear hK K
                          try simp only [Act.put, List.setIfInBounds_toArray, List.set_cons_zero, List.set_cons_succ]
                          refine wpAnyH_ready (rs := [14]) (by kernel_rfl) (by simp) ?_
                          refine AllReadyH.cons (o := ⟨none, _, _, _, _, _⟩) rfl (fun K hK => ?_) (AllReadyH.nil)
                          rw [if_pos (by rfl)]
                          refine wp_store_row 30 (.tmp 10) (.tmp 47) (by rfl) P19 DG (by rfl) (by rfl) 30 zero32 B10_30 HI.out HZ.out HO.out ?_
                          refine hK.out _ _ trivial (fun _ => ?_)
                          clear hK K
                          have E31 := Chg.own (b := P19) E30 (chg_setRow _ _ DG) z19
                          have S31 : Blk _ P19 DG 30 := setRow_heap _ _ _ _ _ _ B10_30
                          have O31 := Blk.chg B11_30 (chg_setRow _ P19 DG) (by simpa using ne27)
                          refine wpAnyH_ready (rs := [15]) (by kernel_rfl) (by simp) ?_
                          refine AllReadyH.cons (o := ⟨none, _, _, _, _, _⟩) rfl (fun K hK => ?_) (AllReadyH.nil)
                          rw [if_pos (by rfl)]
                          refine wp_store_row 30 (.tmp 11) (.tmp 56) (by rfl) R27 DG (by rfl) (by rfl) 30 zero32 O31 HI.out HZ.out HO.out ?_
                          refine hK.out _ _ trivial (fun _ => ?_)
                          clear hK K
                          have E32 := Chg.own (b := R27) E31 (chg_setRow _ _ DG) z27
                          have S32 : Blk _ R27 DG 30 := setRow_heap _ _ _ _ _ _ O31
                          have O32 := Blk.chg S31 (chg_setRow _ R27 DG) (by simpa using (Ne.symm ne27))
                          refine wpAnyH_done (by kernel_rfl) ?_ _
                          try simp only [Act.put]
                          go_wp2_with fail
                          go_meet
                          exact ⟨P19, R27, rfl, rfl, O32, S32, E32⟩
                  · as_aux_lemma =>
                      go_simp
                      refine hK.out _ _ trivial (fun _ => ?_)
                      clear hK K
                      try simp only [Act.put, List.setIfInBounds_toArray, List.set_cons_zero, List.set_cons_succ]
                      generalize hx33 : World.alloc v3 (Obj.cells #[Value.int IntKind.u8 0, Value.int IntKind.u8 0, Value.int IntKind.u8 0, Value.int IntKind.u8 0, Value.int IntKind.u8 0, Value.int IntKind.u8 0, Value.int IntKind.u8 0, Value.int IntKind.u8 0, Value.int IntKind.u8 0, Value.int IntKind.u8 0, Value.int IntKind.u8 0, Value.int IntKind.u8 0, Value.int IntKind.u8 0, Value.int IntKind.u8 0, Value.int IntKind.u8 0, Value.int IntKind.u8 0, Value.int IntKind.u8 0, Value.int IntKind.u8 0, Value.int IntKind.u8 0, Value.int IntKind.u8 0, Value.int IntKind.u8 0, Value.int IntKind.u8 0, Value.int IntKind.u8 0, Value.int IntKind.u8 0, Value.int IntKind.u8 0, Value.int IntKind.u8 0, Value.int IntKind.u8 0, Value.int IntKind.u8 0, Value.int IntKind.u8 0, Value.int IntKind.u8 0, Value.int IntKind.u8 0, Value.int IntKind.u8 0] 30) = v33
                      have g33 : Chg none v3 v33 := by rw [← hx33]; exact (Chg.refl _ _).alloc _
                      have N33 : Blk v33 v3.heap.size zero32 30 := by rw [← hx33]; exact Blk.new _ _ _
                      have E34 := E4.trans g33
                      have BQ_34 := Blk.chg N3 g33 (by simp)
                      clear hx33
                      generalize hp33 : v3.heap.size = R33 at *
                      have z33 : v0.heap.size ≤ R33 := by rw [← hp33]; exact E4.size
                      clear hp33
                      refine wpAnyH_ready (rs := [11, 12]) (by kernel_rfl) (by simp) ?_
                      refine AllReadyH.cons (o := ⟨some 56, _, _, _, _, _⟩) rfl (fun K hK => ?_) (AllReadyH.cons (o := ⟨some 10, _, _, _, _, _⟩) rfl (fun K hK => ?_) (AllReadyH.nil))
                      · as_aux_lemma =>
                          go_simp
                          go_at_call 19
                          refine (HP2.out _ Q3 E34 BQ_34).mono ?_
                          rintro e v35 ⟨rfl, g35⟩
                          have E36 := E34.trans g35
                          have B11_36 := Blk.chg N33 g35 (by simp)
                          have BQ_36 := Blk.chg BQ_34 g35 (by simp)
                          go_wp2_with fail
                          refine hK.out _ _ trivial (fun _ => ?_)
                          clear hK K
                          try simp only [Act.put, List.setIfInBounds_toArray, List.set_cons_zero, List.set_cons_succ]
                          refine wpAnyH_ready (rs := [12]) (by kernel_rfl) (by simp) ?_
                          refine AllReadyH.cons (o := ⟨some 10, _, _, _, _, _⟩) rfl (fun K hK => ?_) (AllReadyH.nil)
                          go_simp
                          refine hK.out _ _ trivial (fun _ => ?_)
                          clear hK K
                          try simp only [Act.put, List.setIfInBounds_toArray, List.set_cons_zero, List.set_cons_succ]
                          generalize hx37 : World.alloc v35 (Obj.cells #[Value.int IntKind.u8 0, Value.int IntKind.u8 0, Value.int IntKind.u8 0, Value.int IntKind.u8 0, Value.int IntKind.u8 0, Value.int IntKind.u8 0, Value.int IntKind.u8 0, Value.int IntKind.u8 0, Value.int IntKind.u8 0, Value.int IntKind.u8 0, Value.int IntKind.u8 0, Value.int IntKind.u8 0, Value.int IntKind.u8 0, Value.int IntKind.u8 0, Value.int IntKind.u8 0, Value.int IntKind.u8 0, Value.int IntKind.u8 0, Value.int IntKind.u8 0, Value.int IntKind.u8 0, Value.int IntKind.u8 0, Value.int IntKind.u8 0, Value.int IntKind.u8 0, Value.int IntKind.u8 0, Value.int IntKind.u8 0, Value.int IntKind.u8 0, Value.int IntKind.u8 0, Value.int IntKind.u8 0, Value.int IntKind.u8 0, Value.int IntKind.u8 0, Value.int IntKind.u8 0, Value.int IntKind.u8 0, Value.int IntKind.u8 0] 30) = v37
                          have g37 : Chg none v35 v37 := by rw [← hx37]; exact (Chg.refl _ _).alloc _
                          have N37 : Blk v37 v35.heap.size zero32 30 := by rw [← hx37]; exact Blk.new _ _ _
                          have ne37 : v35.heap.size ≠ R33 := by have := Blk.lt B11_36; omega
                          have E38 := E36.trans g37
                          have B11_38 := Blk.chg B11_36 g37 (by simp)
                          have BQ_38 := Blk.chg BQ_36 g37 (by simp)
                          clear hx37
                          generalize hp37 : v35.heap.size = P37 at *
                          have z37 : v0.heap.size ≤ P37 := by rw [← hp37]; exact E36.size
                          clear hp37
                          refine wpAnyH_ready (rs := [14]) (by kernel_rfl) (by simp) ?_
                          refine AllReadyH.cons (o := ⟨none, _, _, _, _, _⟩) rfl (fun K hK => ?_) (AllReadyH.nil)
                          rw [if_pos (by rfl)]
                          refine wp_store_row 30 (.tmp 10) (.tmp 47) (by rfl) P37 DG (by rfl) (by rfl) 30 zero32 N37 HI.out HZ.out HO.out ?_
                          refine hK.out _ _ trivial (fun _ => ?_)
                          clear hK K
                          have E39 := Chg.own (b := P37) E38 (chg_setRow _ _ DG) z37
                          have S39 : Blk _ P37 DG 30 := setRow_heap _ _ _ _ _ _ N37
                          have O39 := Blk.chg B11_38 (chg_setRow _ P37 DG) (by simpa using (Ne.symm ne37))
                          refine wpAnyH_ready (rs := [15]) (by kernel_rfl) (by simp) ?_
                          refine AllReadyH.cons (o := ⟨none, _, _, _, _, _⟩) rfl (fun K hK => ?_) (AllReadyH.nil)
                          rw [if_pos (by rfl)]
                          refine wp_store_row 30 (.tmp 11) (.tmp 56) (by rfl) R33 DG (by rfl) (by rfl) 30 zero32 O39 HI.out HZ.out HO.out ?_
                          refine hK.out _ _ trivial (fun _ => ?_)
                          clear hK K
                          have E40 := Chg.own (b := R33) E39 (chg_setRow _ _ DG) z33
                          have S40 : Blk _ R33 DG 30 := setRow_heap _ _ _ _ _ _ O39
                          have O40 := Blk.chg S39 (chg_setRow _ R33 DG) (by simpa using ne37)
                          refine wpAnyH_done (by kernel_rfl) ?_ _
                          try simp only [Act.put]
                          go_wp2_with fail
                          go_meet
                          exact ⟨P37, R33, rfl, rfl, O40, S40, E40⟩
                      · as_aux_lemma =>
                          go_simp
                          refine hK.out _ _ trivial (fun _ => ?_)
                          clear hK K
                          try simp only [Act.put, List.setIfInBounds_toArray, List.set_cons_zero, List.set_cons_succ]
                          generalize hx41 : World.alloc v33 (Obj.cells #[Value.int IntKind.u8 0, Value.int IntKind.u8 0, Value.int IntKind.u8 0, Value.int IntKind.u8 0, Value.int IntKind.u8 0, Value.int IntKind.u8 0, Value.int IntKind.u8 0, Value.int IntKind.u8 0, Value.int IntKind.u8 0, Value.int IntKind.u8 0, Value.int IntKind.u8 0, Value.int IntKind.u8 0, Value.int IntKind.u8 0, Value.int IntKind.u8 0, Value.int IntKind.u8 0, Value.int IntKind.u8 0, Value.int IntKind.u8 0, Value.int IntKind.u8 0, Value.int IntKind.u8 0, Value.int IntKind.u8 0, Value.int IntKind.u8 0, Value.int IntKind.u8 0, Value.int IntKind.u8 0, Value.int IntKind.u8 0, Value.int IntKind.u8 0, Value.int IntKind.u8 0, Value.int IntKind.u8 0, Value.int IntKind.u8 0, Value.int IntKind.u8 0, Value.int IntKind.u8 0, Value.int IntKind.u8 0, Value.int IntKind.u8 0] 30) = v41
                          have g41 : Chg none v33 v41 := by rw [← hx41]; exact (Chg.refl _ _).alloc _
                          have N41 : Blk v41 v33.heap.size zero32 30 := by rw [← hx41]; exact Blk.new _ _ _
                          have ne41 : v33.heap.size ≠ R33 := by have := Blk.lt N33; omega
                          have E42 := E34.trans g41
                          have B11_42 := Blk.chg N33 g41 (by simp)
                          have BQ_42 := Blk.chg BQ_34 g41 (by simp)
                          clear hx41
                          generalize hp41 : v33.heap.size = P41 at *
                          have z41 : v0.heap.size ≤ P41 := by rw [← hp41]; exact E34.size
                          clear hp41
                          refine wpAnyH_ready (rs := [11]) (by kernel_rfl) (by simp) ?_
                          refine AllReadyH.cons (o := ⟨some 56, _, _, _, _, _⟩) rfl (fun K hK => ?_) (AllReadyH.nil)
                          go_simp
                          go_at_call 19
                          refine (HP2.out _ Q3 E42 BQ_42).mono ?_
                          rintro e v43 ⟨rfl, g43⟩
                          have E44 := E42.trans g43
                          have B10_44 := Blk.chg N41 g43 (by simp)
                          have B11_44 := Blk.chg B11_42 g43 (by simp)
                          have BQ_44 := Blk.chg BQ_42 g43 (by simp)
                          go_wp2_with fail
                          refine hK.out _ _ trivial (fun _ => ?_)
                          clear hK K
                          try simp only [Act.put, List.setIfInBounds_toArray, List.set_cons_zero, List.set_cons_succ]
                          refine wpAnyH_ready (rs := [14]) (by kernel_rfl) (by simp) ?_
                          refine AllReadyH.cons (o := ⟨none, _, _, _, _, _⟩) rfl (fun K hK => ?_) (AllReadyH.nil)
                          rw [if_pos (by rfl)]
                          refine wp_store_row 30 (.tmp 10) (.tmp 47) (by rfl) P41 DG (by rfl) (by rfl) 30 zero32 B10_44 HI.out HZ.out HO.out ?_
                          refine hK.out _ _ trivial (fun _ => ?_)
                          clear hK K
                          have E45 := Chg.own (b := P41) E44 (chg_setRow _ _ DG) z41
                          have S45 : Blk _ P41 DG 30 := setRow_heap _ _ _ _ _ _ B10_44
                          have O45 := Blk.chg B11_44 (chg_setRow _ P41 DG) (by simpa using (Ne.symm ne41))
                          refine wpAnyH_ready (rs := [15]) (by kernel_rfl) (by simp) ?_
                          refine AllReadyH.cons (o := ⟨none, _, _, _, _, _⟩) rfl (fun K hK => ?_) (AllReadyH.nil)
                          rw [if_pos (by rfl)]
                          refine wp_store_row 30 (.tmp 11) (.tmp 56) (by rfl) R33 DG (by rfl) (by rfl) 30 zero32 O45 HI.out HZ.out HO.out ?_
                          refine hK.out _ _ trivial (fun _ => ?_)
                          clear hK K
                          have E46 := Chg.own (b := R33) E45 (chg_setRow _ _ DG) z33
                          have S46 : Blk _ R33 DG 30 := setRow_heap _ _ _ _ _ _ O45
                          have O46 := Blk.chg S45 (chg_setRow _ R33 DG) (by simpa using ne41)
                          refine wpAnyH_done (by kernel_rfl) ?_ _
                          try simp only [Act.put]
                          go_wp2_with fail
                          go_meet
                          exact ⟨P41, R33, rfl, rfl, O46, S46, E46⟩
              · as_aux_lemma =>
                  go_simp
                  refine hK.out _ _ trivial (fun _ => ?_)
                  clear hK K
                  try simp only [Act.put, List.setIfInBounds_toArray, List.set_cons_zero, List.set_cons_succ]
                  generalize hx47 : World.alloc v1 (Obj.cells #[Value.int IntKind.u8 0, Value.int IntKind.u8 0, Value.int IntKind.u8 0, Value.int IntKind.u8 0, Value.int IntKind.u8 0, Value.int IntKind.u8 0, Value.int IntKind.u8 0, Value.int IntKind.u8 0, Value.int IntKind.u8 0, Value.int IntKind.u8 0, Value.int IntKind.u8 0, Value.int IntKind.u8 0, Value.int IntKind.u8 0, Value.int IntKind.u8 0, Value.int IntKind.u8 0, Value.int IntKind.u8 0, Value.int IntKind.u8 0, Value.int IntKind.u8 0, Value.int IntKind.u8 0, Value.int IntKind.u8 0, Value.int IntKind.u8 0, Value.int IntKind.u8 0, Value.int IntKind.u8 0, Value.int IntKind.u8 0, Value.int IntKind.u8 0, Value.int IntKind.u8 0, Value.int IntKind.u8 0, Value.int IntKind.u8 0, Value.int IntKind.u8 0, Value.int IntKind.u8 0, Value.int IntKind.u8 0, Value.int IntKind.u8 0] 30) = v47
                  have g47 : Chg none v1 v47 := by rw [← hx47]; exact (Chg.refl _ _).alloc _
                  have N47 : Blk v47 v1.heap.size zero32 30 := by rw [← hx47]; exact Blk.new _ _ _
                  have E48 := E2.trans g47
                  clear hx47
                  generalize hp47 : v1.heap.size = P47 at *
                  have z47 : v0.heap.size ≤ P47 := by rw [← hp47]; exact E2.size
                  clear hp47
                  refine wpAnyH_ready (rs := [10, 13]) (by kernel_rfl) (by simp) ?_
                  refine AllReadyH.cons (o := ⟨some 55, _, _, _, _, _⟩) rfl (fun K hK => ?_) (AllReadyH.cons (o := ⟨some 11, _, _, _, _, _⟩) rfl (fun K hK => ?_) (AllReadyH.nil))
                  · as_aux_lemma =>
                      go_simp
                      refine hK.out _ _ trivial (fun _ => ?_)
                      clear hK K
                      try simp only [Act.put, List.setIfInBounds_toArray, List.set_cons_zero, List.set_cons_succ]
                      generalize hx49 : World.alloc v47 (Obj.cells #[Value.slice A1 n1 c1, Value.slice A2 n2 c2] 22) = v49
                      have g49 : Chg none v47 v49 := by rw [← hx49]; exact (Chg.refl _ _).alloc _
                      have N49 : Blk v49 v47.heap.size #[Value.slice A1 n1 c1, Value.slice A2 n2 c2] 22 := by rw [← hx49]; exact Blk.new _ _ _
                      have E50 := E48.trans g49
                      have B10_50 := Blk.chg N47 g49 (by simp)
                      clear hx49
                      generalize hp49 : v47.heap.size = Q49 at *
                      have z49 : v0.heap.size ≤ Q49 := by rw [← hp49]; exact E48.size
                      clear hp49
                      refine wpAnyH_ready (rs := [11, 13]) (by kernel_rfl) (by simp) ?_
                      refine AllReadyH.cons (o := ⟨some 56, _, _, _, _, _⟩) rfl (fun K hK => ?_) (AllReadyH.cons (o := ⟨some 11, _, _, _, _, _⟩) rfl (fun K hK => ?_) (AllReadyH.nil))
                      · as_aux_lemma =>
                          go_simp
                          go_at_call 19
                          refine (HP2.out _ Q49 E50 N49).mono ?_
                          rintro e v51 ⟨rfl, g51⟩
                          have E52 := E50.trans g51
                          have B10_52 := Blk.chg B10_50 g51 (by simp)
                          have BQ_52 := Blk.chg N49 g51 (by simp)
                          go_wp2_with fail
                          refine hK.out _ _ trivial (fun _ => ?_)
                          clear hK K
                          try simp only [Act.put, List.setIfInBounds_toArray, List.set_cons_zero, List.set_cons_succ]
                          refine wpAnyH_ready (rs := [13]) (by kernel_rfl) (by simp) ?_
                          refine AllReadyH.cons (o := ⟨some 11, _, _, _, _, _⟩) rfl (fun K hK => ?_) (AllReadyH.nil)
                          go_simp
                          refine hK.out _ _ trivial (fun _ => ?_)
                          clear hK K
                          try simp only [Act.put, List.setIfInBounds_toArray, List.set_cons_zero, List.set_cons_succ]
                          generalize hx53 : World.alloc v51 (Obj.cells #[Value.int IntKind.u8 0, Value.int IntKind.u8 0, Value.int IntKind.u8 0, Value.int IntKind.u8 0, Value.int IntKind.u8 0, Value.int IntKind.u8 0, Value.int IntKind.u8 0, Value.int IntKind.u8 0, Value.int IntKind.u8 0, Value.int IntKind.u8 0, Value.int IntKind.u8 0, Value.int IntKind.u8 0, Value.int IntKind.u8 0, Value.int IntKind.u8 0, Value.int IntKind.u8 0, Value.int IntKind.u8 0, Value.int IntKind.u8 0, Value.int IntKind.u8 0, Value.int IntKind.u8 0, Value.int IntKind.u8 0, Value.int IntKind.u8 0, Value.int IntKind.u8 0, Value.int IntKind.u8 0, Value.int IntKind.u8 0, Value.int IntKind.u8 0, Value.int IntKind.u8 0, Value.int IntKind.u8 0, Value.int IntKind.u8 0, Value.int IntKind.u8 0, Value.int IntKind.u8 0, Value.int IntKind.u8 0, Value.int IntKind.u8 0] 30) = v53
                          have g53 : Chg none v51 v53 := by rw [← hx53]; exact (Chg.refl _ _).alloc _
                          have N53 : Blk v53 v51.heap.size zero32 30 := by rw [← hx53]; exact Blk.new _ _ _
                          have ne53 : v51.heap.size ≠ P47 := by have := Blk.lt B10_52; omega
                          have E54 := E52.trans g53
                          have B10_54 := Blk.chg B10_52 g53 (by simp)
                          have BQ_54 := Blk.chg BQ_52 g53 (by simp)
                          clear hx53
                          generalize hp53 : v51.heap.size = R53 at *
                          have z53 : v0.heap.size ≤ R53 := by rw [← hp53]; exact E52.size
                          clear hp53
                          refine wpAnyH_ready (rs := [14]) (by kernel_rfl) (by simp) ?_
                          refine AllReadyH.cons (o := ⟨none, _, _, _, _, _⟩) rfl (fun K hK => ?_) (AllReadyH.nil)
                          rw [if_pos (by rfl)]
                          refine wp_store_row 30 (.tmp 10) (.tmp 47) (by rfl) P47 DG (by rfl) (by rfl) 30 zero32 B10_54 HI.out HZ.out HO.out ?_
                          refine hK.out _ _ trivial (fun _ => ?_)
                          clear hK K
                          have E55 := Chg.own (b := P47) E54 (chg_setRow _ _ DG) z47
                          have S55 : Blk _ P47 DG 30 := setRow_heap _ _ _ _ _ _ B10_54
                          have O55 := Blk.chg N53 (chg_setRow _ P47 DG) (by simpa using ne53)
                          refine wpAnyH_ready (rs := [15]) (by kernel_rfl) (by simp) ?_
                          refine AllReadyH.cons (o := ⟨none, _, _, _, _, _⟩) rfl (fun K hK => ?_) (AllReadyH.nil)
                          rw [if_pos (by rfl)]
                          refine wp_store_row 30 (.tmp 11) (.tmp 56) (by rfl) R53 DG (by rfl) (by rfl) 30 zero32 O55 HI.out HZ.out HO.out ?_
                          refine hK.out _ _ trivial (fun _ => ?_)
                          clear hK K
                          have E56 := Chg.own (b := R53) E55 (chg_setRow _ _ DG) z53
                          have S56 : Blk _ R53 DG 30 := setRow_heap _ _ _ _ _ _ O55
                          have O56 := Blk.chg S55 (chg_setRow _ R53 DG) (by simpa using (Ne.symm ne53))
                          refine wpAnyH_done (by kernel_rfl) ?_ _
                          try simp only [Act.put]
                          go_wp2_with fail
                          go_meet
                          exact ⟨P47, R53, rfl, rfl, O56, S56, E56⟩
                      · as_aux_lemma =>
                          go_simp
                          refine hK.out _ _ trivial (fun _ => ?_)
                          clear hK K
                          try simp only [Act.put, List.setIfInBounds_toArray, List.set_cons_zero, List.set_cons_succ]
                          generalize hx57 : World.alloc v49 (Obj.cells #[Value.int IntKind.u8 0, Value.int IntKind.u8 0, Value.int IntKind.u8 0, Value.int IntKind.u8 0, Value.int IntKind.u8 0, Value.int IntKind.u8 0, Value.int IntKind.u8 0, Value.int IntKind.u8 0, Value.int IntKind.u8 0, Value.int IntKind.u8 0, Value.int IntKind.u8 0, Value.int IntKind.u8 0, Value.int IntKind.u8 0, Value.int IntKind.u8 0, Value.int IntKind.u8 0, Value.int IntKind.u8 0, Value.int IntKind.u8 0, Value.int IntKind.u8 0, Value.int IntKind.u8 0, Value.int IntKind.u8 0, Value.int IntKind.u8 0, Value.int IntKind.u8 0, Value.int IntKind.u8 0, Value.int IntKind.u8 0, Value.int IntKind.u8 0, Value.int IntKind.u8 0, Value.int IntKind.u8 0, Value.int IntKind.u8 0, Value.int IntKind.u8 0, Value.int IntKind.u8 0, Value.int IntKind.u8 0, Value.int IntKind.u8 0] 30) = v57
                          have g57 : Chg none v49 v57 := by rw [← hx57]; exact (Chg.refl _ _).alloc _
                          have N57 : Blk v57 v49.heap.size zero32 30 := by rw [← hx57]; exact Blk.new _ _ _
                          have ne57 : v49.heap.size ≠ P47 := by have := Blk.lt B10_50; omega
                          have E58 := E50.trans g57
                          have B10_58 := Blk.chg B10_50 g57 (by simp)
                          have BQ_58 := Blk.chg N49 g57 (by simp)
                          clear hx57
                          generalize hp57 : v49.heap.size = R57 at *
                          have z57 : v0.heap.size ≤ R57 := by rw [← hp57]; exact E50.size
                          clear hp57
                          refine wpAnyH_ready (rs := [11]) (by kernel_rfl) (by simp) ?_
                          refine AllReadyH.cons (o := ⟨some 56, _, _, _, _, _⟩) rfl (fun K hK => ?_) (AllReadyH.nil)
                          go_simp
                          go_at_call 19
                          refine (HP2.out _ Q49 E58 BQ_58).mono ?_
                          rintro e v59 ⟨rfl, g59⟩
                          have E60 := E58.trans g59
                          have B10_60 := Blk.chg B10_58 g59 (by simp)
                          have B11_60 := Blk.chg N57 g59 (by simp)
                          have BQ_60 := Blk.chg BQ_58 g59 (by simp)
                          go_wp2_with fail
                          refine hK.out _ _ trivial (fun _ => ?_)
                          clear hK K
                          try simp only [Act.put, List.setIfInBounds_toArray, List.set_cons_zero, List.set_cons_succ]
                          refine wpAnyH_ready (rs := [14]) (by kernel_rfl) (by simp) ?_
                          refine AllReadyH.cons (o := ⟨none, _, _, _, _, _⟩) rfl (fun K hK => ?_) (AllReadyH.nil)
                          rw [if_pos (by rfl)]
                          refine wp_store_row 30 (.tmp 10) (.tmp 47) (by rfl) P47 DG (by rfl) (by rfl) 30 zero32 B10_60 HI.out HZ.out HO.out ?_
                          refine hK.out _ _ trivial (fun _ => ?_)
                          clear hK K
                          have E61 := Chg.own (b := P47) E60 (chg_setRow _ _ DG) z47
                          have S61 : Blk _ P47 DG 30 := setRow_heap _ _ _ _ _ _ B10_60
                          have O61 := Blk.chg B11_60 (chg_setRow _ P47 DG) (by simpa using ne57)
                          refine wpAnyH_ready (rs := [15]) (by kernel_rfl) (by simp) ?_
                          refine AllReadyH.cons (o := ⟨none, _, _, _, _, _⟩) rfl (fun K hK => ?_) (AllReadyH.nil)
                          rw [if_pos (by rfl)]
                          refine wp_store_row 30 (.tmp 11) (.tmp 56) (by rfl) R57 DG (by rfl) (by rfl) 30 zero32 O61 HI.out HZ.out HO.out ?_
                          refine hK.out _ _ trivial (fun _ => ?_)
                          clear hK K
                          have E62 := Chg.own (b := R57) E61 (chg_setRow _ _ DG) z57
                          have S62 : Blk _ R57 DG 30 := setRow_heap _ _ _ _ _ _ O61
                          have O62 := Blk.chg S61 (chg_setRow _ R57 DG) (by simpa using (Ne.symm ne57))
                          refine wpAnyH_done (by kernel_rfl) ?_ _
                          try simp only [Act.put]
                          go_wp2_with fail
                          go_meet
                          exact ⟨P47, R57, rfl, rfl, O62, S62, E62⟩
                  · as_aux_lemma =>
                      go_simp
                      refine hK.out _ _ trivial (fun _ => ?_)
                      clear hK K
                      try simp only [Act.put, List.setIfInBounds_toArray, List.set_cons_zero, List.set_cons_succ]
                      generalize hx63 : World.alloc v47 (Obj.cells #[Value.int IntKind.u8 0, Value.int IntKind.u8 0, Value.int IntKind.u8 0, Value.int IntKind.u8 0, Value.int IntKind.u8 0, Value.int IntKind.u8 0, Value.int IntKind.u8 0, Value.int IntKind.u8 0, Value.int IntKind.u8 0, Value.int IntKind.u8 0, Value.int IntKind.u8 0, Value.int IntKind.u8 0, Value.int IntKind.u8 0, Value.int IntKind.u8 0, Value.int IntKind.u8 0, Value.int IntKind.u8 0, Value.int IntKind.u8 0, Value.int IntKind.u8 0, Value.int IntKind.u8 0, Value.int IntKind.u8 0, Value.int IntKind.u8 0, Value.int IntKind.u8 0, Value.int IntKind.u8 0, Value.int IntKind.u8 0, Value.int IntKind.u8 0, Value.int IntKind.u8 0, Value.int IntKind.u8 0, Value.int IntKind.u8 0, Value.int IntKind.u8 0, Value.int IntKind.u8 0, Value.int IntKind.u8 0, Value.int IntKind.u8 0] 30) = v63
                      have g63 : Chg none v47 v63 := by rw [← hx63]; exact (Chg.refl _ _).alloc _
                      have N63 : Blk v63 v47.heap.size zero32 30 := by rw [← hx63]; exact Blk.new _ _ _
                      have ne63 : v47.heap.size ≠ P47 := by have := Blk.lt N47; omega
                      have E64 := E48.trans g63
                      have B10_64 := Blk.chg N47 g63 (by simp)
                      clear hx63
                      generalize hp63 : v47.heap.size = R63 at *
                      have z63 : v0.heap.size ≤ R63 := by rw [← hp63]; exact E48.size
                      clear hp63
                      refine wpAnyH_ready (rs := [10]) (by kernel_rfl) (by simp) ?_
                      refine AllReadyH.cons (o := ⟨some 55, _, _, _, _, _⟩) rfl (fun K hK => ?_) (AllReadyH.nil)
                      go_simp
                      refine hK.out _ _ trivial (fun _ => ?_)
                      clear hK K
                      try simp only [Act.put, List.setIfInBounds_toArray, List.set_cons_zero, List.set_cons_succ]
                      generalize hx65 : World.alloc v63 (Obj.cells #[Value.slice A1 n1 c1, Value.slice A2 n2 c2] 22) = v65
                      have g65 : Chg none v63 v65 := by rw [← hx65]; exact (Chg.refl _ _).alloc _
                      have N65 : Blk v65 v63.heap.size #[Value.slice A1 n1 c1, Value.slice A2 n2 c2] 22 := by rw [← hx65]; exact Blk.new _ _ _
                      have E66 := E64.trans g65
                      have B10_66 := Blk.chg B10_64 g65 (by simp)
                      have B11_66 := Blk.chg N63 g65 (by simp)
                      clear hx65
                      generalize hp65 : v63.heap.size = Q65 at *
                      have z65 : v0.heap.size ≤ Q65 := by rw [← hp65]; exact E64.size
                      clear hp65
                      refine wpAnyH_ready (rs := [11]) (by kernel_rfl) (by simp) ?_
                      refine AllReadyH.cons (o := ⟨some 56, _, _, _, _, _⟩) rfl (fun K hK => ?_) (AllReadyH.nil)
                      go_simp
                      go_at_call 19
                      refine (HP2.out _ Q65 E66 N65).mono ?_
                      rintro e v67 ⟨rfl, g67⟩
                      have E68 := E66.trans g67
                      have B10_68 := Blk.chg B10_66 g67 (by simp)
                      have B11_68 := Blk.chg B11_66 g67 (by simp)
                      have BQ_68 := Blk.chg N65 g67 (by simp)
                      go_wp2_with fail
                      refine hK.out _ _ trivial (fun _ => ?_)
                      clear hK K
                      try simp only [Act.put, List.setIfInBounds_toArray, List.set_cons_zero, List.set_cons_succ]
                      refine wpAnyH_ready (rs := [14]) (by kernel_rfl) (by simp) ?_
                      refine AllReadyH.cons (o := ⟨none, _, _, _, _, _⟩) rfl (fun K hK => ?_) (AllReadyH.nil)
                      rw [if_pos (by rfl)]
                      refine wp_store_row 30 (.tmp 10) (.tmp 47) (by rfl) P47 DG (by rfl) (by rfl) 30 zero32 B10_68 HI.out HZ.out HO.out ?_
                      refine hK.out _ _ trivial (fun _ => ?_)
                      clear hK K
                      have E69 := Chg.own (b := P47) E68 (chg_setRow _ _ DG) z47
                      have S69 : Blk _ P47 DG 30 := setRow_heap _ _ _ _ _ _ B10_68
                      have O69 := Blk.chg B11_68 (chg_setRow _ P47 DG) (by simpa using ne63)
                      refine wpAnyH_ready (rs := [15]) (by kernel_rfl) (by simp) ?_
                      refine AllReadyH.cons (o := ⟨none, _, _, _, _, _⟩) rfl (fun K hK => ?_) (AllReadyH.nil)
                      rw [if_pos (by rfl)]
                      refine wp_store_row 30 (.tmp 11) (.tmp 56) (by rfl) R63 DG (by rfl) (by rfl) 30 zero32 O69 HI.out HZ.out HO.out ?_
                      refine hK.out _ _ trivial (fun _ => ?_)
                      clear hK K
                      have E70 := Chg.own (b := R63) E69 (chg_setRow _ _ DG) z63
                      have S70 : Blk _ R63 DG 30 := setRow_heap _ _ _ _ _ _ O69
                      have O70 := Blk.chg S69 (chg_setRow _ R63 DG) (by simpa using (Ne.symm ne63))
                      refine wpAnyH_done (by kernel_rfl) ?_ _
                      try simp only [Act.put]
                      go_wp2_with fail
                      go_meet
                      exact ⟨P47, R63, rfl, rfl, O70, S70, E70⟩
              · as_aux_lemma =>
                  go_simp
                  refine hK.out _ _ trivial (fun _ => ?_)
                  clear hK K
                  try simp only [Act.put, List.setIfInBounds_toArray, List.set_cons_zero, List.set_cons_succ]
                  generalize hx71 : World.alloc v1 (Obj.cells #[Value.int IntKind.u8 0, Value.int IntKind.u8 0, Value.int IntKind.u8 0, Value.int IntKind.u8 0, Value.int IntKind.u8 0, Value.int IntKind.u8 0, Value.int IntKind.u8 0, Value.int IntKind.u8 0, Value.int IntKind.u8 0, Value.int IntKind.u8 0, Value.int IntKind.u8 0, Value.int IntKind.u8 0, Value.int IntKind.u8 0, Value.int IntKind.u8 0, Value.int IntKind.u8 0, Value.int IntKind.u8 0, Value.int IntKind.u8 0, Value.int IntKind.u8 0, Value.int IntKind.u8 0, Value.int IntKind.u8 0, Value.int IntKind.u8 0, Value.int IntKind.u8 0, Value.int IntKind.u8 0, Value.int IntKind.u8 0, Value.int IntKind.u8 0, Value.int IntKind.u8 0, Value.int IntKind.u8 0, Value.int IntKind.u8 0, Value.int IntKind.u8 0, Value.int IntKind.u8 0, Value.int IntKind.u8 0, Value.int IntKind.u8 0] 30) = v71
                  have g71 : Chg none v1 v71 := by rw [← hx71]; exact (Chg.refl _ _).alloc _
                  have N71 : Blk v71 v1.heap.size zero32 30 := by rw [← hx71]; exact Blk.new _ _ _
                  have E72 := E2.trans g71
                  clear hx71
                  generalize hp71 : v1.heap.size = R71 at *
                  have z71 : v0.heap.size ≤ R71 := by rw [← hp71]; exact E2.size
                  clear hp71
                  refine wpAnyH_ready (rs := [10, 12]) (by kernel_rfl) (by simp) ?_
                  refine AllReadyH.cons (o := ⟨some 55, _, _, _, _, _⟩) rfl (fun K hK => ?_) (AllReadyH.cons (o := ⟨some 10, _, _, _, _, _⟩) rfl (fun K hK => ?_) (AllReadyH.nil))
                  · as_aux_lemma =>
                      go_simp
                      refine hK.out _ _ trivial (fun _ => ?_)
                      clear hK K
                      try simp only [Act.put, List.setIfInBounds_toArray, List.set_cons_zero, List.set_cons_succ]
                      generalize hx73 : World.alloc v71 (Obj.cells #[Value.slice A1 n1 c1, Value.slice A2 n2 c2] 22) = v73
                      have g73 : Chg none v71 v73 := by rw [← hx73]; exact (Chg.refl _ _).alloc _
                      have N73 : Blk v73 v71.heap.size #[Value.slice A1 n1 c1, Value.slice A2 n2 c2] 22 := by rw [← hx73]; exact Blk.new _ _ _
                      have E74 := E72.trans g73
                      have B11_74 := Blk.chg N71 g73 (by simp)
                      clear hx73
                      generalize hp73 : v71.heap.size = Q73 at *
                      have z73 : v0.heap.size ≤ Q73 := by rw [← hp73]; exact E72.size
                      clear hp73
                      refine wpAnyH_ready (rs := [11, 12]) (by kernel_rfl) (by simp) ?_
                      refine AllReadyH.cons (o := ⟨some 56, _, _, _, _, _⟩) rfl (fun K hK => ?_) (AllReadyH.cons (o := ⟨some 10, _, _, _, _, _⟩) rfl (fun K hK => ?_) (AllReadyH.nil))
                      · as_aux_lemma =>
                          go_simp
                          go_at_call 19
                          refine (HP2.out _ Q73 E74 N73).mono ?_
                          rintro e v75 ⟨rfl, g75⟩
                          have E76 := E74.trans g75
                          have B11_76 := Blk.chg B11_74 g75 (by simp)
                          have BQ_76 := Blk.chg N73 g75 (by simp)
                          go_wp2_with fail
                          refine hK.out _ _ trivial (fun _ => ?_)
                          clear hK K
                          try simp only [Act.put, List.setIfInBounds_toArray, List.set_cons_zero, List.set_cons_succ]
                          refine wpAnyH_ready (rs := [12]) (by kernel_rfl) (by simp) ?_
                          refine AllReadyH.cons (o := ⟨some 10, _, _, _, _, _⟩) rfl (fun K hK => ?_) (AllReadyH.nil)
                          go_simp
                          refine hK.out _ _ trivial (fun _ => ?_)
                          clear hK K
                          try simp only [Act.put, List.setIfInBounds_toArray, List.set_cons_zero, List.set_cons_succ]
                          generalize hx77 : World.alloc v75 (Obj.cells #[Value.int IntKind.u8 0, Value.int IntKind.u8 0, Value.int IntKind.u8 0, Value.int IntKind.u8 0, Value.int IntKind.u8 0, Value.int IntKind.u8 0, Value.int IntKind.u8 0, Value.int IntKind.u8 0, Value.int IntKind.u8 0, Value.int IntKind.u8 0, Value.int IntKind.u8 0, Value.int IntKind.u8 0, Value.int IntKind.u8 0, Value.int IntKind.u8 0, Value.int IntKind.u8 0, Value.int IntKind.u8 0, Value.int IntKind.u8 0, Value.int IntKind.u8 0, Value.int IntKind.u8 0, Value.int IntKind.u8 0, Value.int IntKind.u8 0, Value.int IntKind.u8 0, Value.int IntKind.u8 0, Value.int IntKind.u8 0, Value.int IntKind.u8 0, Value.int IntKind.u8 0, Value.int IntKind.u8 0, Value.int IntKind.u8 0, Value.int IntKind.u8 0, Value.int IntKind.u8 0, Value.int IntKind.u8 0, Value.int IntKind.u8 0] 30) = v77
                          have g77 : Chg none v75 v77 := by rw [← hx77]; exact (Chg.refl _ _).alloc _
                          have N77 : Blk v77 v75.heap.size zero32 30 := by rw [← hx77]; exact Blk.new _ _ _
                          have ne77 : v75.heap.size ≠ R71 := by have := Blk.lt B11_76; omega
                          have E78 := E76.trans g77
                          have B11_78 := Blk.chg B11_76 g77 (by simp)
                          have BQ_78 := Blk.chg BQ_76 g77 (by simp)
                          clear hx77
                          generalize hp77 : v75.heap.size = P77 at *
                          have z77 : v0.heap.size ≤ P77 := by rw [← hp77]; exact E76.size
                          clear hp77
                          refine wpAnyH_ready (rs := [14]) (by kernel_rfl) (by simp) ?_
                          refine AllReadyH.cons (o := ⟨none, _, _, _, _, _⟩) rfl (fun K hK => ?_) (AllReadyH.nil)
                          rw [if_pos (by rfl)]
                          refine wp_store_row 30 (.tmp 10) (.tmp 47) (by rfl) P77 DG (by rfl) (by rfl) 30 zero32 N77 HI.out HZ.out HO.out ?_
                          refine hK.out _ _ trivial (fun _ => ?_)
                          clear hK K
                          have E79 := Chg.own (b := P77) E78 (chg_setRow _ _ DG) z77
                          have S79 : Blk _ P77 DG 30 := setRow_heap _ _ _ _ _ _ N77
                          have O79 := Blk.chg B11_78 (chg_setRow _ P77 DG) (by simpa using (Ne.symm ne77))
                          refine wpAnyH_ready (rs := [15]) (by kernel_rfl) (by simp) ?_
                          refine AllReadyH.cons (o := ⟨none, _, _, _, _, _⟩) rfl (fun K hK => ?_) (AllReadyH.nil)
                          rw [if_pos (by rfl)]
                          refine wp_store_row 30 (.tmp 11) (.tmp 56) (by rfl) R71 DG (by rfl) (by rfl) 30 zero32 O79 HI.out HZ.out HO.out ?_
                          refine hK.out _ _ trivial (fun _ => ?_)
                          clear hK K
                          have E80 := Chg.own (b := R71) E79 (chg_setRow _ _ DG) z71
                          have S80 : Blk _ R71 DG 30 := setRow_heap _ _ _ _ _ _ O79
                          have O80 := Blk.chg S79 (chg_setRow _ R71 DG) (by simpa using ne77)
                          refine wpAnyH_done (by kernel_rfl) ?_ _
                          try simp only [Act.put]
                          go_wp2_with fail
                          go_meet
                          exact ⟨P77, R71, rfl, rfl, O80, S80, E80⟩
                      · as_aux_lemma =>
                          go_simp
                          refine hK.out _ _ trivial (fun _ => ?_)
                          clear hK K
                          try simp only [Act.put, List.setIfInBounds_toArray, List.set_cons_zero, List.set_cons_succ]
                          generalize hx81 : World.alloc v73 (Obj.cells #[Value.int IntKind.u8 0, Value.int IntKind.u8 0, Value.int IntKind.u8 0, Value.int IntKind.u8 0, Value.int IntKind.u8 0, Value.int IntKind.u8 0, Value.int IntKind.u8 0, Value.int IntKind.u8 0, Value.int IntKind.u8 0, Value.int IntKind.u8 0, Value.int IntKind.u8 0, Value.int IntKind.u8 0, Value.int IntKind.u8 0, Value.int IntKind.u8 0, Value.int IntKind.u8 0, Value.int IntKind.u8 0, Value.int IntKind.u8 0, Value.int IntKind.u8 0, Value.int IntKind.u8 0, Value.int IntKind.u8 0, Value.int IntKind.u8 0, Value.int IntKind.u8 0, Value.int IntKind.u8 0, Value.int IntKind.u8 0, Value.int IntKind.u8 0, Value.int IntKind.u8 0, Value.int IntKind.u8 0, Value.int IntKind.u8 0, Value.int IntKind.u8 0, Value.int IntKind.u8 0, Value.int IntKind.u8 0, Value.int IntKind.u8 0] 30) = v81
                          have g81 : Chg none v73 v81 := by rw [← hx81]; exact (Chg.refl _ _).alloc _
                          have N81 : Blk v81 v73.heap.size zero32 30 := by rw [← hx81]; exact Blk.new _ _ _
                          have ne81 : v73.heap.size ≠ R71 := by have := Blk.lt B11_74; omega
                          have E82 := E74.trans g81
                          have B11_82 := Blk.chg B11_74 g81 (by simp)
                          have BQ_82 := Blk.chg N73 g81 (by simp)
                          clear hx81
                          generalize hp81 : v73.heap.size = P81 at *
                          have z81 : v0.heap.size ≤ P81 := by rw [← hp81]; exact E74.size
                          clear hp81
                          refine wpAnyH_ready (rs := [11]) (by kernel_rfl) (by simp) ?_
                          refine AllReadyH.cons (o := ⟨some 56, _, _, _, _, _⟩) rfl (fun K hK => ?_) (AllReadyH.nil)
                          go_simp
                          go_at_call 19
                          refine (HP2.out _ Q73 E82 BQ_82).mono ?_
                          rintro e v83 ⟨rfl, g83⟩
                          have E84 := E82.trans g83
                          have B10_84 := Blk.chg N81 g83 (by simp)
                          have B11_84 := Blk.chg B11_82 g83 (by simp)
                          have BQ_84 := Blk.chg BQ_82 g83 (by simp)
                          go_wp2_with fail
                          refine hK.out _ _ trivial (fun _ => ?_)
                          clear hK K
                          try simp only [Act.put, List.setIfInBounds_toArray, List.set_cons_zero, List.set_cons_succ]
                          refine wpAnyH_ready (rs := [14]) (by kernel_rfl) (by simp) ?_
                          refine AllReadyH.cons (o := ⟨none, _, _, _, _, _⟩) rfl (fun K hK => ?_) (AllReadyH.nil)
                          rw [if_pos (by rfl)]
                          refine wp_store_row 30 (.tmp 10) (.tmp 47) (by rfl) P81 DG (by rfl) (by rfl) 30 zero32 B10_84 HI.out HZ.out HO.out ?_
                          refine hK.out _ _ trivial (fun _ => ?_)
                          clear hK K
                          have E85 := Chg.own (b := P81) E84 (chg_setRow _ _ DG) z81
                          have S85 : Blk _ P81 DG 30 := setRow_heap _ _ _ _ _ _ B10_84
                          have O85 := Blk.chg B11_84 (chg_setRow _ P81 DG) (by simpa using (Ne.symm ne81))
                          refine wpAnyH_ready (rs := [15]) (by kernel_rfl) (by simp) ?_
                          refine AllReadyH.cons (o := ⟨none, _, _, _, _, _⟩) rfl (fun K hK => ?_) (AllReadyH.nil)
                          rw [if_pos (by rfl)]
                          refine wp_store_row 30 (.tmp 11) (.tmp 56) (by rfl) R71 DG (by rfl) (by rfl) 30 zero32 O85 HI.out HZ.out HO.out ?_
                          refine hK.out _ _ trivial (fun _ => ?_)
                          clear hK K
                          have E86 := Chg.own (b := R71) E85 (chg_setRow _ _ DG) z71
                          have S86 : Blk _ R71 DG 30 := setRow_heap _ _ _ _ _ _ O85
                          have O86 := Blk.chg S85 (chg_setRow _ R71 DG) (by simpa using ne81)
                          refine wpAnyH_done (by kernel_rfl) ?_ _
                          try simp only [Act.put]
                          go_wp2_with fail
                          go_meet
                          exact ⟨P81, R71, rfl, rfl, O86, S86, E86⟩
                  · as_aux_lemma =>
                      go_simp
                      refine hK.out _ _ trivial (fun _ => ?_)
                      clear hK K
                      try simp only [Act.put, List.setIfInBounds_toArray, List.set_cons_zero, List.set_cons_succ]
                      generalize hx87 : World.alloc v71 (Obj.cells #[Value.int IntKind.u8 0, Value.int IntKind.u8 0, Value.int IntKind.u8 0, Value.int IntKind.u8 0, Value.int IntKind.u8 0, Value.int IntKind.u8 0, Value.int IntKind.u8 0, Value.int IntKind.u8 0, Value.int IntKind.u8 0, Value.int IntKind.u8 0, Value.int IntKind.u8 0, Value.int IntKind.u8 0, Value.int IntKind.u8 0, Value.int IntKind.u8 0, Value.int IntKind.u8 0, Value.int IntKind.u8 0, Value.int IntKind.u8 0, Value.int IntKind.u8 0, Value.int IntKind.u8 0, Value.int IntKind.u8 0, Value.int IntKind.u8 0, Value.int IntKind.u8 0, Value.int IntKind.u8 0, Value.int IntKind.u8 0, Value.int IntKind.u8 0, Value.int IntKind.u8 0, Value.int IntKind.u8 0, Value.int IntKind.u8 0, Value.int IntKind.u8 0, Value.int IntKind.u8 0, Value.int IntKind.u8 0, Value.int IntKind.u8 0] 30) = v87
                      have g87 : Chg none v71 v87 := by rw [← hx87]; exact (Chg.refl _ _).alloc _
                      have N87 : Blk v87 v71.heap.size zero32 30 := by rw [← hx87]; exact Blk.new _ _ _
                      have ne87 : v71.heap.size ≠ R71 := by have := Blk.lt N71; omega
                      have E88 := E72.trans g87
                      have B11_88 := Blk.chg N71 g87 (by simp)
                      clear hx87
                      generalize hp87 : v71.heap.size = P87 at *
                      have z87 : v0.heap.size ≤ P87 := by rw [← hp87]; exact E72.size
                      clear hp87
                      refine wpAnyH_ready (rs := [10]) (by kernel_rfl) (by simp) ?_
                      refine AllReadyH.cons (o := ⟨some 55, _, _, _, _, _⟩) rfl (fun K hK => ?_) (AllReadyH.nil)
                      go_simp
                      refine hK.out _ _ trivial (fun _ => ?_)
                      clear hK K
                      try simp only [Act.put, List.setIfInBounds_toArray, List.set_cons_zero, List.set_cons_succ]
                      generalize hx89 : World.alloc v87 (Obj.cells #[Value.slice A1 n1 c1, Value.slice A2 n2 c2] 22) = v89
                      have g89 : Chg none v87 v89 := by rw [← hx89]; exact (Chg.refl _ _).alloc _
                      have N89 : Blk v89 v87.heap.size #[Value.slice A1 n1 c1, Value.slice A2 n2 c2] 22 := by rw [← hx89]; exact Blk.new _ _ _
                      have E90 := E88.trans g89
                      have B10_90 := Blk.chg N87 g89 (by simp)
                      have B11_90 := Blk.chg B11_88 g89 (by simp)
                      clear hx89
                      generalize hp89 : v87.heap.size = Q89 at *
                      have z89 : v0.heap.size ≤ Q89 := by rw [← hp89]; exact E88.size
                      clear hp89
                      refine wpAnyH_ready (rs := [11]) (by kernel_rfl) (by simp) ?_
                      refine AllReadyH.cons (o := ⟨some 56, _, _, _, _, _⟩) rfl (fun K hK => ?_) (AllReadyH.nil)
                      go_simp
                      go_at_call 19
                      refine (HP2.out _ Q89 E90 N89).mono ?_
                      rintro e v91 ⟨rfl, g91⟩
                      have E92 := E90.trans g91
                      have B10_92 := Blk.chg B10_90 g91 (by simp)
                      have B11_92 := Blk.chg B11_90 g91 (by simp)
                      have BQ_92 := Blk.chg N89 g91 (by simp)
                      go_wp2_with fail
                      refine hK.out _ _ trivial (fun _ => ?_)
                      clear hK K
                      try simp only [Act.put, List.setIfInBounds_toArray, List.set_cons_zero, List.set_cons_succ]
                      refine wpAnyH_ready (rs := [14]) (by kernel_rfl) (by simp) ?_
                      refine AllReadyH.cons (o := ⟨none, _, _, _, _, _⟩) rfl (fun K hK => ?_) (AllReadyH.nil)
                      rw [if_pos (by rfl)]
                      refine wp_store_row 30 (.tmp 10) (.tmp 47) (by rfl) P87 DG (by rfl) (by rfl) 30 zero32 B10_92 HI.out HZ.out HO.out ?_
                      refine hK.out _ _ trivial (fun _ => ?_)
                      clear hK K
                      have E93 := Chg.own (b := P87) E92 (chg_setRow _ _ DG) z87
                      have S93 : Blk _ P87 DG 30 := setRow_heap _ _ _ _ _ _ B10_92
                      have O93 := Blk.chg B11_92 (chg_setRow _ P87 DG) (by simpa using (Ne.symm ne87))
                      refine wpAnyH_ready (rs := [15]) (by kernel_rfl) (by simp) ?_
                      refine AllReadyH.cons (o := ⟨none, _, _, _, _, _⟩) rfl (fun K hK => ?_) (AllReadyH.nil)
                      rw [if_pos (by rfl)]
                      refine wp_store_row 30 (.tmp 11) (.tmp 56) (by rfl) R71 DG (by rfl) (by rfl) 30 zero32 O93 HI.out HZ.out HO.out ?_
                      refine hK.out _ _ trivial (fun _ => ?_)
                      clear hK K
                      have E94 := Chg.own (b := R71) E93 (chg_setRow _ _ DG) z71
                      have S94 : Blk _ R71 DG 30 := setRow_heap _ _ _ _ _ _ O93
                      have O94 := Blk.chg S93 (chg_setRow _ R71 DG) (by simpa using ne87)
                      refine wpAnyH_done (by kernel_rfl) ?_ _
                      try simp only [Act.put]
                      go_wp2_with fail
                      go_meet
                      exact ⟨P87, R71, rfl, rfl, O94, S94, E94⟩
          · as_aux_lemma =>
              go_simp
              refine hK.out _ _ trivial (fun _ => ?_)
              clear hK K
              try simp only [Act.put, List.setIfInBounds_toArray, List.set_cons_zero, List.set_cons_succ]
              generalize hx95 : World.alloc v0 (Obj.cells #[Value.slice A1 n1 c1, Value.slice A2 n2 c2] 22) = v95
              have g95 : Chg none v0 v95 := by rw [← hx95]; exact (Chg.refl _ _).alloc _
              have N95 : Blk v95 v0.heap.size #[Value.slice A1 n1 c1, Value.slice A2 n2 c2] 22 := by rw [← hx95]; exact Blk.new _ _ _
              have E96 := E0.trans g95
              clear hx95
              generalize hp95 : v0.heap.size = Q95 at *
              have z95 : v0.heap.size ≤ Q95 := by rw [← hp95]; exact E0.size
              clear hp95
              refine wpAnyH_ready (rs := [2, 12, 13]) (by kernel_rfl) (by simp) ?_
              refine AllReadyH.cons (o := ⟨some 47, _, _, _, _, _⟩) rfl (fun K hK => ?_) (AllReadyH.cons (o := ⟨some 10, _, _, _, _, _⟩) rfl (fun K hK => ?_) (AllReadyH.cons (o := ⟨some 11, _, _, _, _, _⟩) rfl (fun K hK => ?_) (AllReadyH.nil)))
              · as_aux_lemma =>
                  go_simp
                  go_at_call 19
                  refine (HP1.out _ E96).mono ?_
                  rintro e v97 ⟨rfl, g97⟩
                  have E98 := E96.trans g97
                  have BQ_98 := Blk.chg N95 g97 (by simp)
                  go_wp2_with fail
                  refine hK.out _ _ trivial (fun _ => ?_)
                  clear hK K
                  try simp only [Act.put, List.setIfInBounds_toArray, List.set_cons_zero, List.set_cons_succ]
                  refine wpAnyH_ready (rs := [11, 12, 13]) (by kernel_rfl) (by simp) ?_
                  refine AllReadyH.cons (o := ⟨some 56, _, _, _, _, _⟩) rfl (fun K hK => ?_) (AllReadyH.cons (o := ⟨some 10, _, _, _, _, _⟩) rfl (fun K hK => ?_) (AllReadyH.cons (o := ⟨some 11, _, _, _, _, _⟩) rfl (fun K hK => ?_) (AllReadyH.nil)))
                  · as_aux_lemma =>
                      go_simp
                      go_at_call 19
                      refine (HP2.out _ Q95 E98 BQ_98).mono ?_
                      rintro e v99 ⟨rfl, g99⟩
                      have E100 := E98.trans g99
                      have BQ_100 := Blk.chg BQ_98 g99 (by simp)
                      go_wp2_with fail
                      refine hK.out _ _ trivial (fun _ => ?_)
                      clear hK K
                      try simp only [Act.put, List.setIfInBounds_toArray, List.set_cons_zero, List.set_cons_succ]
                      refine wpAnyH_ready (rs := [12, 13]) (by kernel_rfl) (by simp) ?_
                      refine AllReadyH.cons (o := ⟨some 10, _, _, _, _, _⟩) rfl (fun K hK => ?_) (AllReadyH.cons (o := ⟨some 11, _, _, _, _, _⟩) rfl (fun K hK => ?_) (AllReadyH.nil))
                      · as_aux_lemma =>
                          go_simp
                          refine hK.out _ _ trivial (fun _ => ?_)
                          clear hK K
                          try simp only [Act.put, List.setIfInBounds_toArray, List.set_cons_zero, List.set_cons_succ]
                          generalize hx101 : World.alloc v99 (Obj.cells #[Value.int IntKind.u8 0, Value.int IntKind.u8 0, Value.int IntKind.u8 0, Value.int IntKind.u8 0, Value.int IntKind.u8 0, Value.int IntKind.u8 0, Value.int IntKind.u8 0, Value.int IntKind.u8 0, Value.int IntKind.u8 0, Value.int IntKind.u8 0, Value.int IntKind.u8 0, Value.int IntKind.u8 0, Value.int IntKind.u8 0, Value.int IntKind.u8 0, Value.int IntKind.u8 0, Value.int IntKind.u8 0, Value.int IntKind.u8 0, Value.int IntKind.u8 0, Value.int IntKind.u8 0, Value.int IntKind.u8 0, Value.int IntKind.u8 0, Value.int IntKind.u8 0, Value.int IntKind.u8 0, Value.int IntKind.u8 0, Value.int IntKind.u8 0, Value.int IntKind.u8 0, Value.int IntKind.u8 0, Value.int IntKind.u8 0, Value.int IntKind.u8 0, Value.int IntKind.u8 0, Value.int IntKind.u8 0, Value.int IntKind.u8 0] 30) = v101
                          have g101 : Chg none v99 v101 := by rw [← hx101]; exact (Chg.refl _ _).alloc _
                          have N101 : Blk v101 v99.heap.size zero32 30 := by rw [← hx101]; exact Blk.new _ _ _
                          have E102 := E100.trans g101
                          have BQ_102 := Blk.chg BQ_100 g101 (by simp)
                          clear hx101
                          generalize hp101 : v99.heap.size = P101 at *
                          have z101 : v0.heap.size ≤ P101 := by rw [← hp101]; exact E100.size
                          clear hp101
                          refine wpAnyH_ready (rs := [13]) (by kernel_rfl) (by simp) ?_
                          refine AllReadyH.cons (o := ⟨some 11, _, _, _, _, _⟩) rfl (fun K hK => ?_) (AllReadyH.nil)
                          go_simp
                          refine hK.out _ _ trivial (fun _ => ?_)
                          clear hK K
                          try simp only [Act.put, List.setIfInBounds_toArray, List.set_cons_zero, List.set_cons_succ]
                          generalize hx103 : World.alloc v101 (Obj.cells #[Value.int IntKind.u8 0, Value.int IntKind.u8 0, Value.int IntKind.u8 0, Value.int IntKind.u8 0, Value.int IntKind.u8 0, Value.int IntKind.u8 0, Value.int IntKind.u8 0, Value.int IntKind.u8 0, Value.int IntKind.u8 0, Value.int IntKind.u8 0, Value.int IntKind.u8 0, Value.int IntKind.u8 0, Value.int IntKind.u8 0, Value.int IntKind.u8 0, Value.int IntKind.u8 0, Value.int IntKind.u8 0, Value.int IntKind.u8 0, Value.int IntKind.u8 0, Value.int IntKind.u8 0, Value.int IntKind.u8 0, Value.int IntKind.u8 0, Value.int IntKind.u8 0, Value.int IntKind.u8 0, Value.int IntKind.u8 0, Value.int IntKind.u8 0, Value.int IntKind.u8 0, Value.int IntKind.u8 0, Value.int IntKind.u8 0, Value.int IntKind.u8 0, Value.int IntKind.u8 0, Value.int IntKind.u8 0, Value.int IntKind.u8 0] 30) = v103
                          have g103 : Chg none v101 v103 := by rw [← hx103]; exact (Chg.refl _ _).alloc _
                          have N103 : Blk v103 v101.heap.size zero32 30 := by rw [← hx103]; exact Blk.new _ _ _
                          have ne103 : v101.heap.size ≠ P101 := by have := Blk.lt N101; omega
                          have E104 := E102.trans g103
                          have B10_104 := Blk.chg N101 g103 (by simp)
                          have BQ_104 := Blk.chg BQ_102 g103 (by simp)
                          clear hx103
                          generalize hp103 : v101.heap.size = R103 at *
                          have z103 : v0.heap.size ≤ R103 := by rw [← hp103]; exact E102.size
                          clear hp103
                          refine wpAnyH_ready (rs := [14]) (by kernel_rfl) (by simp) ?_
                          refine AllReadyH.cons (o := ⟨none, _, _, _, _, _⟩) rfl (fun K hK => ?_) (AllReadyH.nil)
                          rw [if_pos (by rfl)]
                          refine wp_store_row 30 (.tmp 10) (.tmp 47) (by rfl) P101 DG (by rfl) (by rfl) 30 zero32 B10_104 HI.out HZ.out HO.out ?_
                          refine hK.out _ _ trivial (fun _ => ?_)
                          clear hK K
                          have E105 := Chg.own (b := P101) E104 (chg_setRow _ _ DG) z101
                          have S105 : Blk _ P101 DG 30 := setRow_heap _ _ _ _ _ _ B10_104
                          have O105 := Blk.chg N103 (chg_setRow _ P101 DG) (by simpa using ne103)
                          refine wpAnyH_ready (rs := [15]) (by kernel_rfl) (by simp) ?_
                          refine AllReadyH.cons (o := ⟨none, _, _, _, _, _⟩) rfl (fun K hK => ?_) (AllReadyH.nil)
                          rw [if_pos (by rfl)]
                          refine wp_store_row 30 (.tmp 11) (.tmp 56) (by rfl) R103 DG (by rfl) (by rfl) 30 zero32 O105 HI.out HZ.out HO.out ?_
                          refine hK.out _ _ trivial (fun _ => ?_)
                          clear hK K
                          have E106 := Chg.own (b := R103) E105 (chg_setRow _ _ DG) z103
                          have S106 : Blk _ R103 DG 30 := setRow_heap _ _ _ _ _ _ O105
                          have O106 := Blk.chg S105 (chg_setRow _ R103 DG) (by simpa using (Ne.symm ne103))
                          refine wpAnyH_done (by kernel_rfl) ?_ _
                          try simp only [Act.put]
                          go_wp2_with fail
                          go_meet
                          exact ⟨P101, R103, rfl, rfl, O106, S106, E106⟩
                      · as_aux_lemma =>
                          go_simp
                          refine hK.out _ _ trivial (fun _ => ?_)
                          clear hK K
                          try simp only [Act.put, List.setIfInBounds_toArray, List.set_cons_zero, List.set_cons_succ]
                          generalize hx107 : World.alloc v99 (Obj.cells #[Value.int IntKind.u8 0, Value.int IntKind.u8 0, Value.int IntKind.u8 0, Value.int IntKind.u8 0, Value.int IntKind.u8 0, Value.int IntKind.u8 0, Value.int IntKind.u8 0, Value.int IntKind.u8 0, Value.int IntKind.u8 0, Value.int IntKind.u8 0, Value.int IntKind.u8 0, Value.int IntKind.u8 0, Value.int IntKind.u8 0, Value.int IntKind.u8 0, Value.int IntKind.u8 0, Value.int IntKind.u8 0, Value.int IntKind.u8 0, Value.int IntKind.u8 0, Value.int IntKind.u8 0, Value.int IntKind.u8 0, Value.int IntKind.u8 0, Value.int IntKind.u8 0, Value.int IntKind.u8 0, Value.int IntKind.u8 0, Value.int IntKind.u8 0, Value.int IntKind.u8 0, Value.int IntKind.u8 0, Value.int IntKind.u8 0, Value.int IntKind.u8 0, Value.int IntKind.u8 0, Value.int IntKind.u8 0, Value.int IntKind.u8 0] 30) = v107
                          have g107 : Chg none v99 v107 := by rw [← hx107]; exact (Chg.refl _ _).alloc _
                          have N107 : Blk v107 v99.heap.size zero32 30 := by rw [← hx107]; exact Blk.new _ _ _
                          have E108 := E100.trans g107
                          have BQ_108 := Blk.chg BQ_100 g107 (by simp)
                          clear hx107
                          generalize hp107 : v99.heap.size = R107 at *
                          have z107 : v0.heap.size ≤ R107 := by rw [← hp107]; exact E100.size
                          clear hp107
                          refine wpAnyH_ready (rs := [12]) (by kernel_rfl) (by simp) ?_
                          refine AllReadyH.cons (o := ⟨some 10, _, _, _, _, _⟩) rfl (fun K hK => ?_) (AllReadyH.nil)
                          go_simp
                          refine hK.out _ _ trivial (fun _ => ?_)
                          clear hK K
                          try simp only [Act.put, List.setIfInBounds_toArray, List.set_cons_zero, List.set_cons_succ]
                          generalize hx109 : World.alloc v107 (Obj.cells #[Value.int IntKind.u8 0, Value.int IntKind.u8 0, Value.int IntKind.u8 0, Value.int IntKind.u8 0, Value.int IntKind.u8 0, Value.int IntKind.u8 0, Value.int IntKind.u8 0, Value.int IntKind.u8 0, Value.int IntKind.u8 0, Value.int IntKind.u8 0, Value.int IntKind.u8 0, Value.int IntKind.u8 0, Value.int IntKind.u8 0, Value.int IntKind.u8 0, Value.int IntKind.u8 0, Value.int IntKind.u8 0, Value.int IntKind.u8 0, Value.int IntKind.u8 0, Value.int IntKind.u8 0, Value.int IntKind.u8 0, Value.int IntKind.u8 0, Value.int IntKind.u8 0, Value.int IntKind.u8 0, Value.int IntKind.u8 0, Value.int IntKind.u8 0, Value.int IntKind.u8 0, Value.int IntKind.u8 0, Value.int IntKind.u8 0, Value.int IntKind.u8 0, Value.int IntKind.u8 0, Value.int IntKind.u8 0, Value.int IntKind.u8 0] 30) = v109
                          have g109 : Chg none v107 v109 := by rw [← hx109]; exact (Chg.refl _ _).alloc _
                          have N109 : Blk v109 v107.heap.size zero32 30 := by rw [← hx109]; exact Blk.new _ _ _
                          have ne109 : v107.heap.size ≠ R107 := by have := Blk.lt N107; omega
                          have E110 := E108.trans g109
                          have B11_110 := Blk.chg N107 g109 (by simp)
                          have BQ_110 := Blk.chg BQ_108 g109 (by simp)
                          clear hx109
                          generalize hp109 : v107.heap.size = P109 at *
                          have z109 : v0.heap.size ≤ P109 := by rw [← hp109]; exact E108.size
                          clear hp109
                          refine wpAnyH_ready (rs := [14]) (by kernel_rfl) (by simp) ?_
                          refine AllReadyH.cons (o := ⟨none, _, _, _, _, _⟩) rfl (fun K hK => ?_) (AllReadyH.nil)
                          rw [if_pos (by rfl)]
                          refine wp_store_row 30 (.tmp 10) (.tmp 47) (by rfl) P109 DG (by rfl) (by rfl) 30 zero32 N109 HI.out HZ.out HO.out ?_
                          refine hK.out _ _ trivial (fun _ => ?_)
                          clear hK K
                          have E111 := Chg.own (b := P109) E110 (chg_setRow _ _ DG) z109
                          have S111 : Blk _ P109 DG 30 := setRow_heap _ _ _ _ _ _ N109
                          have O111 := Blk.chg B11_110 (chg_setRow _ P109 DG) (by simpa using (Ne.symm ne109))
                          refine wpAnyH_ready (rs := [15]) (by kernel_rfl) (by simp) ?_
                          refine AllReadyH.cons (o := ⟨none, _, _, _, _, _⟩) rfl (fun K hK => ?_) (AllReadyH.nil)
                          rw [if_pos (by rfl)]
                          refine wp_store_row 30 (.tmp 11) (.tmp 56) (by rfl) R107 DG (by rfl) (by rfl) 30 zero32 O111 HI.out HZ.out HO.out ?_
                          refine hK.out _ _ trivial (fun _ => ?_)
                          clear hK K
                          have E112 := Chg.own (b := R107) E111 (chg_setRow _ _ DG) z107
                          have S112 : Blk _ R107 DG 30 := setRow_heap _ _ _ _ _ _ O111
                          have O112 := Blk.chg S111 (chg_setRow _ R107 DG) (by simpa using ne109)
                          refine wpAnyH_done (by kernel_rfl) ?_ _
                          try simp only [Act.put]
                          go_wp2_with fail
                          go_meet
                          exact ⟨P109, R107, rfl, rfl, O112, S112, E112⟩
                  · as_aux_lemma =>
                      go_simp
                      refine hK.out _ _ trivial (fun _ => ?_)
                      clear hK K
                      try simp only [Act.put, List.setIfInBounds_toArray, List.set_cons_zero, List.set_cons_succ]
                      generalize hx113 : World.alloc v97 (Obj.cells #[Value.int IntKind.u8 0, Value.int IntKind.u8 0, Value.int IntKind.u8 0, Value.int IntKind.u8 0, Value.int IntKind.u8 0, Value.int IntKind.u8 0, Value.int IntKind.u8 0, Value.int IntKind.u8 0, Value.int IntKind.u8 0, Value.int IntKind.u8 0, Value.int IntKind.u8 0, Value.int IntKind.u8 0, Value.int IntKind.u8 0, Value.int IntKind.u8 0, Value.int IntKind.u8 0, Value.int IntKind.u8 0, Value.int IntKind.u8 0, Value.int IntKind.u8 0, Value.int IntKind.u8 0, Value.int IntKind.u8 0, Value.int IntKind.u8 0, Value.int IntKind.u8 0, Value.int IntKind.u8 0, Value.int IntKind.u8 0, Value.int IntKind.u8 0, Value.int IntKind.u8 0, Value.int IntKind.u8 0, Value.int IntKind.u8 0, Value.int IntKind.u8 0, Value.int IntKind.u8 0, Value.int IntKind.u8 0, Value.int IntKind.u8 0] 30) = v113
                      have g113 : Chg none v97 v113 := by rw [← hx113]; exact (Chg.refl _ _).alloc _
                      have N113 : Blk v113 v97.heap.size zero32 30 := by rw [← hx113]; exact Blk.new _ _ _
                      have E114 := E98.trans g113
                      have BQ_114 := Blk.chg BQ_98 g113 (by simp)
                      clear hx113
                      generalize hp113 : v97.heap.size = P113 at *
                      have z113 : v0.heap.size ≤ P113 := by rw [← hp113]; exact E98.size
                      clear hp113
                      refine wpAnyH_ready (rs := [11, 13]) (by kernel_rfl) (by simp) ?_
                      refine AllReadyH.cons (o := ⟨some 56, _, _, _, _, _⟩) rfl (fun K hK => ?_) (AllReadyH.cons (o := ⟨some 11, _, _, _, _, _⟩) rfl (fun K hK => ?_) (AllReadyH.nil))
                      · as_aux_lemma =>
                          go_simp
                          go_at_call 19
                          refine (HP2.out _ Q95 E114 BQ_114).mono ?_
                          rintro e v115 ⟨rfl, g115⟩
                          have E116 := E114.trans g115
                          have B10_116 := Blk.chg N113 g115 (by simp)
                          have BQ_116 := Blk.chg BQ_114 g115 (by simp)
                          go_wp2_with fail
                          refine hK.out _ _ trivial (fun _ => ?_)
                          clear hK K
                          try simp only [Act.put, List.setIfInBounds_toArray, List.set_cons_zero, List.set_cons_succ]
                          refine wpAnyH_ready (rs := [13]) (by kernel_rfl) (by simp) ?_
                          refine AllReadyH.cons (o := ⟨some 11, _, _, _, _, _⟩) rfl (fun K hK => ?_) (AllReadyH.nil)
                          go_simp
                          refine hK.out _ _ trivial (fun _ => ?_)
                          clear hK K
                          try simp only [Act.put, List.setIfInBounds_toArray, List.set_cons_zero, List.set_cons_succ]
                          generalize hx117 : World.alloc v115 (Obj.cells #[Value.int IntKind.u8 0, Value.int IntKind.u8 0, Value.int IntKind.u8 0, Value.int IntKind.u8 0, Value.int IntKind.u8 0, Value.int IntKind.u8 0, Value.int IntKind.u8 0, Value.int IntKind.u8 0, Value.int IntKind.u8 0, Value.int IntKind.u8 0, Value.int IntKind.u8 0, Value.int IntKind.u8 0, Value.int IntKind.u8 0, Value.int IntKind.u8 0, Value.int IntKind.u8 0, Value.int IntKind.u8 0, Value.int IntKind.u8 0, Value.int IntKind.u8 0, Value.int IntKind.u8 0, Value.int IntKind.u8 0, Value.int IntKind.u8 0, Value.int IntKind.u8 0, Value.int IntKind.u8 0, Value.int IntKind.u8 0, Value.int IntKind.u8 0, Value.int IntKind.u8 0, Value.int IntKind.u8 0, Value.int IntKind.u8 0, Value.int IntKind.u8 0, Value.int IntKind.u8 0, Value.int IntKind.u8 0, Value.int IntKind.u8 0] 30) = v117
                          have g117 : Chg none v115 v117 := by rw [← hx117]; exact (Chg.refl _ _).alloc _
                          have N117 : Blk v117 v115.heap.size zero32 30 := by rw [← hx117]; exact Blk.new _ _ _
                          have ne117 : v115.heap.size ≠ P113 := by have := Blk.lt B10_116; omega
                          have E118 := E116.trans g117
                          have B10_118 := Blk.chg B10_116 g117 (by simp)
                          have BQ_118 := Blk.chg BQ_116 g117 (by simp)
                          clear hx117
                          generalize hp117 : v115.heap.size = R117 at *
                          have z117 : v0.heap.size ≤ R117 := by rw [← hp117]; exact E116.size
                          clear hp117
                          refine wpAnyH_ready (rs := [14]) (by kernel_rfl) (by simp) ?_
                          refine AllReadyH.cons (o := ⟨none, _, _, _, _, _⟩) rfl (fun K hK => ?_) (AllReadyH.nil)
                          rw [if_pos (by rfl)]
                          refine wp_store_row 30 (.tmp 10) (.tmp 47) (by rfl) P113 DG (by rfl) (by rfl) 30 zero32 B10_118 HI.out HZ.out HO.out ?_
                          refine hK.out _ _ trivial (fun _ => ?_)
                          clear hK K
                          have E119 := Chg.own (b := P113) E118 (chg_setRow _ _ DG) z113
                          have S119 : Blk _ P113 DG 30 := setRow_heap _ _ _ _ _ _ B10_118
                          have O119 := Blk.chg N117 (chg_setRow _ P113 DG) (by simpa using ne117)
                          refine wpAnyH_ready (rs := [15]) (by kernel_rfl) (by simp) ?_
                          refine AllReadyH.cons (o := ⟨none, _, _, _, _, _⟩) rfl (fun K hK => ?_) (AllReadyH.nil)
                          rw [if_pos (by rfl)]
                          refine wp_store_row 30 (.tmp 11) (.tmp 56) (by rfl) R117 DG (by rfl) (by rfl) 30 zero32 O119 HI.out HZ.out HO.out ?_
                          refine hK.out _ _ trivial (fun _ => ?_)
                          clear hK K
                          have E120 := Chg.own (b := R117) E119 (chg_setRow _ _ DG) z117
                          have S120 : Blk _ R117 DG 30 := setRow_heap _ _ _ _ _ _ O119
                          have O120 := Blk.chg S119 (chg_setRow _ R117 DG) (by simpa using (Ne.symm ne117))
                          refine wpAnyH_done (by kernel_rfl) ?_ _
                          try simp only [Act.put]
                          go_wp2_with fail
                          go_meet
                          exact ⟨P113, R117, rfl, rfl, O120, S120, E120⟩
                      · as_aux_lemma =>
                          go_simp
                          refine hK.out _ _ trivial (fun _ => ?_)
                          clear hK K
                          try simp only [Act.put, List.setIfInBounds_toArray, List.set_cons_zero, List.set_cons_succ]
                          generalize hx121 : World.alloc v113 (Obj.cells #[Value.int IntKind.u8 0, Value.int IntKind.u8 0, Value.int IntKind.u8 0, Value.int IntKind.u8 0, Value.int IntKind.u8 0, Value.int IntKind.u8 0, Value.int IntKind.u8 0, Value.int IntKind.u8 0, Value.int IntKind.u8 0, Value.int IntKind.u8 0, Value.int IntKind.u8 0, Value.int IntKind.u8 0, Value.int IntKind.u8 0, Value.int IntKind.u8 0, Value.int IntKind.u8 0, Value.int IntKind.u8 0, Value.int IntKind.u8 0, Value.int IntKind.u8 0, Value.int IntKind.u8 0, Value.int IntKind.u8 0, Value.int IntKind.u8 0, Value.int IntKind.u8 0, Value.int IntKind.u8 0, Value.int IntKind.u8 0, Value.int IntKind.u8 0, Value.int IntKind.u8 0, Value.int IntKind.u8 0, Value.int IntKind.u8 0, Value.int IntKind.u8 0, Value.int IntKind.u8 0, Value.int IntKind.u8 0, Value.int IntKind.u8 0] 30) = v121
                          have g121 : Chg none v113 v121 := by rw [← hx121]; exact (Chg.refl _ _).alloc _
                          have N121 : Blk v121 v113.heap.size zero32 30 := by rw [← hx121]; exact Blk.new _ _ _
                          have ne121 : v113.heap.size ≠ P113 := by have := Blk.lt N113; omega
                          have E122 := E114.trans g121
                          have B10_122 := Blk.chg N113 g121 (by simp)
                          have BQ_122 := Blk.chg BQ_114 g121 (by simp)
                          clear hx121
                          generalize hp121 : v113.heap.size = R121 at *
                          have z121 : v0.heap.size ≤ R121 := by rw [← hp121]; exact E114.size
                          clear hp121
                          refine wpAnyH_ready (rs := [11]) (by kernel_rfl) (by simp) ?_
                          refine AllReadyH.cons (o := ⟨some 56, _, _, _, _, _⟩) rfl (fun K hK => ?_) (AllReadyH.nil)
                          go_simp
                          go_at_call 19
                          refine (HP2.out _ Q95 E122 BQ_122).mono ?_
                          rintro e v123 ⟨rfl, g123⟩
                          have E124 := E122.trans g123
                          have B10_124 := Blk.chg B10_122 g123 (by simp)
                          have B11_124 := Blk.chg N121 g123 (by simp)
                          have BQ_124 := Blk.chg BQ_122 g123 (by simp)
                          go_wp2_with fail
                          refine hK.out _ _ trivial (fun _ => ?_)
                          clear hK K
                          try simp only [Act.put, List.setIfInBounds_toArray, List.set_cons_zero, List.set_cons_succ]
                          refine wpAnyH_ready (rs := [14]) (by kernel_rfl) (by simp) ?_
                          refine AllReadyH.cons (o := ⟨none, _, _, _, _, _⟩) rfl (fun K hK => ?_) (AllReadyH.nil)
                          rw [if_pos (by rfl)]
                          refine wp_store_row 30 (.tmp 10) (.tmp 47) (by rfl) P113 DG (by rfl) (by rfl) 30 zero32 B10_124 HI.out HZ.out HO.out ?_
                          refine hK.out _ _ trivial (fun _ => ?_)
                          clear hK K
                          have E125 := Chg.own (b := P113) E124 (chg_setRow _ _ DG) z113
                          have S125 : Blk _ P113 DG 30 := setRow_heap _ _ _ _ _ _ B10_124
                          have O125 := Blk.chg B11_124 (chg_setRow _ P113 DG) (by simpa using ne121)
                          refine wpAnyH_ready (rs := [15]) (by kernel_rfl) (by simp) ?_
                          refine AllReadyH.cons (o := ⟨none, _, _, _, _, _⟩) rfl (fun K hK => ?_) (AllReadyH.nil)
                          rw [if_pos (by rfl)]
                          refine wp_store_row 30 (.tmp 11) (.tmp 56) (by rfl) R121 DG (by rfl) (by rfl) 30 zero32 O125 HI.out HZ.out HO.out ?_
                          refine hK.out _ _ trivial (fun _ => ?_)
                          clear hK K
                          have E126 := Chg.own (b := R121) E125 (chg_setRow _ _ DG) z121
                          have S126 : Blk _ R121 DG 30 := setRow_heap _ _ _ _ _ _ O125
                          have O126 := Blk.chg S125 (chg_setRow _ R121 DG) (by simpa using (Ne.symm ne121))
                          refine wpAnyH_done (by kernel_rfl) ?_ _
                          try simp only [Act.put]
                          go_wp2_with fail
                          go_meet
                          exact ⟨P113, R121, rfl, rfl, O126, S126, E126⟩
                  · as_aux_lemma =>
                      go_simp
                      refine hK.out _ _ trivial (fun _ => ?_)
                      clear hK K
                      try simp only [Act.put, List.setIfInBounds_toArray, List.set_cons_zero, List.set_cons_succ]
                      generalize hx127 : World.alloc v97 (Obj.cells #[Value.int IntKind.u8 0, Value.int IntKind.u8 0, Value.int IntKind.u8 0, Value.int IntKind.u8 0, Value.int IntKind.u8 0, Value.int IntKind.u8 0, Value.int IntKind.u8 0, Value.int IntKind.u8 0, Value.int IntKind.u8 0, Value.int IntKind.u8 0, Value.int IntKind.u8 0, Value.int IntKind.u8 0, Value.int IntKind.u8 0, Value.int IntKind.u8 0, Value.int IntKind.u8 0, Value.int IntKind.u8 0, Value.int IntKind.u8 0, Value.int IntKind.u8 0, Value.int IntKind.u8 0, Value.int IntKind.u8 0, Value.int IntKind.u8 0, Value.int IntKind.u8 0, Value.int IntKind.u8 0, Value.int IntKind.u8 0, Value.int IntKind.u8 0, Value.int IntKind.u8 0, Value.int IntKind.u8 0, Value.int IntKind.u8 0, Value.int IntKind.u8 0, Value.int IntKind.u8 0, Value.int IntKind.u8 0, Value.int IntKind.u8 0] 30) = v127
                      have g127 : Chg none v97 v127 := by rw [← hx127]; exact (Chg.refl _ _).alloc _
                      have N127 : Blk v127 v97.heap.size zero32 30 := by rw [← hx127]; exact Blk.new _ _ _
                      have E128 := E98.trans g127
                      have BQ_128 := Blk.chg BQ_98 g127 (by simp)
                      clear hx127
                      generalize hp127 : v97.heap.size = R127 at *
                      have z127 : v0.heap.size ≤ R127 := by rw [← hp127]; exact E98.size
                      clear hp127
                      refine wpAnyH_ready (rs := [11, 12]) (by kernel_rfl) (by simp) ?_
                      refine AllReadyH.cons (o := ⟨some 56, _, _, _, _, _⟩) rfl (fun K hK => ?_) (AllReadyH.cons (o := ⟨some 10, _, _, _, _, _⟩) rfl (fun K hK => ?_) (AllReadyH.nil))
                      · as_aux_lemma =>
                          go_simp
                          go_at_call 19
                          refine (HP2.out _ Q95 E128 BQ_128).mono ?_
                          rintro e v129 ⟨rfl, g129⟩
                          have E130 := E128.trans g129
                          have B11_130 := Blk.chg N127 g129 (by simp)
                          have BQ_130 := Blk.chg BQ_128 g129 (by simp)
                          go_wp2_with fail
                          refine hK.out _ _ trivial (fun _ => ?_)
                          clear hK K
                          try simp only [Act.put, List.setIfInBounds_toArray, List.set_cons_zero, List.set_cons_succ]
                          refine wpAnyH_ready (rs := [12]) (by kernel_rfl) (by simp) ?_
                          refine AllReadyH.cons (o := ⟨some 10, _, _, _, _, _⟩) rfl (fun K hK => ?_) (AllReadyH.nil)
                          go_simp
                          refine hK.out _ _ trivial (fun _ => ?_)
                          clear hK K
                          try simp only [Act.put, List.setIfInBounds_toArray, List.set_cons_zero, List.set_cons_succ]
                          generalize hx131 : World.alloc v129 (Obj.cells #[Value.int IntKind.u8 0, Value.int IntKind.u8 0, Value.int IntKind.u8 0, Value.int IntKind.u8 0, Value.int IntKind.u8 0, Value.int IntKind.u8 0, Value.int IntKind.u8 0, Value.int IntKind.u8 0, Value.int IntKind.u8 0, Value.int IntKind.u8 0, Value.int IntKind.u8 0, Value.int IntKind.u8 0, Value.int IntKind.u8 0, Value.int IntKind.u8 0, Value.int IntKind.u8 0, Value.int IntKind.u8 0, Value.int IntKind.u8 0, Value.int IntKind.u8 0, Value.int IntKind.u8 0, Value.int IntKind.u8 0, Value.int IntKind.u8 0, Value.int IntKind.u8 0, Value.int IntKind.u8 0, Value.int IntKind.u8 0, Value.int IntKind.u8 0, Value.int IntKind.u8 0, Value.int IntKind.u8 0, Value.int IntKind.u8 0, Value.int IntKind.u8 0, Value.int IntKind.u8 0, Value.int IntKind.u8 0, Value.int IntKind.u8 0] 30) = v131
                          have g131 : Chg none v129 v131 := by rw [← hx131]; exact (Chg.refl _ _).alloc _
                          have N131 : Blk v131 v129.heap.size zero32 30 := by rw [← hx131]; exact Blk.new _ _ _
                          have ne131 : v129.heap.size ≠ R127 := by have := Blk.lt B11_130; omega
                          have E132 := E130.trans g131
                          have B11_132 := Blk.chg B11_130 g131 (by simp)
                          have BQ_132 := Blk.chg BQ_130 g131 (by simp)
                          clear hx131
                          generalize hp131 : v129.heap.size = P131 at *
                          have z131 : v0.heap.size ≤ P131 := by rw [← hp131]; exact E130.size
                          clear hp131
                          refine wpAnyH_ready (rs := [14]) (by kernel_rfl) (by simp) ?_
                          refine AllReadyH.cons (o := ⟨none, _, _, _, _, _⟩) rfl (fun K hK => ?_) (AllReadyH.nil)
                          rw [if_pos (by rfl)]
                          refine wp_store_row 30 (.tmp 10) (.tmp 47) (by rfl) P131 DG (by rfl) (by rfl) 30 zero32 N131 HI.out HZ.out HO.out ?_
                          refine hK.out _ _ trivial (fun _ => ?_)
                          clear hK K
                          have E133 := Chg.own (b := P131) E132 (chg_setRow _ _ DG) z131
                          have S133 : Blk _ P131 DG 30 := setRow_heap _ _ _ _ _ _ N131
                          have O133 := Blk.chg B11_132 (chg_setRow _ P131 DG) (by simpa using (Ne.symm ne131))
                          refine wpAnyH_ready (rs := [15]) (by kernel_rfl) (by simp) ?_
                          refine AllReadyH.cons (o := ⟨none, _, _, _, _, _⟩) rfl (fun K hK => ?_) (AllReadyH.nil)
                          rw [if_pos (by rfl)]
                          refine wp_store_row 30 (.tmp 11) (.tmp 56) (by rfl) R127 DG (by rfl) (by rfl) 30 zero32 O133 HI.out HZ.out HO.out ?_
                          refine hK.out _ _ trivial (fun _ => ?_)
                          clear hK K
                          have E134 := Chg.own (b := R127) E133 (chg_setRow _ _ DG) z127
                          have S134 : Blk _ R127 DG 30 := setRow_heap _ _ _ _ _ _ O133
                          have O134 := Blk.chg S133 (chg_setRow _ R127 DG) (by simpa using ne131)
                          refine wpAnyH_done (by kernel_rfl) ?_ _
                          try simp only [Act.put]
                          go_wp2_with fail
                          go_meet
                          exact ⟨P131, R127, rfl, rfl, O134, S134, E134⟩
                      · as_aux_lemma =>
                          go_simp
                          refine hK.out _ _ trivial (fun _ => ?_)
                          clear hK K
                          try simp only [Act.put, List.setIfInBounds_toArray, List.set_cons_zero, List.set_cons_succ]
                          generalize hx135 : World.alloc v127 (Obj.cells #[Value.int IntKind.u8 0, Value.int IntKind.u8 0, Value.int IntKind.u8 0, Value.int IntKind.u8 0, Value.int IntKind.u8 0, Value.int IntKind.u8 0, Value.int IntKind.u8 0, Value.int IntKind.u8 0, Value.int IntKind.u8 0, Value.int IntKind.u8 0, Value.int IntKind.u8 0, Value.int IntKind.u8 0, Value.int IntKind.u8 0, Value.int IntKind.u8 0, Value.int IntKind.u8 0, Value.int IntKind.u8 0, Value.int IntKind.u8 0, Value.int IntKind.u8 0, Value.int IntKind.u8 0, Value.int IntKind.u8 0, Value.int IntKind.u8 0, Value.int IntKind.u8 0, Value.int IntKind.u8 0, Value.int IntKind.u8 0, Value.int IntKind.u8 0, Value.int IntKind.u8 0, Value.int IntKind.u8 0, Value.int IntKind.u8 0, Value.int IntKind.u8 0, Value.int IntKind.u8 0, Value.int IntKind.u8 0, Value.int IntKind.u8 0] 30) = v135
                          have g135 : Chg none v127 v135 := by rw [← hx135]; exact (Chg.refl _ _).alloc _
                          have N135 : Blk v135 v127.heap.size zero32 30 := by rw [← hx135]; exact Blk.new _ _ _
                          have ne135 : v127.heap.size ≠ R127 := by have := Blk.lt N127; omega
                          have E136 := E128.trans g135
                          have B11_136 := Blk.chg N127 g135 (by simp)
                          have BQ_136 := Blk.chg BQ_128 g135 (by simp)
                          clear hx135
                          generalize hp135 : v127.heap.size = P135 at *
                          have z135 : v0.heap.size ≤ P135 := by rw [← hp135]; exact E128.size
                          clear hp135
                          refine wpAnyH_ready (rs := [11]) (by kernel_rfl) (by simp) ?_
                          refine AllReadyH.cons (o := ⟨some 56, _, _, _, _, _⟩) rfl (fun K hK => ?_) (AllReadyH.nil)
                          go_simp
                          go_at_call 19
                          refine (HP2.out _ Q95 E136 BQ_136).mono ?_
                          rintro e v137 ⟨rfl, g137⟩
                          have E138 := E136.trans g137
                          have B10_138 := Blk.chg N135 g137 (by simp)
                          have B11_138 := Blk.chg B11_136 g137 (by simp)
                          have BQ_138 := Blk.chg BQ_136 g137 (by simp)
                          go_wp2_with fail
                          refine hK.out _ _ trivial (fun _ => ?_)
                          clear hK K
                          try simp only [Act.put, List.setIfInBounds_toArray, List.set_cons_zero, List.set_cons_succ]
                          refine wpAnyH_ready (rs := [14]) (by kernel_rfl) (by simp) ?_
                          refine AllReadyH.cons (o := ⟨none, _, _, _, _, _⟩) rfl (fun K hK => ?_) (AllReadyH.nil)
                          rw [if_pos (by rfl)]
                          refine wp_store_row 30 (.tmp 10) (.tmp 47) (by rfl) P135 DG (by rfl) (by rfl) 30 zero32 B10_138 HI.out HZ.out HO.out ?_
                          refine hK.out _ _ trivial (fun _ => ?_)
                          clear hK K
                          have E139 := Chg.own (b := P135) E138 (chg_setRow _ _ DG) z135
                          have S139 : Blk _ P135 DG 30 := setRow_heap _ _ _ _ _ _ B10_138
                          have O139 := Blk.chg B11_138 (chg_setRow _ P135 DG) (by simpa using (Ne.symm ne135))
                          refine wpAnyH_ready (rs := [15]) (by kernel_rfl) (by simp) ?_
                          refine AllReadyH.cons (o := ⟨none, _, _, _, _, _⟩) rfl (fun K hK => ?_) (AllReadyH.nil)
                          rw [if_pos (by rfl)]
                          refine wp_store_row 30 (.tmp 11) (.tmp 56) (by rfl) R127 DG (by rfl) (by rfl) 30 zero32 O139 HI.out HZ.out HO.out ?_
                          refine hK.out _ _ trivial (fun _ => ?_)
                          clear hK K
                          have E140 := Chg.own (b := R127) E139 (chg_setRow _ _ DG) z127
                          have S140 : Blk _ R127 DG 30 := setRow_heap _ _ _ _ _ _ O139
                          have O140 := Blk.chg S139 (chg_setRow _ R127 DG) (by simpa using ne135)
                          refine wpAnyH_done (by kernel_rfl) ?_ _
                          try simp only [Act.put]
                          go_wp2_with fail
                          go_meet
                          exact ⟨P135, R127, rfl, rfl, O140, S140, E140⟩
              · as_aux_lemma =>
                  go_simp
                  refine hK.out _ _ trivial (fun _ => ?_)
                  clear hK K
                  try simp only [Act.put, List.setIfInBounds_toArray, List.set_cons_zero, List.set_cons_succ]
                  generalize hx141 : World.alloc v95 (Obj.cells #[Value.int IntKind.u8 0, Value.int IntKind.u8 0, Value.int IntKind.u8 0, Value.int IntKind.u8 0, Value.int IntKind.u8 0, Value.int IntKind.u8 0, Value.int IntKind.u8 0, Value.int IntKind.u8 0, Value.int IntKind.u8 0, Value.int IntKind.u8 0, Value.int IntKind.u8 0, Value.int IntKind.u8 0, Value.int IntKind.u8 0, Value.int IntKind.u8 0, Value.int IntKind.u8 0, Value.int IntKind.u8 0, Value.int IntKind.u8 0, Value.int IntKind.u8 0, Value.int IntKind.u8 0, Value.int IntKind.u8 0, Value.int IntKind.u8 0, Value.int IntKind.u8 0, Value.int IntKind.u8 0, Value.int IntKind.u8 0, Value.int IntKind.u8 0, Value.int IntKind.u8 0, Value.int IntKind.u8 0, Value.int IntKind.u8 0, Value.int IntKind.u8 0, Value.int IntKind.u8 0, Value.int IntKind.u8 0, Value.int IntKind.u8 0] 30) = v141
                  have g141 : Chg none v95 v141 := by rw [← hx141]; exact (Chg.refl _ _).alloc _
                  have N141 : Blk v141 v95.heap.size zero32 30 := by rw [← hx141]; exact Blk.new _ _ _
                  have E142 := E96.trans g141
                  have BQ_142 := Blk.chg N95 g141 (by simp)
                  clear hx141
                  generalize hp141 : v95.heap.size = P141 at *
                  have z141 : v0.heap.size ≤ P141 := by rw [← hp141]; exact E96.size
                  clear hp141
                  refine wpAnyH_ready (rs := [2, 13]) (by kernel_rfl) (by simp) ?_
                  refine AllReadyH.cons (o := ⟨some 47, _, _, _, _, _⟩) rfl (fun K hK => ?_) (AllReadyH.cons (o := ⟨some 11, _, _, _, _, _⟩) rfl (fun K hK => ?_) (AllReadyH.nil))
                  · as_aux_lemma =>
                      go_simp
                      go_at_call 19
                      refine (HP1.out _ E142).mono ?_
                      rintro e v143 ⟨rfl, g143⟩
                      have E144 := E142.trans g143
                      have B10_144 := Blk.chg N141 g143 (by simp)
                      have BQ_144 := Blk.chg BQ_142 g143 (by simp)
                      go_wp2_with fail
                      refine hK.out _ _ trivial (fun _ => ?_)
                      clear hK K
                      try simp only [Act.put, List.setIfInBounds_toArray, List.set_cons_zero, List.set_cons_succ]
                      refine wpAnyH_ready (rs := [11, 13]) (by kernel_rfl) (by simp) ?_
                      refine AllReadyH.cons (o := ⟨some 56, _, _, _, _, _⟩) rfl (fun K hK => ?_) (AllReadyH.cons (o := ⟨some 11, _, _, _, _, _⟩) rfl (fun K hK => ?_) (AllReadyH.nil))
                      · as_aux_lemma =>
                          go_simp
                          go_at_call 19
                          refine (HP2.out _ Q95 E144 BQ_144).mono ?_
                          rintro e v145 ⟨rfl, g145⟩
                          have E146 := E144.trans g145
                          have B10_146 := Blk.chg B10_144 g145 (by simp)
                          have BQ_146 := Blk.chg BQ_144 g145 (by simp)
                          go_wp2_with fail
                          refine hK.out _ _ trivial (fun _ => ?_)
                          clear hK K
                          try simp only [Act.put, List.setIfInBounds_toArray, List.set_cons_zero, List.set_cons_succ]
                          refine wpAnyH_ready (rs := [13]) (by kernel_rfl) (by simp) ?_
                          refine AllReadyH.cons (o := ⟨some 11, _, _, _, _, _⟩) rfl (fun K hK => ?_) (AllReadyH.nil)
                          go_simp
                          refine hK.out _ _ trivial (fun _ => ?_)
                          clear hK K
                          try simp only [Act.put, List.setIfInBounds_toArray, List.set_cons_zero, List.set_cons_succ]
                          generalize hx147 : World.alloc v145 (Obj.cells #[Value.int IntKind.u8 0, Value.int IntKind.u8 0, Value.int IntKind.u8 0, Value.int IntKind.u8 0, Value.int IntKind.u8 0, Value.int IntKind.u8 0, Value.int IntKind.u8 0, Value.int IntKind.u8 0, Value.int IntKind.u8 0, Value.int IntKind.u8 0, Value.int IntKind.u8 0, Value.int IntKind.u8 0, Value.int IntKind.u8 0, Value.int IntKind.u8 0, Value.int IntKind.u8 0, Value.int IntKind.u8 0, Value.int IntKind.u8 0, Value.int IntKind.u8 0, Value.int IntKind.u8 0, Value.int IntKind.u8 0, Value.int IntKind.u8 0, Value.int IntKind.u8 0, Value.int IntKind.u8 0, Value.int IntKind.u8 0, Value.int IntKind.u8 0, Value.int IntKind.u8 0, Value.int IntKind.u8 0, Value.int IntKind.u8 0, Value.int IntKind.u8 0, Value.int IntKind.u8 0, Value.int IntKind.u8 0, Value.int IntKind.u8 0] 30) = v147
                          have g147 : Chg none v145 v147 := by rw [← hx147]; exact (Chg.refl _ _).alloc _
                          have N147 : Blk v147 v145.heap.size zero32 30 := by rw [← hx147]; exact Blk.new _ _ _
                          have ne147 : v145.heap.size ≠ P141 := by have := Blk.lt B10_146; omega
                          have E148 := E146.trans g147
                          have B10_148 := Blk.chg B10_146 g147 (by simp)
                          have BQ_148 := Blk.chg BQ_146 g147 (by simp)
                          clear hx147
                          generalize hp147 : v145.heap.size = R147 at *
                          have z147 : v0.heap.size ≤ R147 := by rw [← hp147]; exact E146.size
                          clear hp147
                          refine wpAnyH_ready (rs := [14]) (by kernel_rfl) (by simp) ?_
                          refine AllReadyH.cons (o := ⟨none, _, _, _, _, _⟩) rfl (fun K hK => ?_) (AllReadyH.nil)
                          rw [if_pos (by rfl)]
                          refine wp_store_row 30 (.tmp 10) (.tmp 47) (by rfl) P141 DG (by rfl) (by rfl) 30 zero32 B10_148 HI.out HZ.out HO.out ?_
                          refine hK.out _ _ trivial (fun _ => ?_)
                          clear hK K
                          have E149 := Chg.own (b := P141) E148 (chg_setRow _ _ DG) z141
                          have S149 : Blk _ P141 DG 30 := setRow_heap _ _ _ _ _ _ B10_148
                          have O149 := Blk.chg N147 (chg_setRow _ P141 DG) (by simpa using ne147)
                          refine wpAnyH_ready (rs := [15]) (by kernel_rfl) (by simp) ?_
                          refine AllReadyH.cons (o := ⟨none, _, _, _, _, _⟩) rfl (fun K hK => ?_) (AllReadyH.nil)
                          rw [if_pos (by rfl)]
                          refine wp_store_row 30 (.tmp 11) (.tmp 56) (by rfl) R147 DG (by rfl) (by rfl) 30 zero32 O149 HI.out HZ.out HO.out ?_
                          refine hK.out _ _ trivial (fun _ => ?_)
                          clear hK K
                          have E150 := Chg.own (b := R147) E149 (chg_setRow _ _ DG) z147
                          have S150 : Blk _ R147 DG 30 := setRow_heap _ _ _ _ _ _ O149
                          have O150 := Blk.chg S149 (chg_setRow _ R147 DG) (by simpa using (Ne.symm ne147))
                          refine wpAnyH_done (by kernel_rfl) ?_ _
                          try simp only [Act.put]
                          go_wp2_with fail
                          go_meet
                          exact ⟨P141, R147, rfl, rfl, O150, S150, E150⟩
                      · as_aux_lemma =>
                          go_simp
                          refine hK.out _ _ trivial (fun _ => ?_)
                          clear hK K
                          try simp only [Act.put, List.setIfInBounds_toArray, List.set_cons_zero, List.set_cons_succ]
                          generalize hx151 : World.alloc v143 (Obj.cells #[Value.int IntKind.u8 0, Value.int IntKind.u8 0, Value.int IntKind.u8 0, Value.int IntKind.u8 0, Value.int IntKind.u8 0, Value.int IntKind.u8 0, Value.int IntKind.u8 0, Value.int IntKind.u8 0, Value.int IntKind.u8 0, Value.int IntKind.u8 0, Value.int IntKind.u8 0, Value.int IntKind.u8 0, Value.int IntKind.u8 0, Value.int IntKind.u8 0, Value.int IntKind.u8 0, Value.int IntKind.u8 0, Value.int IntKind.u8 0, Value.int IntKind.u8 0, Value.int IntKind.u8 0, Value.int IntKind.u8 0, Value.int IntKind.u8 0, Value.int IntKind.u8 0, Value.int IntKind.u8 0, Value.int IntKind.u8 0, Value.int IntKind.u8 0, Value.int IntKind.u8 0, Value.int IntKind.u8 0, Value.int IntKind.u8 0, Value.int IntKind.u8 0, Value.int IntKind.u8 0, Value.int IntKind.u8 0, Value.int IntKind.u8 0] 30) = v151
                          have g151 : Chg none v143 v151 := by rw [← hx151]; exact (Chg.refl _ _).alloc _
                          have N151 : Blk v151 v143.heap.size zero32 30 := by rw [← hx151]; exact Blk.new _ _ _
                          have ne151 : v143.heap.size ≠ P141 := by have := Blk.lt B10_144; omega
                          have E152 := E144.trans g151
                          have B10_152 := Blk.chg B10_144 g151 (by simp)
                          have BQ_152 := Blk.chg BQ_144 g151 (by simp)
                          clear hx151
                          generalize hp151 : v143.heap.size = R151 at *
                          have z151 : v0.heap.size ≤ R151 := by rw [← hp151]; exact E144.size
                          clear hp151
                          refine wpAnyH_ready (rs := [11]) (by kernel_rfl) (by simp) ?_
                          refine AllReadyH.cons (o := ⟨some 56, _, _, _, _, _⟩) rfl (fun K hK => ?_) (AllReadyH.nil)
                          go_simp
                          go_at_call 19
                          refine (HP2.out _ Q95 E152 BQ_152).mono ?_
                          rintro e v153 ⟨rfl, g153⟩
                          have E154 := E152.trans g153
                          have B10_154 := Blk.chg B10_152 g153 (by simp)
                          have B11_154 := Blk.chg N151 g153 (by simp)
                          have BQ_154 := Blk.chg BQ_152 g153 (by simp)
                          go_wp2_with fail
                          refine hK.out _ _ trivial (fun _ => ?_)
                          clear hK K
                          try simp only [Act.put, List.setIfInBounds_toArray, List.set_cons_zero, List.set_cons_succ]
                          refine wpAnyH_ready (rs := [14]) (by kernel_rfl) (by simp) ?_
                          refine AllReadyH.cons (o := ⟨none, _, _, _, _, _⟩) rfl (fun K hK => ?_) (AllReadyH.nil)
                          rw [if_pos (by rfl)]
                          refine wp_store_row 30 (.tmp 10) (.tmp 47) (by rfl) P141 DG (by rfl) (by rfl) 30 zero32 B10_154 HI.out HZ.out HO.out ?_
                          refine hK.out _ _ trivial (fun _ => ?_)
                          clear hK K
                          have E155 := Chg.own (b := P141) E154 (chg_setRow _ _ DG) z141
                          have S155 : Blk _ P141 DG 30 := setRow_heap _ _ _ _ _ _ B10_154
                          have O155 := Blk.chg B11_154 (chg_setRow _ P141 DG) (by simpa using ne151)
                          refine wpAnyH_ready (rs := [15]) (by kernel_rfl) (by simp) ?_
                          refine AllReadyH.cons (o := ⟨none, _, _, _, _, _⟩) rfl (fun K hK => ?_) (AllReadyH.nil)
                          rw [if_pos (by rfl)]
                          refine wp_store_row 30 (.tmp 11) (.tmp 56) (by rfl) R151 DG (by rfl) (by rfl) 30 zero32 O155 HI.out HZ.out HO.out ?_
                          refine hK.out _ _ trivial (fun _ => ?_)
                          clear hK K
                          have E156 := Chg.own (b := R151) E155 (chg_setRow _ _ DG) z151
                          have S156 : Blk _ R151 DG 30 := setRow_heap _ _ _ _ _ _ O155
                          have O156 := Blk.chg S155 (chg_setRow _ R151 DG) (by simpa using (Ne.symm ne151))
                          refine wpAnyH_done (by kernel_rfl) ?_ _
                          try simp only [Act.put]
                          go_wp2_with fail
                          go_meet
                          exact ⟨P141, R151, rfl, rfl, O156, S156, E156⟩
                  · as_aux_lemma =>
                      go_simp
                      refine hK.out _ _ trivial (fun _ => ?_)
                      clear hK K
                      try simp only [Act.put, List.setIfInBounds_toArray, List.set_cons_zero, List.set_cons_succ]
                      generalize hx157 : World.alloc v141 (Obj.cells #[Value.int IntKind.u8 0, Value.int IntKind.u8 0, Value.int IntKind.u8 0, Value.int IntKind.u8 0, Value.int IntKind.u8 0, Value.int IntKind.u8 0, Value.int IntKind.u8 0, Value.int IntKind.u8 0, Value.int IntKind.u8 0, Value.int IntKind.u8 0, Value.int IntKind.u8 0, Value.int IntKind.u8 0, Value.int IntKind.u8 0, Value.int IntKind.u8 0, Value.int IntKind.u8 0, Value.int IntKind.u8 0, Value.int IntKind.u8 0, Value.int IntKind.u8 0, Value.int IntKind.u8 0, Value.int IntKind.u8 0, Value.int IntKind.u8 0, Value.int IntKind.u8 0, Value.int IntKind.u8 0, Value.int IntKind.u8 0, Value.int IntKind.u8 0, Value.int IntKind.u8 0, Value.int IntKind.u8 0, Value.int IntKind.u8 0, Value.int IntKind.u8 0, Value.int IntKind.u8 0, Value.int IntKind.u8 0, Value.int IntKind.u8 0] 30) = v157
                      have g157 : Chg none v141 v157 := by rw [← hx157]; exact (Chg.refl _ _).alloc _
                      have N157 : Blk v157 v141.heap.size zero32 30 := by rw [← hx157]; exact Blk.new _ _ _
                      have ne157 : v141.heap.size ≠ P141 := by have := Blk.lt N141; omega
                      have E158 := E142.trans g157
                      have B10_158 := Blk.chg N141 g157 (by simp)
                      have BQ_158 := Blk.chg BQ_142 g157 (by simp)
                      clear hx157
                      generalize hp157 : v141.heap.size = R157 at *
                      have z157 : v0.heap.size ≤ R157 := by rw [← hp157]; exact E142.size
                      clear hp157
                      refine wpAnyH_ready (rs := [2]) (by kernel_rfl) (by simp) ?_
                      refine AllReadyH.cons (o := ⟨some 47, _, _, _, _, _⟩) rfl (fun K hK => ?_) (AllReadyH.nil)
                      go_simp
                      go_at_call 19
                      refine (HP1.out _ E158).mono ?_
                      rintro e v159 ⟨rfl, g159⟩
                      have E160 := E158.trans g159
                      have B10_160 := Blk.chg B10_158 g159 (by simp)
                      have B11_160 := Blk.chg N157 g159 (by simp)
                      have BQ_160 := Blk.chg BQ_158 g159 (by simp)
                      go_wp2_with fail
                      refine hK.out _ _ trivial (fun _ => ?_)
                      clear hK K
                      try simp only [Act.put, List.setIfInBounds_toArray, List.set_cons_zero, List.set_cons_succ]
                      refine wpAnyH_ready (rs := [11]) (by kernel_rfl) (by simp) ?_
                      refine AllReadyH.cons (o := ⟨some 56, _, _, _, _, _⟩) rfl (fun K hK => ?_) (AllReadyH.nil)
                      go_simp
                      go_at_call 19
                      refine (HP2.out _ Q95 E160 BQ_160).mono ?_
                      rintro e v161 ⟨rfl, g161⟩
                      have E162 := E160.trans g161
                      have B10_162 := Blk.chg B10_160 g161 (by simp)
                      have B11_162 := Blk.chg B11_160 g161 (by simp)
                      have BQ_162 := Blk.chg BQ_160 g161 (by simp)
                      go_wp2_with fail
                      refine hK.out _ _ trivial (fun _ => ?_)
                      clear hK K
                      try simp only [Act.put, List.setIfInBounds_toArray, List.set_cons_zero, List.set_cons_succ]
                      refine wpAnyH_ready (rs := [14]) (by kernel_rfl) (by simp) ?_
                      refine AllReadyH.cons (o := ⟨none, _, _, _, _, _⟩) rfl (fun K hK => ?_) (AllReadyH.nil)
                      rw [if_pos (by rfl)]
                      refine wp_store_row 30 (.tmp 10) (.tmp 47) (by rfl) P141 DG (by rfl) (by rfl) 30 zero32 B10_162 HI.out HZ.out HO.out ?_
                      refine hK.out _ _ trivial (fun _ => ?_)
                      clear hK K
                      have E163 := Chg.own (b := P141) E162 (chg_setRow _ _ DG) z141
                      have S163 : Blk _ P141 DG 30 := setRow_heap _ _ _ _ _ _ B10_162
                      have O163 := Blk.chg B11_162 (chg_setRow _ P141 DG) (by simpa using ne157)
                      refine wpAnyH_ready (rs := [15]) (by kernel_rfl) (by simp) ?_
                      refine AllReadyH.cons (o := ⟨none, _, _, _, _, _⟩) rfl (fun K hK => ?_) (AllReadyH.nil)
                      rw [if_pos (by rfl)]
                      refine wp_store_row 30 (.tmp 11) (.tmp 56) (by rfl) R157 DG (by rfl) (by rfl) 30 zero32 O163 HI.out HZ.out HO.out ?_
                      refine hK.out _ _ trivial (fun _ => ?_)
                      clear hK K
                      have E164 := Chg.own (b := R157) E163 (chg_setRow _ _ DG) z157
                      have S164 : Blk _ R157 DG 30 := setRow_heap _ _ _ _ _ _ O163
                      have O164 := Blk.chg S163 (chg_setRow _ R157 DG) (by simpa using (Ne.symm ne157))
                      refine wpAnyH_done (by kernel_rfl) ?_ _
                      try simp only [Act.put]
                      go_wp2_with fail
                      go_meet
                      exact ⟨P141, R157, rfl, rfl, O164, S164, E164⟩
              · as_aux_lemma =>
                  go_simp
                  refine hK.out _ _ trivial (fun _ => ?_)
                  clear hK K
                  try simp only [Act.put, List.setIfInBounds_toArray, List.set_cons_zero, List.set_cons_succ]
                  generalize hx165 : World.alloc v95 (Obj.cells #[Value.int IntKind.u8 0, Value.int IntKind.u8 0, Value.int IntKind.u8 0, Value.int IntKind.u8 0, Value.int IntKind.u8 0, Value.int IntKind.u8 0, Value.int IntKind.u8 0, Value.int IntKind.u8 0, Value.int IntKind.u8 0, Value.int IntKind.u8 0, Value.int IntKind.u8 0, Value.int IntKind.u8 0, Value.int IntKind.u8 0, Value.int IntKind.u8 0, Value.int IntKind.u8 0, Value.int IntKind.u8 0, Value.int IntKind.u8 0, Value.int IntKind.u8 0, Value.int IntKind.u8 0, Value.int IntKind.u8 0, Value.int IntKind.u8 0, Value.int IntKind.u8 0, Value.int IntKind.u8 0, Value.int IntKind.u8 0, Value.int IntKind.u8 0, Value.int IntKind.u8 0, Value.int IntKind.u8 0, Value.int IntKind.u8 0, Value.int IntKind.u8 0, Value.int IntKind.u8 0, Value.int IntKind.u8 0, Value.int IntKind.u8 0] 30) = v165
                  have g165 : Chg none v95 v165 := by rw [← hx165]; exact (Chg.refl _ _).alloc _
                  have N165 : Blk v165 v95.heap.size zero32 30 := by rw [← hx165]; exact Blk.new _ _ _
                  have E166 := E96.trans g165
                  have BQ_166 := Blk.chg N95 g165 (by simp)
                  clear hx165
                  generalize hp165 : v95.heap.size = R165 at *
                  have z165 : v0.heap.size ≤ R165 := by rw [← hp165]; exact E96.size
                  clear hp165
                  refine wpAnyH_ready (rs := [2, 12]) (by kernel_rfl) (by simp) ?_
                  refine AllReadyH.cons (o := ⟨some 47, _, _, _, _, _⟩) rfl (fun K hK => ?_) (AllReadyH.cons (o := ⟨some 10, _, _, _, _, _⟩) rfl (fun K hK => ?_) (AllReadyH.nil))
                  · as_aux_lemma =>
                      go_simp
                      go_at_call 19
                      refine (HP1.out _ E166).mono ?_
                      rintro e v167 ⟨rfl, g167⟩
                      have E168 := E166.trans g167
                      have B11_168 := Blk.chg N165 g167 (by simp)
                      have BQ_168 := Blk.chg BQ_166 g167 (by simp)
                      go_wp2_with fail
                      refine hK.out _ _ trivial (fun _ => ?_)
                      clear hK K
                      try simp only [Act.put, List.setIfInBounds_toArray, List.set_cons_zero, List.set_cons_succ]
                      refine wpAnyH_ready (rs := [11, 12]) (by kernel_rfl) (by simp) ?_
                      refine AllReadyH.cons (o := ⟨some 56, _, _, _, _, _⟩) rfl (fun K hK => ?_) (AllReadyH.cons (o := ⟨some 10, _, _, _, _, _⟩) rfl (fun K hK => ?_) (AllReadyH.nil))
                      · as_aux_lemma =>
                          go_simp
                          go_at_call 19
                          refine (HP2.out _ Q95 E168 BQ_168).mono ?_
                          rintro e v169 ⟨rfl, g169⟩
                          have E170 := E168.trans g169
                          have B11_170 := Blk.chg B11_168 g169 (by simp)
                          have BQ_170 := Blk.chg BQ_168 g169 (by simp)
                          go_wp2_with fail
                          refine hK.out _ _ trivial (fun _ => ?_)
                          clear hK K
                          try simp only [Act.put, List.setIfInBounds_toArray, List.set_cons_zero, List.set_cons_succ]
                          refine wpAnyH_ready (rs := [12]) (by kernel_rfl) (by simp) ?_
                          refine AllReadyH.cons (o := ⟨some 10, _, _, _, _, _⟩) rfl (fun K hK => ?_) (AllReadyH.nil)
                          go_simp
                          refine hK.out _ _ trivial (fun _ => ?_)
                          clear hK K
                          try simp only [Act.put, List.setIfInBounds_toArray, List.set_cons_zero, List.set_cons_succ]
                          generalize hx171 : World.alloc v169 (Obj.cells #[Value.int IntKind.u8 0, Value.int IntKind.u8 0, Value.int IntKind.u8 0, Value.int IntKind.u8 0, Value.int IntKind.u8 0, Value.int IntKind.u8 0, Value.int IntKind.u8 0, Value.int IntKind.u8 0, Value.int IntKind.u8 0, Value.int IntKind.u8 0, Value.int IntKind.u8 0, Value.int IntKind.u8 0, Value.int IntKind.u8 0, Value.int IntKind.u8 0, Value.int IntKind.u8 0, Value.int IntKind.u8 0, Value.int IntKind.u8 0, Value.int IntKind.u8 0, Value.int IntKind.u8 0, Value.int IntKind.u8 0, Value.int IntKind.u8 0, Value.int IntKind.u8 0, Value.int IntKind.u8 0, Value.int IntKind.u8 0, Value.int IntKind.u8 0, Value.int IntKind.u8 0, Value.int IntKind.u8 0, Value.int IntKind.u8 0, Value.int IntKind.u8 0, Value.int IntKind.u8 0, Value.int IntKind.u8 0, Value.int IntKind.u8 0] 30) = v171
                          have g171 : Chg none v169 v171 := by rw [← hx171]; exact (Chg.refl _ _).alloc _
                          have N171 : Blk v171 v169.heap.size zero32 30 := by rw [← hx171]; exact Blk.new _ _ _
                          have ne171 : v169.heap.size ≠ R165 := by have := Blk.lt B11_170; omega
                          have E172 := E170.trans g171
                          have B11_172 := Blk.chg B11_170 g171 (by simp)
                          have BQ_172 := Blk.chg BQ_170 g171 (by simp)
                          clear hx171
                          generalize hp171 : v169.heap.size = P171 at *
                          have z171 : v0.heap.size ≤ P171 := by rw [← hp171]; exact E170.size
                          clear hp171
                          refine wpAnyH_ready (rs := [14]) (by kernel_rfl) (by simp) ?_
                          refine AllReadyH.cons (o := ⟨none, _, _, _, _, _⟩) rfl (fun K hK => ?_) (AllReadyH.nil)
                          rw [if_pos (by rfl)]
                          refine wp_store_row 30 (.tmp 10) (.tmp 47) (by rfl) P171 DG (by rfl) (by rfl) 30 zero32 N171 HI.out HZ.out HO.out ?_
                          refine hK.out _ _ trivial (fun _ => ?_)
                          clear hK K
                          have E173 := Chg.own (b := P171) E172 (chg_setRow _ _ DG) z171
                          have S173 : Blk _ P171 DG 30 := setRow_heap _ _ _ _ _ _ N171
                          have O173 := Blk.chg B11_172 (chg_setRow _ P171 DG) (by simpa using (Ne.symm ne171))
                          refine wpAnyH_ready (rs := [15]) (by kernel_rfl) (by simp) ?_
                          refine AllReadyH.cons (o := ⟨none, _, _, _, _, _⟩) rfl (fun K hK => ?_) (AllReadyH.nil)
                          rw [if_pos (by rfl)]
                          refine wp_store_row 30 (.tmp 11) (.tmp 56) (by rfl) R165 DG (by rfl) (by rfl) 30 zero32 O173 HI.out HZ.out HO.out ?_
                          refine hK.out _ _ trivial (fun _ => ?_)
                          clear hK K
                          have E174 := Chg.own (b := R165) E173 (chg_setRow _ _ DG) z165
                          have S174 : Blk _ R165 DG 30 := setRow_heap _ _ _ _ _ _ O173
                          have O174 := Blk.chg S173 (chg_setRow _ R165 DG) (by simpa using ne171)
                          refine wpAnyH_done (by kernel_rfl) ?_ _
                          try simp only [Act.put]
                          go_wp2_with fail
                          go_meet
                          exact ⟨P171, R165, rfl, rfl, O174, S174, E174⟩
                      · as_aux_lemma =>
                          go_simp
                          refine hK.out _ _ trivial (fun _ => ?_)
                          clear hK K
                          try simp only [Act.put, List.setIfInBounds_toArray, List.set_cons_zero, List.set_cons_succ]
                          generalize hx175 : World.alloc v167 (Obj.cells #[Value.int IntKind.u8 0, Value.int IntKind.u8 0, Value.int IntKind.u8 0, Value.int IntKind.u8 0, Value.int IntKind.u8 0, Value.int IntKind.u8 0, Value.int IntKind.u8 0, Value.int IntKind.u8 0, Value.int IntKind.u8 0, Value.int IntKind.u8 0, Value.int IntKind.u8 0, Value.int IntKind.u8 0, Value.int IntKind.u8 0, Value.int IntKind.u8 0, Value.int IntKind.u8 0, Value.int IntKind.u8 0, Value.int IntKind.u8 0, Value.int IntKind.u8 0, Value.int IntKind.u8 0, Value.int IntKind.u8 0, Value.int IntKind.u8 0, Value.int IntKind.u8 0, Value.int IntKind.u8 0, Value.int IntKind.u8 0, Value.int IntKind.u8 0, Value.int IntKind.u8 0, Value.int IntKind.u8 0, Value.int IntKind.u8 0, Value.int IntKind.u8 0, Value.int IntKind.u8 0, Value.int IntKind.u8 0, Value.int IntKind.u8 0] 30) = v175
                          have g175 : Chg none v167 v175 := by rw [← hx175]; exact (Chg.refl _ _).alloc _
                          have N175 : Blk v175 v167.heap.size zero32 30 := by rw [← hx175]; exact Blk.new _ _ _
                          have ne175 : v167.heap.size ≠ R165 := by have := Blk.lt B11_168; omega
                          have E176 := E168.trans g175
                          have B11_176 := Blk.chg B11_168 g175 (by simp)
                          have BQ_176 := Blk.chg BQ_168 g175 (by simp)
                          clear hx175
                          generalize hp175 : v167.heap.size = P175 at *
                          have z175 : v0.heap.size ≤ P175 := by rw [← hp175]; exact E168.size
                          clear hp175
                          refine wpAnyH_ready (rs := [11]) (by kernel_rfl) (by simp) ?_
                          refine AllReadyH.cons (o := ⟨some 56, _, _, _, _, _⟩) rfl (fun K hK => ?_) (AllReadyH.nil)
                          go_simp
                          go_at_call 19
                          refine (HP2.out _ Q95 E176 BQ_176).mono ?_
                          rintro e v177 ⟨rfl, g177⟩
                          have E178 := E176.trans g177
                          have B10_178 := Blk.chg N175 g177 (by simp)
                          have B11_178 := Blk.chg B11_176 g177 (by simp)
                          have BQ_178 := Blk.chg BQ_176 g177 (by simp)
                          go_wp2_with fail
                          refine hK.out _ _ trivial (fun _ => ?_)
                          clear hK K
                          try simp only [Act.put, List.setIfInBounds_toArray, List.set_cons_zero, List.set_cons_succ]
                          refine wpAnyH_ready (rs := [14]) (by kernel_rfl) (by simp) ?_
                          refine AllReadyH.cons (o := ⟨none, _, _, _, _, _⟩) rfl (fun K hK => ?_) (AllReadyH.nil)
                          rw [if_pos (by rfl)]
                          refine wp_store_row 30 (.tmp 10) (.tmp 47) (by rfl) P175 DG (by rfl) (by rfl) 30 zero32 B10_178 HI.out HZ.out HO.out ?_
                          refine hK.out _ _ trivial (fun _ => ?_)
                          clear hK K
                          have E179 := Chg.own (b := P175) E178 (chg_setRow _ _ DG) z175
                          have S179 : Blk _ P175 DG 30 := setRow_heap _ _ _ _ _ _ B10_178
                          have O179 := Blk.chg B11_178 (chg_setRow _ P175 DG) (by simpa using (Ne.symm ne175))
                          refine wpAnyH_ready (rs := [15]) (by kernel_rfl) (by simp) ?_
                          refine AllReadyH.cons (o := ⟨none, _, _, _, _, _⟩) rfl (fun K hK => ?_) (AllReadyH.nil)
                          rw [if_pos (by rfl)]
                          refine wp_store_row 30 (.tmp 11) (.tmp 56) (by rfl) R165 DG (by rfl) (by rfl) 30 zero32 O179 HI.out HZ.out HO.out ?_
                          refine hK.out _ _ trivial (fun _ => ?_)
                          clear hK K
                          have E180 := Chg.own (b := R165) E179 (chg_setRow _ _ DG) z165
                          have S180 : Blk _ R165 DG 30 := setRow_heap _ _ _ _ _ _ O179
                          have O180 := Blk.chg S179 (chg_setRow _ R165 DG) (by simpa using ne175)
                          refine wpAnyH_done (by kernel_rfl) ?_ _
                          try simp only [Act.put]
                          go_wp2_with fail
                          go_meet
                          exact ⟨P175, R165, rfl, rfl, O180, S180, E180⟩
                  · as_aux_lemma =>
                      go_simp
                      refine hK.out _ _ trivial (fun _ => ?_)
                      clear hK K
                      try simp only [Act.put, List.setIfInBounds_toArray, List.set_cons_zero, List.set_cons_succ]
                      generalize hx181 : World.alloc v165 (Obj.cells #[Value.int IntKind.u8 0, Value.int IntKind.u8 0, Value.int IntKind.u8 0, Value.int IntKind.u8 0, Value.int IntKind.u8 0, Value.int IntKind.u8 0, Value.int IntKind.u8 0, Value.int IntKind.u8 0, Value.int IntKind.u8 0, Value.int IntKind.u8 0, Value.int IntKind.u8 0, Value.int IntKind.u8 0, Value.int IntKind.u8 0, Value.int IntKind.u8 0, Value.int IntKind.u8 0, Value.int IntKind.u8 0, Value.int IntKind.u8 0, Value.int IntKind.u8 0, Value.int IntKind.u8 0, Value.int IntKind.u8 0, Value.int IntKind.u8 0, Value.int IntKind.u8 0, Value.int IntKind.u8 0, Value.int IntKind.u8 0, Value.int IntKind.u8 0, Value.int IntKind.u8 0, Value.int IntKind.u8 0, Value.int IntKind.u8 0, Value.int IntKind.u8 0, Value.int IntKind.u8 0, Value.int IntKind.u8 0, Value.int IntKind.u8 0] 30) = v181
                      have g181 : Chg none v165 v181 := by rw [← hx181]; exact (Chg.refl _ _).alloc _
                      have N181 : Blk v181 v165.heap.size zero32 30 := by rw [← hx181]; exact Blk.new _ _ _
                      have ne181 : v165.heap.size ≠ R165 := by have := Blk.lt N165; omega
                      have E182 := E166.trans g181
                      have B11_182 := Blk.chg N165 g181 (by simp)
                      have BQ_182 := Blk.chg BQ_166 g181 (by simp)
                      clear hx181
                      generalize hp181 : v165.heap.size = P181 at *
                      have z181 : v0.heap.size ≤ P181 := by rw [← hp181]; exact E166.size
                      clear hp181
                      refine wpAnyH_ready (rs := [2]) (by kernel_rfl) (by simp) ?_
                      refine AllReadyH.cons (o := ⟨some 47, _, _, _, _, _⟩) rfl (fun K hK => ?_) (AllReadyH.nil)
                      go_simp
                      go_at_call 19
                      refine (HP1.out _ E182).mono ?_
                      rintro e v183 ⟨rfl, g183⟩
                      have E184 := E182.trans g183
                      have B10_184 := Blk.chg N181 g183 (by simp)
                      have B11_184 := Blk.chg B11_182 g183 (by simp)
                      have BQ_184 := Blk.chg BQ_182 g183 (by simp)
                      go_wp2_with fail
                      refine hK.out _ _ trivial (fun _ => ?_)
                      clear hK K
                      try simp only [Act.put, List.setIfInBounds_toArray, List.set_cons_zero, List.set_cons_succ]
                      refine wpAnyH_ready (rs := [11]) (by kernel_rfl) (by simp) ?_
                      refine AllReadyH.cons (o := ⟨some 56, _, _, _, _, _⟩) rfl (fun K hK => ?_) (AllReadyH.nil)
                      go_simp
                      go_at_call 19
                      refine (HP2.out _ Q95 E184 BQ_184).mono ?_
                      rintro e v185 ⟨rfl, g185⟩
                      have E186 := E184.trans g185
                      have B10_186 := Blk.chg B10_184 g185 (by simp)
                      have B11_186 := Blk.chg B11_184 g185 (by simp)
                      have BQ_186 := Blk.chg BQ_184 g185 (by simp)
                      go_wp2_with fail
                      refine hK.out _ _ trivial (fun _ => ?_)
                      clear hK K
                      try simp only [Act.put, List.setIfInBounds_toArray, List.set_cons_zero, List.set_cons_succ]
                      refine wpAnyH_ready (rs := [14]) (by kernel_rfl) (by simp) ?_
                      refine AllReadyH.cons (o := ⟨none, _, _, _, _, _⟩) rfl (fun K hK => ?_) (AllReadyH.nil)
                      rw [if_pos (by rfl)]
                      refine wp_store_row 30 (.tmp 10) (.tmp 47) (by rfl) P181 DG (by rfl) (by rfl) 30 zero32 B10_186 HI.out HZ.out HO.out ?_
                      refine hK.out _ _ trivial (fun _ => ?_)
                      clear hK K
                      have E187 := Chg.own (b := P181) E186 (chg_setRow _ _ DG) z181
                      have S187 : Blk _ P181 DG 30 := setRow_heap _ _ _ _ _ _ B10_186
                      have O187 := Blk.chg B11_186 (chg_setRow _ P181 DG) (by simpa using (Ne.symm ne181))
                      refine wpAnyH_ready (rs := [15]) (by kernel_rfl) (by simp) ?_
                      refine AllReadyH.cons (o := ⟨none, _, _, _, _, _⟩) rfl (fun K hK => ?_) (AllReadyH.nil)
                      rw [if_pos (by rfl)]
                      refine wp_store_row 30 (.tmp 11) (.tmp 56) (by rfl) R165 DG (by rfl) (by rfl) 30 zero32 O187 HI.out HZ.out HO.out ?_
                      refine hK.out _ _ trivial (fun _ => ?_)
                      clear hK K
                      have E188 := Chg.own (b := R165) E187 (chg_setRow _ _ DG) z165
                      have S188 : Blk _ R165 DG 30 := setRow_heap _ _ _ _ _ _ O187
                      have O188 := Blk.chg S187 (chg_setRow _ R165 DG) (by simpa using ne181)
                      refine wpAnyH_done (by kernel_rfl) ?_ _
                      try simp only [Act.put]
                      go_wp2_with fail
                      go_meet
                      exact ⟨P181, R165, rfl, rfl, O188, S188, E188⟩
          · as_aux_lemma =>
              go_simp
              refine hK.out _ _ trivial (fun _ => ?_)
              clear hK K
              try simp only [Act.put, List.setIfInBounds_toArray, List.set_cons_zero, List.set_cons_succ]
              generalize hx189 : World.alloc v0 (Obj.cells #[Value.int IntKind.u8 0, Value.int IntKind.u8 0, Value.int IntKind.u8 0, Value.int IntKind.u8 0, Value.int IntKind.u8 0, Value.int IntKind.u8 0, Value.int IntKind.u8 0, Value.int IntKind.u8 0, Value.int IntKind.u8 0, Value.int IntKind.u8 0, Value.int IntKind.u8 0, Value.int IntKind.u8 0, Value.int IntKind.u8 0, Value.int IntKind.u8 0, Value.int IntKind.u8 0, Value.int IntKind.u8 0, Value.int IntKind.u8 0, Value.int IntKind.u8 0, Value.int IntKind.u8 0, Value.int IntKind.u8 0, Value.int IntKind.u8 0, Value.int IntKind.u8 0, Value.int IntKind.u8 0, Value.int IntKind.u8 0, Value.int IntKind.u8 0, Value.int IntKind.u8 0, Value.int IntKind.u8 0, Value.int IntKind.u8 0, Value.int IntKind.u8 0, Value.int IntKind.u8 0, Value.int IntKind.u8 0, Value.int IntKind.u8 0] 30) = v189
              have g189 : Chg none v0 v189 := by rw [← hx189]; exact (Chg.refl _ _).alloc _
              have N189 : Blk v189 v0.heap.size zero32 30 := by rw [← hx189]; exact Blk.new _ _ _
              have E190 := E0.trans g189
              clear hx189
              generalize hp189 : v0.heap.size = P189 at *
              have z189 : v0.heap.size ≤ P189 := by rw [← hp189]; exact E0.size
              clear hp189
              refine wpAnyH_ready (rs := [2, 10, 13]) (by kernel_rfl) (by simp) ?_
              refine AllReadyH.cons (o := ⟨some 47, _, _, _, _, _⟩) rfl (fun K hK => ?_) (AllReadyH.cons (o := ⟨some 55, _, _, _, _, _⟩) rfl (fun K hK => ?_) (AllReadyH.cons (o := ⟨some 11, _, _, _, _, _⟩) rfl (fun K hK => ?_) (AllReadyH.nil)))
              · as_aux_lemma =>
                  go_simp
                  go_at_call 19
                  refine (HP1.out _ E190).mono ?_
                  rintro e v191 ⟨rfl, g191⟩
                  have E192 := E190.trans g191
                  have B10_192 := Blk.chg N189 g191 (by simp)
                  go_wp2_with fail
                  refine hK.out _ _ trivial (fun _ => ?_)
                  clear hK K
                  try simp only [Act.put, List.setIfInBounds_toArray, List.set_cons_zero, List.set_cons_succ]
                  refine wpAnyH_ready (rs := [10, 13]) (by kernel_rfl) (by simp) ?_
                  refine AllReadyH.cons (o := ⟨some 55, _, _, _, _, _⟩) rfl (fun K hK => ?_) (AllReadyH.cons (o := ⟨some 11, _, _, _, _, _⟩) rfl (fun K hK => ?_) (AllReadyH.nil))
                  · as_aux_lemma =>
                      go_simp
                      refine hK.out _ _ trivial (fun _ => ?_)
                      clear hK K
                      try simp only [Act.put, List.setIfInBounds_toArray, List.set_cons_zero, List.set_cons_succ]
                      generalize hx193 : World.alloc v191 (Obj.cells #[Value.slice A1 n1 c1, Value.slice A2 n2 c2] 22) = v193
                      have g193 : Chg none v191 v193 := by rw [← hx193]; exact (Chg.refl _ _).alloc _
                      have N193 : Blk v193 v191.heap.size #[Value.slice A1 n1 c1, Value.slice A2 n2 c2] 22 := by rw [← hx193]; exact Blk.new _ _ _
                      have E194 := E192.trans g193
                      have B10_194 := Blk.chg B10_192 g193 (by simp)
                      clear hx193
                      generalize hp193 : v191.heap.size = Q193 at *
                      have z193 : v0.heap.size ≤ Q193 := by rw [← hp193]; exact E192.size
                      clear hp193
                      refine wpAnyH_ready (rs := [11, 13]) (by kernel_rfl) (by simp) ?_
                      refine AllReadyH.cons (o := ⟨some 56, _, _, _, _, _⟩) rfl (fun K hK => ?_) (AllReadyH.cons (o := ⟨some 11, _, _, _, _, _⟩) rfl (fun K hK => ?_) (AllReadyH.nil))
                      · as_aux_lemma =>
                          go_simp
                          go_at_call 19
                          refine (HP2.out _ Q193 E194 N193).mono ?_
                          rintro e v195 ⟨rfl, g195⟩
                          have E196 := E194.trans g195
                          have B10_196 := Blk.chg B10_194 g195 (by simp)
                          have BQ_196 := Blk.chg N193 g195 (by simp)
                          go_wp2_with fail
                          refine hK.out _ _ trivial (fun _ => ?_)
                          clear hK K
                          try simp only [Act.put, List.setIfInBounds_toArray, List.set_cons_zero, List.set_cons_succ]
                          refine wpAnyH_ready (rs := [13]) (by kernel_rfl) (by simp) ?_
                          refine AllReadyH.cons (o := ⟨some 11, _, _, _, _, _⟩) rfl (fun K hK => ?_) (AllReadyH.nil)
                          go_simp
                          refine hK.out _ _ trivial (fun _ => ?_)
                          clear hK K
                          try simp only [Act.put, List.setIfInBounds_toArray, List.set_cons_zero, List.set_cons_succ]
                          generalize hx197 : World.alloc v195 (Obj.cells #[Value.int IntKind.u8 0, Value.int IntKind.u8 0, Value.int IntKind.u8 0, Value.int IntKind.u8 0, Value.int IntKind.u8 0, Value.int IntKind.u8 0, Value.int IntKind.u8 0, Value.int IntKind.u8 0, Value.int IntKind.u8 0, Value.int IntKind.u8 0, Value.int IntKind.u8 0, Value.int IntKind.u8 0, Value.int IntKind.u8 0, Value.int IntKind.u8 0, Value.int IntKind.u8 0, Value.int IntKind.u8 0, Value.int IntKind.u8 0, Value.int IntKind.u8 0, Value.int IntKind.u8 0, Value.int IntKind.u8 0, Value.int IntKind.u8 0, Value.int IntKind.u8 0, Value.int IntKind.u8 0, Value.int IntKind.u8 0, Value.int IntKind.u8 0, Value.int IntKind.u8 0, Value.int IntKind.u8 0, Value.int IntKind.u8 0, Value.int IntKind.u8 0, Value.int IntKind.u8 0, Value.int IntKind.u8 0, Value.int IntKind.u8 0] 30) = v197
                          have g197 : Chg none v195 v197 := by rw [← hx197]; exact (Chg.refl _ _).alloc _
                          have N197 : Blk v197 v195.heap.size zero32 30 := by rw [← hx197]; exact Blk.new _ _ _
                          have ne197 : v195.heap.size ≠ P189 := by have := Blk.lt B10_196; omega
                          have E198 := E196.trans g197
                          have B10_198 := Blk.chg B10_196 g197 (by simp)
                          have BQ_198 := Blk.chg BQ_196 g197 (by simp)
                          clear hx197
                          generalize hp197 : v195.heap.size = R197 at *
                          have z197 : v0.heap.size ≤ R197 := by rw [← hp197]; exact E196.size
                          clear hp197
                          refine wpAnyH_ready (rs := [14]) (by kernel_rfl) (by simp) ?_
                          refine AllReadyH.cons (o := ⟨none, _, _, _, _, _⟩) rfl (fun K hK => ?_) (AllReadyH.nil)
                          rw [if_pos (by rfl)]
                          refine wp_store_row 30 (.tmp 10) (.tmp 47) (by rfl) P189 DG (by rfl) (by rfl) 30 zero32 B10_198 HI.out HZ.out HO.out ?_
                          refine hK.out _ _ trivial (fun _ => ?_)
                          clear hK K
                          have E199 := Chg.own (b := P189) E198 (chg_setRow _ _ DG) z189
                          have S199 : Blk _ P189 DG 30 := setRow_heap _ _ _ _ _ _ B10_198
                          have O199 := Blk.chg N197 (chg_setRow _ P189 DG) (by simpa using ne197)
                          refine wpAnyH_ready (rs := [15]) (by kernel_rfl) (by simp) ?_
                          refine AllReadyH.cons (o := ⟨none, _, _, _, _, _⟩) rfl (fun K hK => ?_) (AllReadyH.nil)
                          rw [if_pos (by rfl)]
                          refine wp_store_row 30 (.tmp 11) (.tmp 56) (by rfl) R197 DG (by rfl) (by rfl) 30 zero32 O199 HI.out HZ.out HO.out ?_
                          refine hK.out _ _ trivial (fun _ => ?_)
                          clear hK K
                          have E200 := Chg.own (b := R197) E199 (chg_setRow _ _ DG) z197
                          have S200 : Blk _ R197 DG 30 := setRow_heap _ _ _ _ _ _ O199
                          have O200 := Blk.chg S199 (chg_setRow _ R197 DG) (by simpa using (Ne.symm ne197))
                          refine wpAnyH_done (by kernel_rfl) ?_ _
                          try simp only [Act.put]
                          go_wp2_with fail
                          go_meet
                          exact ⟨P189, R197, rfl, rfl, O200, S200, E200⟩
                      · as_aux_lemma =>
                          go_simp
                          refine hK.out _ _ trivial (fun _ => ?_)
                          clear hK K
                          try simp only [Act.put, List.setIfInBounds_toArray, List.set_cons_zero, List.set_cons_succ]
                          generalize hx201 : World.alloc v193 (Obj.cells #[Value.int IntKind.u8 0, Value.int IntKind.u8 0, Value.int IntKind.u8 0, Value.int IntKind.u8 0, Value.int IntKind.u8 0, Value.int IntKind.u8 0, Value.int IntKind.u8 0, Value.int IntKind.u8 0, Value.int IntKind.u8 0, Value.int IntKind.u8 0, Value.int IntKind.u8 0, Value.int IntKind.u8 0, Value.int IntKind.u8 0, Value.int IntKind.u8 0, Value.int IntKind.u8 0, Value.int IntKind.u8 0, Value.int IntKind.u8 0, Value.int IntKind.u8 0, Value.int IntKind.u8 0, Value.int IntKind.u8 0, Value.int IntKind.u8 0, Value.int IntKind.u8 0, Value.int IntKind.u8 0, Value.int IntKind.u8 0, Value.int IntKind.u8 0, Value.int IntKind.u8 0, Value.int IntKind.u8 0, Value.int IntKind.u8 0, Value.int IntKind.u8 0, Value.int IntKind.u8 0, Value.int IntKind.u8 0, Value.int IntKind.u8 0] 30) = v201
                          have g201 : Chg none v193 v201 := by rw [← hx201]; exact (Chg.refl _ _).alloc _
                          have N201 : Blk v201 v193.heap.size zero32 30 := by rw [← hx201]; exact Blk.new _ _ _
                          have ne201 : v193.heap.size ≠ P189 := by have := Blk.lt B10_194; omega
                          have E202 := E194.trans g201
                          have B10_202 := Blk.chg B10_194 g201 (by simp)
                          have BQ_202 := Blk.chg N193 g201 (by simp)
                          clear hx201
                          generalize hp201 : v193.heap.size = R201 at *
                          have z201 : v0.heap.size ≤ R201 := by rw [← hp201]; exact E194.size
                          clear hp201
                          refine wpAnyH_ready (rs := [11]) (by kernel_rfl) (by simp) ?_
                          refine AllReadyH.cons (o := ⟨some 56, _, _, _, _, _⟩) rfl (fun K hK => ?_) (AllReadyH.nil)
                          go_simp
                          go_at_call 19
                          refine (HP2.out _ Q193 E202 BQ_202).mono ?_
                          rintro e v203 ⟨rfl, g203⟩
                          have E204 := E202.trans g203
                          have B10_204 := Blk.chg B10_202 g203 (by simp)
                          have B11_204 := Blk.chg N201 g203 (by simp)
                          have BQ_204 := Blk.chg BQ_202 g203 (by simp)
                          go_wp2_with fail
                          refine hK.out _ _ trivial (fun _ => ?_)
                          clear hK K
                          try simp only [Act.put, List.setIfInBounds_toArray, List.set_cons_zero, List.set_cons_succ]
                          refine wpAnyH_ready (rs := [14]) (by kernel_rfl) (by simp) ?_
                          refine AllReadyH.cons (o := ⟨none, _, _, _, _, _⟩) rfl (fun K hK => ?_) (AllReadyH.nil)
                          rw [if_pos (by rfl)]
                          refine wp_store_row 30 (.tmp 10) (.tmp 47) (by rfl) P189 DG (by rfl) (by rfl) 30 zero32 B10_204 HI.out HZ.out HO.out ?_
                          refine hK.out _ _ trivial (fun _ => ?_)
                          clear hK K
                          have E205 := Chg.own (b := P189) E204 (chg_setRow _ _ DG) z189
                          have S205 : Blk _ P189 DG 30 := setRow_heap _ _ _ _ _ _ B10_204
                          have O205 := Blk.chg B11_204 (chg_setRow _ P189 DG) (by simpa using ne201)
                          refine wpAnyH_ready (rs := [15]) (by kernel_rfl) (by simp) ?_
                          refine AllReadyH.cons (o := ⟨none, _, _, _, _, _⟩) rfl (fun K hK => ?_) (AllReadyH.nil)
                          rw [if_pos (by rfl)]
                          refine wp_store_row 30 (.tmp 11) (.tmp 56) (by rfl) R201 DG (by rfl) (by rfl) 30 zero32 O205 HI.out HZ.out HO.out ?_
                          refine hK.out _ _ trivial (fun _ => ?_)
                          clear hK K
                          have E206 := Chg.own (b := R201) E205 (chg_setRow _ _ DG) z201
                          have S206 : Blk _ R201 DG 30 := setRow_heap _ _ _ _ _ _ O205
                          have O206 := Blk.chg S205 (chg_setRow _ R201 DG) (by simpa using (Ne.symm ne201))
                          refine wpAnyH_done (by kernel_rfl) ?_ _
                          try simp only [Act.put]
                          go_wp2_with fail
                          go_meet
                          exact ⟨P189, R201, rfl, rfl, O206, S206, E206⟩
                  · as_aux_lemma =>
                      go_simp
                      refine hK.out _ _ trivial (fun _ => ?_)
                      clear hK K
                      try simp only [Act.put, List.setIfInBounds_toArray, List.set_cons_zero, List.set_cons_succ]
                      generalize hx207 : World.alloc v191 (Obj.cells #[Value.int IntKind.u8 0, Value.int IntKind.u8 0, Value.int IntKind.u8 0, Value.int IntKind.u8 0, Value.int IntKind.u8 0, Value.int IntKind.u8 0, Value.int IntKind.u8 0, Value.int IntKind.u8 0, Value.int IntKind.u8 0, Value.int IntKind.u8 0, Value.int IntKind.u8 0, Value.int IntKind.u8 0, Value.int IntKind.u8 0, Value.int IntKind.u8 0, Value.int IntKind.u8 0, Value.int IntKind.u8 0, Value.int IntKind.u8 0, Value.int IntKind.u8 0, Value.int IntKind.u8 0, Value.int IntKind.u8 0, Value.int IntKind.u8 0, Value.int IntKind.u8 0, Value.int IntKind.u8 0, Value.int IntKind.u8 0, Value.int IntKind.u8 0, Value.int IntKind.u8 0, Value.int IntKind.u8 0, Value.int IntKind.u8 0, Value.int IntKind.u8 0, Value.int IntKind.u8 0, Value.int IntKind.u8 0, Value.int IntKind.u8 0] 30) = v207
                      have g207 : Chg none v191 v207 := by rw [← hx207]; exact (Chg.refl _ _).alloc _
                      have N207 : Blk v207 v191.heap.size zero32 30 := by rw [← hx207]; exact Blk.new _ _ _
                      have ne207 : v191.heap.size ≠ P189 := by have := Blk.lt B10_192; omega
                      have E208 := E192.trans g207
                      have B10_208 := Blk.chg B10_192 g207 (by simp)
                      clear hx207
                      generalize hp207 : v191.heap.size = R207 at *
                      have z207 : v0.heap.size ≤ R207 := by rw [← hp207]; exact E192.size
                      clear hp207
                      refine wpAnyH_ready (rs := [10]) (by kernel_rfl) (by simp) ?_
                      refine AllReadyH.cons (o := ⟨some 55, _, _, _, _, _⟩) rfl (fun K hK => ?_) (AllReadyH.nil)
                      go_simp
                      refine hK.out _ _ trivial (fun _ => ?_)
                      clear hK K
                      try simp only [Act.put, List.setIfInBounds_toArray, List.set_cons_zero, List.set_cons_succ]
                      generalize hx209 : World.alloc v207 (Obj.cells #[Value.slice A1 n1 c1, Value.slice A2 n2 c2] 22) = v209
                      have g209 : Chg none v207 v209 := by rw [← hx209]; exact (Chg.refl _ _).alloc _
                      have N209 : Blk v209 v207.heap.size #[Value.slice A1 n1 c1, Value.slice A2 n2 c2] 22 := by rw [← hx209]; exact Blk.new _ _ _
                      have E210 := E208.trans g209
                      have B10_210 := Blk.chg B10_208 g209 (by simp)
                      have B11_210 := Blk.chg N207 g209 (by simp)
                      clear hx209
                      generalize hp209 : v207.heap.size = Q209 at *
                      have z209 : v0.heap.size ≤ Q209 := by rw [← hp209]; exact E208.size
                      clear hp209
                      refine wpAnyH_ready (rs := [11]) (by kernel_rfl) (by simp) ?_
                      refine AllReadyH.cons (o := ⟨some 56, _, _, _, _, _⟩) rfl (fun K hK => ?_) (AllReadyH.nil)
                      go_simp
                      go_at_call 19
                      refine (HP2.out _ Q209 E210 N209).mono ?_
                      rintro e v211 ⟨rfl, g211⟩
                      have E212 := E210.trans g211
                      have B10_212 := Blk.chg B10_210 g211 (by simp)
                      have B11_212 := Blk.chg B11_210 g211 (by simp)
                      have BQ_212 := Blk.chg N209 g211 (by simp)
                      go_wp2_with fail
                      refine hK.out _ _ trivial (fun _ => ?_)
                      clear hK K
                      try simp only [Act.put, List.setIfInBounds_toArray, List.set_cons_zero, List.set_cons_succ]
                      refine wpAnyH_ready (rs := [14]) (by kernel_rfl) (by simp) ?_
                      refine AllReadyH.cons (o := ⟨none, _, _, _, _, _⟩) rfl (fun K hK => ?_) (AllReadyH.nil)
                      rw [if_pos (by rfl)]
                      refine wp_store_row 30 (.tmp 10) (.tmp 47) (by rfl) P189 DG (by rfl) (by rfl) 30 zero32 B10_212 HI.out HZ.out HO.out ?_
                      refine hK.out _ _ trivial (fun _ => ?_)
                      clear hK K
                      have E213 := Chg.own (b := P189) E212 (chg_setRow _ _ DG) z189
                      have S213 : Blk _ P189 DG 30 := setRow_heap _ _ _ _ _ _ B10_212
                      have O213 := Blk.chg B11_212 (chg_setRow _ P189 DG) (by simpa using ne207)
                      refine wpAnyH_ready (rs := [15]) (by kernel_rfl) (by simp) ?_
                      refine AllReadyH.cons (o := ⟨none, _, _, _, _, _⟩) rfl (fun K hK => ?_) (AllReadyH.nil)
                      rw [if_pos (by rfl)]
                      refine wp_store_row 30 (.tmp 11) (.tmp 56) (by rfl) R207 DG (by rfl) (by rfl) 30 zero32 O213 HI.out HZ.out HO.out ?_
                      refine hK.out _ _ trivial (fun _ => ?_)
                      clear hK K
                      have E214 := Chg.own (b := R207) E213 (chg_setRow _ _ DG) z207
                      have S214 : Blk _ R207 DG 30 := setRow_heap _ _ _ _ _ _ O213
                      have O214 := Blk.chg S213 (chg_setRow _ R207 DG) (by simpa using (Ne.symm ne207))
                      refine wpAnyH_done (by kernel_rfl) ?_ _
                      try simp only [Act.put]
                      go_wp2_with fail
                      go_meet
                      exact ⟨P189, R207, rfl, rfl, O214, S214, E214⟩
              · as_aux_lemma =>
                  go_simp
                  refine hK.out _ _ trivial (fun _ => ?_)
                  clear hK K
                  try simp only [Act.put, List.setIfInBounds_toArray, List.set_cons_zero, List.set_cons_succ]
                  generalize hx215 : World.alloc v189 (Obj.cells #[Value.slice A1 n1 c1, Value.slice A2 n2 c2] 22) = v215
                  have g215 : Chg none v189 v215 := by rw [← hx215]; exact (Chg.refl _ _).alloc _
                  have N215 : Blk v215 v189.heap.size #[Value.slice A1 n1 c1, Value.slice A2 n2 c2] 22 := by rw [← hx215]; exact Blk.new _ _ _
                  have E216 := E190.trans g215
                  have B10_216 := Blk.chg N189 g215 (by simp)
                  clear hx215
                  generalize hp215 : v189.heap.size = Q215 at *
                  have z215 : v0.heap.size ≤ Q215 := by rw [← hp215]; exact E190.size
                  clear hp215
                  refine wpAnyH_ready (rs := [2, 13]) (by kernel_rfl) (by simp) ?_
                  refine AllReadyH.cons (o := ⟨some 47, _, _, _, _, _⟩) rfl (fun K hK => ?_) (AllReadyH.cons (o := ⟨some 11, _, _, _, _, _⟩) rfl (fun K hK => ?_) (AllReadyH.nil))
                  · as_aux_lemma =>
                      go_simp
                      go_at_call 19
                      refine (HP1.out _ E216).mono ?_
                      rintro e v217 ⟨rfl, g217⟩
                      have E218 := E216.trans g217
                      have B10_218 := Blk.chg B10_216 g217 (by simp)
                      have BQ_218 := Blk.chg N215 g217 (by simp)
                      go_wp2_with fail
                      refine hK.out _ _ trivial (fun _ => ?_)
                      clear hK K
                      try simp only [Act.put, List.setIfInBounds_toArray, List.set_cons_zero, List.set_cons_succ]
                      refine wpAnyH_ready (rs := [11, 13]) (by kernel_rfl) (by simp) ?_
                      refine AllReadyH.cons (o := ⟨some 56, _, _, _, _, _⟩) rfl (fun K hK => ?_) (AllReadyH.cons (o := ⟨some 11, _, _, _, _, _⟩) rfl (fun K hK => ?_) (AllReadyH.nil))
                      · as_aux_lemma =>
                          go_simp
                          go_at_call 19
                          refine (HP2.out _ Q215 E218 BQ_218).mono ?_
                          rintro e v219 ⟨rfl, g219⟩
                          have E220 := E218.trans g219
                          have B10_220 := Blk.chg B10_218 g219 (by simp)
                          have BQ_220 := Blk.chg BQ_218 g219 (by simp)
                          go_wp2_with fail
                          refine hK.out _ _ trivial (fun _ => ?_)
                          clear hK K
                          try simp only [Act.put, List.setIfInBounds_toArray, List.set_cons_zero, List.set_cons_succ]
                          refine wpAnyH_ready (rs := [13]) (by kernel_rfl) (by simp) ?_
                          refine AllReadyH.cons (o := ⟨some 11, _, _, _, _, _⟩) rfl (fun K hK => ?_) (AllReadyH.nil)
                          go_simp
                          refine hK.out _ _ trivial (fun _ => ?_)
                          clear hK K
                          try simp only [Act.put, List.setIfInBounds_toArray, List.set_cons_zero, List.set_cons_succ]
                          generalize hx221 : World.alloc v219 (Obj.cells #[Value.int IntKind.u8 0, Value.int IntKind.u8 0, Value.int IntKind.u8 0, Value.int IntKind.u8 0, Value.int IntKind.u8 0, Value.int IntKind.u8 0, Value.int IntKind.u8 0, Value.int IntKind.u8 0, Value.int IntKind.u8 0, Value.int IntKind.u8 0, Value.int IntKind.u8 0, Value.int IntKind.u8 0, Value.int IntKind.u8 0, Value.int IntKind.u8 0, Value.int IntKind.u8 0, Value.int IntKind.u8 0, Value.int IntKind.u8 0, Value.int IntKind.u8 0, Value.int IntKind.u8 0, Value.int IntKind.u8 0, Value.int IntKind.u8 0, Value.int IntKind.u8 0, Value.int IntKind.u8 0, Value.int IntKind.u8 0, Value.int IntKind.u8 0, Value.int IntKind.u8 0, Value.int IntKind.u8 0, Value.int IntKind.u8 0, Value.int IntKind.u8 0, Value.int IntKind.u8 0, Value.int IntKind.u8 0, Value.int IntKind.u8 0] 30) = v221
                          have g221 : Chg none v219 v221 := by rw [← hx221]; exact (Chg.refl _ _).alloc _
                          have N221 : Blk v221 v219.heap.size zero32 30 := by rw [← hx221]; exact Blk.new _ _ _
                          have ne221 : v219.heap.size ≠ P189 := by have := Blk.lt B10_220; omega
                          have E222 := E220.trans g221
                          have B10_222 := Blk.chg B10_220 g221 (by simp)
                          have BQ_222 := Blk.chg BQ_220 g221 (by simp)
                          clear hx221
                          generalize hp221 : v219.heap.size = R221 at *
                          have z221 : v0.heap.size ≤ R221 := by rw [← hp221]; exact E220.size
                          clear hp221
                          refine wpAnyH_ready (rs := [14]) (by kernel_rfl) (by simp) ?_
                          refine AllReadyH.cons (o := ⟨none, _, _, _, _, _⟩) rfl (fun K hK => ?_) (AllReadyH.nil)
                          rw [if_pos (by rfl)]
                          refine wp_store_row 30 (.tmp 10) (.tmp 47) (by rfl) P189 DG (by rfl) (by rfl) 30 zero32 B10_222 HI.out HZ.out HO.out ?_
                          refine hK.out _ _ trivial (fun _ => ?_)
                          clear hK K
                          have E223 := Chg.own (b := P189) E222 (chg_setRow _ _ DG) z189
                          have S223 : Blk _ P189 DG 30 := setRow_heap _ _ _ _ _ _ B10_222
                          have O223 := Blk.chg N221 (chg_setRow _ P189 DG) (by simpa using ne221)
                          refine wpAnyH_ready (rs := [15]) (by kernel_rfl) (by simp) ?_
                          refine AllReadyH.cons (o := ⟨none, _, _, _, _, _⟩) rfl (fun K hK => ?_) (AllReadyH.nil)
                          rw [if_pos (by rfl)]
                          refine wp_store_row 30 (.tmp 11) (.tmp 56) (by rfl) R221 DG (by rfl) (by rfl) 30 zero32 O223 HI.out HZ.out HO.out ?_
                          refine hK.out _ _ trivial (fun _ => ?_)
                          clear hK K
                          have E224 := Chg.own (b := R221) E223 (chg_setRow _ _ DG) z221
                          have S224 : Blk _ R221 DG 30 := setRow_heap _ _ _ _ _ _ O223
                          have O224 := Blk.chg S223 (chg_setRow _ R221 DG) (by simpa using (Ne.symm ne221))
                          refine wpAnyH_done (by kernel_rfl) ?_ _
                          try simp only [Act.put]
                          go_wp2_with fail
                          go_meet
                          exact ⟨P189, R221, rfl, rfl, O224, S224, E224⟩
                      · as_aux_lemma =>
                          go_simp
                          refine hK.out _ _ trivial (fun _ => ?_)
                          clear hK K
                          try simp only [Act.put, List.setIfInBounds_toArray, List.set_cons_zero, List.set_cons_succ]
                          generalize hx225 : World.alloc v217 (Obj.cells #[Value.int IntKind.u8 0, Value.int IntKind.u8 0, Value.int IntKind.u8 0, Value.int IntKind.u8 0, Value.int IntKind.u8 0, Value.int IntKind.u8 0, Value.int IntKind.u8 0, Value.int IntKind.u8 0, Value.int IntKind.u8 0, Value.int IntKind.u8 0, Value.int IntKind.u8 0, Value.int IntKind.u8 0, Value.int IntKind.u8 0, Value.int IntKind.u8 0, Value.int IntKind.u8 0, Value.int IntKind.u8 0, Value.int IntKind.u8 0, Value.int IntKind.u8 0, Value.int IntKind.u8 0, Value.int IntKind.u8 0, Value.int IntKind.u8 0, Value.int IntKind.u8 0, Value.int IntKind.u8 0, Value.int IntKind.u8 0, Value.int IntKind.u8 0, Value.int IntKind.u8 0, Value.int IntKind.u8 0, Value.int IntKind.u8 0, Value.int IntKind.u8 0, Value.int IntKind.u8 0, Value.int IntKind.u8 0, Value.int IntKind.u8 0] 30) = v225
                          have g225 : Chg none v217 v225 := by rw [← hx225]; exact (Chg.refl _ _).alloc _
                          have N225 : Blk v225 v217.heap.size zero32 30 := by rw [← hx225]; exact Blk.new _ _ _
                          have ne225 : v217.heap.size ≠ P189 := by have := Blk.lt B10_218; omega
                          have E226 := E218.trans g225
                          have B10_226 := Blk.chg B10_218 g225 (by simp)
                          have BQ_226 := Blk.chg BQ_218 g225 (by simp)
                          clear hx225
                          generalize hp225 : v217.heap.size = R225 at *
                          have z225 : v0.heap.size ≤ R225 := by rw [← hp225]; exact E218.size
                          clear hp225
                          refine wpAnyH_ready (rs := [11]) (by kernel_rfl) (by simp) ?_
                          refine AllReadyH.cons (o := ⟨some 56, _, _, _, _, _⟩) rfl (fun K hK => ?_) (AllReadyH.nil)
                          go_simp
                          go_at_call 19
                          refine (HP2.out _ Q215 E226 BQ_226).mono ?_
                          rintro e v227 ⟨rfl, g227⟩
                          have E228 := E226.trans g227
                          have B10_228 := Blk.chg B10_226 g227 (by simp)
                          have B11_228 := Blk.chg N225 g227 (by simp)
                          have BQ_228 := Blk.chg BQ_226 g227 (by simp)
                          go_wp2_with fail
                          refine hK.out _ _ trivial (fun _ => ?_)
                          clear hK K
                          try simp only [Act.put, List.setIfInBounds_toArray, List.set_cons_zero, List.set_cons_succ]
                          refine wpAnyH_ready (rs := [14]) (by kernel_rfl) (by simp) ?_
                          refine AllReadyH.cons (o := ⟨none, _, _, _, _, _⟩) rfl (fun K hK => ?_) (AllReadyH.nil)
                          rw [if_pos (by rfl)]
                          refine wp_store_row 30 (.tmp 10) (.tmp 47) (by rfl) P189 DG (by rfl) (by rfl) 30 zero32 B10_228 HI.out HZ.out HO.out ?_
                          refine hK.out _ _ trivial (fun _ => ?_)
                          clear hK K
                          have E229 := Chg.own (b := P189) E228 (chg_setRow _ _ DG) z189
                          have S229 : Blk _ P189 DG 30 := setRow_heap _ _ _ _ _ _ B10_228
                          have O229 := Blk.chg B11_228 (chg_setRow _ P189 DG) (by simpa using ne225)
                          refine wpAnyH_ready (rs := [15]) (by kernel_rfl) (by simp) ?_
                          refine AllReadyH.cons (o := ⟨none, _, _, _, _, _⟩) rfl (fun K hK => ?_) (AllReadyH.nil)
                          rw [if_pos (by rfl)]
                          refine wp_store_row 30 (.tmp 11) (.tmp 56) (by rfl) R225 DG (by rfl) (by rfl) 30 zero32 O229 HI.out HZ.out HO.out ?_
                          refine hK.out _ _ trivial (fun _ => ?_)
                          clear hK K
                          have E230 := Chg.own (b := R225) E229 (chg_setRow _ _ DG) z225
                          have S230 : Blk _ R225 DG 30 := setRow_heap _ _ _ _ _ _ O229
                          have O230 := Blk.chg S229 (chg_setRow _ R225 DG) (by simpa using (Ne.symm ne225))
                          refine wpAnyH_done (by kernel_rfl) ?_ _
                          try simp only [Act.put]
                          go_wp2_with fail
                          go_meet
                          exact ⟨P189, R225, rfl, rfl, O230, S230, E230⟩
                  · as_aux_lemma =>
                      go_simp
                      refine hK.out _ _ trivial (fun _ => ?_)
                      clear hK K
                      try simp only [Act.put, List.setIfInBounds_toArray, List.set_cons_zero, List.set_cons_succ]
                      generalize hx231 : World.alloc v215 (Obj.cells #[Value.int IntKind.u8 0, Value.int IntKind.u8 0, Value.int IntKind.u8 0, Value.int IntKind.u8 0, Value.int IntKind.u8 0, Value.int IntKind.u8 0, Value.int IntKind.u8 0, Value.int IntKind.u8 0, Value.int IntKind.u8 0, Value.int IntKind.u8 0, Value.int IntKind.u8 0, Value.int IntKind.u8 0, Value.int IntKind.u8 0, Value.int IntKind.u8 0, Value.int IntKind.u8 0, Value.int IntKind.u8 0, Value.int IntKind.u8 0, Value.int IntKind.u8 0, Value.int IntKind.u8 0, Value.int IntKind.u8 0, Value.int IntKind.u8 0, Value.int IntKind.u8 0, Value.int IntKind.u8 0, Value.int IntKind.u8 0, Value.int IntKind.u8 0, Value.int IntKind.u8 0, Value.int IntKind.u8 0, Value.int IntKind.u8 0, Value.int IntKind.u8 0, Value.int IntKind.u8 0, Value.int IntKind.u8 0, Value.int IntKind.u8 0] 30) = v231
                      have g231 : Chg none v215 v231 := by rw [← hx231]; exact (Chg.refl _ _).alloc _
                      have N231 : Blk v231 v215.heap.size zero32 30 := by rw [← hx231]; exact Blk.new _ _ _
                      have ne231 : v215.heap.size ≠ P189 := by have := Blk.lt B10_216; omega
                      have E232 := E216.trans g231
                      have B10_232 := Blk.chg B10_216 g231 (by simp)
                      have BQ_232 := Blk.chg N215 g231 (by simp)
                      clear hx231
                      generalize hp231 : v215.heap.size = R231 at *
                      have z231 : v0.heap.size ≤ R231 := by rw [← hp231]; exact E216.size
                      clear hp231
                      refine wpAnyH_ready (rs := [2]) (by kernel_rfl) (by simp) ?_
                      refine AllReadyH.cons (o := ⟨some 47, _, _, _, _, _⟩) rfl (fun K hK => ?_) (AllReadyH.nil)
                      go_simp
                      go_at_call 19
                      refine (HP1.out _ E232).mono ?_
                      rintro e v233 ⟨rfl, g233⟩
                      have E234 := E232.trans g233
                      have B10_234 := Blk.chg B10_232 g233 (by simp)
                      have B11_234 := Blk.chg N231 g233 (by simp)
                      have BQ_234 := Blk.chg BQ_232 g233 (by simp)
                      go_wp2_with fail
                      refine hK.out _ _ trivial (fun _ => ?_)
                      clear hK K
                      try simp only [Act.put, List.setIfInBounds_toArray, List.set_cons_zero, List.set_cons_succ]
                      refine wpAnyH_ready (rs := [11]) (by kernel_rfl) (by simp) ?_
                      refine AllReadyH.cons (o := ⟨some 56, _, _, _, _, _⟩) rfl (fun K hK => ?_) (AllReadyH.nil)
                      go_simp
                      go_at_call 19
                      refine (HP2.out _ Q215 E234 BQ_234).mono ?_
                      rintro e v235 ⟨rfl, g235⟩
                      have E236 := E234.trans g235
                      have B10_236 := Blk.chg B10_234 g235 (by simp)
                      have B11_236 := Blk.chg B11_234 g235 (by simp)
                      have BQ_236 := Blk.chg BQ_234 g235 (by simp)
                      go_wp2_with fail
                      refine hK.out _ _ trivial (fun _ => ?_)
                      clear hK K
                      try simp only [Act.put, List.setIfInBounds_toArray, List.set_cons_zero, List.set_cons_succ]
                      refine wpAnyH_ready (rs := [14]) (by kernel_rfl) (by simp) ?_
                      refine AllReadyH.cons (o := ⟨none, _, _, _, _, _⟩) rfl (fun K hK => ?_) (AllReadyH.nil)
                      rw [if_pos (by rfl)]
                      refine wp_store_row 30 (.tmp 10) (.tmp 47) (by rfl) P189 DG (by rfl) (by rfl) 30 zero32 B10_236 HI.out HZ.out HO.out ?_
                      refine hK.out _ _ trivial (fun _ => ?_)
                      clear hK K
                      have E237 := Chg.own (b := P189) E236 (chg_setRow _ _ DG) z189
                      have S237 : Blk _ P189 DG 30 := setRow_heap _ _ _ _ _ _ B10_236
                      have O237 := Blk.chg B11_236 (chg_setRow _ P189 DG) (by simpa using ne231)
                      refine wpAnyH_ready (rs := [15]) (by kernel_rfl) (by simp) ?_
                      refine AllReadyH.cons (o := ⟨none, _, _, _, _, _⟩) rfl (fun K hK => ?_) (AllReadyH.nil)
                      rw [if_pos (by rfl)]
                      refine wp_store_row 30 (.tmp 11) (.tmp 56) (by rfl) R231 DG (by rfl) (by rfl) 30 zero32 O237 HI.out HZ.out HO.out ?_
                      refine hK.out _ _ trivial (fun _ => ?_)
                      clear hK K
                      have E238 := Chg.own (b := R231) E237 (chg_setRow _ _ DG) z231
                      have S238 : Blk _ R231 DG 30 := setRow_heap _ _ _ _ _ _ O237
                      have O238 := Blk.chg S237 (chg_setRow _ R231 DG) (by simpa using (Ne.symm ne231))
                      refine wpAnyH_done (by kernel_rfl) ?_ _
                      try simp only [Act.put]
                      go_wp2_with fail
                      go_meet
                      exact ⟨P189, R231, rfl, rfl, O238, S238, E238⟩
              · as_aux_lemma =>
                  go_simp
                  refine hK.out _ _ trivial (fun _ => ?_)
                  clear hK K
                  try simp only [Act.put, List.setIfInBounds_toArray, List.set_cons_zero, List.set_cons_succ]
                  generalize hx239 : World.alloc v189 (Obj.cells #[Value.int IntKind.u8 0, Value.int IntKind.u8 0, Value.int IntKind.u8 0, Value.int IntKind.u8 0, Value.int IntKind.u8 0, Value.int IntKind.u8 0, Value.int IntKind.u8 0, Value.int IntKind.u8 0, Value.int IntKind.u8 0, Value.int IntKind.u8 0, Value.int IntKind.u8 0, Value.int IntKind.u8 0, Value.int IntKind.u8 0, Value.int IntKind.u8 0, Value.int IntKind.u8 0, Value.int IntKind.u8 0, Value.int IntKind.u8 0, Value.int IntKind.u8 0, Value.int IntKind.u8 0, Value.int IntKind.u8 0, Value.int IntKind.u8 0, Value.int IntKind.u8 0, Value.int IntKind.u8 0, Value.int IntKind.u8 0, Value.int IntKind.u8 0, Value.int IntKind.u8 0, Value.int IntKind.u8 0, Value.int IntKind.u8 0, Value.int IntKind.u8 0, Value.int IntKind.u8 0, Value.int IntKind.u8 0, Value.int IntKind.u8 0] 30) = v239
                  have g239 : Chg none v189 v239 := by rw [← hx239]; exact (Chg.refl _ _).alloc _
                  have N239 : Blk v239 v189.heap.size zero32 30 := by rw [← hx239]; exact Blk.new _ _ _
                  have ne239 : v189.heap.size ≠ P189 := by have := Blk.lt N189; omega
                  have E240 := E190.trans g239
                  have B10_240 := Blk.chg N189 g239 (by simp)
                  clear hx239
                  generalize hp239 : v189.heap.size = R239 at *
                  have z239 : v0.heap.size ≤ R239 := by rw [← hp239]; exact E190.size
                  clear hp239
                  refine wpAnyH_ready (rs := [2, 10]) (by kernel_rfl) (by simp) ?_
                  refine AllReadyH.cons (o := ⟨some 47, _, _, _, _, _⟩) rfl (fun K hK => ?_) (AllReadyH.cons (o := ⟨some 55, _, _, _, _, _⟩) rfl (fun K hK => ?_) (AllReadyH.nil))
                  · as_aux_lemma =>
                      go_simp
                      go_at_call 19
                      refine (HP1.out _ E240).mono ?_
                      rintro e v241 ⟨rfl, g241⟩
                      have E242 := E240.trans g241
                      have B10_242 := Blk.chg B10_240 g241 (by simp)
                      have B11_242 := Blk.chg N239 g241 (by simp)
                      go_wp2_with fail
                      refine hK.out _ _ trivial (fun _ => ?_)
                      clear hK K
                      try simp only [Act.put, List.setIfInBounds_toArray, List.set_cons_zero, List.set_cons_succ]
                      refine wpAnyH_ready (rs := [10]) (by kernel_rfl) (by simp) ?_
                      refine AllReadyH.cons (o := ⟨some 55, _, _, _, _, _⟩) rfl (fun K hK => ?_) (AllReadyH.nil)
                      go_simp
                      refine hK.out _ _ trivial (fun _ => ?_)
                      clear hK K
                      try simp only [Act.put, List.setIfInBounds_toArray, List.set_cons_zero, List.set_cons_succ]
                      generalize hx243 : World.alloc v241 (Obj.cells #[Value.slice A1 n1 c1, Value.slice A2 n2 c2] 22) = v243
                      have g243 : Chg none v241 v243 := by rw [← hx243]; exact (Chg.refl _ _).alloc _
                      have N243 : Blk v243 v241.heap.size #[Value.slice A1 n1 c1, Value.slice A2 n2 c2] 22 := by rw [← hx243]; exact Blk.new _ _ _
                      have E244 := E242.trans g243
                      have B10_244 := Blk.chg B10_242 g243 (by simp)
                      have B11_244 := Blk.chg B11_242 g243 (by simp)
                      clear hx243
                      generalize hp243 : v241.heap.size = Q243 at *
                      have z243 : v0.heap.size ≤ Q243 := by rw [← hp243]; exact E242.size
                      clear hp243
                      refine wpAnyH_ready (rs := [11]) (by kernel_rfl) (by simp) ?_
                      refine AllReadyH.cons (o := ⟨some 56, _, _, _, _, _⟩) rfl (fun K hK => ?_) (AllReadyH.nil)
                      go_simp
                      go_at_call 19
                      refine (HP2.out _ Q243 E244 N243).mono ?_
                      rintro e v245 ⟨rfl, g245⟩
                      have E246 := E244.trans g245
                      have B10_246 := Blk.chg B10_244 g245 (by simp)
                      have B11_246 := Blk.chg B11_244 g245 (by simp)
                      have BQ_246 := Blk.chg N243 g245 (by simp)
                      go_wp2_with fail
                      refine hK.out _ _ trivial (fun _ => ?_)
                      clear hK K
                      try simp only [Act.put, List.setIfInBounds_toArray, List.set_cons_zero, List.set_cons_succ]
                      refine wpAnyH_ready (rs := [14]) (by kernel_rfl) (by simp) ?_
                      refine AllReadyH.cons (o := ⟨none, _, _, _, _, _⟩) rfl (fun K hK => ?_) (AllReadyH.nil)
                      rw [if_pos (by rfl)]
                      refine wp_store_row 30 (.tmp 10) (.tmp 47) (by rfl) P189 DG (by rfl) (by rfl) 30 zero32 B10_246 HI.out HZ.out HO.out ?_
                      refine hK.out _ _ trivial (fun _ => ?_)
                      clear hK K
                      have E247 := Chg.own (b := P189) E246 (chg_setRow _ _ DG) z189
                      have S247 : Blk _ P189 DG 30 := setRow_heap _ _ _ _ _ _ B10_246
                      have O247 := Blk.chg B11_246 (chg_setRow _ P189 DG) (by simpa using ne239)
                      refine wpAnyH_ready (rs := [15]) (by kernel_rfl) (by simp) ?_
                      refine AllReadyH.cons (o := ⟨none, _, _, _, _, _⟩) rfl (fun K hK => ?_) (AllReadyH.nil)
                      rw [if_pos (by rfl)]
                      refine wp_store_row 30 (.tmp 11) (.tmp 56) (by rfl) R239 DG (by rfl) (by rfl) 30 zero32 O247 HI.out HZ.out HO.out ?_
                      refine hK.out _ _ trivial (fun _ => ?_)
                      clear hK K
                      have E248 := Chg.own (b := R239) E247 (chg_setRow _ _ DG) z239
                      have S248 : Blk _ R239 DG 30 := setRow_heap _ _ _ _ _ _ O247
                      have O248 := Blk.chg S247 (chg_setRow _ R239 DG) (by simpa using (Ne.symm ne239))
                      refine wpAnyH_done (by kernel_rfl) ?_ _
                      try simp only [Act.put]
                      go_wp2_with fail
                      go_meet
                      exact ⟨P189, R239, rfl, rfl, O248, S248, E248⟩
                  · as_aux_lemma =>
                      go_simp
                      refine hK.out _ _ trivial (fun _ => ?_)
                      clear hK K
                      try simp only [Act.put, List.setIfInBounds_toArray, List.set_cons_zero, List.set_cons_succ]
                      generalize hx249 : World.alloc v239 (Obj.cells #[Value.slice A1 n1 c1, Value.slice A2 n2 c2] 22) = v249
                      have g249 : Chg none v239 v249 := by rw [← hx249]; exact (Chg.refl _ _).alloc _
                      have N249 : Blk v249 v239.heap.size #[Value.slice A1 n1 c1, Value.slice A2 n2 c2] 22 := by rw [← hx249]; exact Blk.new _ _ _
                      have E250 := E240.trans g249
                      have B10_250 := Blk.chg B10_240 g249 (by simp)
                      have B11_250 := Blk.chg N239 g249 (by simp)
                      clear hx249
                      generalize hp249 : v239.heap.size = Q249 at *
                      have z249 : v0.heap.size ≤ Q249 := by rw [← hp249]; exact E240.size
                      clear hp249
                      refine wpAnyH_ready (rs := [2]) (by kernel_rfl) (by simp) ?_
                      refine AllReadyH.cons (o := ⟨some 47, _, _, _, _, _⟩) rfl (fun K hK => ?_) (AllReadyH.nil)
                      go_simp
                      go_at_call 19
                      refine (HP1.out _ E250).mono ?_
                      rintro e v251 ⟨rfl, g251⟩
                      have E252 := E250.trans g251
                      have B10_252 := Blk.chg B10_250 g251 (by simp)
                      have B11_252 := Blk.chg B11_250 g251 (by simp)
                      have BQ_252 := Blk.chg N249 g251 (by simp)
                      go_wp2_with fail
                      refine hK.out _ _ trivial (fun _ => ?_)
                      clear hK K
                      try simp only [Act.put, List.setIfInBounds_toArray, List.set_cons_zero, List.set_cons_succ]
                      refine wpAnyH_ready (rs := [11]) (by kernel_rfl) (by simp) ?_
                      refine AllReadyH.cons (o := ⟨some 56, _, _, _, _, _⟩) rfl (fun K hK => ?_) (AllReadyH.nil)
                      go_simp
                      go_at_call 19
                      refine (HP2.out _ Q249 E252 BQ_252).mono ?_
                      rintro e v253 ⟨rfl, g253⟩
                      have E254 := E252.trans g253
                      have B10_254 := Blk.chg B10_252 g253 (by simp)
                      have B11_254 := Blk.chg B11_252 g253 (by simp)
                      have BQ_254 := Blk.chg BQ_252 g253 (by simp)
                      go_wp2_with fail
                      refine hK.out _ _ trivial (fun _ => ?_)
                      clear hK K
                      try simp only [Act.put, List.setIfInBounds_toArray, List.set_cons_zero, List.set_cons_succ]
                      refine wpAnyH_ready (rs := [14]) (by kernel_rfl) (by simp) ?_
                      refine AllReadyH.cons (o := ⟨none, _, _, _, _, _⟩) rfl (fun K hK => ?_) (AllReadyH.nil)
                      rw [if_pos (by rfl)]
                      refine wp_store_row 30 (.tmp 10) (.tmp 47) (by rfl) P189 DG (by rfl) (by rfl) 30 zero32 B10_254 HI.out HZ.out HO.out ?_
                      refine hK.out _ _ trivial (fun _ => ?_)
                      clear hK K
                      have E255 := Chg.own (b := P189) E254 (chg_setRow _ _ DG) z189
                      have S255 : Blk _ P189 DG 30 := setRow_heap _ _ _ _ _ _ B10_254
                      have O255 := Blk.chg B11_254 (chg_setRow _ P189 DG) (by simpa using ne239)
                      refine wpAnyH_ready (rs := [15]) (by kernel_rfl) (by simp) ?_
                      refine AllReadyH.cons (o := ⟨none, _, _, _, _, _⟩) rfl (fun K hK => ?_) (AllReadyH.nil)
                      rw [if_pos (by rfl)]
                      refine wp_store_row 30 (.tmp 11) (.tmp 56) (by rfl) R239 DG (by rfl) (by rfl) 30 zero32 O255 HI.out HZ.out HO.out ?_
                      refine hK.out _ _ trivial (fun _ => ?_)
                      clear hK K
                      have E256 := Chg.own (b := R239) E255 (chg_setRow _ _ DG) z239
                      have S256 : Blk _ R239 DG 30 := setRow_heap _ _ _ _ _ _ O255
                      have O256 := Blk.chg S255 (chg_setRow _ R239 DG) (by simpa using (Ne.symm ne239))
                      refine wpAnyH_done (by kernel_rfl) ?_ _
                      try simp only [Act.put]
                      go_wp2_with fail
                      go_meet
                      exact ⟨P189, R239, rfl, rfl, O256, S256, E256⟩
          · as_aux_lemma =>
              go_simp
              refine hK.out _ _ trivial (fun _ => ?_)
              clear hK K
              try simp only [Act.put, List.setIfInBounds_toArray, List.set_cons_zero, List.set_cons_succ]
              generalize hx257 : World.alloc v0 (Obj.cells #[Value.int IntKind.u8 0, Value.int IntKind.u8 0, Value.int IntKind.u8 0, Value.int IntKind.u8 0, Value.int IntKind.u8 0, Value.int IntKind.u8 0, Value.int IntKind.u8 0, Value.int IntKind.u8 0, Value.int IntKind.u8 0, Value.int IntKind.u8 0, Value.int IntKind.u8 0, Value.int IntKind.u8 0, Value.int IntKind.u8 0, Value.int IntKind.u8 0, Value.int IntKind.u8 0, Value.int IntKind.u8 0, Value.int IntKind.u8 0, Value.int IntKind.u8 0, Value.int IntKind.u8 0, Value.int IntKind.u8 0, Value.int IntKind.u8 0, Value.int IntKind.u8 0, Value.int IntKind.u8 0, Value.int IntKind.u8 0, Value.int IntKind.u8 0, Value.int IntKind.u8 0, Value.int IntKind.u8 0, Value.int IntKind.u8 0, Value.int IntKind.u8 0, Value.int IntKind.u8 0, Value.int IntKind.u8 0, Value.int IntKind.u8 0] 30) = v257
              have g257 : Chg none v0 v257 := by rw [← hx257]; exact (Chg.refl _ _).alloc _
              have N257 : Blk v257 v0.heap.size zero32 30 := by rw [← hx257]; exact Blk.new _ _ _
              have E258 := E0.trans g257
              clear hx257
              generalize hp257 : v0.heap.size = R257 at *
              have z257 : v0.heap.size ≤ R257 := by rw [← hp257]; exact E0.size
              clear hp257
              refine wpAnyH_ready (rs := [2, 10, 12]) (by kernel_rfl) (by simp) ?_
              refine AllReadyH.cons (o := ⟨some 47, _, _, _, _, _⟩) rfl (fun K hK => ?_) (AllReadyH.cons (o := ⟨some 55, _, _, _, _, _⟩) rfl (fun K hK => ?_) (AllReadyH.cons (o := ⟨some 10, _, _, _, _, _⟩) rfl (fun K hK => ?_) (AllReadyH.nil)))
              · as_aux_lemma =>
                  go_simp
                  go_at_call 19
                  refine (HP1.out _ E258).mono ?_
                  rintro e v259 ⟨rfl, g259⟩
                  have E260 := E258.trans g259
                  have B11_260 := Blk.chg N257 g259 (by simp)
                  go_wp2_with fail
                  refine hK.out _ _ trivial (fun _ => ?_)
                  clear hK K
                  try simp only [Act.put, List.setIfInBounds_toArray, List.set_cons_zero, List.set_cons_succ]
                  refine wpAnyH_ready (rs := [10, 12]) (by kernel_rfl) (by simp) ?_
                  refine AllReadyH.cons (o := ⟨some 55, _, _, _, _, _⟩) rfl (fun K hK => ?_) (AllReadyH.cons (o := ⟨some 10, _, _, _, _, _⟩) rfl (fun K hK => ?_) (AllReadyH.nil))
                  · as_aux_lemma =>
                      go_simp
                      refine hK.out _ _ trivial (fun _ => ?_)
                      clear hK K
                      try simp only [Act.put, List.setIfInBounds_toArray, List.set_cons_zero, List.set_cons_succ]
                      generalize hx261 : World.alloc v259 (Obj.cells #[Value.slice A1 n1 c1, Value.slice A2 n2 c2] 22) = v261
                      have g261 : Chg none v259 v261 := by rw [← hx261]; exact (Chg.refl _ _).alloc _
                      have N261 : Blk v261 v259.heap.size #[Value.slice A1 n1 c1, Value.slice A2 n2 c2] 22 := by rw [← hx261]; exact Blk.new _ _ _
                      have E262 := E260.trans g261
                      have B11_262 := Blk.chg B11_260 g261 (by simp)
                      clear hx261
                      generalize hp261 : v259.heap.size = Q261 at *
                      have z261 : v0.heap.size ≤ Q261 := by rw [← hp261]; exact E260.size
                      clear hp261
                      refine wpAnyH_ready (rs := [11, 12]) (by kernel_rfl) (by simp) ?_
                      refine AllReadyH.cons (o := ⟨some 56, _, _, _, _, _⟩) rfl (fun K hK => ?_) (AllReadyH.cons (o := ⟨some 10, _, _, _, _, _⟩) rfl (fun K hK => ?_) (AllReadyH.nil))
                      · as_aux_lemma =>
                          go_simp
                          go_at_call 19
                          refine (HP2.out _ Q261 E262 N261).mono ?_
                          rintro e v263 ⟨rfl, g263⟩
                          have E264 := E262.trans g263
                          have B11_264 := Blk.chg B11_262 g263 (by simp)
                          have BQ_264 := Blk.chg N261 g263 (by simp)
                          go_wp2_with fail
                          refine hK.out _ _ trivial (fun _ => ?_)
                          clear hK K
                          try simp only [Act.put, List.setIfInBounds_toArray, List.set_cons_zero, List.set_cons_succ]
                          refine wpAnyH_ready (rs := [12]) (by kernel_rfl) (by simp) ?_
                          refine AllReadyH.cons (o := ⟨some 10, _, _, _, _, _⟩) rfl (fun K hK => ?_) (AllReadyH.nil)
                          go_simp
                          refine hK.out _ _ trivial (fun _ => ?_)
                          clear hK K
                          try simp only [Act.put, List.setIfInBounds_toArray, List.set_cons_zero, List.set_cons_succ]
                          generalize hx265 : World.alloc v263 (Obj.cells #[Value.int IntKind.u8 0, Value.int IntKind.u8 0, Value.int IntKind.u8 0, Value.int IntKind.u8 0, Value.int IntKind.u8 0, Value.int IntKind.u8 0, Value.int IntKind.u8 0, Value.int IntKind.u8 0, Value.int IntKind.u8 0, Value.int IntKind.u8 0, Value.int IntKind.u8 0, Value.int IntKind.u8 0, Value.int IntKind.u8 0, Value.int IntKind.u8 0, Value.int IntKind.u8 0, Value.int IntKind.u8 0, Value.int IntKind.u8 0, Value.int IntKind.u8 0, Value.int IntKind.u8 0, Value.int IntKind.u8 0, Value.int IntKind.u8 0, Value.int IntKind.u8 0, Value.int IntKind.u8 0, Value.int IntKind.u8 0, Value.int IntKind.u8 0, Value.int IntKind.u8 0, Value.int IntKind.u8 0, Value.int IntKind.u8 0, Value.int IntKind.u8 0, Value.int IntKind.u8 0, Value.int IntKind.u8 0, Value.int IntKind.u8 0] 30) = v265
                          have g265 : Chg none v263 v265 := by rw [← hx265]; exact (Chg.refl _ _).alloc _
                          have N265 : Blk v265 v263.heap.size zero32 30 := by rw [← hx265]; exact Blk.new _ _ _
                          have ne265 : v263.heap.size ≠ R257 := by have := Blk.lt B11_264; omega
                          have E266 := E264.trans g265
                          have B11_266 := Blk.chg B11_264 g265 (by simp)
                          have BQ_266 := Blk.chg BQ_264 g265 (by simp)
                          clear hx265
                          generalize hp265 : v263.heap.size = P265 at *
                          have z265 : v0.heap.size ≤ P265 := by rw [← hp265]; exact E264.size
                          clear hp265
                          refine wpAnyH_ready (rs := [14]) (by kernel_rfl) (by simp) ?_
                          refine AllReadyH.cons (o := ⟨none, _, _, _, _, _⟩) rfl (fun K hK => ?_) (AllReadyH.nil)
                          rw [if_pos (by rfl)]
                          refine wp_store_row 30 (.tmp 10) (.tmp 47) (by rfl) P265 DG (by rfl) (by rfl) 30 zero32 N265 HI.out HZ.out HO.out ?_
                          refine hK.out _ _ trivial (fun _ => ?_)
                          clear hK K
                          have E267 := Chg.own (b := P265) E266 (chg_setRow _ _ DG) z265
                          have S267 : Blk _ P265 DG 30 := setRow_heap _ _ _ _ _ _ N265
                          have O267 := Blk.chg B11_266 (chg_setRow _ P265 DG) (by simpa using (Ne.symm ne265))
                          refine wpAnyH_ready (rs := [15]) (by kernel_rfl) (by simp) ?_
                          refine AllReadyH.cons (o := ⟨none, _, _, _, _, _⟩) rfl (fun K hK => ?_) (AllReadyH.nil)
                          rw [if_pos (by rfl)]
                          refine wp_store_row 30 (.tmp 11) (.tmp 56) (by rfl) R257 DG (by rfl) (by rfl) 30 zero32 O267 HI.out HZ.out HO.out ?_
                          refine hK.out _ _ trivial (fun _ => ?_)
                          clear hK K
                          have E268 := Chg.own (b := R257) E267 (chg_setRow _ _ DG) z257
                          have S268 : Blk _ R257 DG 30 := setRow_heap _ _ _ _ _ _ O267
                          have O268 := Blk.chg S267 (chg_setRow _ R257 DG) (by simpa using ne265)
                          refine wpAnyH_done (by kernel_rfl) ?_ _
                          try simp only [Act.put]
                          go_wp2_with fail
                          go_meet
                          exact ⟨P265, R257, rfl, rfl, O268, S268, E268⟩
                      · as_aux_lemma =>
                          go_simp
                          refine hK.out _ _ trivial (fun _ => ?_)
                          clear hK K
                          try simp only [Act.put, List.setIfInBounds_toArray, List.set_cons_zero, List.set_cons_succ]
                          generalize hx269 : World.alloc v261 (Obj.cells #[Value.int IntKind.u8 0, Value.int IntKind.u8 0, Value.int IntKind.u8 0, Value.int IntKind.u8 0, Value.int IntKind.u8 0, Value.int IntKind.u8 0, Value.int IntKind.u8 0, Value.int IntKind.u8 0, Value.int IntKind.u8 0, Value.int IntKind.u8 0, Value.int IntKind.u8 0, Value.int IntKind.u8 0, Value.int IntKind.u8 0, Value.int IntKind.u8 0, Value.int IntKind.u8 0, Value.int IntKind.u8 0, Value.int IntKind.u8 0, Value.int IntKind.u8 0, Value.int IntKind.u8 0, Value.int IntKind.u8 0, Value.int IntKind.u8 0, Value.int IntKind.u8 0, Value.int IntKind.u8 0, Value.int IntKind.u8 0, Value.int IntKind.u8 0, Value.int IntKind.u8 0, Value.int IntKind.u8 0, Value.int IntKind.u8 0, Value.int IntKind.u8 0, Value.int IntKind.u8 0, Value.int IntKind.u8 0, Value.int IntKind.u8 0] 30) = v269
                          have g269 : Chg none v261 v269 := by rw [← hx269]; exact (Chg.refl _ _).alloc _
                          have N269 : Blk v269 v261.heap.size zero32 30 := by rw [← hx269]; exact Blk.new _ _ _
                          have ne269 : v261.heap.size ≠ R257 := by have := Blk.lt B11_262; omega
                          have E270 := E262.trans g269
                          have B11_270 := Blk.chg B11_262 g269 (by simp)
                          have BQ_270 := Blk.chg N261 g269 (by simp)
                          clear hx269
                          generalize hp269 : v261.heap.size = P269 at *
                          have z269 : v0.heap.size ≤ P269 := by rw [← hp269]; exact E262.size
                          clear hp269
                          refine wpAnyH_ready (rs := [11]) (by kernel_rfl) (by simp) ?_
                          refine AllReadyH.cons (o := ⟨some 56, _, _, _, _, _⟩) rfl (fun K hK => ?_) (AllReadyH.nil)
                          go_simp
                          go_at_call 19
                          refine (HP2.out _ Q261 E270 BQ_270).mono ?_
                          rintro e v271 ⟨rfl, g271⟩
                          have E272 := E270.trans g271
                          have B10_272 := Blk.chg N269 g271 (by simp)
                          have B11_272 := Blk.chg B11_270 g271 (by simp)
                          have BQ_272 := Blk.chg BQ_270 g271 (by simp)
                          go_wp2_with fail
                          refine hK.out _ _ trivial (fun _ => ?_)
                          clear hK K
                          try simp only [Act.put, List.setIfInBounds_toArray, List.set_cons_zero, List.set_cons_succ]
                          refine wpAnyH_ready (rs := [14]) (by kernel_rfl) (by simp) ?_
                          refine AllReadyH.cons (o := ⟨none, _, _, _, _, _⟩) rfl (fun K hK => ?_) (AllReadyH.nil)
                          rw [if_pos (by rfl)]
                          refine wp_store_row 30 (.tmp 10) (.tmp 47) (by rfl) P269 DG (by rfl) (by rfl) 30 zero32 B10_272 HI.out HZ.out HO.out ?_
                          refine hK.out _ _ trivial (fun _ => ?_)
                          clear hK K
                          have E273 := Chg.own (b := P269) E272 (chg_setRow _ _ DG) z269
                          have S273 : Blk _ P269 DG 30 := setRow_heap _ _ _ _ _ _ B10_272
                          have O273 := Blk.chg B11_272 (chg_setRow _ P269 DG) (by simpa using (Ne.symm ne269))
                          refine wpAnyH_ready (rs := [15]) (by kernel_rfl) (by simp) ?_
                          refine AllReadyH.cons (o := ⟨none, _, _, _, _, _⟩) rfl (fun K hK => ?_) (AllReadyH.nil)
                          rw [if_pos (by rfl)]
                          refine wp_store_row 30 (.tmp 11) (.tmp 56) (by rfl) R257 DG (by rfl) (by rfl) 30 zero32 O273 HI.out HZ.out HO.out ?_
                          refine hK.out _ _ trivial (fun _ => ?_)
                          clear hK K
                          have E274 := Chg.own (b := R257) E273 (chg_setRow _ _ DG) z257
                          have S274 : Blk _ R257 DG 30 := setRow_heap _ _ _ _ _ _ O273
                          have O274 := Blk.chg S273 (chg_setRow _ R257 DG) (by simpa using ne269)
                          refine wpAnyH_done (by kernel_rfl) ?_ _
                          try simp only [Act.put]
                          go_wp2_with fail
                          go_meet
                          exact ⟨P269, R257, rfl, rfl, O274, S274, E274⟩
                  · as_aux_lemma =>
                      go_simp
                      refine hK.out _ _ trivial (fun _ => ?_)
                      clear hK K
                      try simp only [Act.put, List.setIfInBounds_toArray, List.set_cons_zero, List.set_cons_succ]
                      generalize hx275 : World.alloc v259 (Obj.cells #[Value.int IntKind.u8 0, Value.int IntKind.u8 0, Value.int IntKind.u8 0, Value.int IntKind.u8 0, Value.int IntKind.u8 0, Value.int IntKind.u8 0, Value.int IntKind.u8 0, Value.int IntKind.u8 0, Value.int IntKind.u8 0, Value.int IntKind.u8 0, Value.int IntKind.u8 0, Value.int IntKind.u8 0, Value.int IntKind.u8 0, Value.int IntKind.u8 0, Value.int IntKind.u8 0, Value.int IntKind.u8 0, Value.int IntKind.u8 0, Value.int IntKind.u8 0, Value.int IntKind.u8 0, Value.int IntKind.u8 0, Value.int IntKind.u8 0, Value.int IntKind.u8 0, Value.int IntKind.u8 0, Value.int IntKind.u8 0, Value.int IntKind.u8 0, Value.int IntKind.u8 0, Value.int IntKind.u8 0, Value.int IntKind.u8 0, Value.int IntKind.u8 0, Value.int IntKind.u8 0, Value.int IntKind.u8 0, Value.int IntKind.u8 0] 30) = v275
                      have g275 : Chg none v259 v275 := by rw [← hx275]; exact (Chg.refl _ _).alloc _
                      have N275 : Blk v275 v259.heap.size zero32 30 := by rw [← hx275]; exact Blk.new _ _ _
                      have ne275 : v259.heap.size ≠ R257 := by have := Blk.lt B11_260; omega
                      have E276 := E260.trans g275
                      have B11_276 := Blk.chg B11_260 g275 (by simp)
                      clear hx275
                      generalize hp275 : v259.heap.size = P275 at *
                      have z275 : v0.heap.size ≤ P275 := by rw [← hp275]; exact E260.size
                      clear hp275
                      refine wpAnyH_ready (rs := [10]) (by kernel_rfl) (by simp) ?_
                      refine AllReadyH.cons (o := ⟨some 55, _, _, _, _, _⟩) rfl (fun K hK => ?_) (AllReadyH.nil)
                      go_simp
                      refine hK.out _ _ trivial (fun _ => ?_)
                      clear hK K
                      try simp only [Act.put, List.setIfInBounds_toArray, List.set_cons_zero, List.set_cons_succ]
                      generalize hx277 : World.alloc v275 (Obj.cells #[Value.slice A1 n1 c1, Value.slice A2 n2 c2] 22) = v277
                      have g277 : Chg none v275 v277 := by rw [← hx277]; exact (Chg.refl _ _).alloc _
                      have N277 : Blk v277 v275.heap.size #[Value.slice A1 n1 c1, Value.slice A2 n2 c2] 22 := by rw [← hx277]; exact Blk.new _ _ _
                      have E278 := E276.trans g277
                      have B10_278 := Blk.chg N275 g277 (by simp)
                      have B11_278 := Blk.chg B11_276 g277 (by simp)
                      clear hx277
                      generalize hp277 : v275.heap.size = Q277 at *
                      have z277 : v0.heap.size ≤ Q277 := by rw [← hp277]; exact E276.size
                      clear hp277
                      refine wpAnyH_ready (rs := [11]) (by kernel_rfl) (by simp) ?_
                      refine AllReadyH.cons (o := ⟨some 56, _, _, _, _, _⟩) rfl (fun K hK => ?_) (AllReadyH.nil)
                      go_simp
                      go_at_call 19
                      refine (HP2.out _ Q277 E278 N277).mono ?_
                      rintro e v279 ⟨rfl, g279⟩
                      have E280 := E278.trans g279
                      have B10_280 := Blk.chg B10_278 g279 (by simp)
                      have B11_280 := Blk.chg B11_278 g279 (by simp)
                      have BQ_280 := Blk.chg N277 g279 (by simp)
                      go_wp2_with fail
                      refine hK.out _ _ trivial (fun _ => ?_)
                      clear hK K
                      try simp only [Act.put, List.setIfInBounds_toArray, List.set_cons_zero, List.set_cons_succ]
                      refine wpAnyH_ready (rs := [14]) (by kernel_rfl) (by simp) ?_
                      refine AllReadyH.cons (o := ⟨none, _, _, _, _, _⟩) rfl (fun K hK => ?_) (AllReadyH.nil)
                      rw [if_pos (by rfl)]
                      refine wp_store_row 30 (.tmp 10) (.tmp 47) (by rfl) P275 DG (by rfl) (by rfl) 30 zero32 B10_280 HI.out HZ.out HO.out ?_
                      refine hK.out _ _ trivial (fun _ => ?_)
                      clear hK K
                      have E281 := Chg.own (b := P275) E280 (chg_setRow _ _ DG) z275
                      have S281 : Blk _ P275 DG 30 := setRow_heap _ _ _ _ _ _ B10_280
                      have O281 := Blk.chg B11_280 (chg_setRow _ P275 DG) (by simpa using (Ne.symm ne275))
                      refine wpAnyH_ready (rs := [15]) (by kernel_rfl) (by simp) ?_
                      refine AllReadyH.cons (o := ⟨none, _, _, _, _, _⟩) rfl (fun K hK => ?_) (AllReadyH.nil)
                      rw [if_pos (by rfl)]
                      refine wp_store_row 30 (.tmp 11) (.tmp 56) (by rfl) R257 DG (by rfl) (by rfl) 30 zero32 O281 HI.out HZ.out HO.out ?_
                      refine hK.out _ _ trivial (fun _ => ?_)
                      clear hK K
                      have E282 := Chg.own (b := R257) E281 (chg_setRow _ _ DG) z257
                      have S282 : Blk _ R257 DG 30 := setRow_heap _ _ _ _ _ _ O281
                      have O282 := Blk.chg S281 (chg_setRow _ R257 DG) (by simpa using ne275)
                      refine wpAnyH_done (by kernel_rfl) ?_ _
                      try simp only [Act.put]
                      go_wp2_with fail
                      go_meet
                      exact ⟨P275, R257, rfl, rfl, O282, S282, E282⟩
              · as_aux_lemma =>
                  go_simp
                  refine hK.out _ _ trivial (fun _ => ?_)
                  clear hK K
                  try simp only [Act.put, List.setIfInBounds_toArray, List.set_cons_zero, List.set_cons_succ]
                  generalize hx283 : World.alloc v257 (Obj.cells #[Value.slice A1 n1 c1, Value.slice A2 n2 c2] 22) = v283
                  have g283 : Chg none v257 v283 := by rw [← hx283]; exact (Chg.refl _ _).alloc _
                  have N283 : Blk v283 v257.heap.size #[Value.slice A1 n1 c1, Value.slice A2 n2 c2] 22 := by rw [← hx283]; exact Blk.new _ _ _
                  have E284 := E258.trans g283
                  have B11_284 := Blk.chg N257 g283 (by simp)
                  clear hx283
                  generalize hp283 : v257.heap.size = Q283 at *
                  have z283 : v0.heap.size ≤ Q283 := by rw [← hp283]; exact E258.size
                  clear hp283
                  refine wpAnyH_ready (rs := [2, 12]) (by kernel_rfl) (by simp) ?_
                  refine AllReadyH.cons (o := ⟨some 47, _, _, _, _, _⟩) rfl (fun K hK => ?_) (AllReadyH.cons (o := ⟨some 10, _, _, _, _, _⟩) rfl (fun K hK => ?_) (AllReadyH.nil))
                  · as_aux_lemma =>
                      go_simp
                      go_at_call 19
                      refine (HP1.out _ E284).mono ?_
                      rintro e v285 ⟨rfl, g285⟩
                      have E286 := E284.trans g285
                      have B11_286 := Blk.chg B11_284 g285 (by simp)
                      have BQ_286 := Blk.chg N283 g285 (by simp)
                      go_wp2_with fail
                      refine hK.out _ _ trivial (fun _ => ?_)
                      clear hK K
                      try simp only [Act.put, List.setIfInBounds_toArray, List.set_cons_zero, List.set_cons_succ]
                      refine wpAnyH_ready (rs := [11, 12]) (by kernel_rfl) (by simp) ?_
                      refine AllReadyH.cons (o := ⟨some 56, _, _, _, _, _⟩) rfl (fun K hK => ?_) (AllReadyH.cons (o := ⟨some 10, _, _, _, _, _⟩) rfl (fun K hK => ?_) (AllReadyH.nil))
                      · as_aux_lemma =>
                          go_simp
                          go_at_call 19
                          refine (HP2.out _ Q283 E286 BQ_286).mono ?_
                          rintro e v287 ⟨rfl, g287⟩
                          have E288 := E286.trans g287
                          have B11_288 := Blk.chg B11_286 g287 (by simp)
                          have BQ_288 := Blk.chg BQ_286 g287 (by simp)
                          go_wp2_with fail
                          refine hK.out _ _ trivial (fun _ => ?_)
                          clear hK K
                          try simp only [Act.put, List.setIfInBounds_toArray, List.set_cons_zero, List.set_cons_succ]
                          refine wpAnyH_ready (rs := [12]) (by kernel_rfl) (by simp) ?_
                          refine AllReadyH.cons (o := ⟨some 10, _, _, _, _, _⟩) rfl (fun K hK => ?_) (AllReadyH.nil)
                          go_simp
                          refine hK.out _ _ trivial (fun _ => ?_)
                          clear hK K
                          try simp only [Act.put, List.setIfInBounds_toArray, List.set_cons_zero, List.set_cons_succ]
                          generalize hx289 : World.alloc v287 (Obj.cells #[Value.int IntKind.u8 0, Value.int IntKind.u8 0, Value.int IntKind.u8 0, Value.int IntKind.u8 0, Value.int IntKind.u8 0, Value.int IntKind.u8 0, Value.int IntKind.u8 0, Value.int IntKind.u8 0, Value.int IntKind.u8 0, Value.int IntKind.u8 0, Value.int IntKind.u8 0, Value.int IntKind.u8 0, Value.int IntKind.u8 0, Value.int IntKind.u8 0, Value.int IntKind.u8 0, Value.int IntKind.u8 0, Value.int IntKind.u8 0, Value.int IntKind.u8 0, Value.int IntKind.u8 0, Value.int IntKind.u8 0, Value.int IntKind.u8 0, Value.int IntKind.u8 0, Value.int IntKind.u8 0, Value.int IntKind.u8 0, Value.int IntKind.u8 0, Value.int IntKind.u8 0, Value.int IntKind.u8 0, Value.int IntKind.u8 0, Value.int IntKind.u8 0, Value.int IntKind.u8 0, Value.int IntKind.u8 0, Value.int IntKind.u8 0] 30) = v289
                          have g289 : Chg none v287 v289 := by rw [← hx289]; exact (Chg.refl _ _).alloc _
                          have N289 : Blk v289 v287.heap.size zero32 30 := by rw [← hx289]; exact Blk.new _ _ _
                          have ne289 : v287.heap.size ≠ R257 := by have := Blk.lt B11_288; omega
                          have E290 := E288.trans g289
                          have B11_290 := Blk.chg B11_288 g289 (by simp)
                          have BQ_290 := Blk.chg BQ_288 g289 (by simp)
                          clear hx289
                          generalize hp289 : v287.heap.size = P289 at *
                          have z289 : v0.heap.size ≤ P289 := by rw [← hp289]; exact E288.size
                          clear hp289
                          refine wpAnyH_ready (rs := [14]) (by kernel_rfl) (by simp) ?_
                          refine AllReadyH.cons (o := ⟨none, _, _, _, _, _⟩) rfl (fun K hK => ?_) (AllReadyH.nil)
                          rw [if_pos (by rfl)]
                          refine wp_store_row 30 (.tmp 10) (.tmp 47) (by rfl) P289 DG (by rfl) (by rfl) 30 zero32 N289 HI.out HZ.out HO.out ?_
                          refine hK.out _ _ trivial (fun _ => ?_)
                          clear hK K
                          have E291 := Chg.own (b := P289) E290 (chg_setRow _ _ DG) z289
                          have S291 : Blk _ P289 DG 30 := setRow_heap _ _ _ _ _ _ N289
                          have O291 := Blk.chg B11_290 (chg_setRow _ P289 DG) (by simpa using (Ne.symm ne289))
                          refine wpAnyH_ready (rs := [15]) (by kernel_rfl) (by simp) ?_
                          refine AllReadyH.cons (o := ⟨none, _, _, _, _, _⟩) rfl (fun K hK => ?_) (AllReadyH.nil)
                          rw [if_pos (by rfl)]
                          refine wp_store_row 30 (.tmp 11) (.tmp 56) (by rfl) R257 DG (by rfl) (by rfl) 30 zero32 O291 HI.out HZ.out HO.out ?_
                          refine hK.out _ _ trivial (fun _ => ?_)
                          clear hK K
                          have E292 := Chg.own (b := R257) E291 (chg_setRow _ _ DG) z257
                          have S292 : Blk _ R257 DG 30 := setRow_heap _ _ _ _ _ _ O291
                          have O292 := Blk.chg S291 (chg_setRow _ R257 DG) (by simpa using ne289)
                          refine wpAnyH_done (by kernel_rfl) ?_ _
                          try simp only [Act.put]
                          go_wp2_with fail
                          go_meet
                          exact ⟨P289, R257, rfl, rfl, O292, S292, E292⟩
                      · as_aux_lemma =>
                          go_simp
                          refine hK.out _ _ trivial (fun _ => ?_)
                          clear hK K
                          try simp only [Act.put, List.setIfInBounds_toArray, List.set_cons_zero, List.set_cons_succ]
                          generalize hx293 : World.alloc v285 (Obj.cells #[Value.int IntKind.u8 0, Value.int IntKind.u8 0, Value.int IntKind.u8 0, Value.int IntKind.u8 0, Value.int IntKind.u8 0, Value.int IntKind.u8 0, Value.int IntKind.u8 0, Value.int IntKind.u8 0, Value.int IntKind.u8 0, Value.int IntKind.u8 0, Value.int IntKind.u8 0, Value.int IntKind.u8 0, Value.int IntKind.u8 0, Value.int IntKind.u8 0, Value.int IntKind.u8 0, Value.int IntKind.u8 0, Value.int IntKind.u8 0, Value.int IntKind.u8 0, Value.int IntKind.u8 0, Value.int IntKind.u8 0, Value.int IntKind.u8 0, Value.int IntKind.u8 0, Value.int IntKind.u8 0, Value.int IntKind.u8 0, Value.int IntKind.u8 0, Value.int IntKind.u8 0, Value.int IntKind.u8 0, Value.int IntKind.u8 0, Value.int IntKind.u8 0, Value.int IntKind.u8 0, Value.int IntKind.u8 0, Value.int IntKind.u8 0] 30) = v293
                          have g293 : Chg none v285 v293 := by rw [← hx293]; exact (Chg.refl _ _).alloc _
                          have N293 : Blk v293 v285.heap.size zero32 30 := by rw [← hx293]; exact Blk.new _ _ _
                          have ne293 : v285.heap.size ≠ R257 := by have := Blk.lt B11_286; omega
                          have E294 := E286.trans g293
                          have B11_294 := Blk.chg B11_286 g293 (by simp)
                          have BQ_294 := Blk.chg BQ_286 g293 (by simp)
                          clear hx293
                          generalize hp293 : v285.heap.size = P293 at *
                          have z293 : v0.heap.size ≤ P293 := by rw [← hp293]; exact E286.size
                          clear hp293
                          refine wpAnyH_ready (rs := [11]) (by kernel_rfl) (by simp) ?_
                          refine AllReadyH.cons (o := ⟨some 56, _, _, _, _, _⟩) rfl (fun K hK => ?_) (AllReadyH.nil)
                          go_simp
                          go_at_call 19
                          refine (HP2.out _ Q283 E294 BQ_294).mono ?_
                          rintro e v295 ⟨rfl, g295⟩
                          have E296 := E294.trans g295
                          have B10_296 := Blk.chg N293 g295 (by simp)
                          have B11_296 := Blk.chg B11_294 g295 (by simp)
                          have BQ_296 := Blk.chg BQ_294 g295 (by simp)
                          go_wp2_with fail
                          refine hK.out _ _ trivial (fun _ => ?_)
                          clear hK K
                          try simp only [Act.put, List.setIfInBounds_toArray, List.set_cons_zero, List.set_cons_succ]
                          refine wpAnyH_ready (rs := [14]) (by kernel_rfl) (by simp) ?_
                          refine AllReadyH.cons (o := ⟨none, _, _, _, _, _⟩) rfl (fun K hK => ?_) (AllReadyH.nil)
                          rw [if_pos (by rfl)]
                          refine wp_store_row 30 (.tmp 10) (.tmp 47) (by rfl) P293 DG (by rfl) (by rfl) 30 zero32 B10_296 HI.out HZ.out HO.out ?_
                          refine hK.out _ _ trivial (fun _ => ?_)
                          clear hK K
                          have E297 := Chg.own (b := P293) E296 (chg_setRow _ _ DG) z293
                          have S297 : Blk _ P293 DG 30 := setRow_heap _ _ _ _ _ _ B10_296
                          have O297 := Blk.chg B11_296 (chg_setRow _ P293 DG) (by simpa using (Ne.symm ne293))
                          refine wpAnyH_ready (rs := [15]) (by kernel_rfl) (by simp) ?_
                          refine AllReadyH.cons (o := ⟨none, _, _, _, _, _⟩) rfl (fun K hK => ?_) (AllReadyH.nil)
                          rw [if_pos (by rfl)]
                          refine wp_store_row 30 (.tmp 11) (.tmp 56) (by rfl) R257 DG (by rfl) (by rfl) 30 zero32 O297 HI.out HZ.out HO.out ?_
                          refine hK.out _ _ trivial (fun _ => ?_)
                          clear hK K
                          have E298 := Chg.own (b := R257) E297 (chg_setRow _ _ DG) z257
                          have S298 : Blk _ R257 DG 30 := setRow_heap _ _ _ _ _ _ O297
                          have O298 := Blk.chg S297 (chg_setRow _ R257 DG) (by simpa using ne293)
                          refine wpAnyH_done (by kernel_rfl) ?_ _
                          try simp only [Act.put]
                          go_wp2_with fail
                          go_meet
                          exact ⟨P293, R257, rfl, rfl, O298, S298, E298⟩
                  · as_aux_lemma =>
                      go_simp
                      refine hK.out _ _ trivial (fun _ => ?_)
                      clear hK K
                      try simp only [Act.put, List.setIfInBounds_toArray, List.set_cons_zero, List.set_cons_succ]
                      generalize hx299 : World.alloc v283 (Obj.cells #[Value.int IntKind.u8 0, Value.int IntKind.u8 0, Value.int IntKind.u8 0, Value.int IntKind.u8 0, Value.int IntKind.u8 0, Value.int IntKind.u8 0, Value.int IntKind.u8 0, Value.int IntKind.u8 0, Value.int IntKind.u8 0, Value.int IntKind.u8 0, Value.int IntKind.u8 0, Value.int IntKind.u8 0, Value.int IntKind.u8 0, Value.int IntKind.u8 0, Value.int IntKind.u8 0, Value.int IntKind.u8 0, Value.int IntKind.u8 0, Value.int IntKind.u8 0, Value.int IntKind.u8 0, Value.int IntKind.u8 0, Value.int IntKind.u8 0, Value.int IntKind.u8 0, Value.int IntKind.u8 0, Value.int IntKind.u8 0, Value.int IntKind.u8 0, Value.int IntKind.u8 0, Value.int IntKind.u8 0, Value.int IntKind.u8 0, Value.int IntKind.u8 0, Value.int IntKind.u8 0, Value.int IntKind.u8 0, Value.int IntKind.u8 0] 30) = v299
                      have g299 : Chg none v283 v299 := by rw [← hx299]; exact (Chg.refl _ _).alloc _
                      have N299 : Blk v299 v283.heap.size zero32 30 := by rw [← hx299]; exact Blk.new _ _ _
                      have ne299 : v283.heap.size ≠ R257 := by have := Blk.lt B11_284; omega
                      have E300 := E284.trans g299
                      have B11_300 := Blk.chg B11_284 g299 (by simp)
                      have BQ_300 := Blk.chg N283 g299 (by simp)
                      clear hx299
                      generalize hp299 : v283.heap.size = P299 at *
                      have z299 : v0.heap.size ≤ P299 := by rw [← hp299]; exact E284.size
                      clear hp299
                      refine wpAnyH_ready (rs := [2]) (by kernel_rfl) (by simp) ?_
                      refine AllReadyH.cons (o := ⟨some 47, _, _, _, _, _⟩) rfl (fun K hK => ?_) (AllReadyH.nil)
                      go_simp
                      go_at_call 19
                      refine (HP1.out _ E300).mono ?_
                      rintro e v301 ⟨rfl, g301⟩
                      have E302 := E300.trans g301
                      have B10_302 := Blk.chg N299 g301 (by simp)
                      have B11_302 := Blk.chg B11_300 g301 (by simp)
                      have BQ_302 := Blk.chg BQ_300 g301 (by simp)
                      go_wp2_with fail
                      refine hK.out _ _ trivial (fun _ => ?_)
                      clear hK K
                      try simp only [Act.put, List.setIfInBounds_toArray, List.set_cons_zero, List.set_cons_succ]
                      refine wpAnyH_ready (rs := [11]) (by kernel_rfl) (by simp) ?_
                      refine AllReadyH.cons (o := ⟨some 56, _, _, _, _, _⟩) rfl (fun K hK => ?_) (AllReadyH.nil)
                      go_simp
                      go_at_call 19
                      refine (HP2.out _ Q283 E302 BQ_302).mono ?_
                      rintro e v303 ⟨rfl, g303⟩
                      have E304 := E302.trans g303
                      have B10_304 := Blk.chg B10_302 g303 (by simp)
                      have B11_304 := Blk.chg B11_302 g303 (by simp)
                      have BQ_304 := Blk.chg BQ_302 g303 (by simp)
                      go_wp2_with fail
                      refine hK.out _ _ trivial (fun _ => ?_)
                      clear hK K
                      try simp only [Act.put, List.setIfInBounds_toArray, List.set_cons_zero, List.set_cons_succ]
                      refine wpAnyH_ready (rs := [14]) (by kernel_rfl) (by simp) ?_
                      refine AllReadyH.cons (o := ⟨none, _, _, _, _, _⟩) rfl (fun K hK => ?_) (AllReadyH.nil)
                      rw [if_pos (by rfl)]
                      refine wp_store_row 30 (.tmp 10) (.tmp 47) (by rfl) P299 DG (by rfl) (by rfl) 30 zero32 B10_304 HI.out HZ.out HO.out ?_
                      refine hK.out _ _ trivial (fun _ => ?_)
                      clear hK K
                      have E305 := Chg.own (b := P299) E304 (chg_setRow _ _ DG) z299
                      have S305 : Blk _ P299 DG 30 := setRow_heap _ _ _ _ _ _ B10_304
                      have O305 := Blk.chg B11_304 (chg_setRow _ P299 DG) (by simpa using (Ne.symm ne299))
                      refine wpAnyH_ready (rs := [15]) (by kernel_rfl) (by simp) ?_
                      refine AllReadyH.cons (o := ⟨none, _, _, _, _, _⟩) rfl (fun K hK => ?_) (AllReadyH.nil)
                      rw [if_pos (by rfl)]
                      refine wp_store_row 30 (.tmp 11) (.tmp 56) (by rfl) R257 DG (by rfl) (by rfl) 30 zero32 O305 HI.out HZ.out HO.out ?_
                      refine hK.out _ _ trivial (fun _ => ?_)
                      clear hK K
                      have E306 := Chg.own (b := R257) E305 (chg_setRow _ _ DG) z257
                      have S306 : Blk _ R257 DG 30 := setRow_heap _ _ _ _ _ _ O305
                      have O306 := Blk.chg S305 (chg_setRow _ R257 DG) (by simpa using ne299)
                      refine wpAnyH_done (by kernel_rfl) ?_ _
                      try simp only [Act.put]
                      go_wp2_with fail
                      go_meet
                      exact ⟨P299, R257, rfl, rfl, O306, S306, E306⟩
              · as_aux_lemma =>
                  go_simp
                  refine hK.out _ _ trivial (fun _ => ?_)
                  clear hK K
                  try simp only [Act.put, List.setIfInBounds_toArray, List.set_cons_zero, List.set_cons_succ]
                  generalize hx307 : World.alloc v257 (Obj.cells #[Value.int IntKind.u8 0, Value.int IntKind.u8 0, Value.int IntKind.u8 0, Value.int IntKind.u8 0, Value.int IntKind.u8 0, Value.int IntKind.u8 0, Value.int IntKind.u8 0, Value.int IntKind.u8 0, Value.int IntKind.u8 0, Value.int IntKind.u8 0, Value.int IntKind.u8 0, Value.int IntKind.u8 0, Value.int IntKind.u8 0, Value.int IntKind.u8 0, Value.int IntKind.u8 0, Value.int IntKind.u8 0, Value.int IntKind.u8 0, Value.int IntKind.u8 0, Value.int IntKind.u8 0, Value.int IntKind.u8 0, Value.int IntKind.u8 0, Value.int IntKind.u8 0, Value.int IntKind.u8 0, Value.int IntKind.u8 0, Value.int IntKind.u8 0, Value.int IntKind.u8 0, Value.int IntKind.u8 0, Value.int IntKind.u8 0, Value.int IntKind.u8 0, Value.int IntKind.u8 0, Value.int IntKind.u8 0, Value.int IntKind.u8 0] 30) = v307
                  have g307 : Chg none v257 v307 := by rw [← hx307]; exact (Chg.refl _ _).alloc _
                  have N307 : Blk v307 v257.heap.size zero32 30 := by rw [← hx307]; exact Blk.new _ _ _
                  have ne307 : v257.heap.size ≠ R257 := by have := Blk.lt N257; omega
                  have E308 := E258.trans g307
                  have B11_308 := Blk.chg N257 g307 (by simp)
                  clear hx307
                  generalize hp307 : v257.heap.size = P307 at *
                  have z307 : v0.heap.size ≤ P307 := by rw [← hp307]; exact E258.size
                  clear hp307
                  refine wpAnyH_ready (rs := [2, 10]) (by kernel_rfl) (by simp) ?_
                  refine AllReadyH.cons (o := ⟨some 47, _, _, _, _, _⟩) rfl (fun K hK => ?_) (AllReadyH.cons (o := ⟨some 55, _, _, _, _, _⟩) rfl (fun K hK => ?_) (AllReadyH.nil))
                  · as_aux_lemma =>
                      go_simp
                      go_at_call 19
                      refine (HP1.out _ E308).mono ?_
                      rintro e v309 ⟨rfl, g309⟩
                      have E310 := E308.trans g309
                      have B10_310 := Blk.chg N307 g309 (by simp)
                      have B11_310 := Blk.chg B11_308 g309 (by simp)
                      go_wp2_with fail
                      refine hK.out _ _ trivial (fun _ => ?_)
                      clear hK K
                      try simp only [Act.put, List.setIfInBounds_toArray, List.set_cons_zero, List.set_cons_succ]
                      refine wpAnyH_ready (rs := [10]) (by kernel_rfl) (by simp) ?_
                      refine AllReadyH.cons (o := ⟨some 55, _, _, _, _, _⟩) rfl (fun K hK => ?_) (AllReadyH.nil)
                      go_simp
                      refine hK.out _ _ trivial (fun _ => ?_)
                      clear hK K
                      try simp only [Act.put, List.setIfInBounds_toArray, List.set_cons_zero, List.set_cons_succ]
                      generalize hx311 : World.alloc v309 (Obj.cells #[Value.slice A1 n1 c1, Value.slice A2 n2 c2] 22) = v311
                      have g311 : Chg none v309 v311 := by rw [← hx311]; exact (Chg.refl _ _).alloc _
                      have N311 : Blk v311 v309.heap.size #[Value.slice A1 n1 c1, Value.slice A2 n2 c2] 22 := by rw [← hx311]; exact Blk.new _ _ _
                      have E312 := E310.trans g311
                      have B10_312 := Blk.chg B10_310 g311 (by simp)
                      have B11_312 := Blk.chg B11_310 g311 (by simp)
                      clear hx311
                      generalize hp311 : v309.heap.size = Q311 at *
                      have z311 : v0.heap.size ≤ Q311 := by rw [← hp311]; exact E310.size
                      clear hp311
                      refine wpAnyH_ready (rs := [11]) (by kernel_rfl) (by simp) ?_
                      refine AllReadyH.cons (o := ⟨some 56, _, _, _, _, _⟩) rfl (fun K hK => ?_) (AllReadyH.nil)
                      go_simp
                      go_at_call 19
                      refine (HP2.out _ Q311 E312 N311).mono ?_
                      rintro e v313 ⟨rfl, g313⟩
                      have E314 := E312.trans g313
                      have B10_314 := Blk.chg B10_312 g313 (by simp)
                      have B11_314 := Blk.chg B11_312 g313 (by simp)
                      have BQ_314 := Blk.chg N311 g313 (by simp)
                      go_wp2_with fail
                      refine hK.out _ _ trivial (fun _ => ?_)
                      clear hK K
                      try simp only [Act.put, List.setIfInBounds_toArray, List.set_cons_zero, List.set_cons_succ]
                      refine wpAnyH_ready (rs := [14]) (by kernel_rfl) (by simp) ?_
                      refine AllReadyH.cons (o := ⟨none, _, _, _, _, _⟩) rfl (fun K hK => ?_) (AllReadyH.nil)
                      rw [if_pos (by rfl)]
                      refine wp_store_row 30 (.tmp 10) (.tmp 47) (by rfl) P307 DG (by rfl) (by rfl) 30 zero32 B10_314 HI.out HZ.out HO.out ?_
                      refine hK.out _ _ trivial (fun _ => ?_)
                      clear hK K
                      have E315 := Chg.own (b := P307) E314 (chg_setRow _ _ DG) z307
                      have S315 : Blk _ P307 DG 30 := setRow_heap _ _ _ _ _ _ B10_314
                      have O315 := Blk.chg B11_314 (chg_setRow _ P307 DG) (by simpa using (Ne.symm ne307))
                      refine wpAnyH_ready (rs := [15]) (by kernel_rfl) (by simp) ?_
                      refine AllReadyH.cons (o := ⟨none, _, _, _, _, _⟩) rfl (fun K hK => ?_) (AllReadyH.nil)
                      rw [if_pos (by rfl)]
                      refine wp_store_row 30 (.tmp 11) (.tmp 56) (by rfl) R257 DG (by rfl) (by rfl) 30 zero32 O315 HI.out HZ.out HO.out ?_
                      refine hK.out _ _ trivial (fun _ => ?_)
                      clear hK K
                      have E316 := Chg.own (b := R257) E315 (chg_setRow _ _ DG) z257
                      have S316 : Blk _ R257 DG 30 := setRow_heap _ _ _ _ _ _ O315
                      have O316 := Blk.chg S315 (chg_setRow _ R257 DG) (by simpa using ne307)
                      refine wpAnyH_done (by kernel_rfl) ?_ _
                      try simp only [Act.put]
                      go_wp2_with fail
                      go_meet
                      exact ⟨P307, R257, rfl, rfl, O316, S316, E316⟩
                  · as_aux_lemma =>
                      go_simp
                      refine hK.out _ _ trivial (fun _ => ?_)
                      clear hK K
                      try simp only [Act.put, List.setIfInBounds_toArray, List.set_cons_zero, List.set_cons_succ]
                      generalize hx317 : World.alloc v307 (Obj.cells #[Value.slice A1 n1 c1, Value.slice A2 n2 c2] 22) = v317
                      have g317 : Chg none v307 v317 := by rw [← hx317]; exact (Chg.refl _ _).alloc _
                      have N317 : Blk v317 v307.heap.size #[Value.slice A1 n1 c1, Value.slice A2 n2 c2] 22 := by rw [← hx317]; exact Blk.new _ _ _
                      have E318 := E308.trans g317
                      have B10_318 := Blk.chg N307 g317 (by simp)
                      have B11_318 := Blk.chg B11_308 g317 (by simp)
                      clear hx317
                      generalize hp317 : v307.heap.size = Q317 at *
                      have z317 : v0.heap.size ≤ Q317 := by rw [← hp317]; exact E308.size
                      clear hp317
                      refine wpAnyH_ready (rs := [2]) (by kernel_rfl) (by simp) ?_
                      refine AllReadyH.cons (o := ⟨some 47, _, _, _, _, _⟩) rfl (fun K hK => ?_) (AllReadyH.nil)
                      go_simp
                      go_at_call 19
                      refine (HP1.out _ E318).mono ?_
                      rintro e v319 ⟨rfl, g319⟩
                      have E320 := E318.trans g319
                      have B10_320 := Blk.chg B10_318 g319 (by simp)
                      have B11_320 := Blk.chg B11_318 g319 (by simp)
                      have BQ_320 := Blk.chg N317 g319 (by simp)
                      go_wp2_with fail
                      refine hK.out _ _ trivial (fun _ => ?_)
                      clear hK K
                      try simp only [Act.put, List.setIfInBounds_toArray, List.set_cons_zero, List.set_cons_succ]
                      refine wpAnyH_ready (rs := [11]) (by kernel_rfl) (by simp) ?_
                      refine AllReadyH.cons (o := ⟨some 56, _, _, _, _, _⟩) rfl (fun K hK => ?_) (AllReadyH.nil)
                      go_simp
                      go_at_call 19
                      refine (HP2.out _ Q317 E320 BQ_320).mono ?_
                      rintro e v321 ⟨rfl, g321⟩
                      have E322 := E320.trans g321
                      have B10_322 := Blk.chg B10_320 g321 (by simp)
                      have B11_322 := Blk.chg B11_320 g321 (by simp)
                      have BQ_322 := Blk.chg BQ_320 g321 (by simp)
                      go_wp2_with fail
                      refine hK.out _ _ trivial (fun _ => ?_)
                      clear hK K
                      try simp only [Act.put, List.setIfInBounds_toArray, List.set_cons_zero, List.set_cons_succ]
                      refine wpAnyH_ready (rs := [14]) (by kernel_rfl) (by simp) ?_
                      refine AllReadyH.cons (o := ⟨none, _, _, _, _, _⟩) rfl (fun K hK => ?_) (AllReadyH.nil)
                      rw [if_pos (by rfl)]
                      refine wp_store_row 30 (.tmp 10) (.tmp 47) (by rfl) P307 DG (by rfl) (by rfl) 30 zero32 B10_322 HI.out HZ.out HO.out ?_
                      refine hK.out _ _ trivial (fun _ => ?_)
                      clear hK K
                      have E323 := Chg.own (b := P307) E322 (chg_setRow _ _ DG) z307
                      have S323 : Blk _ P307 DG 30 := setRow_heap _ _ _ _ _ _ B10_322
                      have O323 := Blk.chg B11_322 (chg_setRow _ P307 DG) (by simpa using (Ne.symm ne307))
                      refine wpAnyH_ready (rs := [15]) (by kernel_rfl) (by simp) ?_
                      refine AllReadyH.cons (o := ⟨none, _, _, _, _, _⟩) rfl (fun K hK => ?_) (AllReadyH.nil)
                      rw [if_pos (by rfl)]
                      refine wp_store_row 30 (.tmp 11) (.tmp 56) (by rfl) R257 DG (by rfl) (by rfl) 30 zero32 O323 HI.out HZ.out HO.out ?_
                      refine hK.out _ _ trivial (fun _ => ?_)
                      clear hK K
                      have E324 := Chg.own (b := R257) E323 (chg_setRow _ _ DG) z257
                      have S324 : Blk _ R257 DG 30 := setRow_heap _ _ _ _ _ _ O323
                      have O324 := Blk.chg S323 (chg_setRow _ R257 DG) (by simpa using ne307)
                      refine wpAnyH_done (by kernel_rfl) ?_ _
                      try simp only [Act.put]
                      go_wp2_with fail
                      go_meet
                      exact ⟨P307, R257, rfl, rfl, O324, S324, E324⟩
        case rest =>
          obtain ⟨P10, P11, rfl, rfl, b10, b11, gx⟩ := hcut
          go_wp2_with fail
          have hS0 : wc.drew.rangeAt P10 0 DG.toList ∧ wc.drew.rangeAt P11 0 DG.toList := ⟨Blk.range b10, Blk.range b11⟩
          have E0 : Chg none wr.drew wc.drew := gx.drew
          have HIL : Hid ((Tryd.prog.info? 30).map (·.size) = some DG.toList.length) := by have := HI.out; rw [Array.length_toList]; exact this
          have hqe := HQE.out
          have hq3 := HQ3.out
          have hg30 := guard30
          clear b10 b11 gx hq1 hq2 HP1 HP2
          refine wp_region_held_drew (S := fun w' => w'.rangeAt P10 0 DG.toList ∧ w'.rangeAt P11 0 DG.toList) (by kernel_rfl) hS0 (fun _ => ?_)
          generalize wc.drew = v0 at *
          refine wpAnyH_take (i := 0) (oi := ⟨some 57, _, _, _, _, _⟩) (v := .agg DG) rfl (by kernel_rfl) (by kernel_rfl) (by kernel_rfl) (fun _ _ _ h => h) (yieldsIf_load_mid (by rfl) 30 _ rfl P10 0 rfl DG.toList _ (fun _ h => h.1) Tryd.underlying30 rfl HIL.out) (by assumption) ?_
          try simp only [Act.put, List.setIfInBounds_toArray, List.set_cons_zero, List.set_cons_succ]
          refine wpAnyH_take (i := 1) (oi := ⟨some 58, _, _, _, _, _⟩) (v := ?_) rfl (by kernel_rfl) (by kernel_rfl) (by kernel_rfl) (fun _ _ _ h => h) (Or.inl ⟨by rfl, ?_⟩) (by assumption) ?_
          rotate_left
          · intro w hSw; (try dsimp only at hSw); go_simp; (try with_reducible rfl)
          try simp only [Act.put, List.setIfInBounds_toArray, List.set_cons_zero, List.set_cons_succ]
          refine wpAnyH_ready (rs := [2]) (by kernel_rfl) (by simp) ?_
          refine AllReadyH.cons (o := ⟨some 59, _, _, _, _, _⟩) rfl (fun K hK => ?_) (AllReadyH.nil)
          go_simp
          go_at_call 17
          refine (HS17.out _ E0).mono ?_
          rintro e v325 ⟨rfl, g325⟩
          have E325 := E0.trans g325
          have hS325 := known_chg hS0 g325
          go_wp2_with fail
          refine hK.out _ _ hS325 (fun _ => ?_)
          clear hK K
          try simp only [Act.put, List.setIfInBounds_toArray, List.set_cons_zero, List.set_cons_succ]
          refine wpAnyH_take (i := 3) (oi := ⟨some 60, _, _, _, _, _⟩) (v := ?_) rfl (by kernel_rfl) (by kernel_rfl) (by kernel_rfl) (fun _ _ _ h => h) (Or.inl ⟨by rfl, ?_⟩) (by assumption) ?_
          rotate_left
          · intro w hSw; (try dsimp only at hSw); go_simp; (try with_reducible rfl)
          try simp only [Act.put, List.setIfInBounds_toArray, List.set_cons_zero, List.set_cons_succ]
          refine wpAnyH_take (i := 4) (oi := ⟨some 61, _, _, _, _, _⟩) (v := ?_) rfl (by kernel_rfl) (by kernel_rfl) (by kernel_rfl) (fun _ _ _ h => h) (Or.inl ⟨by rfl, ?_⟩) (by assumption) ?_
          rotate_left
          · intro w hSw; (try dsimp only at hSw); go_simp; (try with_reducible rfl)
          try simp only [Act.put, List.setIfInBounds_toArray, List.set_cons_zero, List.set_cons_succ]
          refine wpAnyH_take (i := 5) (oi := ⟨some 62, _, _, _, _, _⟩) (v := .agg DG) rfl (by kernel_rfl) (by kernel_rfl) (by kernel_rfl) (fun _ _ _ h => h) (yieldsIf_load_mid (by rfl) 30 _ rfl P11 0 rfl DG.toList _ (fun _ h => h.2) Tryd.underlying30 rfl HIL.out) (by assumption) ?_
          try simp only [Act.put, List.setIfInBounds_toArray, List.set_cons_zero, List.set_cons_succ]
          refine wpAnyH_take (i := 6) (oi := ⟨some 63, _, _, _, _, _⟩) (v := .agg DG) rfl (by kernel_rfl) (by kernel_rfl) (by kernel_rfl) (fun _ _ _ h => h) (yieldsIf_load_mid (by rfl) 30 _ rfl P10 0 rfl DG.toList _ (fun _ h => h.1) Tryd.underlying30 rfl HIL.out) (by assumption) ?_
          try simp only [Act.put, List.setIfInBounds_toArray, List.set_cons_zero, List.set_cons_succ]
          refine wpAnyH_take (i := 7) (oi := ⟨some 64, _, _, _, _, _⟩) (v := ?_) rfl (by kernel_rfl) (by kernel_rfl) (by kernel_rfl) (fun _ _ _ h => h) (Or.inl ⟨by rfl, ?_⟩) (by assumption) ?_
          rotate_left
          · intro w hSw; (try dsimp only at hSw); go_simp; (try with_reducible rfl)
          try simp only [Act.put, List.setIfInBounds_toArray, List.set_cons_zero, List.set_cons_succ]
          refine wpAnyH_take (i := 8) (oi := ⟨some 65, _, _, _, _, _⟩) (v := ?_) rfl (by kernel_rfl) (by kernel_rfl) (by kernel_rfl) (fun _ _ _ h => h) (Or.inl ⟨by rfl, ?_⟩) (by assumption) ?_
          rotate_left
          · intro w hSw; (try dsimp only at hSw); go_simp; (try with_reducible rfl)
          try simp only [Act.put, List.setIfInBounds_toArray, List.set_cons_zero, List.set_cons_succ]
          refine wpAnyH_take (i := 9) (oi := ⟨some 66, _, _, _, _, _⟩) (v := ?_) rfl (by kernel_rfl) (by kernel_rfl) (by kernel_rfl) (fun _ _ _ h => h) (Or.inl ⟨by rfl, ?_⟩) (by assumption) ?_
          rotate_left
          · intro w hSw; (try dsimp only at hSw); go_simp; (try with_reducible rfl)
          try simp only [Act.put, List.setIfInBounds_toArray, List.set_cons_zero, List.set_cons_succ]
          refine wpAnyH_take (i := 10) (oi := ⟨some 67, _, _, _, _, _⟩) (v := ?_) rfl (by kernel_rfl) (by kernel_rfl) (by kernel_rfl) (fun _ _ _ h => h) (Or.inl ⟨by rfl, ?_⟩) (by assumption) ?_
          rotate_left
          · intro w hSw; (try dsimp only at hSw); go_simp; (try with_reducible rfl)
          try simp only [Act.put, List.setIfInBounds_toArray, List.set_cons_zero, List.set_cons_succ]
          refine wpAnyH_take (i := 11) (oi := ⟨some 68, _, _, _, _, _⟩) (v := ?_) rfl (by kernel_rfl) (by kernel_rfl) (by kernel_rfl) (fun _ _ _ h => h) (Or.inl ⟨by rfl, ?_⟩) (by assumption) ?_
          rotate_left
          · intro w hSw; (try dsimp only at hSw); go_simp; (try with_reducible rfl)
          try simp only [Act.put, List.setIfInBounds_toArray, List.set_cons_zero, List.set_cons_succ]
          refine wpAnyH_take (i := 12) (oi := ⟨some 69, _, _, _, _, _⟩) (v := ?_) rfl (by kernel_rfl) (by kernel_rfl) (by kernel_rfl) (fun _ _ _ h => h) (Or.inl ⟨by rfl, ?_⟩) (by assumption) ?_
          rotate_left
          · intro w hSw; (try dsimp only at hSw); go_simp; (try with_reducible rfl)
          try simp only [Act.put, List.setIfInBounds_toArray, List.set_cons_zero, List.set_cons_succ]
          refine wpAnyH_take (i := 15) (oi := ⟨some 72, _, _, _, _, _⟩) (v := .agg DG) rfl (by kernel_rfl) (by kernel_rfl) (by kernel_rfl) (fun _ _ _ h => h) (yieldsIf_load_mid (by rfl) 30 _ rfl P10 0 rfl DG.toList _ (fun _ h => h.1) Tryd.underlying30 rfl HIL.out) (by assumption) ?_
          try simp only [Act.put, List.setIfInBounds_toArray, List.set_cons_zero, List.set_cons_succ]
          refine wpAnyH_ready (rs := [13]) (by kernel_rfl) (by simp) ?_
          refine AllReadyH.cons (o := ⟨some 70, _, _, _, _, _⟩) rfl (fun K hK => ?_) (AllReadyH.nil)
          have gA : Chg none v325 (World.alloc v325 (Obj.cells #[Value.slice A3 n3 c3] 22)) := (Chg.refl _ _).alloc _
          have hSA := known_chg hS325 gA
          have NQ := Blk.new v325 #[Value.slice A3 n3 c3] 22
          have EA := E325.trans gA
          go_simp
          refine hK.out _ _ hSA (fun _ => ?_)
          clear hK K
          try simp only [Act.put, List.setIfInBounds_toArray, List.set_cons_zero, List.set_cons_succ]
          refine wpAnyH_ready (rs := [14]) (by kernel_rfl) (by simp) ?_
          refine AllReadyH.cons (o := ⟨some 71, _, _, _, _, _⟩) rfl (fun K hK => ?_) (AllReadyH.nil)
          go_simp
          go_at_call 19
          refine (HP3.out _ v325.heap.size EA NQ).mono ?_
          rintro e v327 ⟨rfl, g327⟩
          have E327 := EA.trans g327
          have hS327 := known_chg hSA g327
          go_wp2_with fail
          refine hK.out _ _ hS327 (fun _ => ?_)
          clear hK K
          try simp only [Act.put, List.setIfInBounds_toArray, List.set_cons_zero, List.set_cons_succ]
          refine wpAnyH_take (i := 16) (oi := ⟨some 73, _, _, _, _, _⟩) (v := ?_) rfl (by kernel_rfl) (by kernel_rfl) (by kernel_rfl) (fun _ _ _ h => h) (Or.inl ⟨by rfl, ?_⟩) (by assumption) ?_
          rotate_left
          · intro w hSw; (try dsimp only at hSw); go_simp; (try with_reducible rfl)
          try simp only [Act.put, List.setIfInBounds_toArray, List.set_cons_zero, List.set_cons_succ]
          refine wpAnyH_take (i := 17) (oi := ⟨some 74, _, _, _, _, _⟩) (v := ?_) rfl (by kernel_rfl) (by kernel_rfl) (by kernel_rfl) (fun _ _ _ h => h) (Or.inl ⟨by rfl, ?_⟩) (by assumption) ?_
          rotate_left
          · intro w hSw; (try dsimp only at hSw); go_simp; (try with_reducible rfl)
          try simp only [Act.put, List.setIfInBounds_toArray, List.set_cons_zero, List.set_cons_succ]
          refine wpAnyH_take (i := 18) (oi := ⟨some 75, _, _, _, _, _⟩) (v := ?_) rfl (by kernel_rfl) (by kernel_rfl) (by kernel_rfl) (fun _ _ _ h => h) (Or.inl ⟨by rfl, ?_⟩) (by assumption) ?_
          rotate_left
          · intro w hSw; (try dsimp only at hSw); go_simp; (try with_reducible rfl)
          try simp only [Act.put, List.setIfInBounds_toArray, List.set_cons_zero, List.set_cons_succ]
          refine wpAnyH_ready (rs := [19]) (by kernel_rfl) (by simp) ?_
          refine AllReadyH.cons (o := ⟨some 76, _, _, _, _, _⟩) rfl (fun K hK => ?_) (AllReadyH.nil)
          go_simp
          go_at_call 15
          refine (HK15.out _ E327).mono ?_
          rintro e v328 ⟨rfl, g328⟩
          have E328 := E327.trans g328
          have hS328 := known_chg hS327 g328
          go_wp2_with fail
          refine hK.out _ _ hS328 (fun _ => ?_)
          clear hK K
          try simp only [Act.put, List.setIfInBounds_toArray, List.set_cons_zero, List.set_cons_succ]
          refine wpAnyH_take (i := 20) (oi := ⟨some 77, _, _, _, _, _⟩) (v := ?_) rfl (by kernel_rfl) (by kernel_rfl) (by kernel_rfl) (fun _ _ _ h => h) (Or.inl ⟨by rfl, ?_⟩) (by assumption) ?_
          rotate_left
          · intro w hSw; (try dsimp only at hSw); go_simp; (try with_reducible rfl)
          try simp only [Act.put, List.setIfInBounds_toArray, List.set_cons_zero, List.set_cons_succ]
          refine wpAnyH_take (i := 21) (oi := ⟨some 6, _, _, _, _, _⟩) (v := ?_) rfl (by kernel_rfl) (by kernel_rfl) (by kernel_rfl) (fun _ _ _ h => h) (Or.inl ⟨by rfl, ?_⟩) (by assumption) ?_
          rotate_left
          · intro w hSw; (try dsimp only at hSw); go_simp; (try with_reducible rfl)
          try simp only [Act.put, List.setIfInBounds_toArray, List.set_cons_zero, List.set_cons_succ]
          refine wpAnyH_done (by kernel_rfl) ?_ _
          go_wp2_with fail
          go_ret
          exact ⟨rfl, gw.trans E328⟩

end Go.Proofs.YtdkgecphkppglaaDoor
