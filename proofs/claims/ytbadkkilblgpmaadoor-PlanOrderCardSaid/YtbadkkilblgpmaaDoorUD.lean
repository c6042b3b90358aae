/-
  The document's tree: Under.
-/
import Derived.Test.YtbadkkilblgpmaaDoorUC
namespace Go.Proofs.YtbadkkilblgpmaaDoor
open Go.RowKit

def undL (dir : List UInt8) (L : List Fil) : List Fil := L.map fun m => ({ m with p := dir ++ ([47] ++ m.p) } : Fil)
theorem undL_step {dir : List UInt8} {L : List Fil} {k : Nat} {x : Fil} (h : L[k]? = some x) : undL dir (L.take (k + 1)) = undL dir (L.take k) ++ [{ x with p := dir ++ ([47] ++ x.p) }] := by
  unfold undL
  rw [List.take_add_one, h, List.map_append]
  rfl
theorem under_up {dir : List UInt8} {K : List (List UInt8 × List UInt8)} (h : Up K) : Up (underK dir K) := by
  unfold Up underK at *
  rw [List.pairwise_map]
  refine h.imp fun {a b} hab => ?_
  show cmpB (dir ++ ([47] ++ a.1)) (dir ++ ([47] ++ b.1)) < 0
  rw [← List.append_assoc, ← List.append_assoc, cmp_pre]
  exact hab

set_option maxHeartbeats 16000000 in
set_option maxRecDepth 100000 in
theorem runder_any (L : List Fil) (A : Option Addr) (c : Nat) (dir : List UInt8) (w : World) (hT : TreeAt w A L) (hl : L.length ≤ 9223372036854775807) (hd : dir.length ≤ 9223372036854775807) :
    Calls Tryd.prog 108 #[.slice A L.length c, .string ⟨dir.toArray⟩] w (RToldX w (mayT L = true ∧ pathB dir = true) False (underK dir (keys L))) := by
  have HM := Lib.hid (t_refmay_any L A c w hT hl)
  have HP := Lib.hid (fun v => refpath_any dir v hd)
  cases hm : mayT L with
  | false =>
    rw [hm] at HM
    clear hm hT hl
    go_enter Tryd.func108, Tryd.ntmps108
    go_wp2_with fail
    refine HM.out.mono ?_
    rintro e w1 ⟨rfl, g1⟩
    have G1 := Lib.hid g1
    clear g1
    go_wp2_with fail
    go_ret2
    exact RToldX.two (fun h => by cases h.1) G1.out
  | true =>
    rw [hm] at HM
    cases hp : pathB dir with
    | false =>
      rw [hp] at HP
      clear hm hT hl hp
      go_enter Tryd.func108, Tryd.ntmps108
      go_wp2_with fail
      refine HM.out.mono ?_
      rintro e w1 ⟨rfl, g1⟩
      have G1 := Lib.hid g1
      clear g1
      go_wp2_with fail
      refine (HP.out _).mono ?_
      rintro e w2 ⟨rfl, rfl⟩
      go_wp2_with fail
      go_ret2
      exact RToldX.two (fun h => by cases h.2) G1.out
    | true =>
      rw [hp] at HP
      obtain ⟨i0, hi, hz0, hz1, hz2⟩ := info_parts Tryd.info91
      have HUP : Hid (Up (keys L)) := Lib.hid ((mayT_iff L).1 hm).2
      have HL16 : Hid (L.length ≤ 16) := Lib.hid (mayT_parts hm).1
      have HPL : Hid (∀ f ∈ L, f.p.length ≤ 40) := Lib.hid fun f hf => (path_len ((mayT_parts hm).2.1 f hf).1).2
      have HDL : Hid (dir.length ≤ 40) := Lib.hid (path_len hp).2
      have HT : Hid (∀ v, Chg none w v → TreeAt v A L) := Lib.hid fun v g => hT.chg g
      have HMD := Lib.hid made_any
      clear hm hT hl hp hd
      go_enter Tryd.func108, Tryd.ntmps108
      go_wp2_with fail
      refine HM.out.mono ?_
      rintro e w1 ⟨rfl, g1⟩
      have G1 := Lib.hid g1
      clear g1
      go_wp2_with fail
      refine (HP.out _).mono ?_
      rintro e w2 ⟨rfl, rfl⟩
      go_wp2_with fail
      go_loopw [6, 7] (fun s6 s7 wr => ∃ (k : Nat) (A1 : Option Addr) (c1 : Nat) (M : List Fil), s7 = .int .i64 k ∧ s6 = .slice A1 M.length c1 ∧ Hid (k ≤ L.length ∧ M.length = k) ∧ Hid (RowL w2 wr A1 c1 M) ∧ Hid (undL dir (L.take k) = M)) (fun _ s7 _ => L.length - (intOf s7).toNat)
      case atStart => exact ⟨0, none, 0, [], rfl, rfl, Lib.hid ⟨Nat.zero_le _, rfl⟩, Lib.hid (RowL.nil _), Lib.hid rfl⟩
      case round =>
        obtain ⟨k, A1, c1, M, rfl, rfl, H1, H2, H3⟩ := hrel
        by_cases hlt : k < L.length
        · have hdd : decide ((k : Int) < (L.length : Int)) = true := by rw [decide_eq_true_eq]; omega
          obtain ⟨x, hkx⟩ : ∃ x, L[k]? = some x := ⟨_, List.getElem?_eq_getElem hlt⟩
          have hne : L ≠ [] := by intro e; subst e; simp at hlt
          obtain ⟨b, off, rfl, -, -⟩ := (HT.out wr (G1.out.trans H2.out.chg)).1 hne
          have HX : Hid (∀ v, Chg none w v → v.cell? ⟨b, off + k * 2, none⟩ = some (.string ⟨x.p.toArray⟩) ∧ v.cell? ⟨b, off + k * 2 + 1, none⟩ = some (.slice x.A x.x.length x.c)) := Lib.hid fun v g => ((HT.out v g).1.two hkx).2
          have HLT := Lib.hid hlt
          have HST : Hid (undL dir (L.take (k + 1)) = M ++ [{ x with p := dir ++ ([47] ++ x.p) }]) := Lib.hid (by rw [undL_step hkx, H3.out])
          have HRX := one38 { x with p := dir ++ ([47] ++ x.p) }
          have HOX := one38c { x with p := dir ++ ([47] ++ x.p) }
          have hpx := HPL.out x (List.mem_of_getElem? hkx)
          have hdl := HDL.out
          have hc1 : (⟨dir.toArray⟩ : ByteArray) ++ (⟨#[47]⟩ : ByteArray) = ⟨(dir ++ [47]).toArray⟩ := ba_append dir [47]
          have hc2 : (⟨(dir ++ [47]).toArray⟩ : ByteArray) ++ (⟨x.p.toArray⟩ : ByteArray) = ⟨(dir ++ ([47] ++ x.p)).toArray⟩ := by rw [ba_append, List.append_assoc]
          have HML : Hid (M.length ≤ 16) := Lib.hid (by have := H1.out; have := HL16.out; omega)
          have h16 := HL16.out
          clear hkx hne HT H3
          obtain ⟨fp, xA, xx, xc⟩ := x
          dsimp only at HX HRX HOX hc2 hpx HST
          obtain ⟨np, hnp⟩ : ∃ np, np = dir ++ ([47] ++ fp) := ⟨_, rfl⟩
          rw [← hnp] at HRX HOX hc2 HST
          clear hnp
          obtain ⟨dp, hdp⟩ : ∃ dp, dp = dir ++ [47] := ⟨_, rfl⟩
          have hdl2 : dp.length ≤ 41 := by rw [hdp, List.length_append]; simp; omega
          rw [← hdp] at hc1 hc2
          clear hdp
          have hs1 : dir.length ≤ 9223372036854775806 := by omega
          have hs2 : dp.length + fp.length ≤ 9223372036854775807 := by omega
          have HSE : Hid (∀ ob : Obj, w2.heap.size ≤ (wr.drew.alloc ob).heap.size) := Lib.hid fun ob => (H2.out.chg.drew.alloc ob).size
          go_wp2_with fail
          have hS0 : Chg none w2 wr.drew := H2.out.chg.drew
          refine wp_region_held_drew (S := fun v => Chg none w2 v) (by kernel_rfl) hS0 (fun _ => ?_)
          refine wpAnyH_take (i := 0) (oi := ⟨some 22, _, _, _, _, _⟩) (v := ?_) rfl (by kernel_rfl) (by kernel_rfl) (by kernel_rfl) (fun _ _ _ h => h) (Or.inl ⟨by rfl, ?_⟩) (by assumption) ?_
          rotate_left
          · intro v hSv; (try dsimp only at hSv); skip; go_simp; (try with_reducible rfl)
          try simp only [Act.put, List.setIfInBounds_toArray, List.set_cons_zero, List.set_cons_succ]
          refine wpAnyH_take (i := 1) (oi := ⟨some 23, _, _, _, _, _⟩) (v := ?_) rfl (by kernel_rfl) (by kernel_rfl) (by kernel_rfl) (fun _ _ _ h => h) (Or.inl ⟨by rfl, ?_⟩) (by assumption) ?_
          rotate_left
          · intro v hSv; (try dsimp only at hSv); skip; go_simp; (try with_reducible rfl)
          try simp only [Act.put, List.setIfInBounds_toArray, List.set_cons_zero, List.set_cons_succ]
          refine wpAnyH_take (i := 2) (oi := ⟨some 24, _, _, _, _, _⟩) (v := .string ⟨dp.toArray⟩) rfl (by kernel_rfl) (by kernel_rfl) (by kernel_rfl) (fun _ _ _ h => h) (Or.inl ⟨by rfl, ?_⟩) (by assumption) ?_
          · intro v hSv; skip; go_simp
          try simp only [Act.put, List.setIfInBounds_toArray, List.set_cons_zero, List.set_cons_succ]
          refine wpAnyH_take (i := 3) (oi := ⟨some 25, _, _, _, _, _⟩) (v := ?_) rfl (by kernel_rfl) (by kernel_rfl) (by kernel_rfl) (fun _ _ _ h => h) (Or.inl ⟨by rfl, ?_⟩) (by assumption) ?_
          rotate_left
          · intro v hSv; (try dsimp only at hSv); skip; go_simp; (try with_reducible rfl)
          try simp only [Act.put, List.setIfInBounds_toArray, List.set_cons_zero, List.set_cons_succ]
          refine wpAnyH_take (i := 4) (oi := ⟨some 26, _, _, _, _, _⟩) (v := ?_) rfl (by kernel_rfl) (by kernel_rfl) (by kernel_rfl) (fun _ _ _ h => h) (Or.inl ⟨by rfl, ?_⟩) (by assumption) ?_
          rotate_left
          · intro v hSv; (try dsimp only at hSv); skip; go_simp; (try with_reducible rfl)
          try simp only [Act.put, List.setIfInBounds_toArray, List.set_cons_zero, List.set_cons_succ]
          refine wpAnyH_take (i := 5) (oi := ⟨some 27, _, _, _, _, _⟩) (v := ?_) rfl (by kernel_rfl) (by kernel_rfl) (by kernel_rfl) (fun _ _ _ h => h) (Or.inl ⟨by rfl, ?_⟩) (by assumption) ?_
          rotate_left
          · intro v hSv; (try dsimp only at hSv); skip; go_simp; (try with_reducible rfl)
          try simp only [Act.put, List.setIfInBounds_toArray, List.set_cons_zero, List.set_cons_succ]
          refine wpAnyH_take (i := 6) (oi := ⟨some 28, _, _, _, _, _⟩) (v := ?_) rfl (by kernel_rfl) (by kernel_rfl) (by kernel_rfl) (fun _ _ _ h => h) (Or.inl ⟨by rfl, ?_⟩) (by assumption) ?_
          rotate_left
          · intro v hSv; (try dsimp only at hSv); skip; go_simp; (try with_reducible rfl)
          try simp only [Act.put, List.setIfInBounds_toArray, List.set_cons_zero, List.set_cons_succ]
          refine wpAnyH_take (i := 7) (oi := ⟨some 29, _, _, _, _, _⟩) (v := .string ⟨fp.toArray⟩) rfl (by kernel_rfl) (by kernel_rfl) (by kernel_rfl) (fun _ _ _ h => h) (Or.inl ⟨by rfl, ?_⟩) (by assumption) ?_
          · intro v hSv; have z := (HX.out v (G1.out.trans hSv)).1; go_simp
          try simp only [Act.put, List.setIfInBounds_toArray, List.set_cons_zero, List.set_cons_succ]
          refine wpAnyH_take (i := 8) (oi := ⟨some 30, _, _, _, _, _⟩) (v := .string ⟨np.toArray⟩) rfl (by kernel_rfl) (by kernel_rfl) (by kernel_rfl) (fun _ _ _ h => h) (Or.inl ⟨by rfl, ?_⟩) (by assumption) ?_
          · intro v hSv; skip; go_simp
          try simp only [Act.put, List.setIfInBounds_toArray, List.set_cons_zero, List.set_cons_succ]
          refine wpAnyH_take (i := 9) (oi := ⟨some 31, _, _, _, _, _⟩) (v := ?_) rfl (by kernel_rfl) (by kernel_rfl) (by kernel_rfl) (fun _ _ _ h => h) (Or.inl ⟨by rfl, ?_⟩) (by assumption) ?_
          rotate_left
          · intro v hSv; (try dsimp only at hSv); skip; go_simp; (try with_reducible rfl)
          try simp only [Act.put, List.setIfInBounds_toArray, List.set_cons_zero, List.set_cons_succ]
          refine wpAnyH_take (i := 10) (oi := ⟨some 32, _, _, _, _, _⟩) (v := ?_) rfl (by kernel_rfl) (by kernel_rfl) (by kernel_rfl) (fun _ _ _ h => h) (Or.inl ⟨by rfl, ?_⟩) (by assumption) ?_
          rotate_left
          · intro v hSv; (try dsimp only at hSv); skip; go_simp; (try with_reducible rfl)
          try simp only [Act.put, List.setIfInBounds_toArray, List.set_cons_zero, List.set_cons_succ]
          refine wpAnyH_take (i := 11) (oi := ⟨some 33, _, _, _, _, _⟩) (v := ?_) rfl (by kernel_rfl) (by kernel_rfl) (by kernel_rfl) (fun _ _ _ h => h) (Or.inl ⟨by rfl, ?_⟩) (by assumption) ?_
          rotate_left
          · intro v hSv; (try dsimp only at hSv); skip; go_simp; (try with_reducible rfl)
          try simp only [Act.put, List.setIfInBounds_toArray, List.set_cons_zero, List.set_cons_succ]
          refine wpAnyH_take (i := 12) (oi := ⟨some 34, _, _, _, _, _⟩) (v := ?_) rfl (by kernel_rfl) (by kernel_rfl) (by kernel_rfl) (fun _ _ _ h => h) (Or.inl ⟨by rfl, ?_⟩) (by assumption) ?_
          rotate_left
          · intro v hSv; (try dsimp only at hSv); skip; go_simp; (try with_reducible rfl)
          try simp only [Act.put, List.setIfInBounds_toArray, List.set_cons_zero, List.set_cons_succ]
          refine wpAnyH_take (i := 13) (oi := ⟨some 35, _, _, _, _, _⟩) (v := .slice xA xx.length xc) rfl (by kernel_rfl) (by kernel_rfl) (by kernel_rfl) (fun _ _ _ h => h) (Or.inl ⟨by rfl, ?_⟩) (by assumption) ?_
          · intro v hSv; have z := (HX.out v (G1.out.trans hSv)).2; go_simp
          try simp only [Act.put, List.setIfInBounds_toArray, List.set_cons_zero, List.set_cons_succ]
          refine wpAnyH_take (i := 14) (oi := ⟨some 36, _, _, _, _, _⟩) (v := ?_) rfl (by kernel_rfl) (by kernel_rfl) (by kernel_rfl) (fun _ _ _ h => h) (Or.inl ⟨by rfl, ?_⟩) (by assumption) ?_
          rotate_left
          · intro v hSv; (try dsimp only at hSv); skip; go_simp; (try with_reducible rfl)
          try simp only [Act.put, List.setIfInBounds_toArray, List.set_cons_zero, List.set_cons_succ]
          refine wpAnyH_ready (rs := [15]) (by kernel_rfl) (by simp) ?_
          refine AllReadyH.cons (o := ⟨some 37, _, _, _, _, _⟩) rfl (fun K hK => ?_) (AllReadyH.nil)
          go_simp
          refine hK.out _ _ (Chg.alloc hS0 _) (fun _ => ?_)
          clear hK K
          try simp only [Act.put, List.setIfInBounds_toArray, List.set_cons_zero, List.set_cons_succ]
          refine wpAnyH_ready (rs := [16]) (by kernel_rfl) (by simp) ?_
          refine AllReadyH.cons (o := ⟨some 38, _, _, _, _, _⟩) rfl (fun K hK => ?_) (AllReadyH.nil)
          refine wp_append_any _ (.tmp 22) (.tmp 37) 40 (by rfl) w2.heap.size 91 i0 (.agg #[.string ⟨#[]⟩, .slice none 0 0]) 2 40 Tryd.underlying40 hi hz0 hz1 hz2 rfl (by decide) _ M.length (M.flatMap filCells) (by rfl) ((H2.out.on (Chg.refl none wr).drew).row.alloc _) _ (some ⟨wr.heap.size, 0, none⟩) 1 1 _ (by rfl) (HRX.out wr.drew) HOX.out (by have := HML.out; unfold maxLen; omega) (by have := HML.out; omega) (HSE.out _) ?_
          intro v3 w3 hown3 hgr3 _
          obtain ⟨A3, c3, rfl⟩ := own_slice hown3
          have HO3 := Lib.hid (((H2.out.on (Chg.refl none wr).drew).on ((Chg.refl none wr.drew).alloc _)).app (m := ⟨np, xA, xx, xc⟩) hown3 hgr3)
          have hS3 : Chg none w2 w3 := HO3.out.chg
          clear hown3 hgr3
          refine hK.out _ _ hS3 (fun _ => ?_)
          clear hK K
          try simp only [Act.put, List.setIfInBounds_toArray, List.set_cons_zero, List.set_cons_succ]
          refine wpAnyH_take (i := 17) (oi := ⟨some 6, _, _, _, _, _⟩) (v := ?_) rfl (by kernel_rfl) (by kernel_rfl) (by kernel_rfl) (fun _ _ _ h => h) (Or.inl ⟨by rfl, ?_⟩) (by assumption) ?_
          rotate_left
          · intro v hSv; (try dsimp only at hSv); skip; go_simp; (try with_reducible rfl)
          try simp only [Act.put, List.setIfInBounds_toArray, List.set_cons_zero, List.set_cons_succ]
          refine wpAnyH_done (by kernel_rfl) ?_ _
          go_wp2_with fail
          go_roundw
          case rel => exact ⟨k + 1, A3, c3, M ++ [⟨np, xA, xx, xc⟩], by first | rfl | go_num, by simp, Lib.hid ⟨HLT.out, by rw [List.length_append, H1.out.2]; rfl⟩, HO3, HST⟩
          case measure => have := HLT.out; first | omega | (simp only [intOf]; omega) | (simp [intOf]; omega)
        · have hdd : decide (k < L.length) = false := by rw [decide_eq_false_iff_not]; exact hlt
          have hd2 : decide ((k : Int) < (L.length : Int)) = false := by rw [decide_eq_false_iff_not]; omega
          have hall : M = undL dir L := by rw [← H3.out, List.take_of_length_le (by omega)]
          have hkm : keys M = underK dir (keys L) := by rw [hall]; exact keys_put dir L
          have ht3 : TreeAt wr A1 M := H2.out.tree fun m hm => by
            rw [hall] at hm
            obtain ⟨f, hf, rfl⟩ := List.mem_map.1 hm
            have hok := (HT.out wr (G1.out.trans H2.out.chg)).2 f hf
            have h1 := HPL.out f hf
            have h2 := HDL.out
            exact { hok with p := by simp; omega }
          have HT3 := Lib.hid ht3
          have HKM := Lib.hid hkm
          have HM3 := Lib.hid (HMD.out M A1 c1 wr ht3 (by have := H1.out; have := HL16.out; omega))
          have HUM : Hid (Up (keys M)) := Lib.hid (by rw [hkm]; exact under_up HUP.out)
          have HG := Lib.hid (G1.out.trans H2.out.chg)
          clear hlt hall hkm ht3 HT HMD
          go_wp2_with fail
          refine HM3.out.mono ?_
          intro e w4 h4
          have HR : ∀ e, MadeP M A1 c1 wr e w4 → RToldX w (True ∧ True) False (underK dir (keys L)) e w4 := fun e h => made_told HT3.out HUM.out (by rw [HKM.out]) HG.out ⟨trivial, trivial⟩ (fun h => h) h
          have HRR := Lib.hid (HR _ h4)
          obtain ⟨v1, v2, rfl⟩ : ∃ v1 v2, e = .returned (.tuple #[v1, v2]) := by
            rcases h4.2 with ⟨-, h⟩ | ⟨-, h⟩ <;> exact ⟨_, _, h⟩
          clear h4 HR HM3
          go_wp2_with fail
          go_ret2
          exact HRR.out

end Go.Proofs.YtbadkkilblgpmaaDoor
