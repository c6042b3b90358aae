/-
  The document's tree: Below; the program's Below in whatever case.
-/
import Derived.Test.YtglfakglcoffkaaUD
import Derived.Test.YtglfakglcoffkaaTPW
namespace Go.Proofs.Ytglfakglcoffkaa
open Go.RowKit

/-- What is below a directory, if it may be asked. -/
def belowA (L : List Fil) (dir : List UInt8) : List (List UInt8 × List UInt8) := if (mayT L && pathB dir) = true then belowK dir (keys L) else []
def RToldB (w : World) (K : List (List UInt8 × List UInt8)) (e : Ending) (w' : World) : Prop :=
  ∃ (A : Option Addr) (c : Nat) (M : List Fil), e = .returned (.slice A M.length c) ∧ Chg none w w' ∧ TreeAt w' A M ∧ keys M = K ∧ M.length ≤ 16
def PToldB (w : World) (K : List (List UInt8 × List UInt8)) (e : Ending) (w' : World) : Prop :=
  ∃ (A : Option Addr) (c : Nat) (M : List Fil), e = .returned (.slice A M.length c) ∧ Chg none w w' ∧ TreeAt w' A M ∧ (∀ m ∈ M, w'.ownsRow w.heap.size 5 1 (.slice m.A m.x.length m.c) m.x.length (byteVals m.x)) ∧ keys M = K ∧ M.length ≤ 16
theorem tree_nil (w : World) : TreeAt w none [] := ⟨fun h => absurd rfl h, fun f h => by cases h⟩
theorem RToldB.none_ {w w' : World} (g : Chg none w w') : RToldB w [] (.returned (.slice none 0 0)) w' := ⟨none, 0, [], rfl, g, tree_nil _, rfl, by decide⟩
theorem PToldB.none_ {w w' : World} (g : Chg none w w') : PToldB w [] (.returned (.slice none 0 0)) w' := ⟨none, 0, [], rfl, g, tree_nil _, (fun _ h => by cases h), rfl, by decide⟩

set_option maxHeartbeats 8000000 in
set_option maxRecDepth 100000 in
theorem pbelow_any (L : List Fil) (A : Option Addr) (c : Nat) (dir : List UInt8) (w : World) (hT : TreeAt w A L) (hl : L.length ≤ 9223372036854775807) (hd : dir.length ≤ 9223372036854775807) :
    Calls Try.prog 23 #[.slice A L.length c, .string ⟨dir.toArray⟩] w (PToldB w (belowA L dir)) := by
  unfold belowA
  cases hm : mayT L with
  | false =>
    have HM := Lib.hid (mayt_any L A c w hT hl)
    rw [hm] at HM
    clear hm hT hl
    go_enter Try.func23, Try.ntmps23
    go_wp2_with fail
    refine HM.out.mono ?_
    rintro e w1 ⟨rfl, g1⟩
    have G1 := Lib.hid g1
    clear g1
    go_wp2_with fail
    go_ret
    exact PToldB.none_ G1.out
  | true =>
    cases hp : pathB dir with
    | false =>
      have HM := Lib.hid (mayt_any L A c w hT hl)
      have HP := Lib.hid (fun v => ispath_any dir v hd)
      rw [hm] at HM
      rw [hp] at HP
      clear hm hT hl hp
      go_enter Try.func23, Try.ntmps23
      go_wp2_with fail
      refine HM.out.mono ?_
      rintro e w1 ⟨rfl, g1⟩
      have G1 := Lib.hid g1
      clear g1
      go_wp2_with fail
      refine (HP.out _).mono ?_
      rintro e w2 ⟨rfl, g2⟩
      have G2 := Lib.hid (G1.out.trans g2)
      clear g2
      go_wp2_with fail
      go_ret
      exact PToldB.none_ G2.out
    | true =>
      refine (below_yes L A c dir w hT hm hp).mono fun e w' h => ?_
      obtain ⟨A', c', M, he, ho, hk, hl1, hp1⟩ := h
      have h16 := (mayT_parts hm).1
      refine ⟨A', c', M, he, ho.chg, ho.tree (fun m hm => by have := hp1 m hm; omega), ho.own, ?_, by omega⟩
      rw [Bool.and_self, if_pos rfl]
      exact hk

set_option maxHeartbeats 16000000 in
set_option maxRecDepth 100000 in
theorem rbelow_any (L : List Fil) (A : Option Addr) (c : Nat) (dir : List UInt8) (w : World) (hT : TreeAt w A L) (hl : L.length ≤ 9223372036854775807) (hd : dir.length ≤ 9223372036854775807) :
    Calls Try.prog 24 #[.slice A L.length c, .string ⟨dir.toArray⟩] w (RToldB w (belowA L dir)) := by
  unfold belowA
  have HM := Lib.hid (refmay_any L A c w hT hl)
  have HP := Lib.hid (fun v => refpath_any dir v hd)
  cases hm : mayT L with
  | false =>
    rw [hm] at HM
    clear hm hT hl
    go_enter Try.func24, Try.ntmps24
    go_wp2_with fail
    refine HM.out.mono ?_
    rintro e w1 ⟨rfl, g1⟩
    have G1 := Lib.hid g1
    clear g1
    go_wp2_with fail
    go_ret
    exact RToldB.none_ G1.out
  | true =>
    rw [hm] at HM
    cases hp : pathB dir with
    | false =>
      rw [hp] at HP
      clear hm hT hl hp
      go_enter Try.func24, Try.ntmps24
      go_wp2_with fail
      refine HM.out.mono ?_
      rintro e w1 ⟨rfl, g1⟩
      have G1 := Lib.hid g1
      clear g1
      go_wp2_with fail
      refine (HP.out _).mono ?_
      rintro e w2 ⟨rfl, rfl⟩
      go_wp2_with fail
      go_ret
      exact RToldB.none_ G1.out
    | true =>
      rw [hp] at HP
      rw [Bool.and_self, if_pos rfl]
      obtain ⟨i0, hi, hz0, hz1, hz2⟩ := info_parts Try.info38
      have HL16 : Hid (L.length ≤ 16) := Lib.hid (mayT_parts hm).1
      have HPL : Hid (∀ f ∈ L, pathB f.p = true ∧ f.p.length ≤ 40) := Lib.hid fun f hf => ⟨((mayT_parts hm).2.1 f hf).1, (path_len ((mayT_parts hm).2.1 f hf).1).2⟩
      have HDL : Hid (dir.length ≤ 40) := Lib.hid (path_len hp).2
      have HT : Hid (∀ v, Chg none w v → TreeAt v A L) := Lib.hid fun v g => hT.chg g
      clear hm hT hl hp hd
      go_enter Try.func24, Try.ntmps24
      go_wp2_with fail
      refine HM.out.mono ?_
      rintro e w1 ⟨rfl, g1⟩
      have G1 := Lib.hid g1
      clear g1
      go_wp2_with fail
      refine (HP.out _).mono ?_
      rintro e w2 ⟨rfl, rfl⟩
      go_wp2_with fail
      go_loopw [5, 6] (fun s5 s6 wr => ∃ (k : Nat) (A1 : Option Addr) (c1 : Nat) (M : List Fil), s6 = .int .i64 k ∧ s5 = .slice A1 M.length c1 ∧ Hid (k ≤ L.length ∧ M.length ≤ k) ∧ Hid (RowL w2 wr A1 c1 M ∧ ∀ m ∈ M, ∀ v, Chg none w v → m.ok v) ∧ Hid (keys M = belowK dir ((keys L).take k))) (fun _ s6 _ => L.length - (intOf s6).toNat)
      case atStart => exact ⟨0, none, 0, [], rfl, rfl, Lib.hid ⟨Nat.zero_le _, Nat.zero_le _⟩, Lib.hid ⟨RowL.nil _, fun m h => by cases h⟩, Lib.hid rfl⟩
      case round =>
        obtain ⟨k, A1, c1, M, rfl, rfl, H1, H20, H3⟩ := hrel
        have H2 := Lib.hid H20.out.1
        by_cases hlt : k < L.length
        · have hdd : decide ((k : Int) < (L.length : Int)) = true := by rw [decide_eq_true_eq]; omega
          obtain ⟨x, hkx⟩ : ∃ x, L[k]? = some x := ⟨_, List.getElem?_eq_getElem hlt⟩
          have hne : L ≠ [] := by intro e; subst e; simp at hlt
          obtain ⟨b, off, rfl, -, -⟩ := (HT.out wr (G1.out.trans H2.out.chg)).1 hne
          have HX : Hid (∀ v, Chg none w v → v.cell? ⟨b, off + k * 2, none⟩ = some (.string ⟨x.p.toArray⟩) ∧ v.cell? ⟨b, off + k * 2 + 1, none⟩ = some (.slice x.A x.x.length x.c)) := Lib.hid fun v g => ((HT.out v g).1.two hkx).2
          have hlb := ((HT.out wr (G1.out.trans H2.out.chg)).1.two hkx).1
          have HXO : Hid (∀ v, Chg none w v → x.ok v) := Lib.hid fun v g => (HT.out v g).2 x (List.mem_of_getElem? hkx)
          have HLT := Lib.hid hlt
          have HBS := Lib.hid (belowK_step (dir := dir) (L := keys L) (k := k) (f := keyF x) (by unfold keys; rw [List.getElem?_map, hkx]; rfl))
          obtain ⟨hpx1, hpx⟩ := HPL.out x (List.mem_of_getElem? hkx)
          have hdl := HDL.out
          have hc1 : (⟨dir.toArray⟩ : ByteArray) ++ (⟨#[47]⟩ : ByteArray) = ⟨(dir ++ [47]).toArray⟩ := ba_append dir [47]
          have HML : Hid (M.length ≤ 16) := Lib.hid (by have := H1.out; have := HL16.out; omega)
          have h16 := HL16.out
          have x0 := (HX.out wr (G1.out.trans H2.out.chg)).1
          clear hkx hne HT
          obtain ⟨fp, xA, xx, xc⟩ := x
          dsimp only at HX hpx hpx1 x0
          unfold keyF at HBS
          dsimp only at HBS
          have hs1 : dir.length ≤ 9223372036854775806 := by omega
          by_cases hlg : dir.length + 1 < fp.length
          · have d1 : decide ((dir.length : Int) + 1 < (fp.length : Int)) = true := by rw [decide_eq_true_eq]; omega
            have d2 : decide (dir.length + 1 < fp.length) = true := by rw [decide_eq_true_eq]; exact hlg
            have h2 : (dir.length : Int) + 1 ≤ (fp.length : Int) := by omega
            have h3 : dir.length + 1 ≤ fp.length := by omega
            have he := ba_extract fp 0 (dir.length + 1)
            rw [List.drop_zero, Nat.sub_zero] at he
            by_cases hq : fp.take (dir.length + 1) = dir ++ [47]
            · have hpf : prefB fp (dir ++ [47]) = true := by
                unfold prefB
                rw [show (dir ++ [(47 : UInt8)]).length = dir.length + 1 by simp, hq, decide_eq_true h3]; simp
              rw [hpf, if_pos rfl] at HBS
              have q1 : (fp.take (dir.length + 1) == dir ++ [47]) = true := by rw [beq_iff_eq]; exact hq
              have he2 := ba_extract fp (dir.length + 1) fp.length
              rw [List.take_of_length_le (show (fp.drop (dir.length + 1)).length ≤ fp.length - (dir.length + 1) by rw [List.length_drop]; exact Nat.le_refl _)] at he2
              obtain ⟨tp, htp⟩ : ∃ tp, tp = fp.take (dir.length + 1) := ⟨_, rfl⟩
              rw [← htp] at he q1
              obtain ⟨np, hnp⟩ : ∃ np, np = fp.drop (dir.length + 1) := ⟨_, rfl⟩
              rw [← hnp] at he2 HBS
              have HNP : Hid (np.length ≤ 40) := Lib.hid (by rw [hnp, List.length_drop]; omega)
              obtain ⟨dp, hdp⟩ : ∃ dp, dp = dir ++ [47] := ⟨_, rfl⟩
              rw [← hdp] at hc1 q1
              have HRX := one38 ⟨np, xA, xx, xc⟩
              have HOX := one38c ⟨np, xA, xx, xc⟩
              dsimp only at HRX HOX
              have hw1 : IntKind.i64.wrap ((dir.length : Int) + 1) = (dir.length : Int) + 1 := by rw [IntKind.wrap_i64]; omega
              have hz9 : ¬ ((dir.length : Int) + 1 < 0) := by omega
              have HSE : Hid (∀ ob : Obj, w2.heap.size ≤ (wr.drew.alloc ob).heap.size) := Lib.hid fun ob => (H2.out.chg.drew.alloc ob).size
              clear hq hpf htp hnp hdp hlg
              go_wp2_with fail
              have hS0 : Chg none w2 wr.drew := H2.out.chg.drew
              refine wp_region_held_drew (S := fun v => Chg none w2 v) (by kernel_rfl) hS0 (fun _ => ?_)
              refine wpAnyH_take (i := 0) (oi := ⟨some 43, _, _, _, _, _⟩) (v := ?_) rfl (by kernel_rfl) (by kernel_rfl) (by kernel_rfl) (fun _ _ _ h => h) (Or.inl ⟨by rfl, ?_⟩) (by assumption) ?_
              rotate_left
              · intro v hSv; (try dsimp only at hSv); skip; go_simp; (try with_reducible rfl)
              try simp only [Act.put, List.setIfInBounds_toArray, List.set_cons_zero, List.set_cons_succ]
              refine wpAnyH_take (i := 1) (oi := ⟨some 44, _, _, _, _, _⟩) (v := ?_) rfl (by kernel_rfl) (by kernel_rfl) (by kernel_rfl) (fun _ _ _ h => h) (Or.inl ⟨by rfl, ?_⟩) (by assumption) ?_
              rotate_left
              · intro v hSv; (try dsimp only at hSv); skip; go_simp; (try with_reducible rfl)
              try simp only [Act.put, List.setIfInBounds_toArray, List.set_cons_zero, List.set_cons_succ]
              refine wpAnyH_take (i := 2) (oi := ⟨some 45, _, _, _, _, _⟩) (v := ?_) rfl (by kernel_rfl) (by kernel_rfl) (by kernel_rfl) (fun _ _ _ h => h) (Or.inl ⟨by rfl, ?_⟩) (by assumption) ?_
              rotate_left
              · intro v hSv; (try dsimp only at hSv); skip; go_simp; (try with_reducible rfl)
              try simp only [Act.put, List.setIfInBounds_toArray, List.set_cons_zero, List.set_cons_succ]
              refine wpAnyH_take (i := 3) (oi := ⟨some 46, _, _, _, _, _⟩) (v := ?_) rfl (by kernel_rfl) (by kernel_rfl) (by kernel_rfl) (fun _ _ _ h => h) (Or.inl ⟨by rfl, ?_⟩) (by assumption) ?_
              rotate_left
              · intro v hSv; (try dsimp only at hSv); skip; go_simp; (try with_reducible rfl)
              try simp only [Act.put, List.setIfInBounds_toArray, List.set_cons_zero, List.set_cons_succ]
              refine wpAnyH_take (i := 4) (oi := ⟨some 47, _, _, _, _, _⟩) (v := .int .i64 ((dir.length : Int) + 1)) rfl (by kernel_rfl) (by kernel_rfl) (by kernel_rfl) (fun _ _ _ h => h) (Or.inl ⟨by rfl, ?_⟩) (by assumption) ?_
              · intro v hSv; skip; go_simp
              try simp only [Act.put, List.setIfInBounds_toArray, List.set_cons_zero, List.set_cons_succ]
              refine wpAnyH_take (i := 5) (oi := ⟨some 48, _, _, _, _, _⟩) (v := .string ⟨np.toArray⟩) rfl (by kernel_rfl) (by kernel_rfl) (by kernel_rfl) (fun _ _ _ h => h) (Or.inl ⟨by rfl, ?_⟩) (by assumption) ?_
              · intro v hSv; skip; go_simp
              try simp only [Act.put, List.setIfInBounds_toArray, List.set_cons_zero, List.set_cons_succ]
              refine wpAnyH_take (i := 6) (oi := ⟨some 49, _, _, _, _, _⟩) (v := ?_) rfl (by kernel_rfl) (by kernel_rfl) (by kernel_rfl) (fun _ _ _ h => h) (Or.inl ⟨by rfl, ?_⟩) (by assumption) ?_
              rotate_left
              · intro v hSv; (try dsimp only at hSv); skip; go_simp; (try with_reducible rfl)
              try simp only [Act.put, List.setIfInBounds_toArray, List.set_cons_zero, List.set_cons_succ]
              refine wpAnyH_take (i := 7) (oi := ⟨some 50, _, _, _, _, _⟩) (v := ?_) rfl (by kernel_rfl) (by kernel_rfl) (by kernel_rfl) (fun _ _ _ h => h) (Or.inl ⟨by rfl, ?_⟩) (by assumption) ?_
              rotate_left
              · intro v hSv; (try dsimp only at hSv); skip; go_simp; (try with_reducible rfl)
              try simp only [Act.put, List.setIfInBounds_toArray, List.set_cons_zero, List.set_cons_succ]
              refine wpAnyH_take (i := 8) (oi := ⟨some 51, _, _, _, _, _⟩) (v := ?_) rfl (by kernel_rfl) (by kernel_rfl) (by kernel_rfl) (fun _ _ _ h => h) (Or.inl ⟨by rfl, ?_⟩) (by assumption) ?_
              rotate_left
              · intro v hSv; (try dsimp only at hSv); skip; go_simp; (try with_reducible rfl)
              try simp only [Act.put, List.setIfInBounds_toArray, List.set_cons_zero, List.set_cons_succ]
              refine wpAnyH_take (i := 9) (oi := ⟨some 52, _, _, _, _, _⟩) (v := ?_) rfl (by kernel_rfl) (by kernel_rfl) (by kernel_rfl) (fun _ _ _ h => h) (Or.inl ⟨by rfl, ?_⟩) (by assumption) ?_
              rotate_left
              · intro v hSv; (try dsimp only at hSv); skip; go_simp; (try with_reducible rfl)
              try simp only [Act.put, List.setIfInBounds_toArray, List.set_cons_zero, List.set_cons_succ]
              refine wpAnyH_take (i := 10) (oi := ⟨some 53, _, _, _, _, _⟩) (v := .slice xA xx.length xc) rfl (by kernel_rfl) (by kernel_rfl) (by kernel_rfl) (fun _ _ _ h => h) (Or.inl ⟨by rfl, ?_⟩) (by assumption) ?_
              · intro v hSv; have z := (HX.out v (G1.out.trans hSv)).2; go_simp
              try simp only [Act.put, List.setIfInBounds_toArray, List.set_cons_zero, List.set_cons_succ]
              refine wpAnyH_take (i := 11) (oi := ⟨some 54, _, _, _, _, _⟩) (v := ?_) rfl (by kernel_rfl) (by kernel_rfl) (by kernel_rfl) (fun _ _ _ h => h) (Or.inl ⟨by rfl, ?_⟩) (by assumption) ?_
              rotate_left
              · intro v hSv; (try dsimp only at hSv); skip; go_simp; (try with_reducible rfl)
              try simp only [Act.put, List.setIfInBounds_toArray, List.set_cons_zero, List.set_cons_succ]
              refine wpAnyH_ready (rs := [12]) (by kernel_rfl) (by simp) ?_
              refine AllReadyH.cons (o := ⟨some 55, _, _, _, _, _⟩) rfl (fun K hK => ?_) (AllReadyH.nil)
              go_simp
              refine hK.out _ _ (Chg.alloc hS0 _) (fun _ => ?_)
              clear hK K
              try simp only [Act.put, List.setIfInBounds_toArray, List.set_cons_zero, List.set_cons_succ]
              refine wpAnyH_ready (rs := [13]) (by kernel_rfl) (by simp) ?_
              refine AllReadyH.cons (o := ⟨some 56, _, _, _, _, _⟩) rfl (fun K hK => ?_) (AllReadyH.nil)
              refine wp_append_any _ (.tmp 43) (.tmp 55) 25 (by rfl) w2.heap.size 38 i0 (.agg #[.string ⟨#[]⟩, .slice none 0 0]) 2 40 Try.underlying25 hi hz0 hz1 hz2 rfl (by decide) _ M.length (M.flatMap filCells) (by rfl) ((H2.out.on (Chg.refl none wr).drew).row.alloc _) _ (some ⟨wr.heap.size, 0, none⟩) 1 1 _ (by rfl) (HRX.out wr.drew) HOX.out (by have := HML.out; unfold maxLen; omega) (by have := HML.out; omega) (HSE.out _) ?_
              intro v3 w3 hown3 hgr3 _
              obtain ⟨A3, c3, rfl⟩ := own_slice hown3
              have HO3 := Lib.hid (((H2.out.on (Chg.refl none wr).drew).on ((Chg.refl none wr.drew).alloc _)).app (m := ⟨np, xA, xx, xc⟩) hown3 hgr3)
              have hS3 : Chg none w2 w3 := HO3.out.chg
              clear hown3 hgr3
              refine hK.out _ _ hS3 (fun _ => ?_)
              clear hK K
              try simp only [Act.put, List.setIfInBounds_toArray, List.set_cons_zero, List.set_cons_succ]
              refine wpAnyH_take (i := 14) (oi := ⟨some 5, _, _, _, _, _⟩) (v := ?_) rfl (by kernel_rfl) (by kernel_rfl) (by kernel_rfl) (fun _ _ _ h => h) (Or.inl ⟨by rfl, ?_⟩) (by assumption) ?_
              rotate_left
              · intro v hSv; (try dsimp only at hSv); skip; go_simp; (try with_reducible rfl)
              try simp only [Act.put, List.setIfInBounds_toArray, List.set_cons_zero, List.set_cons_succ]
              refine wpAnyH_done (by kernel_rfl) ?_ _
              go_wp2_with fail
              go_roundw
              case rel => exact ⟨k + 1, A3, c3, M ++ [⟨np, xA, xx, xc⟩], by first | rfl | go_num, by simp, Lib.hid ⟨HLT.out, by rw [List.length_append]; have := H1.out.2; simp; omega⟩, Lib.hid ⟨HO3.out, fun m hm v g => by
                rcases List.mem_append.1 hm with h | h
                · exact H20.out.2 m h v g
                · obtain rfl : m = ⟨np, xA, xx, xc⟩ := by simpa using h
                  exact { HXO.out v g with p := by have := HNP.out; simp only; omega }⟩, Lib.hid (by unfold keys at *; rw [HBS.out, List.map_append, H3.out]; rfl)⟩
              case measure => have := HLT.out; first | omega | (simp only [intOf]; omega) | (simp [intOf]; omega)
            · have hpf : prefB fp (dir ++ [47]) = false := by
                unfold prefB
                rw [show (dir ++ [(47 : UInt8)]).length = dir.length + 1 by simp, Bool.and_eq_false_iff]
                right
                rw [beq_eq_false_iff_ne]; exact hq
              rw [hpf, if_neg (by decide), List.append_nil] at HBS
              have q1 : (fp.take (dir.length + 1) == dir ++ [47]) = false := by rw [beq_eq_false_iff_ne]; exact hq
              have q2 : ¬ fp.take (dir.length + 1) = dir ++ [47] := hq
              clear hpf hlg hq
              go_wp2_with fail
              go_roundw
              case rel => exact ⟨k + 1, A1, c1, M, by first | rfl | go_num, rfl, Lib.hid ⟨HLT.out, by have := H1.out.2; omega⟩, H20, Lib.hid (by rw [HBS.out]; exact H3.out)⟩
              case measure => have := HLT.out; first | omega | (simp only [intOf]; omega) | (simp [intOf]; omega)
          · have hpf : prefB fp (dir ++ [47]) = false := by
              cases hpf : prefB fp (dir ++ [47]) with
              | false => rfl
              | true =>
                exfalso
                unfold prefB at hpf
                rw [Bool.and_eq_true, decide_eq_true_eq, beq_iff_eq] at hpf
                have hle : fp.length ≤ (dir ++ [47]).length := by simp; omega
                rw [List.take_of_length_le hle] at hpf
                rw [hpf.2] at hpx1
                have h := pathB_join dir []
                rw [List.append_nil, hpx1] at h
                have h0 : pathB [] = false := by decide
                rw [h0] at h
                simp at h
            rw [hpf, if_neg (by decide), List.append_nil] at HBS
            have d1 : decide ((dir.length : Int) + 1 < (fp.length : Int)) = false := by rw [decide_eq_false_iff_not]; omega
            have d2 : decide (dir.length + 1 < fp.length) = false := by rw [decide_eq_false_iff_not]; exact hlg
            clear hpf hlg
            go_wp2_with fail
            go_roundw
            case rel => exact ⟨k + 1, A1, c1, M, by first | rfl | go_num, rfl, Lib.hid ⟨HLT.out, by have := H1.out.2; omega⟩, H20, Lib.hid (by rw [HBS.out]; exact H3.out)⟩
            case measure => have := HLT.out; first | omega | (simp only [intOf]; omega) | (simp [intOf]; omega)
        · have hdd : decide (k < L.length) = false := by rw [decide_eq_false_iff_not]; exact hlt
          have hd2 : decide ((k : Int) < (L.length : Int)) = false := by rw [decide_eq_false_iff_not]; omega
          have HE : Hid (keys M = belowK dir (keys L)) := Lib.hid (by rw [H3.out, List.take_of_length_le (by unfold keys; rw [List.length_map]; omega)])
          have HM16 : Hid (M.length ≤ 16) := Lib.hid (by have := H1.out; have := HL16.out; omega)
          have HG := Lib.hid (G1.out.trans H2.out.chg)
          have HT3 := Lib.hid (H2.out.tree fun m hm => H20.out.2 m hm wr HG.out)
          clear hlt HT
          go_wp2_with fail
          go_ret
          exact ⟨A1, c1, M, rfl, HG.out, HT3.out, HE.out, HM16.out⟩

end Go.Proofs.Ytglfakglcoffkaa
