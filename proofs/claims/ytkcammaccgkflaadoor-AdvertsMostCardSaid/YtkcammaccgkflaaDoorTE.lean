/-
  AdvertsMost: the walk.
-/
import Derived.Test.YtkcammaccgkflaaDoorTC
namespace Go.Proofs.YtkcammaccgkflaaDoor
open Go.RowKit

theorem att_numo {w : World} {b o : Nat} {a : Att} (h : w.rangeAt b o (attCells a)) : w.cell? ⟨b, o + 64, none⟩ = some (.int .i64 a.n) := h 64 _ (att64 a)
set_option maxRecDepth 100000 in
set_option maxHeartbeats 16000000 in
theorem most_law (A : Option Addr) (l : List Att) (c : Nat) (w : World) (hl : RowsAt w 97 A attCells l) (hlm : l.length ≤ 9223372036854775807) (hok : ∀ x ∈ l, Big x.n) (hTb : Tabs w) :
    Calls Tryd.prog 20 #[.slice A l.length c] w fun e w' => e = .returned (.bool true) ∧ Chg none w w' := by
  have HK := Lib.hid (known41_any w hTb)
  have i300 : decide ((300 : Int) < (l.length : Int)) = decide (300 < l.length) := decide_eq_decide.2 (by omega)
  by_cases h300 : 300 < l.length
  · have d1 : decide (300 < l.length) = true := decide_eq_true h300
    rw [d1] at i300
    clear hl hTb
    go_enter Tryd.func20, Tryd.ntmps20
    go_wp2_with fail
    refine HK.out.mono ?_
    rintro e w1 ⟨rfl, g1⟩
    go_wp2_with fail
    go_ret
    exact ⟨rfl, g1⟩
  have d1 : decide (300 < l.length) = false := decide_eq_false h300
  rw [d1] at i300
  have HARG := Lib.hid (arg_rows hl)
  have HNEW := Lib.hid (new_any w)
  have HL := Lib.hid h300
  have HBG := Lib.hid hok
  have HKN : Hid (∀ v, Chg none w v → Calls Tryd.prog 41 #[] v fun e w' => e = .returned (.bool true) ∧ Chg none v w') := Lib.hid fun v g => known41_any v (hTb.chg g (by simp))
  clear HK hl hTb hok
  go_enter Tryd.func20, Tryd.ntmps20
  go_wp2_with fail
  refine HNEW.out.mono ?_
  rintro e w1 ⟨rfl, hset, g1⟩
  have HS1 : Hid (SetNew w w1 w.heap.size (addAll [] (l.take 0))) := Lib.hid ⟨_, _, hset, g1⟩
  clear hset g1 HNEW i300 d1
  obtain ⟨ps, hps⟩ : ∃ ps, w.heap.size = ps := ⟨_, rfl⟩
  rw [hps] at HS1
  rw [hps]
  clear hps
  go_upto_region 7 with fail
  go_loopw [16] (fun s16 wr => ∃ k : Nat, k ≤ l.length ∧ s16 = .int .i64 k ∧ Hid (SetNew w wr ps (addAll [] (l.take k)))) (fun s16 _ => l.length - (intOf s16).toNat)
  case atStart => exact ⟨0, Nat.zero_le _, rfl, HS1⟩
  case round =>
    obtain ⟨k, hk, rfl, HS⟩ := hrel
    by_cases hlt : k < l.length
    · have hd : decide (k < l.length) = true := by rw [decide_eq_true_eq]; exact hlt
      have hd2 : decide ((k : Int) < (l.length : Int)) = true := by rw [decide_eq_true_eq]; omega
      have hlt' : (k : Int) < (l.length : Int) := by omega
      have hkl : (k : Int) ≤ 300 := by have := HL.out; omega
      obtain ⟨x, hx⟩ : ∃ x, l[k]? = some x := ⟨_, List.getElem?_eq_getElem hlt⟩
      obtain ⟨rb, ro, rfl, hr⟩ := HARG.out k x hx
      have HRX := Lib.hid (hr wr HS.out.grew)
      have HIX := Lib.hid (info46 x)
      have HAD := Lib.hid (add_new HS.out (addAll_okn _) x)
      rw [← addAll_take [] l hx] at HAD
      have HLT := Lib.hid hlt
      clear hr hx hlt
      go_wp2_with (refine wpList_load_mid rfl 46 _ rfl rb (ro + k * 97) rfl (attCells x) _ HRX.out Tryd.underlying46 rfl HIX.out ?_)
      refine HAD.out.mono ?_
      rintro e w2 ⟨rfl, hs⟩
      have HS2 := Lib.hid hs
      clear hs
      go_wp2_with fail
      go_roundw
      case rel => exact ⟨k + 1, by have := HLT.out; omega, by first | rfl | go_num, HS2⟩
      case measure => have := HLT.out; first | omega | (simp only [intOf]; omega) | (simp [intOf]; omega)
    · have hd : decide (k < l.length) = false := by rw [decide_eq_false_iff_not]; exact hlt
      have hd2 : decide ((k : Int) < (l.length : Int)) = false := by rw [decide_eq_false_iff_not]; omega
      obtain rfl : k = l.length := by omega
      rw [List.take_length] at HS
      have HMOST : Hid (∀ x ∈ l, mayB x.n = true → x ∉ addAll [] l → (addAll [] l).length = 200 ∧ ∀ z, (addAll [] l)[199]? = some z → lessB x z = false) := Lib.hid fun x hx hm hn => addAll_most hx hm hn
      have hsok := addAll_okn l
      generalize addAll [] l = S at HS hsok HMOST
      have HOK := Lib.hid hsok
      have hs200 : S.length ≤ 200 := hsok.len
      clear hlt hsok hk
      have hbl := below_new HS.out HOK.out [] none 0 (txt_none _) (by decide)
      rw [belowA_nil] at hbl
      have HBL := Lib.hid hbl
      clear hbl
      go_wp2_with fail
      refine HBL.out.mono ?_
      rintro e w3 ⟨A3, c3, rfl, hown, g3⟩
      have HS3 := Lib.hid (HS.out.chg g3)
      have HLN := Lib.hid (len_new (HS.out.chg g3))
      have HROW : Hid (∀ k x, S[k]? = some x → ∃ b, A3 = some ⟨b, 0, none⟩ ∧ ∀ v, Chg none w3 v → v.rangeAt b (k * 97) (attCells x)) := Lib.hid fun k x hk => by
        obtain ⟨b, c', e, -, hbl, hr⟩ := arow_at hown hk
        injection e with e1 _ _
        exact ⟨b, e1, fun v g => rangeAt_chg hr g (by simp)⟩
      have q200 : decide ((200 : Int) < (S.length : Int)) = false := decide_eq_false (by omega)
      have q200n : decide (200 < S.length) = false := decide_eq_false (by omega)
      clear hown g3 HBL
      go_wp2_with fail
      refine HLN.out.mono ?_
      rintro e w4 ⟨rfl, rfl⟩
      go_upto_region 15 with fail
      clear q200 q200n HLN
      obtain ⟨wo, rfl⟩ : ∃ wo : World, wo = wr := ⟨_, rfl⟩
      go_loopw [40] (fun s40 wr => ∃ k : Nat, k ≤ l.length ∧ s40 = .int .i64 k ∧ Hid (Chg none w3 wr)) (fun s40 _ => l.length - (intOf s40).toNat)
      case atStart => exact ⟨0, Nat.zero_le _, rfl, Lib.hid (Chg.refl _ _)⟩
      case round =>
        obtain ⟨k, hk, rfl, HG⟩ := hrel
        by_cases hlt : k < l.length
        · have hd : decide (k < l.length) = true := by rw [decide_eq_true_eq]; exact hlt
          have hd2 : decide ((k : Int) < (l.length : Int)) = true := by rw [decide_eq_true_eq]; omega
          have hlt' : (k : Int) < (l.length : Int) := by omega
          have hkl : (k : Int) ≤ 300 := by have := HL.out; omega
          obtain ⟨x, hx⟩ : ∃ x, l[k]? = some x := ⟨_, List.getElem?_eq_getElem hlt⟩
          obtain ⟨rb, ro, rfl, hr⟩ := HARG.out k x hx
          have HR := Lib.hid (fun (v : World) (g : Chg none w3 v) => hr v (HS3.out.grew.trans g))
          have HRX := Lib.hid (HR.out wr HG.out)
          have HIX := Lib.hid (info46 x)
          have hbx := HBG.out x (List.mem_of_getElem? hx)
          have HHS := Lib.hid (has_new (HS3.out.chg HG.out) HOK.out x hbx)
          have HMX := Lib.hid (HMOST.out x (List.mem_of_getElem? hx))
          have HLT := Lib.hid hlt
          clear hr hx hlt
          by_cases hin : x ∈ S
          · have hdi : decide (x ∈ S) = true := decide_eq_true hin
            rw [hdi] at HHS
            clear hin hdi
            go_wp2_with (refine wpList_load_mid rfl 46 _ rfl rb (ro + k * 97) rfl (attCells x) _ HRX.out Tryd.underlying46 rfl HIX.out ?_)
            refine HHS.out.mono ?_
            rintro e w5 ⟨rfl, g5⟩
            have HG5 := Lib.hid (HG.out.trans g5)
            have hn5 := att_numo (HR.out w5 HG5.out)
            clear g5 HHS
            go_wp2_with fail
            go_roundw
            case rel => exact ⟨k + 1, by have := HLT.out; omega, by first | rfl | go_num, HG5⟩
            case measure => have := HLT.out; first | omega | (simp only [intOf]; omega) | (simp [intOf]; omega)
          have hdi : decide (x ∈ S) = false := decide_eq_false hin
          rw [hdi] at HHS
          by_cases h1 : x.n < 1
          · have e1 : decide (x.n < 1) = true := decide_eq_true h1
            clear hin hdi h1
            go_wp2_with (refine wpList_load_mid rfl 46 _ rfl rb (ro + k * 97) rfl (attCells x) _ HRX.out Tryd.underlying46 rfl HIX.out ?_)
            refine HHS.out.mono ?_
            rintro e w5 ⟨rfl, g5⟩
            have HG5 := Lib.hid (HG.out.trans g5)
            have hn5 := att_numo (HR.out w5 HG5.out)
            clear g5 HHS
            go_wp2_with fail
            go_roundw
            case rel => exact ⟨k + 1, by have := HLT.out; omega, by first | rfl | go_num, HG5⟩
            case measure => have := HLT.out; first | omega | (simp only [intOf]; omega) | (simp [intOf]; omega)
          have e1 : decide (x.n < 1) = false := decide_eq_false h1
          by_cases h2 : 5000 < x.n
          · have e2 : decide (5000 < x.n) = true := decide_eq_true h2
            clear hin hdi h1 h2
            go_wp2_with (refine wpList_load_mid rfl 46 _ rfl rb (ro + k * 97) rfl (attCells x) _ HRX.out Tryd.underlying46 rfl HIX.out ?_)
            refine HHS.out.mono ?_
            rintro e w5 ⟨rfl, g5⟩
            have HG5 := Lib.hid (HG.out.trans g5)
            have hn5 := att_numo (HR.out w5 HG5.out)
            clear g5 HHS
            go_wp2_with fail
            go_roundw
            case rel => exact ⟨k + 1, by have := HLT.out; omega, by first | rfl | go_num, HG5⟩
            case measure => have := HLT.out; first | omega | (simp only [intOf]; omega) | (simp [intOf]; omega)
          have e2 : decide (5000 < x.n) = false := decide_eq_false h2
          have hmay : mayB x.n = true := by unfold mayB; simp; omega
          obtain ⟨hsn, hz⟩ := HMX.out hmay hin
          obtain ⟨z, hzz⟩ : ∃ z, S[199]? = some z := ⟨_, List.getElem?_eq_getElem (by omega)⟩
          have hlz := hz z hzz
          obtain ⟨r3, rfl, hr3⟩ := HROW.out 199 z hzz
          have HRZ := Lib.hid hr3
          have HIZ := Lib.hid (info46 z)
          have hls := fun v => refless_any x z v
          rw [hlz] at hls
          have HLS := Lib.hid hls
          have q1 : decide ((S.length : Int) < 200) = false := decide_eq_false (by omega)
          have q2 : decide (S.length < 200) = false := decide_eq_false (by omega)
          have q3 : IntKind.i64.wrap ((S.length : Int) - 1) = 199 := by rw [IntKind.wrap_i64]; omega
          have q4 : (199 : Int) < (S.length : Int) := by omega
          have q5 : (199 : Nat) < S.length := by omega
          clear hin hdi h1 h2 hmay hz hzz hlz hr3 hls hsn HMX
          go_wp2_with (refine wpList_load_mid rfl 46 _ rfl rb (ro + k * 97) rfl (attCells x) _ HRX.out Tryd.underlying46 rfl HIX.out ?_)
          refine HHS.out.mono ?_
          rintro e w5 ⟨rfl, g5⟩
          have HG5 := Lib.hid (HG.out.trans g5)
          have hn5 := att_numo (HR.out w5 HG5.out)
          clear g5 HHS
          go_upto_region 18 with fail
          have hS0 := HG5.out.drew
          refine wp_region_held_drew (S := fun v => Chg none w3 v) (by kernel_rfl) hS0 (fun _ => ?_)
          generalize w5.drew = v0 at *
          refine wpAnyH_take (i := 0) (oi := ⟨some 65, _, _, _, _, _⟩) (v := ?_) rfl (by kernel_rfl) (by kernel_rfl) (by kernel_rfl) (fun _ _ _ h => h) (Or.inl ⟨by rfl, ?_⟩) (by assumption) ?_
          rotate_left
          · intro v hSv; (try dsimp only at hSv); skip; go_simp; (try with_reducible rfl)
          try simp only [Act.put, List.setIfInBounds_toArray, List.set_cons_zero, List.set_cons_succ]
          refine wpAnyH_take (i := 1) (oi := ⟨some 66, _, _, _, _, _⟩) (v := ?_) rfl (by kernel_rfl) (by kernel_rfl) (by kernel_rfl) (fun _ _ _ h => h) (Or.inl ⟨by rfl, ?_⟩) (by assumption) ?_
          rotate_left
          · intro v hSv; (try dsimp only at hSv); skip; go_simp; (try with_reducible rfl)
          try simp only [Act.put, List.setIfInBounds_toArray, List.set_cons_zero, List.set_cons_succ]
          refine wpAnyH_take (i := 2) (oi := ⟨some 67, _, _, _, _, _⟩) (v := ?_) rfl (by kernel_rfl) (by kernel_rfl) (by kernel_rfl) (fun _ _ _ h => h) (Or.inl ⟨by rfl, ?_⟩) (by assumption) ?_
          rotate_left
          · intro v hSv; (try dsimp only at hSv); skip; go_simp; (try with_reducible rfl)
          try simp only [Act.put, List.setIfInBounds_toArray, List.set_cons_zero, List.set_cons_succ]
          refine wpAnyH_take (i := 3) (oi := ⟨some 68, _, _, _, _, _⟩) (v := ?_) rfl (by kernel_rfl) (by kernel_rfl) (by kernel_rfl) (fun _ _ _ h => h) (Or.inl ⟨by rfl, ?_⟩) (by assumption) ?_
          rotate_left
          · intro v hSv; (try dsimp only at hSv); skip; go_simp; (try with_reducible rfl)
          try simp only [Act.put, List.setIfInBounds_toArray, List.set_cons_zero, List.set_cons_succ]
          refine wpAnyH_take (i := 4) (oi := ⟨some 69, _, _, _, _, _⟩) (v := ?_) rfl (by kernel_rfl) (by kernel_rfl) (by kernel_rfl) (fun _ _ _ h => h) (Or.inl ⟨by rfl, ?_⟩) (by assumption) ?_
          rotate_left
          · intro v hSv; (try dsimp only at hSv); skip; go_simp; (try with_reducible rfl)
          try simp only [Act.put, List.setIfInBounds_toArray, List.set_cons_zero, List.set_cons_succ]
          refine wpAnyH_take (i := 5) (oi := ⟨some 70, _, _, _, _, _⟩) (v := ?_) rfl (by kernel_rfl) (by kernel_rfl) (by kernel_rfl) (fun _ _ _ h => h) (Or.inl ⟨by rfl, ?_⟩) (by assumption) ?_
          rotate_left
          · intro v hSv; (try dsimp only at hSv); skip; go_simp; (try with_reducible rfl)
          try simp only [Act.put, List.setIfInBounds_toArray, List.set_cons_zero, List.set_cons_succ]
          refine wpAnyH_take (i := 6) (oi := ⟨some 71, _, _, _, _, _⟩) (v := ?_) rfl (by kernel_rfl) (by kernel_rfl) (by kernel_rfl) (fun _ _ _ h => h) (Or.inl ⟨by rfl, ?_⟩) (by assumption) ?_
          rotate_left
          · intro v hSv; (try dsimp only at hSv); skip; go_simp; (try with_reducible rfl)
          try simp only [Act.put, List.setIfInBounds_toArray, List.set_cons_zero, List.set_cons_succ]
          refine wpAnyH_take (i := 7) (oi := ⟨some 72, _, _, _, _, _⟩) (v := .agg (attCells x).toArray) rfl (by kernel_rfl) (by kernel_rfl) (by kernel_rfl) (fun _ _ _ h => h) (yieldsIf_load_mid (by rfl) 46 _ rfl rb (ro + k * 97) rfl (attCells x) _ (fun v h => HR.out v h) Tryd.underlying46 rfl HIX.out) (by assumption) ?_
          try simp only [Act.put, List.setIfInBounds_toArray, List.set_cons_zero, List.set_cons_succ]
          refine wpAnyH_take (i := 8) (oi := ⟨some 73, _, _, _, _, _⟩) (v := ?_) rfl (by kernel_rfl) (by kernel_rfl) (by kernel_rfl) (fun _ _ _ h => h) (Or.inl ⟨by rfl, ?_⟩) (by assumption) ?_
          rotate_left
          · intro v hSv; (try dsimp only at hSv); skip; go_simp; (try with_reducible rfl)
          try simp only [Act.put, List.setIfInBounds_toArray, List.set_cons_zero, List.set_cons_succ]
          refine wpAnyH_take (i := 9) (oi := ⟨some 74, _, _, _, _, _⟩) (v := ?_) rfl (by kernel_rfl) (by kernel_rfl) (by kernel_rfl) (fun _ _ _ h => h) (Or.inl ⟨by rfl, ?_⟩) (by assumption) ?_
          rotate_left
          · intro v hSv; (try dsimp only at hSv); skip; go_simp; (try with_reducible rfl)
          try simp only [Act.put, List.setIfInBounds_toArray, List.set_cons_zero, List.set_cons_succ]
          refine wpAnyH_take (i := 10) (oi := ⟨some 75, _, _, _, _, _⟩) (v := ?_) rfl (by kernel_rfl) (by kernel_rfl) (by kernel_rfl) (fun _ _ _ h => h) (Or.inl ⟨by rfl, ?_⟩) (by assumption) ?_
          rotate_left
          · intro v hSv; (try dsimp only at hSv); skip; go_simp; (try with_reducible rfl)
          try simp only [Act.put, List.setIfInBounds_toArray, List.set_cons_zero, List.set_cons_succ]
          refine wpAnyH_take (i := 11) (oi := ⟨some 76, _, _, _, _, _⟩) (v := .int .i64 199) rfl (by kernel_rfl) (by kernel_rfl) (by kernel_rfl) (fun _ _ _ h => h) (Or.inl ⟨by rfl, ?_⟩) (by assumption) ?_
          · intro v hSv; skip; go_simp
          try simp only [Act.put, List.setIfInBounds_toArray, List.set_cons_zero, List.set_cons_succ]
          refine wpAnyH_take (i := 12) (oi := ⟨some 77, _, _, _, _, _⟩) (v := ?_) rfl (by kernel_rfl) (by kernel_rfl) (by kernel_rfl) (fun _ _ _ h => h) (Or.inl ⟨by rfl, ?_⟩) (by assumption) ?_
          rotate_left
          · intro v hSv; (try dsimp only at hSv); skip; go_simp; (try with_reducible rfl)
          try simp only [Act.put, List.setIfInBounds_toArray, List.set_cons_zero, List.set_cons_succ]
          refine wpAnyH_take (i := 13) (oi := ⟨some 78, _, _, _, _, _⟩) (v := .agg (attCells z).toArray) rfl (by kernel_rfl) (by kernel_rfl) (by kernel_rfl) (fun _ _ _ h => h) (yieldsIf_load_mid (by rfl) 46 _ rfl r3 (199 * 97) rfl (attCells z) _ (fun v h => HRZ.out v h) Tryd.underlying46 rfl HIZ.out) (by assumption) ?_
          try simp only [Act.put, List.setIfInBounds_toArray, List.set_cons_zero, List.set_cons_succ]
          refine wpAnyH_ready (rs := [14]) (by kernel_rfl) (by simp) ?_
          refine AllReadyH.cons (o := ⟨some 79, _, _, _, _, _⟩) rfl (fun K hK => ?_) (AllReadyH.nil)
          go_simp
          go_at_call 59
          refine (HLS.out _).mono ?_
          rintro e v1 ⟨rfl, g1⟩
          have hS1 := hS0.trans g1
          go_wp2_with fail
          refine hK.out _ _ hS1 (fun _ => ?_)
          clear hK K
          try simp only [Act.put, List.setIfInBounds_toArray, List.set_cons_zero, List.set_cons_succ]
          refine wpAnyH_take (i := 15) (oi := ⟨some 80, _, _, _, _, _⟩) (v := ?_) rfl (by kernel_rfl) (by kernel_rfl) (by kernel_rfl) (fun _ _ _ h => h) (Or.inl ⟨by rfl, ?_⟩) (by assumption) ?_
          rotate_left
          · intro v hSv; (try dsimp only at hSv); skip; go_simp; (try with_reducible rfl)
          try simp only [Act.put, List.setIfInBounds_toArray, List.set_cons_zero, List.set_cons_succ]
          refine wpAnyH_done (by kernel_rfl) ?_ _
          go_wp2_with fail
          go_roundw
          case rel => exact ⟨k + 1, by have := HLT.out; omega, by first | rfl | go_num, Lib.hid hS1⟩
          case measure => have := HLT.out; first | omega | (simp only [intOf]; omega) | (simp [intOf]; omega)
        · have hd : decide (k < l.length) = false := by rw [decide_eq_false_iff_not]; exact hlt
          have hd2 : decide ((k : Int) < (l.length : Int)) = false := by rw [decide_eq_false_iff_not]; omega
          have HG6 := Lib.hid (HS3.out.grew.trans HG.out)
          have HKX := Lib.hid (HKN.out _ HG6.out)
          clear hlt
          go_wp2_with fail
          refine HKX.out.mono ?_
          rintro e w7 ⟨rfl, g7⟩
          go_wp2_with fail
          go_ret
          exact ⟨rfl, HG6.out.trans g7⟩

end Go.Proofs.YtkcammaccgkflaaDoor
