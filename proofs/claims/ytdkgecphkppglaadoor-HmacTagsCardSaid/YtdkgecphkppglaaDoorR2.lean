/-
  The document's digest: the product of two numbers, by digits.
-/
import Derived.Test.YtdkgecphkppglaaDoorR1
namespace Go.Proofs.YtdkgecphkppglaaDoor
open Go.RowKit

theorem u64s_zero : u64s (List.replicate 10 0) = [Value.int IntKind.u64 0, Value.int IntKind.u64 0, Value.int IntKind.u64 0, Value.int IntKind.u64 0, Value.int IntKind.u64 0, Value.int IntKind.u64 0, Value.int IntKind.u64 0, Value.int IntKind.u64 0, Value.int IntKind.u64 0, Value.int IntKind.u64 0] := rfl

/-- What times tells. -/
def TimesPost (a b : List Nat) (w : World) (e : Ending) (w' : World) : Prop :=
  ∃ o : List Nat, Dig o ∧ val o = val a * val b % 65536 ^ 10 ∧ e = .returned (.agg (u64s o).toArray) ∧ Chg none w w'

set_option maxRecDepth 100000 in
set_option maxHeartbeats 8000000 in
theorem times_any (a b : List Nat) (ha : Dig a) (hb : Dig b) (w : World) : Calls Tryd.prog 66 #[.agg (u64s a).toArray, .agg (u64s b).toArray] w (TimesPost a b w) := by
  obtain ⟨W4, hW4⟩ : ∃ W4, W4 = (((w.alloc (.cells (u64s a).toArray 93)).alloc (.cells (u64s b).toArray 93)).alloc (.cells (u64s (List.replicate 10 0)).toArray 93)).alloc (.cells (u64s (List.replicate 10 0)).toArray 93) := ⟨_, rfl⟩
  have HW4 : Hid ((((w.alloc (.cells (u64s a).toArray 93)).alloc (.cells (u64s b).toArray 93)).alloc (.cells #[Value.int IntKind.u64 0, Value.int IntKind.u64 0, Value.int IntKind.u64 0, Value.int IntKind.u64 0, Value.int IntKind.u64 0, Value.int IntKind.u64 0, Value.int IntKind.u64 0, Value.int IntKind.u64 0, Value.int IntKind.u64 0, Value.int IntKind.u64 0] 93)).alloc (.cells #[Value.int IntKind.u64 0, Value.int IntKind.u64 0, Value.int IntKind.u64 0, Value.int IntKind.u64 0, Value.int IntKind.u64 0, Value.int IntKind.u64 0, Value.int IntKind.u64 0, Value.int IntKind.u64 0, Value.int IntKind.u64 0, Value.int IntKind.u64 0] 93) = W4) := hW4.symm
  have g0 : Chg none w W4 := by rw [hW4]; exact ((((Chg.refl _ _).alloc _).alloc _).alloc _).alloc _
  have bA : BlkL W4 w.heap.size (u64s a) 93 := by rw [hW4]; exact Blk.alloc (Blk.alloc (Blk.alloc (Blk.new _ _ _) _) _) _
  have bB : BlkL W4 (w.heap.size + 1) (u64s b) 93 := by rw [hW4]; exact Blk.alloc (Blk.alloc (Blk.newAt _ _ (by simp)) _) _
  have bR : BlkL W4 (w.heap.size + 1 + 1) (u64s (List.replicate 10 0)) 93 := by rw [hW4]; exact Blk.alloc (Blk.newAt _ _ (by simp)) _
  have bO : BlkL W4 (w.heap.size + 1 + 1 + 1) (u64s (List.replicate 10 0)) 93 := by rw [hW4]; exact Blk.newAt _ _ (by simp)
  have hA : w.heap.size ≠ w.heap.size + 1 + 1 + 1 := by omega
  have hB : w.heap.size + 1 ≠ w.heap.size + 1 + 1 + 1 := by omega
  have hR : w.heap.size + 1 + 1 ≠ w.heap.size + 1 + 1 + 1 := by omega
  have hge : w.heap.size ≤ w.heap.size + 1 + 1 := by omega
  have hgo : w.heap.size ≤ w.heap.size + 1 + 1 + 1 := by omega
  have HDZ := Lib.hid dig_zero
  have HA := Lib.hid ha
  have HB := Lib.hid hb
  have HV0 : Hid (val (List.replicate 10 0) % 65536 ^ 10 = val (a.take 0) * val b % 65536 ^ 10) := by show _ = _; rw [val_zero]; simp [val]
  clear hW4 ha hb
  go_enter Tryd.func66, Tryd.ntmps66
  go_wp2_with fail
  rw [HW4.out]
  clear HW4
  generalize w.heap.size + 1 + 1 + 1 = pO at *
  generalize w.heap.size + 1 + 1 = pR at *
  generalize w.heap.size + 1 = pB at *
  generalize hpA : w.heap.size = pA at *
  have HPA := Lib.hid hpA
  clear hpA
  go_loopw [6, 7, 8, 9] (fun s6 _ _ _ wr => ∃ (i : Nat) (o : List Nat), i ≤ 10 ∧ s6 = .int .i64 i ∧ Hid (Dig o) ∧ Hid (val o % 65536 ^ 10 = val (a.take i) * val b % 65536 ^ 10) ∧ BlkL wr pO (u64s o) 93 ∧ BlkL wr pA (u64s a) 93 ∧ BlkL wr pB (u64s b) 93 ∧ BlkL wr pR (u64s (List.replicate 10 0)) 93 ∧ Chg none w wr) (fun s6 _ _ _ _ => 10 - (intOf s6).toNat)
  case atStart => exact ⟨0, List.replicate 10 0, by omega, rfl, HDZ, HV0, bO, bA, bB, bR, g0⟩
  case round =>
    obtain ⟨i, o0, hi, rfl, HD0, HV, bOi, bAi, bBi, bRi, gi⟩ := hrel
    clear bO bA bB bR g0 HV0 HDZ
    by_cases hlt : i < 10
    · have cA : ((u64s a)[i]?) = some (.int .u64 ((a.getD i 0 : Nat) : Int)) := u64s_get a i (by rw [HA.out.1]; exact hlt)
      obtain ⟨wo, rfl⟩ : ∃ wo : World, wo = wr := ⟨_, rfl⟩
      have HCA := Lib.hid cA
      have hai := HA.out.at i
      have HAI : Hid (a.getD i 0 < 65536) := hai
      clear cA hai
      generalize hai : a.getD i 0 = ai at *
      have HAE := Lib.hid hai
      clear hai
      go_wp2_with fail
      go_loopw [7, 8, 9] (fun s7 s8 _ wq => ∃ (k c : Nat) (o : List Nat), i + k ≤ 10 ∧ s7 = .int .u64 c ∧ c < 65536 ∧ s8 = .int .i64 k ∧ Hid (Dig o) ∧ Hid (val o + c * 65536 ^ (i + k) = val o0 + ai * 65536 ^ i * val (b.take k)) ∧ BlkL wq pO (u64s o) 93 ∧ BlkL wq pA (u64s a) 93 ∧ BlkL wq pB (u64s b) 93 ∧ BlkL wq pR (u64s (List.replicate 10 0)) 93 ∧ Chg none w wq) (fun _ s8 _ _ => 10 - i - (intOf s8).toNat)
      case atStart => exact ⟨0, 0, o0, by omega, rfl, by omega, rfl, HD0, Lib.hid (by simp [val]), bOi, bAi, bBi, bRi, gi⟩
      case round =>
        obtain ⟨k, c, o, hk, rfl, hc, rfl, HD, HVk, bOk, bAk, bBk, bRk, gk⟩ := hrel
        clear bOi bAi bBi bRi gi
        by_cases hlt2 : i + k < 10
        · have qO : wr.cell? ⟨pO, i + k, none⟩ = some (.int .u64 ((o.getD (i + k) 0 : Nat) : Int)) := by rw [BlkL.cell bOk, u64s_get _ _ (by rw [HD.out.1]; exact hlt2)]
          have qA : wr.cell? ⟨pA, i, none⟩ = some (.int .u64 (ai : Int)) := by rw [BlkL.cell bAk, HCA.out]
          have qB : wr.cell? ⟨pB, k, none⟩ = some (.int .u64 ((b.getD k 0 : Nat) : Int)) := by rw [BlkL.cell bBk, u64s_get _ _ (by rw [HB.out.1]; omega)]
          have hfz := Blk.frozen bOk (i + k)
          have hlt3 := Blk.lt bOk
          have hbound := times_bound (i := i) (k := k) HD.out HB.out HAI.out hc
          have hstep : ∀ x, x = o.getD (i + k) 0 + ai * b.getD k 0 + c → _ := fun x hx => times_step (b := b) HD.out.1 HB.out.1 hlt2 hx HVk.out
          have HST := Lib.hid hstep
          obtain ⟨x, hx⟩ : ∃ x, x = o.getD (i + k) 0 + ai * b.getD k 0 + c := ⟨_, rfl⟩
          have hst := HST.out x hx
          rw [← hx] at hbound
          have hdo := HD.out.set (i + k) (x % 65536) (Nat.mod_lt _ (by decide))
          have hset := BlkL.set bOk (i + k) (.int .u64 ((x % 65536 : Nat) : Int))
          rw [u64s_set] at hset
          generalize o.getD (i + k) 0 = ok at *
          generalize b.getD k 0 = bk at *
          have hxi : (ok : Int) + (ai : Int) * (bk : Int) + (c : Int) = (x : Int) := by rw [hx]; simp
          have hmn : ai * bk ≤ x := by omega
          have hmi : ((ai * bk : Nat) : Int) = (ai : Int) * (bk : Int) := by simp
          have hw1 : IntKind.u64.wrap ((ai : Int) * (bk : Int)) = (ai : Int) * (bk : Int) := IntWalk.u64_in _ (by rw [← hmi]; omega)
          have hw2 : IntKind.u64.wrap ((ok : Int) + (ai : Int) * (bk : Int)) = (ok : Int) + (ai : Int) * (bk : Int) := IntWalk.u64_in _ (by rw [← hmi]; omega)
          have hw3 : IntKind.u64.wrap ((ok : Int) + (ai : Int) * (bk : Int) + (c : Int)) = (x : Int) := by rw [hxi]; exact IntWalk.u64_in _ (by omega)
          have hik1 : IntKind.i64.wrap ((i : Int) + (k : Int)) = (i : Int) + (k : Int) := IntWalk.i64_in _ (by omega)
          have hik2 : (0 : Int) ≤ (i : Int) + (k : Int) := by omega
          have hik3 : ((i : Int) + (k : Int)).toNat = i + k := by omega
          have hik4 : (i : Int) + (k : Int) < 10 := by omega
          have i0 : (0 : Int) ≤ (i : Int) := by omega
          have k0 : (0 : Int) ≤ (k : Int) := by omega
          have e1 : ((x % 65536 : Nat) : Int) = (x : Int) % 65536 := by omega
          have e2 : ((x / 65536 : Nat) : Int) = (x : Int) / 65536 := by omega
          rw [e1] at hset
          have HE2 := Lib.hid e2
          have HX := Lib.hid hst
          have HDO := Lib.hid hdo
          have HSET := Lib.hid hset
          have hxb : x / 65536 < 65536 := by omega
          have klt : (k : Int) < 10 := by omega
          have ilt : (i : Int) < 10 := by omega
          clear hx hxi hmn hmi e1 e2 hst hdo hset hstep HST
          go_wp2_with fail
          go_region
          all_goals
            clear hik1 hw1 hw2 hw3
            go_wp2_with fail
            go_roundw
            case rel => exact ⟨k + 1, x / 65536, _, by omega, by rw [HE2.out], hxb, by go_num, HDO, HX, HSET.out, Blk.setOther bAk _ _ hA, Blk.setOther bBk _ _ hB, Blk.setOther bRk _ _ hR, by repeat (first | (with_reducible exact gk) | (with_reducible refine Chg.drew ?_) | (with_reducible refine Chg.setNew ?_ _ (by show w.heap.size ≤ pO; rw [HPA.out]; exact hgo) _))⟩
            case measure => first | (simp [intOf]; done) | (simp [intOf]; omega)
        · have hk10 : k = 10 - i := by omega
          have hV := HVk.out
          rw [show i + k = 10 by omega, hk10, ← HAE.out] at hV
          have HV2 := Lib.hid (times_round hlt HA.out HB.out HV.out hV)
          have hik1 : decide ((i : Int) + (k : Int) < 10) = false := by simp; omega
          have hik5 : ¬ (i : Int) + (k : Int) < 10 := by omega
          clear hV hk10
          go_wp2_with fail
          go_roundw
          case rel => exact ⟨i + 1, o, by omega, by go_num, HD, HV2, bOk, bAk, bBk, bRk, gk⟩
          case measure => first | (simp [intOf]; done) | (simp [intOf]; omega)
    · have hi10 : i = 10 := by omega
      subst hi10
      have hV := HV.out
      rw [List.take_of_length_le (by rw [HA.out.1]; omega)] at hV
      have hvl := val_lt o0 HD0.out.2
      rw [HD0.out.1] at hvl
      rw [Nat.mod_eq_of_lt hvl] at hV
      have rO := Blk.range bOi
      have HR := Lib.hid rO
      have HI := Lib.hid (u64s_info o0 HD0.out.1)
      have HIL := Lib.hid (u64s_infoL o0 HD0.out.1)
      have HS := Lib.hid (u64s_size (List.replicate 10 0) o0 dig_zero.1 HD0.out.1)
      have HO := Lib.hid (u64s_one o0)
      have HVV := Lib.hid hV
      clear rO bOi bAi bBi hV hvl HV
      go_wp2_with (first
        | (refine wpList_load_mid rfl 93 _ rfl pO 0 rfl (u64s o0) _ HR.out Tryd.underlying93 rfl HIL.out ?_)
        | (refine wpList_store_row rfl 93 _ _ rfl pR (u64s o0).toArray rfl rfl 93 _ bRi HI.out HS.out HO.out ?_))
      refine bodyPost_ret (results_cell_row (p := 4) (ty := 93) Tryd.results66 _ _ pR 93 (u64s o0).toArray (0, 0) _ rfl (setRow_heap _ _ _ _ _ _ bRi) Tryd.underlying93 rfl HI.out) rfl ⟨o0, HD0.out, HVV.out, rfl, ?_⟩
      exact Chg.own (b := pR) gi (chg_setRow _ _ _) (by rw [HPA.out]; exact hge)

end Go.Proofs.YtdkgecphkppglaaDoor
