/-
  ShaLong: the walk.
-/
import Derived.Test.YtdkgecphkppglaaDoorSS
namespace Go.Proofs.YtdkgecphkppglaaDoor
open Go.RowKit

theorem long_chg {v w : World} {a b : Nat} {x y : List Value} {A : Option Addr} {m : List UInt8} (h : v.rangeAt a 0 x ∧ v.rangeAt b 0 y ∧ Txt v A m) (g : Chg none v w) :
    w.rangeAt a 0 x ∧ w.rangeAt b 0 y ∧ Txt w A m := ⟨rangeAt_chg h.1 g (by simp), rangeAt_chg h.2.1 g (by simp), h.2.2.chg g⟩
/-- A row of k bytes, of which the first j are c. -/
def oneRow (c : UInt8) (k j : Nat) : List UInt8 := List.replicate j c ++ zeros (k - j)
theorem oneRow_len (c : UInt8) (k j : Nat) (h : j ≤ k) : (oneRow c k j).length = k := by simp [oneRow, zeros]; omega
theorem oneRow_at (c : UInt8) (k j : Nat) (h : j < k) : (byteVals (oneRow c k j))[j]? = some (.int .u8 0) := by
  have : (oneRow c k j)[j]? = some 0 := by
    unfold oneRow
    rw [List.getElem?_append_right (by simp), List.length_replicate, Nat.sub_self, zeros, show k - j = (k - (j + 1)) + 1 by omega, List.replicate_succ]; rfl
  exact byteVals_get this
theorem oneRow_set (c : UInt8) (k j : Nat) (h : j < k) : (byteVals (oneRow c k j)).set j (.int .u8 (c.toNat : Int)) = byteVals (oneRow c k (j + 1)) := by
  unfold byteVals
  rw [← List.map_set (f := fun x : UInt8 => Value.int .u8 x.toNat)]
  congr 1
  unfold oneRow
  rw [List.set_append_right _ _ (by simp), List.length_replicate, Nat.sub_self, zeros, zeros, show k - j = (k - (j + 1)) + 1 by omega, List.replicate_succ, List.set_cons_zero, List.replicate_succ', List.append_assoc]
  rfl
theorem oneRow_all (c : UInt8) (k : Nat) : oneRow c k k = List.replicate k c := by simp [oneRow, zeros]

set_option maxRecDepth 100000 in
set_option maxHeartbeats 16000000 in
theorem long_law (c : UInt8) (n : Int) (hn0 : -9223372036854775808 ≤ n) (hn1 : n ≤ 9223372036854775807) (w : World) (hT : Tabs w) :
    Calls Tryd.prog 5 #[.int .u8 c.toNat, .int .i64 n] w fun e w' => e = .returned (.bool true) ∧ Chg none w w' := by
  by_cases hneg : n < 0
  · have HK := Lib.hid (known_any w hT)
    have d0 : decide (n < 0) = true := by simp; omega
    go_enter Tryd.func5, Tryd.ntmps5
    go_wp2_with fail
    refine HK.out.mono ?_
    rintro e w1 ⟨rfl, g1⟩
    go_wp2_with fail
    go_ret
    exact ⟨rfl, g1⟩
  by_cases h300 : 300 < n
  · have HK := Lib.hid (known_any w hT)
    have d0 : decide (n < 0) = false := by simp; omega
    have d1 : decide (300 < n) = true := by simp; omega
    go_enter Tryd.func5, Tryd.ntmps5
    go_wp2_with fail
    refine HK.out.mono ?_
    rintro e w1 ⟨rfl, g1⟩
    go_wp2_with fail
    go_ret
    exact ⟨rfl, g1⟩
  obtain ⟨k, rfl⟩ : ∃ k : Nat, n = (k : Int) := ⟨n.toNat, by omega⟩
  have hk300 : k ≤ 300 := by omega
  have d0 : decide ((k : Int) < 0) = false := by simp
  have d1 : decide ((300 : Int) < (k : Int)) = false := by simp; omega
  have hmk := make_n k (by omega) w
  obtain ⟨Z, hZ⟩ : ∃ Z, Z = (byteVals (zeros k)).toArray := ⟨_, rfl⟩
  rw [← hZ] at hmk
  have bB0 : BlkL (w.alloc (.cells Z 5)) w.heap.size (byteVals (oneRow c k 0)) 5 := by rw [hZ]; exact Blk.new _ _ _
  have g0 : Chg none w (w.alloc (.cells Z 5)) := (Chg.refl _ _).alloc _
  obtain ⟨m, hm⟩ : ∃ m, m = List.replicate k c := ⟨_, rfl⟩
  have hml : m.length = k := by rw [hm]; simp
  have HM := Lib.hid hm
  have HML := Lib.hid hml
  obtain ⟨D, hD⟩ : ∃ D, D = dig m := ⟨_, rfl⟩
  have hDl : D.length = 32 := by rw [hD, dig_len]
  have hqe : ∀ v : World, (binOp .eql 30 (.agg (byteVals D).toArray) (.agg (byteVals D).toArray)).run Tryd.prog v = .ok (.bool true) v := fun v => by rw [eql30 D D hDl hDl v]; simp
  have HQE := Lib.hid hqe
  have HD := Lib.hid hD
  have HT := Lib.hid hT
  have HI25 : Hid ((Tryd.prog.info? 25).map (·.size) = some (H0.map u32v).length) := by show _ = _; kernel_rfl
  have HI26 : Hid ((Tryd.prog.info? 26).map (·.size) = some (K0.map u32v).length) := by show _ = _; kernel_rfl
  obtain ⟨HH, hHH⟩ : ∃ HH, HH = (H0.map u32v).toArray := ⟨_, rfl⟩
  obtain ⟨KK, hKK⟩ : ∃ KK, KK = (K0.map u32v).toArray := ⟨_, rfl⟩
  have HJ25 : Hid ((Tryd.prog.info? 25).map (·.size) = some HH.size) := by rw [hHH]; show _ = _; kernel_rfl
  have HJ26 : Hid ((Tryd.prog.info? 26).map (·.size) = some KK.size) := by rw [hKK]; show _ = _; kernel_rfl
  have HO25 : Hid (HH.all (·.oneCell') = true) := by rw [hHH]; show _ = _; kernel_rfl
  have HO26 : Hid (KK.all (·.oneCell') = true) := by rw [hKK]; show _ = _; kernel_rfl
  have HZ25 : Hid (noW8.toArray.size = HH.size) := by rw [hHH]; show _ = _; kernel_rfl
  have HZ26 : Hid ((List.replicate 64 (Value.int .u32 0)).toArray.size = KK.size) := by rw [hKK]; show _ = _; kernel_rfl
  have HK4 : Hid (∀ v : World, ((v.alloc (.cells #[Value.int IntKind.u32 0, Value.int IntKind.u32 0, Value.int IntKind.u32 0, Value.int IntKind.u32 0, Value.int IntKind.u32 0, Value.int IntKind.u32 0, Value.int IntKind.u32 0, Value.int IntKind.u32 0] 25)).alloc (.cells #[Value.int IntKind.u32 0, Value.int IntKind.u32 0, Value.int IntKind.u32 0, Value.int IntKind.u32 0, Value.int IntKind.u32 0, Value.int IntKind.u32 0, Value.int IntKind.u32 0, Value.int IntKind.u32 0, Value.int IntKind.u32 0, Value.int IntKind.u32 0, Value.int IntKind.u32 0, Value.int IntKind.u32 0, Value.int IntKind.u32 0, Value.int IntKind.u32 0, Value.int IntKind.u32 0, Value.int IntKind.u32 0, Value.int IntKind.u32 0, Value.int IntKind.u32 0, Value.int IntKind.u32 0, Value.int IntKind.u32 0, Value.int IntKind.u32 0, Value.int IntKind.u32 0, Value.int IntKind.u32 0, Value.int IntKind.u32 0, Value.int IntKind.u32 0, Value.int IntKind.u32 0, Value.int IntKind.u32 0, Value.int IntKind.u32 0, Value.int IntKind.u32 0, Value.int IntKind.u32 0, Value.int IntKind.u32 0, Value.int IntKind.u32 0, Value.int IntKind.u32 0, Value.int IntKind.u32 0, Value.int IntKind.u32 0, Value.int IntKind.u32 0, Value.int IntKind.u32 0, Value.int IntKind.u32 0, Value.int IntKind.u32 0, Value.int IntKind.u32 0, Value.int IntKind.u32 0, Value.int IntKind.u32 0, Value.int IntKind.u32 0, Value.int IntKind.u32 0, Value.int IntKind.u32 0, Value.int IntKind.u32 0, Value.int IntKind.u32 0, Value.int IntKind.u32 0, Value.int IntKind.u32 0, Value.int IntKind.u32 0, Value.int IntKind.u32 0, Value.int IntKind.u32 0, Value.int IntKind.u32 0, Value.int IntKind.u32 0, Value.int IntKind.u32 0, Value.int IntKind.u32 0, Value.int IntKind.u32 0, Value.int IntKind.u32 0, Value.int IntKind.u32 0, Value.int IntKind.u32 0, Value.int IntKind.u32 0, Value.int IntKind.u32 0, Value.int IntKind.u32 0, Value.int IntKind.u32 0] 26)).heap[v.heap.size]? = some (.cells noW8.toArray 25 (0, 0))) := fun v => kept_4 v
  have HK5 : Hid (∀ v : World, (((v.alloc (.cells #[Value.int IntKind.u32 0, Value.int IntKind.u32 0, Value.int IntKind.u32 0, Value.int IntKind.u32 0, Value.int IntKind.u32 0, Value.int IntKind.u32 0, Value.int IntKind.u32 0, Value.int IntKind.u32 0] 25)).alloc (.cells #[Value.int IntKind.u32 0, Value.int IntKind.u32 0, Value.int IntKind.u32 0, Value.int IntKind.u32 0, Value.int IntKind.u32 0, Value.int IntKind.u32 0, Value.int IntKind.u32 0, Value.int IntKind.u32 0, Value.int IntKind.u32 0, Value.int IntKind.u32 0, Value.int IntKind.u32 0, Value.int IntKind.u32 0, Value.int IntKind.u32 0, Value.int IntKind.u32 0, Value.int IntKind.u32 0, Value.int IntKind.u32 0, Value.int IntKind.u32 0, Value.int IntKind.u32 0, Value.int IntKind.u32 0, Value.int IntKind.u32 0, Value.int IntKind.u32 0, Value.int IntKind.u32 0, Value.int IntKind.u32 0, Value.int IntKind.u32 0, Value.int IntKind.u32 0, Value.int IntKind.u32 0, Value.int IntKind.u32 0, Value.int IntKind.u32 0, Value.int IntKind.u32 0, Value.int IntKind.u32 0, Value.int IntKind.u32 0, Value.int IntKind.u32 0, Value.int IntKind.u32 0, Value.int IntKind.u32 0, Value.int IntKind.u32 0, Value.int IntKind.u32 0, Value.int IntKind.u32 0, Value.int IntKind.u32 0, Value.int IntKind.u32 0, Value.int IntKind.u32 0, Value.int IntKind.u32 0, Value.int IntKind.u32 0, Value.int IntKind.u32 0, Value.int IntKind.u32 0, Value.int IntKind.u32 0, Value.int IntKind.u32 0, Value.int IntKind.u32 0, Value.int IntKind.u32 0, Value.int IntKind.u32 0, Value.int IntKind.u32 0, Value.int IntKind.u32 0, Value.int IntKind.u32 0, Value.int IntKind.u32 0, Value.int IntKind.u32 0, Value.int IntKind.u32 0, Value.int IntKind.u32 0, Value.int IntKind.u32 0, Value.int IntKind.u32 0, Value.int IntKind.u32 0, Value.int IntKind.u32 0, Value.int IntKind.u32 0, Value.int IntKind.u32 0, Value.int IntKind.u32 0, Value.int IntKind.u32 0] 26)).setRow v.heap.size HH).heap[v.heap.size + 1]? = some (.cells (List.replicate 64 (Value.int .u32 0)).toArray 26 (0, 0))) := by rw [hHH]; exact fun v => kept_5 v
  have HKB : Hid (∀ v : World, ((((v.alloc (.cells #[Value.int IntKind.u32 0, Value.int IntKind.u32 0, Value.int IntKind.u32 0, Value.int IntKind.u32 0, Value.int IntKind.u32 0, Value.int IntKind.u32 0, Value.int IntKind.u32 0, Value.int IntKind.u32 0] 25)).alloc (.cells #[Value.int IntKind.u32 0, Value.int IntKind.u32 0, Value.int IntKind.u32 0, Value.int IntKind.u32 0, Value.int IntKind.u32 0, Value.int IntKind.u32 0, Value.int IntKind.u32 0, Value.int IntKind.u32 0, Value.int IntKind.u32 0, Value.int IntKind.u32 0, Value.int IntKind.u32 0, Value.int IntKind.u32 0, Value.int IntKind.u32 0, Value.int IntKind.u32 0, Value.int IntKind.u32 0, Value.int IntKind.u32 0, Value.int IntKind.u32 0, Value.int IntKind.u32 0, Value.int IntKind.u32 0, Value.int IntKind.u32 0, Value.int IntKind.u32 0, Value.int IntKind.u32 0, Value.int IntKind.u32 0, Value.int IntKind.u32 0, Value.int IntKind.u32 0, Value.int IntKind.u32 0, Value.int IntKind.u32 0, Value.int IntKind.u32 0, Value.int IntKind.u32 0, Value.int IntKind.u32 0, Value.int IntKind.u32 0, Value.int IntKind.u32 0, Value.int IntKind.u32 0, Value.int IntKind.u32 0, Value.int IntKind.u32 0, Value.int IntKind.u32 0, Value.int IntKind.u32 0, Value.int IntKind.u32 0, Value.int IntKind.u32 0, Value.int IntKind.u32 0, Value.int IntKind.u32 0, Value.int IntKind.u32 0, Value.int IntKind.u32 0, Value.int IntKind.u32 0, Value.int IntKind.u32 0, Value.int IntKind.u32 0, Value.int IntKind.u32 0, Value.int IntKind.u32 0, Value.int IntKind.u32 0, Value.int IntKind.u32 0, Value.int IntKind.u32 0, Value.int IntKind.u32 0, Value.int IntKind.u32 0, Value.int IntKind.u32 0, Value.int IntKind.u32 0, Value.int IntKind.u32 0, Value.int IntKind.u32 0, Value.int IntKind.u32 0, Value.int IntKind.u32 0, Value.int IntKind.u32 0, Value.int IntKind.u32 0, Value.int IntKind.u32 0, Value.int IntKind.u32 0, Value.int IntKind.u32 0] 26)).setRow v.heap.size HH).setRow (v.heap.size + 1) KK) = keptB v) := by rw [hHH, hKK]; exact fun v => rfl
  have HWD : Hid (∀ v : World, Calls Tryd.prog 16 #[] v fun e w' => e = .returned (.tuple #[.agg HH, .agg KK]) ∧ Chg none v w') := by rw [hHH, hKK]; exact fun v => words_any v
  have HHH := Lib.hid hHH
  have HKK := Lib.hid hKK
  clear hHH hKK hD hDl hqe hT hm hml hZ
  go_enter Tryd.func5, Tryd.ntmps5
  go_upto_block 0 with fail
  generalize w.alloc (.cells Z 5) = w0 at *
  generalize hpB : w.heap.size = pB at *
  have HPB := Lib.hid hpB
  clear hpB hmk
  go_cut [6, 20] (fun _ _ wx => BlkL wx pB (byteVals m) 5 ∧ Chg none w wx)
  case first =>
    go_wp2_with fail
    go_loopw [6, 20] (fun _ s20 wr => ∃ j : Nat, j ≤ k ∧ s20 = .int .i64 j ∧ BlkL wr pB (byteVals (oneRow c k j)) 5 ∧ Chg none w wr) (fun _ s20 _ => k - (intOf s20).toNat)
    case atStart => exact ⟨0, by omega, rfl, bB0, g0⟩
    case round =>
      obtain ⟨j, hj, rfl, bB, gj⟩ := hrel
      clear bB0 g0
      by_cases hlt : j < k
      · have cB : wr.cell? ⟨pB, j, none⟩ = some (.int .u8 0) := by rw [BlkL.cell bB]; exact oneRow_at c k j hlt
        have hfz := Blk.frozen bB j
        have hbz := Blk.lt bB
        have hset := BlkL.set bB j (.int .u8 (c.toNat : Int))
        rw [oneRow_set c k j hlt] at hset
        have HS := Lib.hid hset
        have dj : decide ((j : Int) < (k : Int)) = true := by simp; omega
        have j0 : (0 : Int) ≤ (j : Int) := by omega
        have j1 : (j : Int) < (k : Int) := by omega
        clear hset bB
        go_wp2_with fail
        go_roundw
        case rel => exact ⟨j + 1, by omega, by go_num, by exact HS.out, gj.setNew _ (by show w.heap.size ≤ pB; rw [HPB.out]; exact Nat.le_refl _) _⟩
        case measure => first | (simp [intOf]; done) | (simp [intOf]; omega)
      · have hjk : j = k := by omega
        have dj : decide (j < k) = false := by simp; omega
        rw [hjk, oneRow_all, ← HM.out] at bB
        clear hjk
        go_wp2_with fail
        go_meet
        exact ⟨bB, gj⟩
  case rest =>
  obtain ⟨bB, g02⟩ := hcut
  clear bB0 g0
  obtain ⟨w1, rfl⟩ : ∃ w1 : World, w1 = wc := ⟨_, rfl⟩
  have hA1 : Txt w1 (some ⟨pB, 0, none⟩) m := (prt_of_row (n := m.length) bB (Nat.le_refl _)).1
  have HA1 := Lib.hid hA1
  clear hA1 bB
  go_wp2_with fail
  refine (HWD.out w1).mono ?_
  rintro e w2 ⟨rfl, g2⟩
  have g03 := g02.trans g2
  have HA2 := Lib.hid (HA1.out.chg g2)
  clear HWD HA1 g2 g02
  go_upto_region 10 with (first
    | (refine wpList_store_row rfl 25 _ _ rfl w2.heap.size HH rfl rfl 25 _ (HK4.out w2) HJ25.out HZ25.out HO25.out ?_)
    | (refine wpList_store_row rfl 26 _ _ rfl (w2.heap.size + 1) KK rfl rfl 26 _ (HK5.out w2) HJ26.out HZ26.out HO26.out ?_))
  rw [HKB.out w2]
  have b4 := kept_H w2
  have b5 := kept_K w2
  have gk := kept_chg w2
  have g04 := g03.trans gk
  have HA3 := Lib.hid (HA2.out.chg gk)
  clear HK4 HK5 HKB HJ25 HJ26 HO25 HO26 HZ25 HZ26 HA2 g03
  generalize keptB w2 = w3 at *
  generalize w2.heap.size + 1 = q5 at *
  generalize w2.heap.size = q4 at *
  have hS0 : w3.drew.rangeAt q4 0 (H0.map u32v) ∧ w3.drew.rangeAt q5 0 (K0.map u32v) ∧ Txt w3.drew (some ⟨pB, 0, none⟩) m := ⟨Blk.range (w := w3.drew) (T := 25) b4, Blk.range (w := w3.drew) (T := 26) b5, HA3.out⟩
  have gw : Chg none w w3.drew := g04.drew
  have HSM : Hid (∀ v, Chg none w3.drew v → Calls Tryd.prog 17 #[.slice (some ⟨pB, 0, none⟩) k k] v fun e w' => e = .returned (.agg (byteVals D).toArray) ∧ Chg none v w') := fun v g => by
    have h := sum_any (some ⟨pB, 0, none⟩) m k v (hS0.2.2.chg g) (by rw [HML.out]; exact Nat.le_refl _) (by rw [HML.out]; omega) (HT.out.chg (gw.trans g) (by simp))
    rw [HML.out, ← HD.out] at h
    exact h
  have HSR : Hid (∀ v, Chg none w3.drew v → Calls Tryd.prog 18 #[.agg HH, .agg KK, .slice (some ⟨pB, 0, none⟩) k k] v fun e w' => e = .returned (.agg (byteVals D).toArray) ∧ Chg none v w') := fun v g => by
    have h := sumr_any ⟨some ⟨pB, 0, none⟩, m, k⟩ v ⟨hS0.2.2.chg g, by show m.length ≤ k; rw [HML.out]; exact Nat.le_refl _⟩ (by show m.length ≤ 1000000; rw [HML.out]; omega)
    rw [← HHH.out, ← HKK.out] at h
    dsimp only at h
    rw [HML.out, ← HD.out] at h
    exact h
  have HKN : Hid (∀ v, Chg none w3.drew v → Calls Tryd.prog 15 #[] v fun e w' => e = .returned (.bool true) ∧ Chg none v w') := fun v g => known_any v (HT.out.chg (gw.trans g) (by simp))
  have E0 : Chg none w3.drew w3.drew := Chg.refl _ _
  have hqe := HQE.out
  have hg30 := guard30
  clear HQE HA3 g04 gk b4 b5 HT HD
  refine wp_region_held_drew (S := fun w' => w'.rangeAt q4 0 (H0.map u32v) ∧ w'.rangeAt q5 0 (K0.map u32v) ∧ Txt w' (some ⟨pB, 0, none⟩) m) (by kernel_rfl) hS0 (fun _ => ?_)
  generalize w3.drew = v0 at *
  refine wpAnyH_take (i := 0) (oi := ⟨some 32, _, _, _, _, _⟩) (v := ?_) rfl (by kernel_rfl) (by kernel_rfl) (by kernel_rfl) (fun _ _ _ h => h) (Or.inl ⟨by rfl, ?_⟩) (by assumption) ?_
  rotate_left
  · intro w hSw; (try dsimp only at hSw); go_simp; (try with_reducible rfl)
  try simp only [Act.put, List.setIfInBounds_toArray, List.set_cons_zero, List.set_cons_succ]
  refine wpAnyH_take (i := 2) (oi := ⟨some 34, _, _, _, _, _⟩) (v := .agg HH) rfl (by kernel_rfl) (by kernel_rfl) (by kernel_rfl) (fun _ _ _ h => h) (by rw [HHH.out]; exact yieldsIf_load_mid (by rfl) 25 _ rfl q4 0 rfl (H0.map u32v) _ (fun _ h => h.1) Tryd.underlying25 rfl HI25.out) (by assumption) ?_
  try simp only [Act.put, List.setIfInBounds_toArray, List.set_cons_zero, List.set_cons_succ]
  refine wpAnyH_take (i := 3) (oi := ⟨some 35, _, _, _, _, _⟩) (v := .agg KK) rfl (by kernel_rfl) (by kernel_rfl) (by kernel_rfl) (fun _ _ _ h => h) (by rw [HKK.out]; exact yieldsIf_load_mid (by rfl) 26 _ rfl q5 0 rfl (K0.map u32v) _ (fun _ h => h.2.1) Tryd.underlying26 rfl HI26.out) (by assumption) ?_
  try simp only [Act.put, List.setIfInBounds_toArray, List.set_cons_zero, List.set_cons_succ]
  refine wpAnyH_take (i := 4) (oi := ⟨some 36, _, _, _, _, _⟩) (v := ?_) rfl (by kernel_rfl) (by kernel_rfl) (by kernel_rfl) (fun _ _ _ h => h) (Or.inl ⟨by rfl, ?_⟩) (by assumption) ?_
  rotate_left
  · intro w hSw; (try dsimp only at hSw); go_simp; (try with_reducible rfl)
  try simp only [Act.put, List.setIfInBounds_toArray, List.set_cons_zero, List.set_cons_succ]
  refine wpAnyH_ready (rs := [1]) (by kernel_rfl) (by simp) ?_
  refine AllReadyH.cons (o := ⟨some 33, _, _, _, _, _⟩) rfl (fun K hK => ?_) (AllReadyH.nil)
  go_simp
  go_at_call 17
  refine (HSM.out _ E0).mono ?_
  rintro e v1 ⟨rfl, g1⟩
  have E1 := E0.trans g1
  have hS1 := long_chg hS0 g1
  go_wp2_with fail
  refine hK.out _ _ hS1 (fun _ => ?_)
  clear hK K
  try simp only [Act.put, List.setIfInBounds_toArray, List.set_cons_zero, List.set_cons_succ]
  refine wpAnyH_ready (rs := [5]) (by kernel_rfl) (by simp) ?_
  refine AllReadyH.cons (o := ⟨some 37, _, _, _, _, _⟩) rfl (fun K hK => ?_) (AllReadyH.nil)
  go_simp
  go_at_call 18
  refine (HSR.out _ E1).mono ?_
  rintro e v2 ⟨rfl, g2⟩
  have E2 := E1.trans g2
  have hS2 := long_chg hS1 g2
  go_wp2_with fail
  refine hK.out _ _ hS2 (fun _ => ?_)
  clear hK K
  try simp only [Act.put, List.setIfInBounds_toArray, List.set_cons_zero, List.set_cons_succ]
  refine wpAnyH_take (i := 6) (oi := ⟨some 38, _, _, _, _, _⟩) (v := ?_) rfl (by kernel_rfl) (by kernel_rfl) (by kernel_rfl) (fun _ _ _ h => h) (Or.inl ⟨by rfl, ?_⟩) (by assumption) ?_
  rotate_left
  · intro w hSw; (try dsimp only at hSw); go_simp; (try with_reducible rfl)
  try simp only [Act.put, List.setIfInBounds_toArray, List.set_cons_zero, List.set_cons_succ]
  refine wpAnyH_take (i := 7) (oi := ⟨some 39, _, _, _, _, _⟩) (v := ?_) rfl (by kernel_rfl) (by kernel_rfl) (by kernel_rfl) (fun _ _ _ h => h) (Or.inl ⟨by rfl, ?_⟩) (by assumption) ?_
  rotate_left
  · intro w hSw; (try dsimp only at hSw); go_simp; (try with_reducible rfl)
  try simp only [Act.put, List.setIfInBounds_toArray, List.set_cons_zero, List.set_cons_succ]
  refine wpAnyH_ready (rs := [8]) (by kernel_rfl) (by simp) ?_
  refine AllReadyH.cons (o := ⟨some 40, _, _, _, _, _⟩) rfl (fun K hK => ?_) (AllReadyH.nil)
  go_simp
  go_at_call 15
  refine (HKN.out _ E2).mono ?_
  rintro e v3 ⟨rfl, g3⟩
  have E3 := E2.trans g3
  have hS3 := long_chg hS2 g3
  go_wp2_with fail
  refine hK.out _ _ hS3 (fun _ => ?_)
  clear hK K
  try simp only [Act.put, List.setIfInBounds_toArray, List.set_cons_zero, List.set_cons_succ]
  refine wpAnyH_take (i := 9) (oi := ⟨some 41, _, _, _, _, _⟩) (v := ?_) rfl (by kernel_rfl) (by kernel_rfl) (by kernel_rfl) (fun _ _ _ h => h) (Or.inl ⟨by rfl, ?_⟩) (by assumption) ?_
  rotate_left
  · intro w hSw; (try dsimp only at hSw); go_simp; (try with_reducible rfl)
  try simp only [Act.put, List.setIfInBounds_toArray, List.set_cons_zero, List.set_cons_succ]
  refine wpAnyH_take (i := 10) (oi := ⟨some 4, _, _, _, _, _⟩) (v := ?_) rfl (by kernel_rfl) (by kernel_rfl) (by kernel_rfl) (fun _ _ _ h => h) (Or.inl ⟨by rfl, ?_⟩) (by assumption) ?_
  rotate_left
  · intro w hSw; (try dsimp only at hSw); go_simp; (try with_reducible rfl)
  try simp only [Act.put, List.setIfInBounds_toArray, List.set_cons_zero, List.set_cons_succ]
  refine wpAnyH_done (by kernel_rfl) ?_ _
  go_wp2_with fail
  go_ret
  exact ⟨rfl, gw.trans E3⟩

end Go.Proofs.YtdkgecphkppglaaDoor
