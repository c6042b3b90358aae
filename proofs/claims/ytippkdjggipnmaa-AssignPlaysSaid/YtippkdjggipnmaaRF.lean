/-
  The document's plan of layer 23: Next, walked.
-/
import Derived.Test.YtippkdjggipnmaaRE
import Derived.Deep.Cut
import Derived.Deep.CutBlock
namespace Go.Proofs.Ytippkdjggipnmaa
open Go.RowKit Go.Maps

theorem kept_of_post {w : World} {q : Rb} {p : Pl} {now : Int} {k : Nat} {wr : World} (h : SwRel w q p now k wr) : Kept q.has w wr := by
  obtain ⟨_, _, _, h⟩ := h; exact h

set_option maxHeartbeats 16000000 in
set_option maxRecDepth 100000 in
/-- What comes behind the sweep. -/
theorem rnext_any (now : Int) (n : Nat) (w : World) (q : Rb) (p : Pl) (r : Rf) (h : RefAt w q r) (hs : Sim p r) (hok : p.ok n) (hn : n < 900000000000) (hnow : -1152921504606846976 ≤ now ∧ now ≤ 1152921504606846976) (htk : ∀ x ∈ p.ch, Tk x) :
    Calls Try.prog 14 #[.pointer (some ⟨q.b, 0, none⟩), .int .i64 now] w fun e w' => e = .returned (next3 (nextM p now).2) ∧ RPost2 w q (nextM p now).1 w' := by
  have hnc := hok.nc
  have hnp := hok.np
  have htim := hok.tim
  have hwin := hok.win
  have H0 : Hid (SwRel w q p now 0 w) := Lib.hid ⟨r, h, hs, Kept.refl _ _⟩
  have HSL := Lib.hid (sweepK_len p now)
  have HSO := Lib.hid (sweepK_ok now hok)
  have HTK := Lib.hid (tk_sweep now htk)
  have HNE : Hid (∀ c, leastM (sweepM p now) = some c → fitM (sweepM p now) c = none → nextM p now = (sweepM p now, none)) := Lib.hid fun c h1 h2 => next_none2 h1 h2
  have HN1 : Hid (leastM (sweepM p now) = none → nextM p now = (sweepM p now, none)) := Lib.hid next_none1
  have HYS : Hid (∀ c j, leastM (sweepM p now) = some c → fitM (sweepM p now) c = some j → nextM p now = (askAt (sweepM p now) c j now, some (c, j))) := Lib.hid fun c j h1 h2 => next_some h1 h2
  obtain ⟨RES, hRES⟩ : ∃ RES, RES = nextM p now := ⟨_, rfl⟩
  rw [← hRES] at HNE HN1 HYS ⊢
  clear hRES
  obtain ⟨L, hL⟩ : ∃ L, p.ch.length = L := ⟨_, rfl⟩
  obtain ⟨M, hM⟩ : ∃ M, p.pe.length = M := ⟨_, rfl⟩
  rw [hL] at hnc
  rw [hM] at hnp
  have HL := Lib.hid hL
  have HMM := Lib.hid hM
  obtain ⟨t1, t2⟩ := htim
  obtain ⟨n1, n2⟩ := hnow
  clear h hs hok htk hL hM
  go_enter Try.func14, Try.ntmps14
  go_wp2_with fail
  go_loopw [7] (fun i wr => ∃ k : Nat, k ≤ L ∧ i = .int .i64 k ∧ Hid (SwRel w q p now k wr)) (fun i _ => L - (intOf i).toNat)
  case atStart => exact ⟨0, Nat.zero_le _, rfl, H0⟩
  case round =>
    obtain ⟨k, hk, rfl, HR⟩ := hrel
    obtain ⟨r, hat, hsim, hkp⟩ := HR.out
    obtain ⟨a, ho⟩ := hat.at_
    have hlen : r.st.length = L := by rw [hsim.stl, (HSL.out k).1, HL.out]
    obtain ⟨y0, y1, y2, y3, -, y5, y6⟩ := ho.cells
    rw [hlen] at y0
    by_cases hlt : k < L
    · obtain ⟨x, hx⟩ : ∃ x, (sweepK p now k).ch[k]? = some x := ⟨_, List.getElem?_eq_getElem (by rw [(HSL.out k).1, HL.out]; exact hlt)⟩
      have hxt := HTK.out k x (List.mem_of_getElem? hx)
      obtain ⟨u1, u2⟩ := hxt
      have hxo := (HSO.out k (by rw [HL.out]; exact hk)).cks x (List.mem_of_getElem? hx)
      have hpl : r.pe.length = L := by rw [hsim.pl, (HSL.out k).1, HL.out]
      have hsl : r.sn.length = L := by rw [hsim.sl, (HSL.out k).1, HL.out]
      have hbl : r.bd.length = M := by rw [hsim.bdl, (HSL.out k).2.1, HMM.out]
      have htm : r.tim = p.tim := by rw [hsim.tim, (HSL.out k).2.2.2.1]
      rw [hpl] at y1
      rw [hsl] at y2
      rw [hbl] at y3
      rw [htm] at y6
      obtain ⟨hA1, z0, zf⟩ := ho.st.one (hsim.sti hx)
      rw [hA1] at y0
      by_cases h1 : x.st = 1
      · have e1 : (x.st == 1) = true := by simp [h1]
        obtain ⟨hpe, hsn⟩ := hsim.asked k x hx h1
        obtain ⟨hA3, z2, -⟩ := ho.sn.one hsn
        obtain ⟨hA2, z1, -⟩ := ho.pe.one hpe
        rw [hA3] at y2
        rw [hA2] at y1
        by_cases h2 : p.tim ≤ now - x.sn
        · have e2 : decide (p.tim ≤ now - x.sn) = true := by simp [h2]
          have hlate : lateB p ((sweepK p now k).ch.getD k default) now = true := by
            rw [getD_of hx]; unfold lateB pastB; simp [h1]; omega
          have hstep : sweepK p now (k + 1) = reopenM (sweepK p now k) k := by
            show (if lateB p ((sweepK p now k).ch.getD k default) now then _ else _) = _
            rw [if_pos hlate]
          have hpp : 0 ≤ x.pe ∧ x.pe < M := by
            unfold Ck.ok at hxo
            rw [(HSL.out k).2.1, HMM.out] at hxo
            omega
          obtain ⟨j, hj⟩ := Int.eq_ofNat_of_zero_le hpp.1
          have hjM : j < M := by omega
          obtain ⟨z, hz⟩ : ∃ z, (sweepK p now k).pe[j]? = some z := ⟨_, List.getElem?_eq_getElem (by rw [(HSL.out k).2.1, HMM.out]; exact hjM)⟩
          have hzd := (HSO.out k (by rw [HL.out]; exact hk)).de z (List.mem_of_getElem? hz)
          obtain ⟨hA4, z3, zf3⟩ := ho.bd.one (hsim.bdi hz)
          rw [hA4] at y3
          have hne : r.st ≠ [] := by intro e; rw [e] at hlen; simp at hlen; omega
          have hnd := hat.apart hne
          obtain ⟨b1, b2, b3, b4, b5, s1, s2, s3, s4, -⟩ := ho.apart hnd
          have hset := (ho.setSt hnd k 0 (by rw [hlen]; exact hlt)).setBd hnd j (z.de + 1) (by show j < r.bd.length; rw [hbl]; exact hjM)
          have hs2 := hsim.reopen hx hj (by rw [(HSL.out k).2.1, HMM.out]; exact hjM)
          have ho2 : r.bd.getD j 0 = z.de := by rw [List.getD_eq_getElem?_getD, hsim.bdi hz]; rfl
          unfold Rf.open at hs2
          rw [ho2] at hs2
          have HNX : Hid (SwRel w q p now (k + 1) ((wr.setCell ⟨q.s, k, none⟩ (.int .i64 0)).setCell ⟨q.d, j, none⟩ (.int .i64 (z.de + 1))).drew.drew) := Lib.hid ⟨_, ⟨⟨a, (hset.chg ((Chg.refl _ _).drew.drew))⟩, fun _ => hnd⟩, by rw [hstep]; exact hs2, ((hkp.setCell _ _ (.inl (by unfold Rb.has Rb.all; simp))).setCell _ _ (.inl (by unfold Rb.has Rb.all; simp))).drew.drew⟩
          have s3' := s3.symm
          have b1' := b1.symm
          have b4' := b4.symm
          have s1' := s1.symm
          obtain ⟨v1, v2⟩ := hzd
          rw [hj] at z1
          have HLT := Lib.hid hlt
          clear h1 h2 hx hz hsim hat ho hA1 hA2 hA3 hA4 hset hs2 ho2 hlate hstep hpp hpe hsn hxo hkp hnd hne
          go_wp2_with fail
          go_region
          go_wp2_with fail
          go_region
          go_wp2_with fail
          go_roundw
          case rel => exact ⟨k + 1, by have := HLT.out; omega, by go_num, HNX⟩
          case measure => have := HLT.out; simp [intOf]; omega
        · have e2 : decide (p.tim ≤ now - x.sn) = false := by simp; omega
          have hstep : sweepK p now (k + 1) = sweepK p now k := by
            show (if lateB p ((sweepK p now k).ch.getD k default) now then _ else _) = _
            rw [if_neg]
            rw [getD_of hx]; unfold lateB pastB; simp [h1]; omega
          have HNX : Hid (SwRel w q p now (k + 1) wr.drew) := Lib.hid ⟨_, hat.chg ((Chg.refl _ _).drew), by rw [hstep]; exact hsim, hkp.drew⟩
          have HLT := Lib.hid hlt
          clear h1 h2 hx hsim hat ho hA1 hA2 hA3 hstep hpe hsn hxo hkp
          go_wp2_with fail
          go_region
          go_wp2_with fail
          go_roundw
          case rel => exact ⟨k + 1, by have := HLT.out; omega, by go_num, HNX⟩
          case measure => have := HLT.out; simp [intOf]; omega
      · have e1 : (x.st == 1) = false := by simp [h1]
        have hstep : sweepK p now (k + 1) = sweepK p now k := by
          show (if lateB p ((sweepK p now k).ch.getD k default) now then _ else _) = _
          rw [if_neg]
          rw [getD_of hx]; unfold lateB; simp [h1]
        have HNX : Hid (SwRel w q p now (k + 1) wr.drew) := Lib.hid ⟨_, hat.chg ((Chg.refl _ _).drew), by rw [hstep]; exact hsim, hkp.drew⟩
        have HLT := Lib.hid hlt
        clear h1 hx hsim hat ho hA1 hstep hxo hkp
        go_wp2_with fail
        go_region
        go_wp2_with fail
        go_roundw
        case rel => exact ⟨k + 1, by have := HLT.out; omega, by go_num, HNX⟩
        case measure => have := HLT.out; simp [intOf]; omega
    · obtain rfl : k = L := by omega
      have hps : sweepK p now k = sweepM p now := by unfold sweepM; rw [HL.out]
      have hokS := HSO.out k (by rw [HL.out]; exact Nat.le_refl _)
      have hlS := (HSL.out k).1
      have hmS := (HSL.out k).2.1
      have hwS := (HSL.out k).2.2.1
      rw [hps] at hsim hokS hlS hmS hwS
      rw [HL.out] at hlS
      rw [HMM.out] at hmS
      have HAT := Lib.hid hat
      have HSIM := Lib.hid hsim
      have HKP := Lib.hid hkp
      have HOK := Lib.hid hokS
      have HHD : Hid (∀ v, Chg none wr v → RefO v q r a) := Lib.hid fun v g => ho.chg g
      have HLD : Hid (∀ v, Chg none wr v → ∀ K, Calls Try.prog 32 #[.pointer (some ⟨q.b, 0, none⟩), .int .i64 K] v fun e w' => e = .returned (.int .i64 (cnt (sweepM p now).ch K : Nat)) ∧ Chg none wr w') := Lib.hid fun v g K =>
        (load_any K v q _ r (hat.chg g) hsim (by rw [hlS]; exact hnc)).mono fun e w' h => ⟨h.1, g.trans h.2⟩
      have HBT : Hid (∀ v, Chg none wr v → ∀ i j m : Nat, i < k → j < M → m < M → Calls Try.prog 33 #[.pointer (some ⟨q.b, 0, none⟩), .int .i64 i, .int .i64 j, .int .i64 m] v fun e w' => e = .returned (.bool (betB (sweepM p now) i j m)) ∧ Chg none wr w') := Lib.hid fun v g i j m h1 h2 h3 =>
        (better_any i j m _ v q _ r (hat.chg g) hsim hokS (by rw [hlS]; exact h1) (by rw [hmS]; exact h2) (by rw [hmS]; exact h3)).mono fun e w' h => ⟨h.1, g.trans h.2⟩
      have hw' : r.win = p.win := by rw [hsim.win, hwS]
      have hbl : r.bd.length = M := by rw [hsim.bdl, hmS]
      have hpl : r.pe.length = k := by rw [hsim.pl, hlS]
      have hsl : r.sn.length = k := by rw [hsim.sl, hlS]
      have htl : r.tm.length = k := by rw [hsim.tl, hlS]
      generalize hS : sweepM p now = S at *
      obtain ⟨w1, rfl⟩ : ∃ w1 : World, w1 = wr := ⟨_, rfl⟩
      rw [hw'] at y5
      rw [hbl] at y3
      clear hps hS HSL HSO HTK H0 HR hat hsim hkp hokS HL HMM hlt hk ho
      go_wp2_with fail
      go_loopw [8] (fun i w2 => ∃ c : Nat, c ≤ k ∧ i = .int .i64 c ∧ Hid (∀ x ∈ S.ch.take c, (x.st == 0) = false) ∧ Hid (Chg none w1 w2)) (fun i _ => k - (intOf i).toNat)
      case atStart => exact ⟨0, Nat.zero_le _, rfl, Lib.hid (by simp), Lib.hid (Chg.refl _ _)⟩
      case round =>
        obtain ⟨c, hc, rfl, HT, HG⟩ := hrel
        have ho := HHD.out wr HG.out
        obtain ⟨x0, -, -, x3, -, x5, -⟩ := ho.cells
        rw [hlen] at x0
        rw [hbl] at x3
        rw [hw'] at x5
        clear y0 y1 y2 y3 y5 y6
        by_cases hlt : c < k
        · obtain ⟨x, hx⟩ : ∃ x, S.ch[c]? = some x := ⟨_, List.getElem?_eq_getElem (by rw [hlS]; exact hlt)⟩
          obtain ⟨hA1, z0, -⟩ := ho.st.one (HSIM.out.sti hx)
          rw [hA1] at x0
          by_cases h0 : x.st = 0
          · have e0 : (x.st != 0) = false := by simp [h0]
            have hleast : leastM S = some c := by
              unfold leastM
              rw [List.findIdx?_eq_some_iff_getElem]
              refine ⟨by rw [hlS]; exact hlt, ?_, fun j hj => ?_⟩
              · rw [List.getElem?_eq_getElem (by rw [hlS]; exact hlt)] at hx
                rw [Option.some.inj hx]; simp [h0]
              · have := HT.out (S.ch[j]'(by omega)) (List.mem_take_iff_getElem.2 ⟨j, by omega, rfl⟩)
                simpa using this
            have HLS := Lib.hid hleast
            have HX := Lib.hid hx
            have HH0 := Lib.hid h0
            have HLT := Lib.hid hlt
            clear hleast hx h0 HT hA1 ho
            go_wp2_with fail
            go_loopw [9, 10] (fun s9 s10 w3 => ∃ j : Nat, j ≤ M ∧ s10 = .int .i64 j ∧ s9 = .int .i64 (bestZ (fitK S c j)) ∧ Hid (Chg none w1 w3)) (fun _ i _ => M - (intOf i).toNat)
            case atStart => exact ⟨0, Nat.zero_le _, rfl, rfl, HG⟩
            case round =>
              obtain ⟨j, hj, rfl, rfl, HG3⟩ := hrel
              have ho := HHD.out wr HG3.out
              clear x0 x3 x5 z0
              obtain ⟨x0, x1, x2, x3, x4, x5, -⟩ := ho.cells
              rw [hlen] at x0
              rw [hpl] at x1
              rw [hsl] at x2
              rw [hbl] at x3
              rw [htl] at x4
              rw [hw'] at x5
              by_cases hjl : j < M
              · obtain ⟨z, hz⟩ : ∃ z, S.pe[j]? = some z := ⟨_, List.getElem?_eq_getElem (by rw [hmS]; exact hjl)⟩
                obtain ⟨hA4, z3, -⟩ := ho.bd.one (HSIM.out.bdi hz)
                rw [hA4] at x3
                have hak := HOK.out.aks _ _ hz
                have hcx := cnt_le S.ch j
                rw [hlS] at hcx
                have hz1 : 0 ≤ z.ak ∧ z.ak ≤ 100 := by omega
                have HLK : Hid (∀ v, Chg none w1 v → Calls Try.prog 32 #[.pointer (some ⟨q.b, 0, none⟩), .int .i64 j] v fun e w' => e = .returned (.int .i64 z.ak) ∧ Chg none w1 w') := Lib.hid fun v g => by
                  have h := HLD.out v g j
                  rwa [← hak] at h
                have hfit : fitsB S j = (decide (z.de < 3) && decide (z.ak < p.win)) := by
                  unfold fitsB banB
                  rw [getD_of hz, hwS]
                  by_cases a1 : z.de < 3
                  · by_cases a2 : z.ak < p.win
                    · simp [a1, a2] <;> omega
                    · simp [a1, a2] <;> omega
                  · simp [a1] <;> omega
                have HXW : Hid (∀ v, Chg none w1 v → (v.cell? ⟨q.b, 3, none⟩ = some (.slice (some ⟨q.d, 0, none⟩) M a.c4) ∧ v.cell? ⟨q.d, j, none⟩ = some (.int .i64 z.de) ∧ v.cell? ⟨q.b, 5, none⟩ = some (.int .i64 p.win)) ∧ Chg none w1 v) := Lib.hid fun v g => by
                  have ho := HHD.out v g
                  obtain ⟨-, -, -, x3, -, x5, -⟩ := ho.cells
                  obtain ⟨-, z3, -⟩ := ho.bd.one (HSIM.out.bdi hz)
                  rw [hbl, hA4] at x3
                  rw [hw'] at x5
                  exact ⟨⟨x3, z3, x5⟩, g⟩
                have hjf := fitK_lt S c j
                obtain ⟨az, dz⟩ := z
                dsimp only at *
                clear hak hz ho hA4 x0 x1 x2 x4 hcx
                by_cases d1 : dz < 3
                · have e1 : decide (dz < 3) = true := by simp [d1]
                  by_cases d2 : az < p.win
                  · have e2 : decide (az < p.win) = true := by simp [d2]
                    rw [e1, e2] at hfit
                    cases hfk : fitK S c j with
                    | none =>
                      have HST := Lib.hid (fitK_first hfit hfk)
                      have HFK := Lib.hid hfk
                      rw [show bestZ none = -1 from rfl]
                      clear hfit hjf hfk
                      have gC := HG3.out
                      go_upto_region 15 with fail
                      have hS0 := HXW.out _ gC.drew
                      refine wp_region_held_drew (S := (fun v => (v.cell? ⟨q.b, 3, none⟩ = some (.slice (some ⟨q.d, 0, none⟩) M a.c4) ∧ v.cell? ⟨q.d, j, none⟩ = some (.int .i64 dz) ∧ v.cell? ⟨q.b, 5, none⟩ = some (.int .i64 p.win)) ∧ Chg none w1 v)) (by kernel_rfl) hS0 (fun _ => ?_)
                      refine wpAnyH_take (i := 0) (oi := ⟨some 91, _, _, _, _, _⟩) (v := ?_) rfl (by kernel_rfl) (by kernel_rfl) (by kernel_rfl) (fun _ _ _ h => h) (Or.inl ⟨by rfl, ?_⟩) (by assumption) ?_
                      rotate_left
                      · intro w hSw; (try dsimp only at hSw); go_simp; (try with_reducible rfl)
                      try simp only [Act.put, List.setIfInBounds_toArray, List.set_cons_zero, List.set_cons_succ]
                      refine wpAnyH_take (i := 1) (oi := ⟨some 92, _, _, _, _, _⟩) (v := ?_) rfl (by kernel_rfl) (by kernel_rfl) (by kernel_rfl) (fun _ _ _ h => h) (Or.inl ⟨by rfl, ?_⟩) (by assumption) ?_
                      rotate_left
                      · intro w hSw; (try dsimp only at hSw); go_simp; (try with_reducible rfl)
                      try simp only [Act.put, List.setIfInBounds_toArray, List.set_cons_zero, List.set_cons_succ]
                      refine wpAnyH_take (i := 2) (oi := ⟨some 93, _, _, _, _, _⟩) (v := ?_) rfl (by kernel_rfl) (by kernel_rfl) (by kernel_rfl) (fun _ _ _ h => h) (Or.inl ⟨by rfl, ?_⟩) (by assumption) ?_
                      rotate_left
                      · intro w hSw; (try dsimp only at hSw); go_simp; (try with_reducible rfl)
                      try simp only [Act.put, List.setIfInBounds_toArray, List.set_cons_zero, List.set_cons_succ]
                      refine wpAnyH_take (i := 3) (oi := ⟨some 94, _, _, _, _, _⟩) (v := ?_) rfl (by kernel_rfl) (by kernel_rfl) (by kernel_rfl) (fun _ _ _ h => h) (Or.inl ⟨by rfl, ?_⟩) (by assumption) ?_
                      rotate_left
                      · intro w hSw; (try dsimp only at hSw); go_simp; (try with_reducible rfl)
                      try simp only [Act.put, List.setIfInBounds_toArray, List.set_cons_zero, List.set_cons_succ]
                      refine wpAnyH_take (i := 4) (oi := ⟨some 95, _, _, _, _, _⟩) (v := ?_) rfl (by kernel_rfl) (by kernel_rfl) (by kernel_rfl) (fun _ _ _ h => h) (Or.inl ⟨by rfl, ?_⟩) (by assumption) ?_
                      rotate_left
                      · intro w hSw; (try dsimp only at hSw); go_simp; (try with_reducible rfl)
                      try simp only [Act.put, List.setIfInBounds_toArray, List.set_cons_zero, List.set_cons_succ]
                      refine wpAnyH_take (i := 5) (oi := ⟨some 96, _, _, _, _, _⟩) (v := ?_) rfl (by kernel_rfl) (by kernel_rfl) (by kernel_rfl) (fun _ _ _ h => h) (Or.inl ⟨by rfl, ?_⟩) (by assumption) ?_
                      rotate_left
                      · intro w hSw; (try dsimp only at hSw); go_simp; (try with_reducible rfl)
                      try simp only [Act.put, List.setIfInBounds_toArray, List.set_cons_zero, List.set_cons_succ]
                      refine wpAnyH_take (i := 6) (oi := ⟨some 97, _, _, _, _, _⟩) (v := ?_) rfl (by kernel_rfl) (by kernel_rfl) (by kernel_rfl) (fun _ _ _ h => h) (Or.inl ⟨by rfl, ?_⟩) (by assumption) ?_
                      rotate_left
                      · intro w hSw; (try dsimp only at hSw); go_simp; (try with_reducible rfl)
                      try simp only [Act.put, List.setIfInBounds_toArray, List.set_cons_zero, List.set_cons_succ]
                      refine wpAnyH_take (i := 7) (oi := ⟨some 98, _, _, _, _, _⟩) (v := ?_) rfl (by kernel_rfl) (by kernel_rfl) (by kernel_rfl) (fun _ _ _ h => h) (Or.inl ⟨by rfl, ?_⟩) (by assumption) ?_
                      rotate_left
                      · intro w hSw; (try dsimp only at hSw); go_simp; (try with_reducible rfl)
                      try simp only [Act.put, List.setIfInBounds_toArray, List.set_cons_zero, List.set_cons_succ]
                      refine wpAnyH_take (i := 8) (oi := ⟨some 99, _, _, _, _, _⟩) (v := ?_) rfl (by kernel_rfl) (by kernel_rfl) (by kernel_rfl) (fun _ _ _ h => h) (Or.inl ⟨by rfl, ?_⟩) (by assumption) ?_
                      rotate_left
                      · intro w hSw; (try dsimp only at hSw); go_simp; (try with_reducible rfl)
                      try simp only [Act.put, List.setIfInBounds_toArray, List.set_cons_zero, List.set_cons_succ]
                      refine wpAnyH_take (i := 9) (oi := ⟨some 100, _, _, _, _, _⟩) (v := ?_) rfl (by kernel_rfl) (by kernel_rfl) (by kernel_rfl) (fun _ _ _ h => h) (Or.inl ⟨by rfl, ?_⟩) (by assumption) ?_
                      rotate_left
                      · intro w hSw; (try dsimp only at hSw); go_simp; (try with_reducible rfl)
                      try simp only [Act.put, List.setIfInBounds_toArray, List.set_cons_zero, List.set_cons_succ]
                      refine wpAnyH_take (i := 10) (oi := ⟨some 101, _, _, _, _, _⟩) (v := ?_) rfl (by kernel_rfl) (by kernel_rfl) (by kernel_rfl) (fun _ _ _ h => h) (Or.inl ⟨by rfl, ?_⟩) (by assumption) ?_
                      rotate_left
                      · intro w hSw; (try dsimp only at hSw); go_simp; (try with_reducible rfl)
                      try simp only [Act.put, List.setIfInBounds_toArray, List.set_cons_zero, List.set_cons_succ]
                      refine wpAnyH_take (i := 12) (oi := ⟨some 103, _, _, _, _, _⟩) (v := ?_) rfl (by kernel_rfl) (by kernel_rfl) (by kernel_rfl) (fun _ _ _ h => h) (Or.inl ⟨by rfl, ?_⟩) (by assumption) ?_
                      rotate_left
                      · intro w hSw; (try dsimp only at hSw); go_simp; (try with_reducible rfl)
                      try simp only [Act.put, List.setIfInBounds_toArray, List.set_cons_zero, List.set_cons_succ]
                      refine wpAnyH_take (i := 13) (oi := ⟨some 104, _, _, _, _, _⟩) (v := ?_) rfl (by kernel_rfl) (by kernel_rfl) (by kernel_rfl) (fun _ _ _ h => h) (Or.inl ⟨by rfl, ?_⟩) (by assumption) ?_
                      rotate_left
                      · intro w hSw; (try dsimp only at hSw); go_simp; (try with_reducible rfl)
                      try simp only [Act.put, List.setIfInBounds_toArray, List.set_cons_zero, List.set_cons_succ]
                      refine wpAnyH_take (i := 14) (oi := ⟨some 105, _, _, _, _, _⟩) (v := ?_) rfl (by kernel_rfl) (by kernel_rfl) (by kernel_rfl) (fun _ _ _ h => h) (Or.inl ⟨by rfl, ?_⟩) (by assumption) ?_
                      rotate_left
                      · intro w hSw; (try dsimp only at hSw); go_simp; (try with_reducible rfl)
                      try simp only [Act.put, List.setIfInBounds_toArray, List.set_cons_zero, List.set_cons_succ]
                      refine wpAnyH_take (i := 15) (oi := ⟨some 106, _, _, _, _, _⟩) (v := ?_) rfl (by kernel_rfl) (by kernel_rfl) (by kernel_rfl) (fun _ _ _ h => h) (Or.inl ⟨by rfl, ?_⟩) (by assumption) ?_
                      rotate_left
                      · intro w hSw; (try dsimp only at hSw); go_simp; (try with_reducible rfl)
                      try simp only [Act.put, List.setIfInBounds_toArray, List.set_cons_zero, List.set_cons_succ]
                      refine wpAnyH_ready (rs := [11]) (by kernel_rfl) (by simp) ?_
                      refine AllReadyH.cons (o := ⟨some 102, _, _, _, _, _⟩) rfl (fun K hK => ?_) ?_
                      rotate_left
                      · exact AllReadyH.nil
                      go_simp
                      go_at_call 32
                      refine (HLK.out _ (by first | exact gC | exact gC.drew)).mono ?_
                      rintro e w7 ⟨rfl, g7⟩
                      go_wp2_with fail
                      have hS7 := HXW.out _ g7
                      refine hK.out _ _ hS7 (fun _ => ?_)
                      clear hK K
                      try simp only [Act.put, List.setIfInBounds_toArray, List.set_cons_zero, List.set_cons_succ]
                      refine wpAnyH_take (i := 16) (oi := ⟨some 107, _, _, _, _, _⟩) (v := ?_) rfl (by kernel_rfl) (by kernel_rfl) (by kernel_rfl) (fun _ _ _ h => h) (Or.inl ⟨by rfl, ?_⟩) (by assumption) ?_
                      rotate_left
                      · intro w hSw; (try dsimp only at hSw); go_simp; (try with_reducible rfl)
                      try simp only [Act.put, List.setIfInBounds_toArray, List.set_cons_zero, List.set_cons_succ]
                      refine wpAnyH_take (i := 17) (oi := ⟨some 108, _, _, _, _, _⟩) (v := ?_) rfl (by kernel_rfl) (by kernel_rfl) (by kernel_rfl) (fun _ _ _ h => h) (Or.inl ⟨by rfl, ?_⟩) (by assumption) ?_
                      rotate_left
                      · intro w hSw; (try dsimp only at hSw); go_simp; (try with_reducible rfl)
                      try simp only [Act.put, List.setIfInBounds_toArray, List.set_cons_zero, List.set_cons_succ]
                      refine wpAnyH_take (i := 18) (oi := ⟨some 109, _, _, _, _, _⟩) (v := ?_) rfl (by kernel_rfl) (by kernel_rfl) (by kernel_rfl) (fun _ _ _ h => h) (Or.inl ⟨by rfl, ?_⟩) (by assumption) ?_
                      rotate_left
                      · intro w hSw; (try dsimp only at hSw); go_simp; (try with_reducible rfl)
                      try simp only [Act.put, List.setIfInBounds_toArray, List.set_cons_zero, List.set_cons_succ]
                      refine wpAnyH_take (i := 19) (oi := ⟨some 110, _, _, _, _, _⟩) (v := ?_) rfl (by kernel_rfl) (by kernel_rfl) (by kernel_rfl) (fun _ _ _ h => h) (Or.inl ⟨by rfl, ?_⟩) (by assumption) ?_
                      rotate_left
                      · intro w hSw; (try dsimp only at hSw); go_simp; (try with_reducible rfl)
                      try simp only [Act.put, List.setIfInBounds_toArray, List.set_cons_zero, List.set_cons_succ]
                      refine wpAnyH_take (i := 20) (oi := ⟨some 111, _, _, _, _, _⟩) (v := ?_) rfl (by kernel_rfl) (by kernel_rfl) (by kernel_rfl) (fun _ _ _ h => h) (Or.inl ⟨by rfl, ?_⟩) (by assumption) ?_
                      rotate_left
                      · intro w hSw; (try dsimp only at hSw); go_simp; (try with_reducible rfl)
                      try simp only [Act.put, List.setIfInBounds_toArray, List.set_cons_zero, List.set_cons_succ]
                      refine wpAnyH_take (i := 21) (oi := ⟨some 112, _, _, _, _, _⟩) (v := ?_) rfl (by kernel_rfl) (by kernel_rfl) (by kernel_rfl) (fun _ _ _ h => h) (Or.inl ⟨by rfl, ?_⟩) (by assumption) ?_
                      rotate_left
                      · intro w hSw; (try dsimp only at hSw); go_simp; (try with_reducible rfl)
                      try simp only [Act.put, List.setIfInBounds_toArray, List.set_cons_zero, List.set_cons_succ]
                      refine wpAnyH_take (i := 22) (oi := ⟨some 113, _, _, _, _, _⟩) (v := undef) rfl (by kernel_rfl) (by kernel_rfl) (by kernel_rfl) (fun _ _ _ h => h) (Or.inr ⟨by rfl, rfl⟩) (by assumption) ?_
                      try simp only [Act.put, List.setIfInBounds_toArray, List.set_cons_zero, List.set_cons_succ]
                      refine wpAnyH_take (i := 23) (oi := ⟨some 114, _, _, _, _, _⟩) (v := undef) rfl (by kernel_rfl) (by kernel_rfl) (by kernel_rfl) (fun _ _ _ h => h) (Or.inr ⟨by rfl, rfl⟩) (by assumption) ?_
                      try simp only [Act.put, List.setIfInBounds_toArray, List.set_cons_zero, List.set_cons_succ]
                      refine wpAnyH_take (i := 24) (oi := ⟨some 115, _, _, _, _, _⟩) (v := undef) rfl (by kernel_rfl) (by kernel_rfl) (by kernel_rfl) (fun _ _ _ h => h) (Or.inr ⟨by rfl, rfl⟩) (by assumption) ?_
                      try simp only [Act.put, List.setIfInBounds_toArray, List.set_cons_zero, List.set_cons_succ]
                      refine wpAnyH_take (i := 25) (oi := ⟨some 116, _, _, _, _, _⟩) (v := undef) rfl (by kernel_rfl) (by kernel_rfl) (by kernel_rfl) (fun _ _ _ h => h) (Or.inr ⟨by rfl, rfl⟩) (by assumption) ?_
                      try simp only [Act.put, List.setIfInBounds_toArray, List.set_cons_zero, List.set_cons_succ]
                      refine wpAnyH_take (i := 26) (oi := ⟨some 117, _, _, _, _, _⟩) (v := undef) rfl (by kernel_rfl) (by kernel_rfl) (by kernel_rfl) (fun _ _ _ h => h) (Or.inr ⟨by rfl, rfl⟩) (by assumption) ?_
                      try simp only [Act.put, List.setIfInBounds_toArray, List.set_cons_zero, List.set_cons_succ]
                      refine wpAnyH_take (i := 27) (oi := ⟨some 118, _, _, _, _, _⟩) (v := ?_) rfl (by kernel_rfl) (by kernel_rfl) (by kernel_rfl) (fun _ _ _ h => h) (Or.inl ⟨by rfl, ?_⟩) (by assumption) ?_
                      rotate_left
                      · intro w hSw; (try dsimp only at hSw); go_simp; (try with_reducible rfl)
                      try simp only [Act.put, List.setIfInBounds_toArray, List.set_cons_zero, List.set_cons_succ]
                      refine wpAnyH_take (i := 28) (oi := ⟨some 119, _, _, _, _, _⟩) (v := ?_) rfl (by kernel_rfl) (by kernel_rfl) (by kernel_rfl) (fun _ _ _ h => h) (Or.inl ⟨by rfl, ?_⟩) (by assumption) ?_
                      rotate_left
                      · intro w hSw; (try dsimp only at hSw); go_simp; (try with_reducible rfl)
                      try simp only [Act.put, List.setIfInBounds_toArray, List.set_cons_zero, List.set_cons_succ]
                      refine wpAnyH_done (by kernel_rfl) ?_ _
                      all_goals go_wp2_with fail
                      all_goals go_roundw
                      all_goals first | exact ⟨j + 1, by omega, by go_num, by rw [HST.out] <;> rfl, Lib.hid (by repeat (first | (with_reducible assumption) | (with_reducible refine Chg.drew ?_)))⟩ | (simp [intOf]; omega)
                    | some m =>
                      have HST := Lib.hid (fitK_more hfit hfk)
                      have hm := hjf m hfk
                      have e3 : decide (((m : Nat) : Int) < 0) = false := by simp
                      have HBC := Lib.hid (fun v (g : Chg none w1 v) => HBT.out v g c j m hlt hjl (by omega))
                      unfold bestZ
                      clear hfit hjf hfk
                      cases hbt : betB S c j m with
                      | true =>
                        rw [hbt] at HST HBC
                        clear hbt
                        have gC := HG3.out
                        go_upto_region 15 with fail
                        first
                          | (go_region_held3 (fun v => (v.cell? ⟨q.b, 3, none⟩ = some (.slice (some ⟨q.d, 0, none⟩) M a.c4) ∧ v.cell? ⟨q.d, j, none⟩ = some (.int .i64 dz) ∧ v.cell? ⟨q.b, 5, none⟩ = some (.int .i64 p.win)) ∧ Chg none w1 v)
                              ((refine HXW.out _ ?_; repeat (first | (with_reducible assumption) | (with_reducible refine Chg.drew ?_))))
                              ((first | ((go_at_call 32; refine (HLK.out _ ?_).mono ?_; (repeat (first | (with_reducible assumption) | (with_reducible refine Chg.drew ?_))); rintro e w7 ⟨rfl, g7⟩)) | ((go_at_call 33; refine (HBC.out _ ?_).mono ?_; (repeat (first | (with_reducible assumption) | (with_reducible refine Chg.drew ?_))); rintro e w7 ⟨rfl, g7⟩)))))
                          | (exfalso; done)
                        all_goals go_wp2_with fail
                        all_goals go_roundw
                        all_goals first | exact ⟨j + 1, by omega, by go_num, by rw [HST.out] <;> rfl, Lib.hid (by repeat (first | (with_reducible assumption) | (with_reducible refine Chg.drew ?_)))⟩ | (simp [intOf]; omega)
                      | false =>
                        rw [hbt] at HST HBC
                        clear hbt
                        have gC := HG3.out
                        go_upto_region 15 with fail
                        first
                          | (go_region_held3 (fun v => (v.cell? ⟨q.b, 3, none⟩ = some (.slice (some ⟨q.d, 0, none⟩) M a.c4) ∧ v.cell? ⟨q.d, j, none⟩ = some (.int .i64 dz) ∧ v.cell? ⟨q.b, 5, none⟩ = some (.int .i64 p.win)) ∧ Chg none w1 v)
                              ((refine HXW.out _ ?_; repeat (first | (with_reducible assumption) | (with_reducible refine Chg.drew ?_))))
                              ((first | ((go_at_call 32; refine (HLK.out _ ?_).mono ?_; (repeat (first | (with_reducible assumption) | (with_reducible refine Chg.drew ?_))); rintro e w7 ⟨rfl, g7⟩)) | ((go_at_call 33; refine (HBC.out _ ?_).mono ?_; (repeat (first | (with_reducible assumption) | (with_reducible refine Chg.drew ?_))); rintro e w7 ⟨rfl, g7⟩)))))
                          | (exfalso; done)
                        all_goals go_wp2_with fail
                        all_goals go_roundw
                        all_goals first | exact ⟨j + 1, by omega, by go_num, by rw [HST.out] <;> rfl, Lib.hid (by repeat (first | (with_reducible assumption) | (with_reducible refine Chg.drew ?_)))⟩ | (simp [intOf]; omega)
                  · have e2 : decide (az < p.win) = false := by simp; omega
                    rw [e1, e2] at hfit
                    have HST := Lib.hid (fitK_no (c := c) hfit)
                    clear hfit hjf
                    have gC := HG3.out
                    go_upto_region 15 with fail
                    have hS0 := HXW.out _ gC.drew
                    refine wp_region_held_drew (S := (fun v => (v.cell? ⟨q.b, 3, none⟩ = some (.slice (some ⟨q.d, 0, none⟩) M a.c4) ∧ v.cell? ⟨q.d, j, none⟩ = some (.int .i64 dz) ∧ v.cell? ⟨q.b, 5, none⟩ = some (.int .i64 p.win)) ∧ Chg none w1 v)) (by kernel_rfl) hS0 (fun _ => ?_)
                    refine wpAnyH_take (i := 0) (oi := ⟨some 91, _, _, _, _, _⟩) (v := ?_) rfl (by kernel_rfl) (by kernel_rfl) (by kernel_rfl) (fun _ _ _ h => h) (Or.inl ⟨by rfl, ?_⟩) (by assumption) ?_
                    rotate_left
                    · intro w hSw; (try dsimp only at hSw); go_simp; (try with_reducible rfl)
                    try simp only [Act.put, List.setIfInBounds_toArray, List.set_cons_zero, List.set_cons_succ]
                    refine wpAnyH_take (i := 1) (oi := ⟨some 92, _, _, _, _, _⟩) (v := ?_) rfl (by kernel_rfl) (by kernel_rfl) (by kernel_rfl) (fun _ _ _ h => h) (Or.inl ⟨by rfl, ?_⟩) (by assumption) ?_
                    rotate_left
                    · intro w hSw; (try dsimp only at hSw); go_simp; (try with_reducible rfl)
                    try simp only [Act.put, List.setIfInBounds_toArray, List.set_cons_zero, List.set_cons_succ]
                    refine wpAnyH_take (i := 2) (oi := ⟨some 93, _, _, _, _, _⟩) (v := ?_) rfl (by kernel_rfl) (by kernel_rfl) (by kernel_rfl) (fun _ _ _ h => h) (Or.inl ⟨by rfl, ?_⟩) (by assumption) ?_
                    rotate_left
                    · intro w hSw; (try dsimp only at hSw); go_simp; (try with_reducible rfl)
                    try simp only [Act.put, List.setIfInBounds_toArray, List.set_cons_zero, List.set_cons_succ]
                    refine wpAnyH_take (i := 3) (oi := ⟨some 94, _, _, _, _, _⟩) (v := ?_) rfl (by kernel_rfl) (by kernel_rfl) (by kernel_rfl) (fun _ _ _ h => h) (Or.inl ⟨by rfl, ?_⟩) (by assumption) ?_
                    rotate_left
                    · intro w hSw; (try dsimp only at hSw); go_simp; (try with_reducible rfl)
                    try simp only [Act.put, List.setIfInBounds_toArray, List.set_cons_zero, List.set_cons_succ]
                    refine wpAnyH_take (i := 4) (oi := ⟨some 95, _, _, _, _, _⟩) (v := ?_) rfl (by kernel_rfl) (by kernel_rfl) (by kernel_rfl) (fun _ _ _ h => h) (Or.inl ⟨by rfl, ?_⟩) (by assumption) ?_
                    rotate_left
                    · intro w hSw; (try dsimp only at hSw); go_simp; (try with_reducible rfl)
                    try simp only [Act.put, List.setIfInBounds_toArray, List.set_cons_zero, List.set_cons_succ]
                    refine wpAnyH_take (i := 5) (oi := ⟨some 96, _, _, _, _, _⟩) (v := ?_) rfl (by kernel_rfl) (by kernel_rfl) (by kernel_rfl) (fun _ _ _ h => h) (Or.inl ⟨by rfl, ?_⟩) (by assumption) ?_
                    rotate_left
                    · intro w hSw; (try dsimp only at hSw); go_simp; (try with_reducible rfl)
                    try simp only [Act.put, List.setIfInBounds_toArray, List.set_cons_zero, List.set_cons_succ]
                    refine wpAnyH_take (i := 6) (oi := ⟨some 97, _, _, _, _, _⟩) (v := ?_) rfl (by kernel_rfl) (by kernel_rfl) (by kernel_rfl) (fun _ _ _ h => h) (Or.inl ⟨by rfl, ?_⟩) (by assumption) ?_
                    rotate_left
                    · intro w hSw; (try dsimp only at hSw); go_simp; (try with_reducible rfl)
                    try simp only [Act.put, List.setIfInBounds_toArray, List.set_cons_zero, List.set_cons_succ]
                    refine wpAnyH_take (i := 7) (oi := ⟨some 98, _, _, _, _, _⟩) (v := ?_) rfl (by kernel_rfl) (by kernel_rfl) (by kernel_rfl) (fun _ _ _ h => h) (Or.inl ⟨by rfl, ?_⟩) (by assumption) ?_
                    rotate_left
                    · intro w hSw; (try dsimp only at hSw); go_simp; (try with_reducible rfl)
                    try simp only [Act.put, List.setIfInBounds_toArray, List.set_cons_zero, List.set_cons_succ]
                    refine wpAnyH_take (i := 8) (oi := ⟨some 99, _, _, _, _, _⟩) (v := ?_) rfl (by kernel_rfl) (by kernel_rfl) (by kernel_rfl) (fun _ _ _ h => h) (Or.inl ⟨by rfl, ?_⟩) (by assumption) ?_
                    rotate_left
                    · intro w hSw; (try dsimp only at hSw); go_simp; (try with_reducible rfl)
                    try simp only [Act.put, List.setIfInBounds_toArray, List.set_cons_zero, List.set_cons_succ]
                    refine wpAnyH_take (i := 9) (oi := ⟨some 100, _, _, _, _, _⟩) (v := ?_) rfl (by kernel_rfl) (by kernel_rfl) (by kernel_rfl) (fun _ _ _ h => h) (Or.inl ⟨by rfl, ?_⟩) (by assumption) ?_
                    rotate_left
                    · intro w hSw; (try dsimp only at hSw); go_simp; (try with_reducible rfl)
                    try simp only [Act.put, List.setIfInBounds_toArray, List.set_cons_zero, List.set_cons_succ]
                    refine wpAnyH_take (i := 10) (oi := ⟨some 101, _, _, _, _, _⟩) (v := ?_) rfl (by kernel_rfl) (by kernel_rfl) (by kernel_rfl) (fun _ _ _ h => h) (Or.inl ⟨by rfl, ?_⟩) (by assumption) ?_
                    rotate_left
                    · intro w hSw; (try dsimp only at hSw); go_simp; (try with_reducible rfl)
                    try simp only [Act.put, List.setIfInBounds_toArray, List.set_cons_zero, List.set_cons_succ]
                    refine wpAnyH_take (i := 12) (oi := ⟨some 103, _, _, _, _, _⟩) (v := ?_) rfl (by kernel_rfl) (by kernel_rfl) (by kernel_rfl) (fun _ _ _ h => h) (Or.inl ⟨by rfl, ?_⟩) (by assumption) ?_
                    rotate_left
                    · intro w hSw; (try dsimp only at hSw); go_simp; (try with_reducible rfl)
                    try simp only [Act.put, List.setIfInBounds_toArray, List.set_cons_zero, List.set_cons_succ]
                    refine wpAnyH_take (i := 13) (oi := ⟨some 104, _, _, _, _, _⟩) (v := ?_) rfl (by kernel_rfl) (by kernel_rfl) (by kernel_rfl) (fun _ _ _ h => h) (Or.inl ⟨by rfl, ?_⟩) (by assumption) ?_
                    rotate_left
                    · intro w hSw; (try dsimp only at hSw); go_simp; (try with_reducible rfl)
                    try simp only [Act.put, List.setIfInBounds_toArray, List.set_cons_zero, List.set_cons_succ]
                    refine wpAnyH_take (i := 14) (oi := ⟨some 105, _, _, _, _, _⟩) (v := ?_) rfl (by kernel_rfl) (by kernel_rfl) (by kernel_rfl) (fun _ _ _ h => h) (Or.inl ⟨by rfl, ?_⟩) (by assumption) ?_
                    rotate_left
                    · intro w hSw; (try dsimp only at hSw); go_simp; (try with_reducible rfl)
                    try simp only [Act.put, List.setIfInBounds_toArray, List.set_cons_zero, List.set_cons_succ]
                    refine wpAnyH_take (i := 15) (oi := ⟨some 106, _, _, _, _, _⟩) (v := ?_) rfl (by kernel_rfl) (by kernel_rfl) (by kernel_rfl) (fun _ _ _ h => h) (Or.inl ⟨by rfl, ?_⟩) (by assumption) ?_
                    rotate_left
                    · intro w hSw; (try dsimp only at hSw); go_simp; (try with_reducible rfl)
                    try simp only [Act.put, List.setIfInBounds_toArray, List.set_cons_zero, List.set_cons_succ]
                    refine wpAnyH_ready (rs := [11]) (by kernel_rfl) (by simp) ?_
                    refine AllReadyH.cons (o := ⟨some 102, _, _, _, _, _⟩) rfl (fun K hK => ?_) ?_
                    rotate_left
                    · exact AllReadyH.nil
                    go_simp
                    go_at_call 32
                    refine (HLK.out _ (by first | exact gC | exact gC.drew)).mono ?_
                    rintro e w7 ⟨rfl, g7⟩
                    go_wp2_with fail
                    have hS7 := HXW.out _ g7
                    refine hK.out _ _ hS7 (fun _ => ?_)
                    clear hK K
                    try simp only [Act.put, List.setIfInBounds_toArray, List.set_cons_zero, List.set_cons_succ]
                    refine wpAnyH_take (i := 16) (oi := ⟨some 107, _, _, _, _, _⟩) (v := ?_) rfl (by kernel_rfl) (by kernel_rfl) (by kernel_rfl) (fun _ _ _ h => h) (Or.inl ⟨by rfl, ?_⟩) (by assumption) ?_
                    rotate_left
                    · intro w hSw; (try dsimp only at hSw); go_simp; (try with_reducible rfl)
                    try simp only [Act.put, List.setIfInBounds_toArray, List.set_cons_zero, List.set_cons_succ]
                    refine wpAnyH_take (i := 17) (oi := ⟨some 108, _, _, _, _, _⟩) (v := ?_) rfl (by kernel_rfl) (by kernel_rfl) (by kernel_rfl) (fun _ _ _ h => h) (Or.inl ⟨by rfl, ?_⟩) (by assumption) ?_
                    rotate_left
                    · intro w hSw; (try dsimp only at hSw); go_simp; (try with_reducible rfl)
                    try simp only [Act.put, List.setIfInBounds_toArray, List.set_cons_zero, List.set_cons_succ]
                    refine wpAnyH_take (i := 18) (oi := ⟨some 109, _, _, _, _, _⟩) (v := ?_) rfl (by kernel_rfl) (by kernel_rfl) (by kernel_rfl) (fun _ _ _ h => h) (Or.inl ⟨by rfl, ?_⟩) (by assumption) ?_
                    rotate_left
                    · intro w hSw; (try dsimp only at hSw); go_simp; (try with_reducible rfl)
                    try simp only [Act.put, List.setIfInBounds_toArray, List.set_cons_zero, List.set_cons_succ]
                    refine wpAnyH_take (i := 19) (oi := ⟨some 110, _, _, _, _, _⟩) (v := undef) rfl (by kernel_rfl) (by kernel_rfl) (by kernel_rfl) (fun _ _ _ h => h) (Or.inr ⟨by rfl, rfl⟩) (by assumption) ?_
                    try simp only [Act.put, List.setIfInBounds_toArray, List.set_cons_zero, List.set_cons_succ]
                    refine wpAnyH_take (i := 20) (oi := ⟨some 111, _, _, _, _, _⟩) (v := undef) rfl (by kernel_rfl) (by kernel_rfl) (by kernel_rfl) (fun _ _ _ h => h) (Or.inr ⟨by rfl, rfl⟩) (by assumption) ?_
                    try simp only [Act.put, List.setIfInBounds_toArray, List.set_cons_zero, List.set_cons_succ]
                    refine wpAnyH_take (i := 21) (oi := ⟨some 112, _, _, _, _, _⟩) (v := undef) rfl (by kernel_rfl) (by kernel_rfl) (by kernel_rfl) (fun _ _ _ h => h) (Or.inr ⟨by rfl, rfl⟩) (by assumption) ?_
                    try simp only [Act.put, List.setIfInBounds_toArray, List.set_cons_zero, List.set_cons_succ]
                    refine wpAnyH_take (i := 22) (oi := ⟨some 113, _, _, _, _, _⟩) (v := undef) rfl (by kernel_rfl) (by kernel_rfl) (by kernel_rfl) (fun _ _ _ h => h) (Or.inr ⟨by rfl, rfl⟩) (by assumption) ?_
                    try simp only [Act.put, List.setIfInBounds_toArray, List.set_cons_zero, List.set_cons_succ]
                    refine wpAnyH_take (i := 23) (oi := ⟨some 114, _, _, _, _, _⟩) (v := undef) rfl (by kernel_rfl) (by kernel_rfl) (by kernel_rfl) (fun _ _ _ h => h) (Or.inr ⟨by rfl, rfl⟩) (by assumption) ?_
                    try simp only [Act.put, List.setIfInBounds_toArray, List.set_cons_zero, List.set_cons_succ]
                    refine wpAnyH_take (i := 24) (oi := ⟨some 115, _, _, _, _, _⟩) (v := undef) rfl (by kernel_rfl) (by kernel_rfl) (by kernel_rfl) (fun _ _ _ h => h) (Or.inr ⟨by rfl, rfl⟩) (by assumption) ?_
                    try simp only [Act.put, List.setIfInBounds_toArray, List.set_cons_zero, List.set_cons_succ]
                    refine wpAnyH_take (i := 25) (oi := ⟨some 116, _, _, _, _, _⟩) (v := undef) rfl (by kernel_rfl) (by kernel_rfl) (by kernel_rfl) (fun _ _ _ h => h) (Or.inr ⟨by rfl, rfl⟩) (by assumption) ?_
                    try simp only [Act.put, List.setIfInBounds_toArray, List.set_cons_zero, List.set_cons_succ]
                    refine wpAnyH_take (i := 26) (oi := ⟨some 117, _, _, _, _, _⟩) (v := undef) rfl (by kernel_rfl) (by kernel_rfl) (by kernel_rfl) (fun _ _ _ h => h) (Or.inr ⟨by rfl, rfl⟩) (by assumption) ?_
                    try simp only [Act.put, List.setIfInBounds_toArray, List.set_cons_zero, List.set_cons_succ]
                    refine wpAnyH_take (i := 27) (oi := ⟨some 118, _, _, _, _, _⟩) (v := undef) rfl (by kernel_rfl) (by kernel_rfl) (by kernel_rfl) (fun _ _ _ h => h) (Or.inr ⟨by rfl, rfl⟩) (by assumption) ?_
                    try simp only [Act.put, List.setIfInBounds_toArray, List.set_cons_zero, List.set_cons_succ]
                    refine wpAnyH_take (i := 28) (oi := ⟨some 119, _, _, _, _, _⟩) (v := ?_) rfl (by kernel_rfl) (by kernel_rfl) (by kernel_rfl) (fun _ _ _ h => h) (Or.inl ⟨by rfl, ?_⟩) (by assumption) ?_
                    rotate_left
                    · intro w hSw; (try dsimp only at hSw); go_simp; (try with_reducible rfl)
                    try simp only [Act.put, List.setIfInBounds_toArray, List.set_cons_zero, List.set_cons_succ]
                    refine wpAnyH_done (by kernel_rfl) ?_ _
                    all_goals go_wp2_with fail
                    all_goals go_roundw
                    all_goals first | exact ⟨j + 1, by omega, by go_num, by rw [HST.out], Lib.hid (by repeat (first | (with_reducible assumption) | (with_reducible refine Chg.drew ?_)))⟩ | (simp [intOf]; omega)
                · have e1 : decide (dz < 3) = false := by simp; omega
                  rw [e1] at hfit
                  have HST := Lib.hid (fitK_no (c := c) hfit)
                  clear hfit hjf
                  have gC := HG3.out
                  go_upto_region 15 with fail
                  have hS0 := HXW.out _ gC.drew
                  refine wp_region_held_drew (S := (fun v => (v.cell? ⟨q.b, 3, none⟩ = some (.slice (some ⟨q.d, 0, none⟩) M a.c4) ∧ v.cell? ⟨q.d, j, none⟩ = some (.int .i64 dz) ∧ v.cell? ⟨q.b, 5, none⟩ = some (.int .i64 p.win)) ∧ Chg none w1 v)) (by kernel_rfl) hS0 (fun _ => ?_)
                  refine wpAnyH_take (i := 0) (oi := ⟨some 91, _, _, _, _, _⟩) (v := ?_) rfl (by kernel_rfl) (by kernel_rfl) (by kernel_rfl) (fun _ _ _ h => h) (Or.inl ⟨by rfl, ?_⟩) (by assumption) ?_
                  rotate_left
                  · intro w hSw; (try dsimp only at hSw); go_simp; (try with_reducible rfl)
                  try simp only [Act.put, List.setIfInBounds_toArray, List.set_cons_zero, List.set_cons_succ]
                  refine wpAnyH_take (i := 1) (oi := ⟨some 92, _, _, _, _, _⟩) (v := ?_) rfl (by kernel_rfl) (by kernel_rfl) (by kernel_rfl) (fun _ _ _ h => h) (Or.inl ⟨by rfl, ?_⟩) (by assumption) ?_
                  rotate_left
                  · intro w hSw; (try dsimp only at hSw); go_simp; (try with_reducible rfl)
                  try simp only [Act.put, List.setIfInBounds_toArray, List.set_cons_zero, List.set_cons_succ]
                  refine wpAnyH_take (i := 2) (oi := ⟨some 93, _, _, _, _, _⟩) (v := ?_) rfl (by kernel_rfl) (by kernel_rfl) (by kernel_rfl) (fun _ _ _ h => h) (Or.inl ⟨by rfl, ?_⟩) (by assumption) ?_
                  rotate_left
                  · intro w hSw; (try dsimp only at hSw); go_simp; (try with_reducible rfl)
                  try simp only [Act.put, List.setIfInBounds_toArray, List.set_cons_zero, List.set_cons_succ]
                  refine wpAnyH_take (i := 3) (oi := ⟨some 94, _, _, _, _, _⟩) (v := ?_) rfl (by kernel_rfl) (by kernel_rfl) (by kernel_rfl) (fun _ _ _ h => h) (Or.inl ⟨by rfl, ?_⟩) (by assumption) ?_
                  rotate_left
                  · intro w hSw; (try dsimp only at hSw); go_simp; (try with_reducible rfl)
                  try simp only [Act.put, List.setIfInBounds_toArray, List.set_cons_zero, List.set_cons_succ]
                  refine wpAnyH_take (i := 4) (oi := ⟨some 95, _, _, _, _, _⟩) (v := ?_) rfl (by kernel_rfl) (by kernel_rfl) (by kernel_rfl) (fun _ _ _ h => h) (Or.inl ⟨by rfl, ?_⟩) (by assumption) ?_
                  rotate_left
                  · intro w hSw; (try dsimp only at hSw); go_simp; (try with_reducible rfl)
                  try simp only [Act.put, List.setIfInBounds_toArray, List.set_cons_zero, List.set_cons_succ]
                  refine wpAnyH_take (i := 5) (oi := ⟨some 96, _, _, _, _, _⟩) (v := ?_) rfl (by kernel_rfl) (by kernel_rfl) (by kernel_rfl) (fun _ _ _ h => h) (Or.inl ⟨by rfl, ?_⟩) (by assumption) ?_
                  rotate_left
                  · intro w hSw; (try dsimp only at hSw); go_simp; (try with_reducible rfl)
                  try simp only [Act.put, List.setIfInBounds_toArray, List.set_cons_zero, List.set_cons_succ]
                  refine wpAnyH_take (i := 6) (oi := ⟨some 97, _, _, _, _, _⟩) (v := ?_) rfl (by kernel_rfl) (by kernel_rfl) (by kernel_rfl) (fun _ _ _ h => h) (Or.inl ⟨by rfl, ?_⟩) (by assumption) ?_
                  rotate_left
                  · intro w hSw; (try dsimp only at hSw); go_simp; (try with_reducible rfl)
                  try simp only [Act.put, List.setIfInBounds_toArray, List.set_cons_zero, List.set_cons_succ]
                  refine wpAnyH_take (i := 7) (oi := ⟨some 98, _, _, _, _, _⟩) (v := ?_) rfl (by kernel_rfl) (by kernel_rfl) (by kernel_rfl) (fun _ _ _ h => h) (Or.inl ⟨by rfl, ?_⟩) (by assumption) ?_
                  rotate_left
                  · intro w hSw; (try dsimp only at hSw); go_simp; (try with_reducible rfl)
                  try simp only [Act.put, List.setIfInBounds_toArray, List.set_cons_zero, List.set_cons_succ]
                  refine wpAnyH_take (i := 8) (oi := ⟨some 99, _, _, _, _, _⟩) (v := ?_) rfl (by kernel_rfl) (by kernel_rfl) (by kernel_rfl) (fun _ _ _ h => h) (Or.inl ⟨by rfl, ?_⟩) (by assumption) ?_
                  rotate_left
                  · intro w hSw; (try dsimp only at hSw); go_simp; (try with_reducible rfl)
                  try simp only [Act.put, List.setIfInBounds_toArray, List.set_cons_zero, List.set_cons_succ]
                  refine wpAnyH_take (i := 9) (oi := ⟨some 100, _, _, _, _, _⟩) (v := undef) rfl (by kernel_rfl) (by kernel_rfl) (by kernel_rfl) (fun _ _ _ h => h) (Or.inr ⟨by rfl, rfl⟩) (by assumption) ?_
                  try simp only [Act.put, List.setIfInBounds_toArray, List.set_cons_zero, List.set_cons_succ]
                  refine wpAnyH_take (i := 10) (oi := ⟨some 101, _, _, _, _, _⟩) (v := undef) rfl (by kernel_rfl) (by kernel_rfl) (by kernel_rfl) (fun _ _ _ h => h) (Or.inr ⟨by rfl, rfl⟩) (by assumption) ?_
                  try simp only [Act.put, List.setIfInBounds_toArray, List.set_cons_zero, List.set_cons_succ]
                  refine wpAnyH_take (i := 12) (oi := ⟨some 103, _, _, _, _, _⟩) (v := undef) rfl (by kernel_rfl) (by kernel_rfl) (by kernel_rfl) (fun _ _ _ h => h) (Or.inr ⟨by rfl, rfl⟩) (by assumption) ?_
                  try simp only [Act.put, List.setIfInBounds_toArray, List.set_cons_zero, List.set_cons_succ]
                  refine wpAnyH_take (i := 13) (oi := ⟨some 104, _, _, _, _, _⟩) (v := undef) rfl (by kernel_rfl) (by kernel_rfl) (by kernel_rfl) (fun _ _ _ h => h) (Or.inr ⟨by rfl, rfl⟩) (by assumption) ?_
                  try simp only [Act.put, List.setIfInBounds_toArray, List.set_cons_zero, List.set_cons_succ]
                  refine wpAnyH_take (i := 14) (oi := ⟨some 105, _, _, _, _, _⟩) (v := undef) rfl (by kernel_rfl) (by kernel_rfl) (by kernel_rfl) (fun _ _ _ h => h) (Or.inr ⟨by rfl, rfl⟩) (by assumption) ?_
                  try simp only [Act.put, List.setIfInBounds_toArray, List.set_cons_zero, List.set_cons_succ]
                  refine wpAnyH_take (i := 15) (oi := ⟨some 106, _, _, _, _, _⟩) (v := undef) rfl (by kernel_rfl) (by kernel_rfl) (by kernel_rfl) (fun _ _ _ h => h) (Or.inr ⟨by rfl, rfl⟩) (by assumption) ?_
                  try simp only [Act.put, List.setIfInBounds_toArray, List.set_cons_zero, List.set_cons_succ]
                  refine wpAnyH_take (i := 11) (oi := ⟨some 102, _, _, _, _, _⟩) (v := undef) rfl (by kernel_rfl) (by kernel_rfl) (by kernel_rfl) (fun _ _ _ h => h) (Or.inr ⟨by rfl, rfl⟩) (by assumption) ?_
                  try simp only [Act.put, List.setIfInBounds_toArray, List.set_cons_zero, List.set_cons_succ]
                  refine wpAnyH_take (i := 16) (oi := ⟨some 107, _, _, _, _, _⟩) (v := undef) rfl (by kernel_rfl) (by kernel_rfl) (by kernel_rfl) (fun _ _ _ h => h) (Or.inr ⟨by rfl, rfl⟩) (by assumption) ?_
                  try simp only [Act.put, List.setIfInBounds_toArray, List.set_cons_zero, List.set_cons_succ]
                  refine wpAnyH_take (i := 17) (oi := ⟨some 108, _, _, _, _, _⟩) (v := ?_) rfl (by kernel_rfl) (by kernel_rfl) (by kernel_rfl) (fun _ _ _ h => h) (Or.inl ⟨by rfl, ?_⟩) (by assumption) ?_
                  rotate_left
                  · intro w hSw; (try dsimp only at hSw); go_simp; (try with_reducible rfl)
                  try simp only [Act.put, List.setIfInBounds_toArray, List.set_cons_zero, List.set_cons_succ]
                  refine wpAnyH_take (i := 18) (oi := ⟨some 109, _, _, _, _, _⟩) (v := ?_) rfl (by kernel_rfl) (by kernel_rfl) (by kernel_rfl) (fun _ _ _ h => h) (Or.inl ⟨by rfl, ?_⟩) (by assumption) ?_
                  rotate_left
                  · intro w hSw; (try dsimp only at hSw); go_simp; (try with_reducible rfl)
                  try simp only [Act.put, List.setIfInBounds_toArray, List.set_cons_zero, List.set_cons_succ]
                  refine wpAnyH_take (i := 19) (oi := ⟨some 110, _, _, _, _, _⟩) (v := undef) rfl (by kernel_rfl) (by kernel_rfl) (by kernel_rfl) (fun _ _ _ h => h) (Or.inr ⟨by rfl, rfl⟩) (by assumption) ?_
                  try simp only [Act.put, List.setIfInBounds_toArray, List.set_cons_zero, List.set_cons_succ]
                  refine wpAnyH_take (i := 20) (oi := ⟨some 111, _, _, _, _, _⟩) (v := undef) rfl (by kernel_rfl) (by kernel_rfl) (by kernel_rfl) (fun _ _ _ h => h) (Or.inr ⟨by rfl, rfl⟩) (by assumption) ?_
                  try simp only [Act.put, List.setIfInBounds_toArray, List.set_cons_zero, List.set_cons_succ]
                  refine wpAnyH_take (i := 21) (oi := ⟨some 112, _, _, _, _, _⟩) (v := undef) rfl (by kernel_rfl) (by kernel_rfl) (by kernel_rfl) (fun _ _ _ h => h) (Or.inr ⟨by rfl, rfl⟩) (by assumption) ?_
                  try simp only [Act.put, List.setIfInBounds_toArray, List.set_cons_zero, List.set_cons_succ]
                  refine wpAnyH_take (i := 22) (oi := ⟨some 113, _, _, _, _, _⟩) (v := undef) rfl (by kernel_rfl) (by kernel_rfl) (by kernel_rfl) (fun _ _ _ h => h) (Or.inr ⟨by rfl, rfl⟩) (by assumption) ?_
                  try simp only [Act.put, List.setIfInBounds_toArray, List.set_cons_zero, List.set_cons_succ]
                  refine wpAnyH_take (i := 23) (oi := ⟨some 114, _, _, _, _, _⟩) (v := undef) rfl (by kernel_rfl) (by kernel_rfl) (by kernel_rfl) (fun _ _ _ h => h) (Or.inr ⟨by rfl, rfl⟩) (by assumption) ?_
                  try simp only [Act.put, List.setIfInBounds_toArray, List.set_cons_zero, List.set_cons_succ]
                  refine wpAnyH_take (i := 24) (oi := ⟨some 115, _, _, _, _, _⟩) (v := undef) rfl (by kernel_rfl) (by kernel_rfl) (by kernel_rfl) (fun _ _ _ h => h) (Or.inr ⟨by rfl, rfl⟩) (by assumption) ?_
                  try simp only [Act.put, List.setIfInBounds_toArray, List.set_cons_zero, List.set_cons_succ]
                  refine wpAnyH_take (i := 25) (oi := ⟨some 116, _, _, _, _, _⟩) (v := undef) rfl (by kernel_rfl) (by kernel_rfl) (by kernel_rfl) (fun _ _ _ h => h) (Or.inr ⟨by rfl, rfl⟩) (by assumption) ?_
                  try simp only [Act.put, List.setIfInBounds_toArray, List.set_cons_zero, List.set_cons_succ]
                  refine wpAnyH_take (i := 26) (oi := ⟨some 117, _, _, _, _, _⟩) (v := undef) rfl (by kernel_rfl) (by kernel_rfl) (by kernel_rfl) (fun _ _ _ h => h) (Or.inr ⟨by rfl, rfl⟩) (by assumption) ?_
                  try simp only [Act.put, List.setIfInBounds_toArray, List.set_cons_zero, List.set_cons_succ]
                  refine wpAnyH_take (i := 27) (oi := ⟨some 118, _, _, _, _, _⟩) (v := undef) rfl (by kernel_rfl) (by kernel_rfl) (by kernel_rfl) (fun _ _ _ h => h) (Or.inr ⟨by rfl, rfl⟩) (by assumption) ?_
                  try simp only [Act.put, List.setIfInBounds_toArray, List.set_cons_zero, List.set_cons_succ]
                  refine wpAnyH_take (i := 28) (oi := ⟨some 119, _, _, _, _, _⟩) (v := ?_) rfl (by kernel_rfl) (by kernel_rfl) (by kernel_rfl) (fun _ _ _ h => h) (Or.inl ⟨by rfl, ?_⟩) (by assumption) ?_
                  rotate_left
                  · intro w hSw; (try dsimp only at hSw); go_simp; (try with_reducible rfl)
                  try simp only [Act.put, List.setIfInBounds_toArray, List.set_cons_zero, List.set_cons_succ]
                  refine wpAnyH_done (by kernel_rfl) ?_ _
                  all_goals go_wp2_with fail
                  all_goals go_roundw
                  all_goals first | exact ⟨j + 1, by omega, by go_num, by rw [HST.out], Lib.hid (by repeat (first | (with_reducible assumption) | (with_reducible refine Chg.drew ?_)))⟩ | (simp [intOf]; omega)
              · have hjM : j = M := by omega
                subst hjM
                have hfm : fitM S c = fitK S c j := by unfold fitM; rw [hmS]
                cases hfk : fitK S c j with
                | none =>
                  have HRE := Lib.hid (HNE.out c HLS.out (hfm.trans hfk))
                  have HPO : Hid (RPost2 w q S wr) := Lib.hid ⟨r, HAT.out.chg HG3.out, HSIM.out, HKP.out.chg HG3.out⟩
                  unfold bestZ
                  clear hfm hfk ho
                  go_wp2_with fail
                  go_ret3
                  rw [HRE.out]
                  exact ⟨rfl, HPO.out⟩
                | some m =>
                  have hm := fitK_lt S c j m hfk
                  have HRE := Lib.hid (HYS.out c m HLS.out (hfm.trans hfk))
                  have e3 : decide (((m : Nat) : Int) < 0) = false := by simp
                  have hsim := HSIM.out
                  have hne : r.st ≠ [] := by intro e; rw [e] at hlen; simp at hlen; omega
                  have hnd := HAT.out.apart hne
                  obtain ⟨b1, b2, b3, b4, b5, s1, s2, s3, s4, p1, p2, p3, n1', n2', dd1, -, hrs⟩ := ho.apart hnd
                  obtain ⟨row, hrow⟩ : ∃ row, r.tm[c]? = some row := ⟨_, List.getElem?_eq_getElem (by rw [htl]; exact hlt)⟩
                  obtain ⟨hrl, hrk⟩ := hsim.tm c row hrow
                  rw [hmS] at hrl hrk
                  obtain ⟨hA5, A', c', b', z4, hrb, hrI⟩ := ho.tm.one hrow
                  obtain ⟨hA', zk, zkf⟩ := hrI.one (hrk m hm)
                  obtain ⟨g0, g1, g2, g3, g4, g5⟩ := hrs b' (List.mem_of_getElem? hrb)
                  obtain ⟨hA1, zs, zsf⟩ := ho.st.one (hsim.sti HX.out)
                  obtain ⟨yp, hyp⟩ : ∃ yp, r.pe[c]? = some yp := ⟨_, List.getElem?_eq_getElem (by omega)⟩
                  obtain ⟨hA2, zp, zpf⟩ := ho.pe.one hyp
                  obtain ⟨yn, hyn⟩ : ∃ yn, r.sn[c]? = some yn := ⟨_, List.getElem?_eq_getElem (by omega)⟩
                  obtain ⟨hA3, zn, znf⟩ := ho.sn.one hyn
                  have hsn := hsim.ask HX.out (by rw [hmS]; exact hm) hrow now (by omega) (by omega)
                  have hset := (((ho.setSt hnd c 1 (by rw [hlen]; exact hlt)).setPe hnd c m (by show c < r.pe.length; omega)).setSn hnd c now (by show c < r.sn.length; omega)).setTm hnd hrow hrb (by rw [hrl]; exact hm) (S.ts c m + 1)
                  have hts := HOK.out.ts c m
                  obtain ⟨T, hT⟩ : ∃ T, T = S.ts c m := ⟨_, rfl⟩
                  rw [← hT] at hsn hset hts zk
                  have ht2 : T ≤ 1000000000000 := by omega
                  have ht1 : 0 ≤ T := hts.1
                  have mem : ∀ g, g ∈ q.all → q.has g := fun g h => h
                  have hkk := (((HKP.out.chg HG3.out).setCell ⟨q.s, c, none⟩ (.int .i64 1) (.inl (mem q.s (by unfold Rb.all; simp)))).setCell ⟨q.p, c, none⟩ (.int .i64 m) (.inl (mem q.p (by unfold Rb.all; simp)))).setCell ⟨q.n, c, none⟩ (.int .i64 now) (.inl (mem q.n (by unfold Rb.all; simp)))
                  have HPO : Hid (RPost2 w q (askAt S c m now) ((((wr.setCell ⟨q.s, c, none⟩ (.int .i64 1)).setCell ⟨q.p, c, none⟩ (.int .i64 m)).setCell ⟨q.n, c, none⟩ (.int .i64 now)).setCell ⟨b', m, none⟩ (.int .i64 (T + 1)))) :=
                    Lib.hid ⟨_, ⟨⟨a, hset⟩, fun _ => hnd⟩, hsn, hkk.setCell _ _ (.inl (mem b' (by unfold Rb.all; simp [List.mem_of_getElem? hrb])))⟩
                  rw [hA1] at x0
                  rw [hA2] at x1
                  rw [hA3] at x2
                  rw [hA5] at x4
                  rw [hA', hrl] at z4
                  have b1' := b1.symm
                  have b2' := b2.symm
                  have b3' := b3.symm
                  have s1' := s1.symm
                  have s2' := s2.symm
                  have p1' := p1.symm
                  have s4' := s4.symm
                  have p3' := p3.symm
                  have n2'' := n2'.symm
                  have k1 := g1.symm
                  have k2 := g2.symm
                  have k3 := g3.symm
                  have k0 := g0.symm
                  unfold bestZ
                  clear hfm hfk ho hsim hset hsn hkk hnd hne hrow hrk hrI hrb hyp hyn hA1 hA2 hA3 hA5 hA' hts hT mem hrs
                  go_wp2_with fail
                  go_ret3
                  rw [HRE.out]
                  exact ⟨rfl, HPO.out⟩
          · have e0 : (x.st != 0) = true := by simp [h0]
            have HT2 : Hid (∀ x ∈ S.ch.take (c + 1), (x.st == 0) = false) := by
              refine Lib.hid fun y hy => ?_
              rw [List.take_add_one, hx] at hy
              rcases List.mem_append.1 hy with hy | hy
              · exact HT.out y hy
              · simp at hy; subst hy; simp [h0]
            clear hx h0 HT hA1 ho
            go_wp2
            go_roundw
            case rel => exact ⟨c + 1, by omega, by go_num, HT2, HG⟩
            case measure => simp [intOf]; omega
        · have hck : c = k := by omega
          have hres : leastM S = none := by
            have := HT.out
            rw [hck, ← hlS, List.take_length] at this
            exact least_none this
          have hr := HN1.out hres
          have HPO : Hid (RPost2 w q S wr) := Lib.hid ⟨r, HAT.out.chg HG.out, HSIM.out, HKP.out.chg HG.out⟩
          have HRE := Lib.hid hr
          clear hres HT ho hr
          go_wp2
          go_ret3
          rw [HRE.out]
          exact ⟨rfl, HPO.out⟩

end Go.Proofs.Ytippkdjggipnmaa
