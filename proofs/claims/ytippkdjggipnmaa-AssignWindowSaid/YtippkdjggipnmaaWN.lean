/-
  The law AssignWindow, walked.
-/
import Derived.Test.YtippkdjggipnmaaHD
import Derived.Test.YtippkdjggipnmaaQ2
namespace Go.Proofs.Ytippkdjggipnmaa
open Go.RowKit Go.Maps

/-- What stands between two calls. -/
structure WinRel (w : World) (q : Qb) (nc np : Nat) (win : Int) (k : Nat) (p : Pl) (now : Int) (wr : World) : Prop where
  at_ : PlanAt wr q (101 * k) p
  ok : p.ok (101 * k)
  nc : p.ch.length = nc
  np : p.pe.length = np
  wn : p.win = win
  win : p.winOk
  now : 0 ≤ now ∧ now ≤ 8 * k
  chg : Chg none w wr

section
variable {w wr w3 : World} {q : Qb} {nc np k : Nat} {win : Int} {p p' : Pl} {now now' : Int}
theorem WinRel.go (h : WinRel w q nc np win k p now wr) {o : Obj} (hp : PlanAt w3 q (101 * k + 101) p') (hok : p'.ok (101 * k + 101)) (h1 : p'.ch.length = p.ch.length) (h2 : p'.pe.length = p.pe.length) (h3 : p'.win = p.win)
    (hk : Kept q.has (wr.alloc o) w3) (hw : p'.winOk) (hn : 0 ≤ now' ∧ now' ≤ 8 * k + 8) (hq : ∀ g, q.has g → w.heap.size ≤ g) : WinRel w q nc np win (k + 1) p' now' w3 :=
  ⟨hp, hok, h1.trans h.nc, h2.trans h.np, h3.trans h.wn, hw, by omega, Kept.fresh (h.chg.alloc o) hk hq⟩
theorem WinRel.on (h : WinRel w q nc np win k p now wr) (c : Chg none wr w3) : WinRel w q nc np win k p now w3 := ⟨h.at_.chg c, h.ok, h.nc, h.np, h.wn, h.win, h.now, h.chg.trans c⟩
end

theorem hadM_win (p : Pl) (c : Int) : (hadM p c).1.win = p.win := by
  unfold hadM
  split
  · split
    · rfl
    · split <;> rfl
  · rfl
theorem badM_win (p : Pl) (c k : Int) : (badM p c k).1.win = p.win := by
  unfold badM
  split
  · split <;> rfl
  · rfl

set_option maxRecDepth 100000 in
set_option maxHeartbeats 16000000 in
theorem win_main (nc np : Nat) (win tim : Int) (A : Option Addr) (L : List Opn) (ca : Nat) (w : World) (hm : mayP nc np win tim) (hL : ∀ o ∈ L, o.wide) (hA : RowsAt w 4 A Opn.cells L) (h150 : L.length ≤ 150) :
    Calls Try.prog 5 #[.int .i64 nc, .int .i64 np, .int .i64 win, .int .i64 tim, .slice A L.length ca] w fun e w' => e = .returned (.bool true) ∧ Chg none w w' := by
  have HN := Lib.hid (new_yes nc np win tim w hm)
  have HOK := Lib.hid (newP_ok hm)
  have HWI := Lib.hid (newP_win hm)
  have hnc : nc ≤ 100 := by have := hm.1; omega
  have hnp : np ≤ 64 := by have := hm.2.1; omega
  have HMK := Lib.hid (make52 np (by omega))
  have HL := Lib.hid hL
  have HA := Lib.hid hA
  clear hm hL hA
  go_enter Try.func5, Try.ntmps5
  go_wp2_with fail
  refine HN.out.mono ?_
  rintro e w1 ⟨q, rfl, h1, hq, g1⟩
  have H1 := Lib.hid h1
  have HQ := Lib.hid hq
  have G1 := Lib.hid g1
  clear h1 hq g1 HN
  have e150 : decide ((150 : Int) < (L.length : Int)) = false := by simp; omega
  go_wp2_with fail
  go_loopw [13, 50] (fun s13 s50 wr => ∃ (k : Nat) (p : Pl) (now : Int), k ≤ L.length ∧ s50 = .int .i64 k ∧ s13 = .int .i64 now ∧ Hid (WinRel w q nc np win k p now wr)) (fun _ i _ => L.length - (intOf i).toNat)
  case atStart => exact ⟨0, newP nc np win tim, 0, Nat.zero_le _, rfl, rfl, Lib.hid ⟨H1.out, HOK.out, List.length_replicate, List.length_replicate, rfl, HWI.out, by omega, G1.out⟩⟩
  case round =>
    obtain ⟨k, p, now, hk, rfl, rfl, HR⟩ := hrel
    clear G1 H1 HOK HWI
    by_cases hlt : k < L.length
    · obtain ⟨o, ho⟩ : ∃ o, L[k]? = some o := ⟨_, List.getElem?_eq_getElem hlt⟩
      obtain ⟨bA, oA, rfl, hbA, hcA⟩ := HA.out.four (by intro h; rw [h] at hlt; simp at hlt)
      obtain ⟨x0, x1, x2, x3⟩ := hcA k o ho
      have hg := HR.out.chg
      have y0 := World.grownBy.cell hg x0 (by simp)
      have y1 := World.grownBy.cell hg x1 (by simp)
      have y2 := World.grownBy.cell hg x2 (by simp)
      have y3 := World.grownBy.cell hg x3 (by simp)
      have hz := hg.size
      have hw := HL.out o (List.mem_of_getElem? ho)
      have HW := Lib.hid hw
      have hnow := HR.out.now
      obtain ⟨n0, n1⟩ := hnow
      clear hcA hg x0 x1 x2 x3 ho hw
      obtain ⟨kind, oi, ok_, on⟩ := o
      dsimp only at y0 y1 y2 y3
      go_upto_block 2 with fail
      go_cut [13] (fun s13 wx => ∃ (p' : Pl) (now' : Int), s13 = .int .i64 now' ∧ Hid (WinRel w q nc np win (k + 1) p' now' wx))
      case first =>
        have hp8 := fun (o : Obj) => HR.out.at_.alloc o
        have HP8 := Lib.hid hp8
        have HOKp := Lib.hid HR.out.ok
        have HGO := Lib.hid (fun (p' : Pl) (now' : Int) (w3 : World) (o : Obj) => HR.out.go (p' := p') (now' := now') (w3 := w3) (o := o))
        have HWP := Lib.hid HR.out.win
        clear hp8
        have u0 := u64_pos on
        by_cases k1 : kind = 1
        · as_aux_lemma =>
            have e1 : (kind == 1) = true := by simp [k1]
            obtain ⟨D, hD⟩ : ∃ D, now + IntKind.u64.wrap on % 9 = D := ⟨_, rfl⟩
            have hd : now ≤ D ∧ D ≤ now + 8 := by omega
            have HNX : Hid (∀ o, Calls Try.prog 13 #[.pointer (some ⟨q.b, 0, none⟩), .int .i64 D] (wr.alloc o) (NPost (wr.alloc o) q (101 * k + 101) (nextM p D))) :=
              Lib.hid fun o => next_any D _ q (101 * k) p (HP8.out o) HOKp.out (by omega) ⟨by omega, by omega⟩
            rw [← hD] at HNX
            have HD := Lib.hid hD
            obtain ⟨no, hno⟩ : ∃ no, (nextM p D).2 = no := ⟨_, rfl⟩
            have HNO := Lib.hid hno
            have HNOK := Lib.hid (nextM_ok (now := D) HOKp.out ⟨by omega, by omega⟩)
            clear hD hno
            subst k1
            go_wp2_with fail
            refine (HNX.out _).mono ?_
            rintro e w3 ⟨rfl, h3, k3⟩
            rw [HD.out] at h3 ⊢
            rw [HNO.out]
            have HEND : Hid (WinRel w q nc np win (k + 1) (nextM p D).1 D w3) := Lib.hid (HGO.out _ _ _ _ h3 HNOK.out (nextM_len p D).1 (nextM_len p D).2.1 (nextM_len p D).2.2.1 k3 (win_next HWP.out) (by omega) HQ.out)
            have H3 := Lib.hid h3
            clear h3 k3
            cases no with
            | none =>
              unfold next3
              go_wp2_with fail
              go_roundw
              case rel => exact ⟨k + 1, _, _, by omega, by go_num, rfl, HEND⟩
              case measure => simp [intOf]; omega
            | some ck =>
              obtain ⟨c, kk⟩ := ck
              obtain ⟨hta, htd⟩ := next_told HNO.out
              have hc := (next_open HNO.out).1
              have hcn : c < nc := by have := HR.out.nc; omega
              have HAK := Lib.hid (asked_any c w3 q _ _ H3.out HNOK.out)
              have HDM := Lib.hid (fun (w4 : World) (g : Chg none w3 w4) => dem_any kk w4 q _ _ (H3.out.chg g) HNOK.out)
              rw [hta] at HAK
              have d3 : decide (3 ≤ demM (nextM p D).1 kk) = false := decide_eq_false (by omega)
              obtain ⟨DM, hDM⟩ : ∃ DM, demM (nextM p D).1 kk = DM := ⟨_, rfl⟩
              rw [hDM] at d3 HDM
              have n1 : ((kk : Int) != (kk : Int)) = false := by simp
              have n2 : (D != D) = false := by simp
              unfold next3
              clear hta htd hc hDM
              go_wp2_with fail
              refine HAK.out.mono ?_
              rintro e w4 ⟨rfl, g4⟩
              unfold tri
              have HEND4 := Lib.hid (HEND.out.on g4)
              have HDM4 := Lib.hid (HDM.out w4 g4)
              clear g4
              go_wp2_with fail
              refine HDM4.out.mono ?_
              rintro e w5 ⟨rfl, rfl⟩
              go_wp2_with fail
              go_meet
              exact ⟨_, _, rfl, HEND4⟩
        · have e1 : (kind == 1) = false := by simp [k1]
          by_cases k2 : kind = 2
          · as_aux_lemma =>
              have e2 : (kind == 2) = true := by simp [k2]
              have HHD : Hid (∀ o, Calls Try.prog 15 #[.pointer (some ⟨q.b, 0, none⟩), .int .i64 oi] (wr.alloc o) (HPost (wr.alloc o) q (101 * k + 101) (hadM p oi))) :=
                Lib.hid fun o => (had_any oi _ q (101 * k) p (HP8.out o) HOKp.out).mono fun _ _ h => ⟨h.1, h.2.1.mono (by omega), h.2.2⟩
              have HOK2 := Lib.hid ((hadM_ok oi HOKp.out).mono (m := 101 * k + 101) (by omega))
              have HLE := Lib.hid (hadM_len p oi)
              have HEND := Lib.hid (fun (w3 : World) (o : Obj) (h3 : PlanAt w3 q (101 * k + 101) (hadM p oi).1) (k3 : Kept q.has (wr.alloc o) w3) => HGO.out _ now w3 o h3 HOK2.out HLE.out.1 HLE.out.2 (hadM_win p oi) k3 (win_had oi HWP.out) (by omega) HQ.out)
              subst k2
              go_wp2_with fail
              refine (HHD.out _).mono ?_
              rintro e w3 ⟨rfl, h3, k3⟩
              have HE := Lib.hid (HEND.out w3 _ h3 k3)
              clear h3 k3 HEND
              go_wp2_with fail
              go_meet
              exact ⟨_, _, rfl, HE⟩
          · as_aux_lemma =>
              have e2 : (kind == 2) = false := by simp [k2]
              have HBD : Hid (∀ o, Calls Try.prog 17 #[.pointer (some ⟨q.b, 0, none⟩), .int .i64 oi, .int .i64 ok_] (wr.alloc o) (HPost (wr.alloc o) q (101 * k + 101) (badM p oi ok_))) :=
                Lib.hid fun o => (bad_any oi ok_ _ q (101 * k) p (HP8.out o) HOKp.out (by omega)).mono fun _ _ h => ⟨h.1, h.2.1.mono (by omega), h.2.2⟩
              have HOK2 := Lib.hid ((badM_ok oi ok_ HOKp.out).mono (m := 101 * k + 101) (by omega))
              have HLE := Lib.hid (badM_len p oi ok_)
              have HEND := Lib.hid (fun (w3 : World) (o : Obj) (h3 : PlanAt w3 q (101 * k + 101) (badM p oi ok_).1) (k3 : Kept q.has (wr.alloc o) w3) => HGO.out _ now w3 o h3 HOK2.out HLE.out.1 HLE.out.2 (badM_win p oi ok_) k3 (win_bad oi ok_ HWP.out) (by omega) HQ.out)
              go_wp2_with fail
              refine (HBD.out _).mono ?_
              rintro e w3 ⟨rfl, h3, k3⟩
              have HE := Lib.hid (HEND.out w3 _ h3 k3)
              clear h3 k3
              go_wp2_with fail
              go_meet
              exact ⟨_, _, rfl, HE⟩
      case rest =>
        obtain ⟨p', now', rfl, HR'⟩ := hcut
        clear HR y0 y1 y2 y3 hz HW
        obtain ⟨w5, hr5, hb5, g5⟩ := HMK.out wc
        have HB5 := Lib.hid hb5
        have HR5 := Lib.hid (HR'.out.on g5)
        have G5 := Lib.hid g5
        clear hb5 g5
        obtain ⟨wo, rfl⟩ : ∃ wo : World, wo = wr := ⟨_, rfl⟩
        have HOK' := Lib.hid HR'.out.ok
        have HCH : Hid (p'.ch.length = nc) := Lib.hid HR'.out.nc
        have HNP : Hid (p'.pe.length = np) := Lib.hid HR'.out.np
        have HAS := Lib.hid (fun (i : Nat) (wx : World) (g : Chg none wc wx) => asked_any i wx q _ p' (HR'.out.at_.chg g) HOK'.out)
        have hwn := HR'.out.wn
        have HLD : Hid (∀ j : Nat, j < np → (loadL p'.ch np)[j]? = some ((cnt p'.ch (j : Int) : Nat) : Int) ∧ ((cnt p'.ch (j : Int) : Nat) : Int) ≤ win) := Lib.hid fun j hj => by
          refine ⟨loadL_get _ _ _ hj, ?_⟩
          obtain ⟨x, hx⟩ : ∃ x, p'.pe[j]? = some x := ⟨_, List.getElem?_eq_getElem (by rw [HNP.out]; exact hj)⟩
          rw [← HOK'.out.aks j x hx, ← hwn]
          exact HR'.out.win x (List.mem_of_getElem? hx)
        have HWN := Lib.hid hwn
        clear hwn
        have hbl : wc.heap.size < w5.heap.size := Blk.lt HB5.out
        go_wp2_with fail
        go_loopw [115] (fun s115 wx => ∃ i : Nat, i ≤ nc ∧ s115 = .int .i64 i ∧ Hid (BlkL wx wc.heap.size (ints (loadL (p'.ch.take i) np)) 3) ∧ Hid (Chg none wc wx)) (fun s115 _ => nc - (intOf s115).toNat)
        case atStart => exact ⟨0, Nat.zero_le _, rfl, Lib.hid (by rw [List.take_zero, loadL_nil]; exact HB5.out), G5⟩
        case round =>
          obtain ⟨i, hi, rfl, HB, HG⟩ := hrel
          have hzz := HG.out.size
          have hbx := Blk.lt HB.out
          by_cases hil : i < nc
          · obtain ⟨x, hx⟩ : ∃ x, p'.ch[i]? = some x := ⟨_, List.getElem?_eq_getElem (by rw [HCH.out]; exact hil)⟩
            have HT : Hid (p'.ch.take (i + 1) = p'.ch.take i ++ [x]) := Lib.hid (by rw [List.take_add_one, hx]; rfl)
            have HAI := Lib.hid (HAS.out i wr HG.out)
            rcases asked_in HOK'.out hx with ⟨hs, ⟨k2, hk2, hkl⟩, hka⟩ | ⟨hs, hka⟩
            · rw [hka, hk2] at HAI
              have HST := Lib.hid (loadL_add (p'.ch.take i) np k2 x hs hk2)
              have hkn : k2 < np := by rw [HNP.out] at hkl; exact hkl
              have HGT := Lib.hid (loadL_get (p'.ch.take i) np k2 hkn)
              have hcn : cnt (p'.ch.take i) k2 ≤ 100 := by
                have := cnt_le (p'.ch.take i) k2
                rw [List.length_take] at this
                omega
              generalize cnt (p'.ch.take i) (k2 : Int) = C at *
              clear hx hs hk2 hkl hka
              go_wp2_with fail
              refine HAI.out.mono ?_
              rintro e w6 ⟨rfl, g6⟩
              unfold tri
              have hb6 := Blk.chg HB.out g6 (by simp)
              have f0 : w6.cell? ⟨wc.heap.size, k2, none⟩ = some (.int .i64 C) := by
                rw [BlkL.cell hb6]; unfold ints; rw [List.getElem?_map, HGT.out]; rfl
              have ff := fun o => Blk.frozen hb6 o
              have HE : Hid (BlkL (w6.setCell ⟨wc.heap.size, k2, none⟩ (.int .i64 ((C : Int) + 1))) wc.heap.size (ints (loadL (p'.ch.take (i + 1)) np)) 3) := Lib.hid (by
                have := BlkL.set hb6 k2 (.int .i64 ((C : Int) + 1))
                rw [HT.out, HST.out]
                unfold ints at *
                rw [List.map_set]
                exact this)
              have HG6 : Hid (Chg none wc (w6.setCell ⟨wc.heap.size, k2, none⟩ (.int .i64 ((C : Int) + 1)))) := Lib.hid ((HG.out.trans g6).setNew _ (Nat.le_refl _) _)
              clear g6 hb6
              go_wp2_with fail
              go_roundw
              case rel => exact ⟨i + 1, by omega, by go_num, HE, HG6⟩
              case measure => simp [intOf]; omega
            · rw [hka] at HAI
              have HST := Lib.hid (loadL_skip (p'.ch.take i) np x hs)
              clear hx hs hka
              go_wp2_with fail
              refine HAI.out.mono ?_
              rintro e w6 ⟨rfl, g6⟩
              unfold tri
              have HE : Hid (BlkL w6 wc.heap.size (ints (loadL (p'.ch.take (i + 1)) np)) 3) := Lib.hid (by
                rw [HT.out, HST.out]; exact Blk.chg HB.out g6 (by simp))
              have HG6 : Hid (Chg none wc w6) := Lib.hid (HG.out.trans g6)
              clear g6
              go_wp2_with fail
              go_roundw
              case rel => exact ⟨i + 1, by omega, by go_num, HE, HG6⟩
              case measure => simp [intOf]; omega
          · have hin : i = nc := by omega
            have HBF : Hid (BlkL wr wc.heap.size (ints (loadL p'.ch np)) 3) := Lib.hid (by
              have := HB.out
              rw [List.take_of_length_le (by rw [HCH.out]; omega)] at this
              exact this)
            clear hin
            have HFC : Hid (∀ j : Nat, j < np → ∃ v : Int, wr.cell? ⟨wc.heap.size, j, none⟩ = some (.int .i64 v) ∧ v ≤ win) := Lib.hid fun j hj => by
              obtain ⟨h1, h2⟩ := HLD.out j hj
              exact ⟨_, by rw [BlkL.cell HBF.out]; unfold ints; rw [List.getElem?_map, h1]; rfl, h2⟩
            obtain ⟨wz, rfl⟩ : ∃ wz : World, wz = wr := ⟨_, rfl⟩
            go_wp2_with fail
            go_loop [142] (fun s142 => ∃ j : Nat, j ≤ np ∧ s142 = .int .i64 j) (fun s142 => np - (intOf s142).toNat)
            case atStart => exact ⟨0, Nat.zero_le _, rfl⟩
            case round =>
              obtain ⟨j, hj, rfl⟩ := hrel
              by_cases hjl : j < np
              · obtain ⟨v, f0, hv⟩ := HFC.out j hjl
                have dv : decide (win < v) = false := decide_eq_false (by omega)
                clear hv
                go_wp2_with fail
                go_round
                case rel => exact ⟨j + 1, by omega, by go_num⟩
                case measure => simp [intOf]; omega
              · go_wp2_with fail
                go_roundw
                case rel => exact ⟨k + 1, p', now', by omega, by go_num, rfl, Lib.hid (HR'.out.on HG.out)⟩
                case measure => simp [intOf]; omega
    · clear e150
      have HG := Lib.hid HR.out.chg
      clear HR
      go_wp2_with fail
      refine (known_any _).mono ?_
      rintro e w' ⟨rfl, g⟩
      have G := Lib.hid (HG.out.trans g)
      clear g
      go_wp2
      go_ret
      exact ⟨rfl, G.out⟩

set_option maxRecDepth 100000 in
set_option maxHeartbeats 4000000 in
theorem win_not (nc np win tim : Int) (A : Option Addr) (n ca : Nat) (w : World) (hm : ¬ mayP nc np win tim) :
    Calls Try.prog 5 #[.int .i64 nc, .int .i64 np, .int .i64 win, .int .i64 tim, .slice A n ca] w fun e w' => e = .returned (.bool true) ∧ Chg none w w' := by
  have HN := Lib.hid (new_no nc np win tim w hm)
  clear hm
  go_enter Try.func5, Try.ntmps5
  go_wp2_with fail
  refine HN.out.mono ?_
  rintro e w1 ⟨rfl, rfl⟩
  go_wp2_with fail
  refine (known_any _).mono ?_
  rintro e w2 ⟨rfl, g2⟩
  have G2 := Lib.hid g2
  clear g2
  go_wp2_with fail
  go_ret
  exact ⟨rfl, G2.out⟩

set_option maxRecDepth 100000 in
set_option maxHeartbeats 4000000 in
theorem win_long (nc np : Nat) (win tim : Int) (A : Option Addr) (n ca : Nat) (w : World) (hm : mayP nc np win tim) (hn : 150 < n) :
    Calls Try.prog 5 #[.int .i64 nc, .int .i64 np, .int .i64 win, .int .i64 tim, .slice A n ca] w fun e w' => e = .returned (.bool true) ∧ Chg none w w' := by
  have HN := Lib.hid (new_yes nc np win tim w hm)
  have e2 : decide ((150 : Int) < (n : Int)) = true := by simp; omega
  clear hm hn
  go_enter Try.func5, Try.ntmps5
  go_wp2_with fail
  refine HN.out.mono ?_
  rintro e w1 ⟨q, rfl, h1, hq, g1⟩
  have G1 := Lib.hid g1
  clear h1 hq g1
  go_wp2_with fail
  refine (known_any _).mono ?_
  rintro e w2 ⟨rfl, g2⟩
  have G2 := Lib.hid (G1.out.trans g2)
  clear g2
  go_wp2_with fail
  go_ret
  exact ⟨rfl, G2.out⟩

theorem win_all (nc np win tim : Int) (A : Option Addr) (L : List Opn) (ca : Nat) (w : World) (hL : ∀ o ∈ L, o.wide) (hA : RowsAt w 4 A Opn.cells L) :
    Calls Try.prog 5 #[.int .i64 nc, .int .i64 np, .int .i64 win, .int .i64 tim, .slice A L.length ca] w fun e w' => e = .returned (.bool true) ∧ Chg none w w' := by
  by_cases hm : mayP nc np win tim
  · obtain ⟨c, rfl⟩ := Int.eq_ofNat_of_zero_le hm.1.1
    obtain ⟨p, rfl⟩ := Int.eq_ofNat_of_zero_le hm.2.1.1
    by_cases hn : L.length ≤ 150
    · exact win_main c p win tim A L ca w hm hL hA hn
    · exact win_long c p win tim A L.length ca w hm (by omega)
  · exact win_not nc np win tim A L.length ca w hm

end Go.Proofs.Ytippkdjggipnmaa
