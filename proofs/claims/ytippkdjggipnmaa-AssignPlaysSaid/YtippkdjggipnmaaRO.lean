/-
  The law AssignPlays, walked.
-/
import Derived.Test.YtippkdjggipnmaaRN
import Derived.Test.YtippkdjggipnmaaN
import Derived.Deep.RegionHeld3
namespace Go.Proofs.Ytippkdjggipnmaa
open Go.RowKit Go.Maps

set_option maxRecDepth 100000 in
set_option maxHeartbeats 32000000 in
theorem plays_main (nc np : Nat) (win tim : Int) (A : Option Addr) (L : List Opn) (ca : Nat) (w : World) (hm : mayP nc np win tim) (hL : ∀ o ∈ L, o.wide) (hA : RowsAt w 4 A Opn.cells L) (h150 : L.length ≤ 150) :
    Calls Try.prog 3 #[.int .i64 nc, .int .i64 np, .int .i64 win, .int .i64 tim, .slice A L.length ca] w fun e w' => e = .returned (.bool true) ∧ Chg none w w' := by
  have HN := Lib.hid (new_yes nc np win tim w hm)
  have HRN := Lib.hid (fun v => rnew_any nc np win tim v hm)
  have HMY := Lib.hid (fun v => rmay_any nc np win tim v)
  rw [mayQ_yes hm] at HMY
  have HOK := Lib.hid (newP_ok hm)
  have HTK : Hid (∀ x ∈ (newP nc np win tim).ch, Tk x) := Lib.hid fun x hx => by
    obtain rfl := List.eq_of_mem_replicate hx
    exact ⟨by decide, by decide⟩
  have HL := Lib.hid hL
  have HA := Lib.hid hA
  clear hm hL hA
  go_enter Try.func3, Try.ntmps3
  go_wp2_with fail
  refine HN.out.mono ?_
  rintro e w1 ⟨q0, rfl, h1, hq, g1⟩
  have H1 := Lib.hid h1
  have HQ := Lib.hid hq
  have G1 := Lib.hid g1
  clear h1 hq g1 HN
  go_wp2_with fail
  refine (HMY.out _).mono ?_
  rintro e w2 ⟨rfl, rfl⟩
  have e150 : decide ((150 : Int) < (L.length : Int)) = false := by simp; omega
  go_wp2_with fail
  refine (HRN.out _).mono ?_
  rintro e w2 ⟨q, rfl, hra, hqa, g2⟩
  have HR0 : Hid (PRel w q 0 q0 (newP nc np win tim) (newR nc np win tim) w2) := Lib.hid ⟨H1.out.chg g2, HOK.out, HTK.out, hra, newR_sim nc np win tim, fun g hg h => by have := (hqa g hg).1; have := H1.out.lt h; omega, fun g hg => (hqa g hg).2, HQ.out, fun g hg => Nat.le_trans G1.out.size (hqa g hg).1, G1.out.trans g2⟩
  clear hra hqa g2 H1 HQ G1 HRN HMY HOK HTK
  go_wp2_with fail
  go_loopw [11, 63] (fun s11 s63 wr => ∃ (k : Nat) (q0 : Qb) (p : Pl) (r : Rf), k ≤ L.length ∧ s63 = .int .i64 k ∧ s11 = .pointer (some ⟨q0.b, 0, none⟩) ∧ Hid (PRel w q k q0 p r wr)) (fun _ i _ => L.length - (intOf i).toNat)
  case atStart => exact ⟨0, q0, _, _, Nat.zero_le _, rfl, rfl, HR0⟩
  case round =>
    obtain ⟨k, q0, p, r, hk, rfl, rfl, HR⟩ := hrel
    clear HR0
    by_cases hlt : k < L.length
    · obtain ⟨o, ho⟩ : ∃ o, L[k]? = some o := ⟨_, List.getElem?_eq_getElem hlt⟩
      obtain ⟨bA, oA, rfl, hbA, hcA⟩ := HA.out.four (by intro h; rw [h] at hlt; simp at hlt)
      obtain ⟨x0, x1, x2, x3⟩ := hcA k o ho
      have hg := HR.out.chg
      have y0 := World.grownBy.cell hg x0 (by simp)
      have y1 := World.grownBy.cell hg x1 (by simp)
      have y2 := World.grownBy.cell hg x2 (by simp)
      have y3 := World.grownBy.cell hg x3 (by simp)
      have hw := HL.out o (List.mem_of_getElem? ho)
      have HMD := Lib.hid (HR.out.mid o)
      have HLT := Lib.hid hlt
      clear hcA hg x0 x1 x2 x3 ho hlt
      have hkN : 101 * k < 800000000000 := by omega
      obtain ⟨kind, oi, ok_, on⟩ := o
      unfold Opn.cells at HMD
      dsimp only at y0 y1 y2 y3 hw HMD
      by_cases hbig : 1152921504606846976 < on
      · have d1 : decide ((1152921504606846976 : Int) < on) = true := decide_eq_true hbig
        have HE := Lib.hid (HR.out.on ((Chg.refl _ _).alloc (.cells #[.int .i64 kind, .int .i64 oi, .int .i64 ok_, .int .i64 on] 32))).up
        clear hbig
        go_wp2_with fail
        go_roundw
        case rel => exact ⟨k + 1, q0, p, r, by have := HLT.out; omega, by go_num, rfl, HE⟩
        case measure => have := HLT.out; simp [intOf]; omega
      have d1 : decide ((1152921504606846976 : Int) < on) = false := decide_eq_false hbig
      by_cases hsm : on < -1152921504606846976
      · have d2 : decide (on < (-1152921504606846976 : Int)) = true := decide_eq_true hsm
        have HE := Lib.hid (HR.out.on ((Chg.refl _ _).alloc (.cells #[.int .i64 kind, .int .i64 oi, .int .i64 ok_, .int .i64 on] 32))).up
        clear hbig hsm
        go_wp2_with fail
        go_roundw
        case rel => exact ⟨k + 1, q0, p, r, by have := HLT.out; omega, by go_num, rfl, HE⟩
        case measure => have := HLT.out; simp [intOf]; omega
      have d2 : decide (on < (-1152921504606846976 : Int)) = false := decide_eq_false hsm
      have hT60 : T60 on := ⟨by omega, by omega⟩
      have HT60 := Lib.hid hT60
      have HT0 : Hid (T60 0) := Lib.hid ⟨by decide, by decide⟩
      clear hbig hsm hT60
      go_upto_block 2 with fail
      go_cut [11] (fun s11 wx => ∃ (q1 : Qb) (p' : Pl) (r' : Rf), s11 = .pointer (some ⟨q1.b, 0, none⟩) ∧ Hid (PRel w q (k + 1) q1 p' r' wx))
      case first =>
        have HOKp := Lib.hid HR.out.ok
        have HTKp := Lib.hid HR.out.tk
        have HSI := Lib.hid HR.out.sim
        have HNC := Lib.hid HR.out.ok.nc
        have HWB := Lib.hid HR.out.chg.size
        by_cases k1 : kind = 1
        · as_aux_lemma =>
            subst k1
            have HNX := Lib.hid (HMD.out.next HOKp.out (by omega) on HT60.out)
            obtain ⟨no, hno⟩ : ∃ no, (nextM p on).2 = no := ⟨_, rfl⟩
            have HNO := Lib.hid hno
            clear hno
            go_wp2_with fail
            refine HNX.out.mono ?_
            rintro e w3 ⟨rfl, h3⟩
            have HNR := Lib.hid (h3.rnext HSI.out HOKp.out (by omega) on HT60.out HTKp.out)
            obtain ⟨-, -, -, z3⟩ := h3.cells
            dsimp only at z3
            rw [HNO.out]
            rw [HNO.out] at HNR
            clear h3 HNX
            cases no with
            | none =>
              unfold next3 at *
              go_wp2_with fail
              refine HNR.out.mono ?_
              rintro e w4 ⟨rfl, r4, h4, hs4⟩
              have HE := Lib.hid (h4.rel (k := k + 1) (by omega) (nextM_ok HOKp.out ⟨by have := HT60.out.1; omega, by have := HT60.out.2; omega⟩) (tk_next HTKp.out HT60.out) hs4)
              clear h4 hs4
              go_wp2_with fail
              go_meet
              exact ⟨q0, _, r4, rfl, HE⟩
            | some ck =>
              obtain ⟨c, kk⟩ := ck
              unfold next3 at *
              have n1 : ((c : Int) != (c : Int)) = false := by simp
              have n2 : ((kk : Int) != (kk : Int)) = false := by simp
              go_wp2_with fail
              refine HNR.out.mono ?_
              rintro e w4 ⟨rfl, r4, h4, hs4⟩
              have HE := Lib.hid (h4.rel (k := k + 1) (by omega) (nextM_ok HOKp.out ⟨by have := HT60.out.1; omega, by have := HT60.out.2; omega⟩) (tk_next HTKp.out HT60.out) hs4)
              clear h4 hs4
              go_wp2_with fail
              go_meet
              exact ⟨q0, _, r4, rfl, HE⟩
        by_cases k2 : kind = 2
        · as_aux_lemma =>
            subst k2
            obtain ⟨MA, hMA⟩ : ∃ MA, MA = Mid w q0 q wr.heap.size ⟨2, oi, ok_, on⟩ (101 * k) p r := ⟨_, rfl⟩
            obtain ⟨MB, hMB⟩ : ∃ MB, MB = Mid w q0 q wr.heap.size ⟨2, oi, ok_, on⟩ (101 * k) (hadM p oi).1 r := ⟨_, rfl⟩
            obtain ⟨MC, hMC⟩ : ∃ MC : World → Prop, MC = fun v => ∃ r', Mid w q0 q wr.heap.size ⟨2, oi, ok_, on⟩ (101 * k) (hadM p oi).1 r' v ∧ Sim (hadM p oi).1 r' := ⟨_, rfl⟩
            have hA0 : MA (wr.alloc (.cells #[.int .i64 2, .int .i64 oi, .int .i64 ok_, .int .i64 on] 32)).drew := by rw [hMA]; exact HMD.out.on ((Chg.refl _ _).drew)
            have H15 : Hid (∀ v, MA v → Calls Try.prog 15 #[.pointer (some ⟨q0.b, 0, none⟩), .int .i64 oi] v fun e w' => e = .returned (.int .i64 (hadM p oi).2) ∧ MB w') := Lib.hid fun v h => by rw [hMA] at h; rw [hMB]; exact h.had HOKp.out oi
            have H16 : Hid (∀ v, MB v → Calls Try.prog 16 #[.pointer (some ⟨q.b, 0, none⟩), .int .i64 oi] v fun e w' => e = .returned (.int .i64 (hadM p oi).2) ∧ MC w') := Lib.hid fun v h => by rw [hMB] at h; rw [hMC]; exact h.rhad HSI.out HNC.out oi
            have HcA : Hid (∀ v, MA v → v.cell? ⟨wr.heap.size, 1, none⟩ = some (.int .i64 oi)) := Lib.hid fun v h => by rw [hMA] at h; obtain ⟨-, c1, c2, -⟩ := h.cells; exact c1
            have HcB : Hid (∀ v, MB v → v.cell? ⟨wr.heap.size, 1, none⟩ = some (.int .i64 oi)) := Lib.hid fun v h => by rw [hMB] at h; obtain ⟨-, c1, c2, -⟩ := h.cells; exact c1
            have HcC : Hid (∀ v, MC v → v.cell? ⟨wr.heap.size, 1, none⟩ = some (.int .i64 oi)) := Lib.hid fun v h => by rw [hMC] at h; obtain ⟨r', h, -⟩ := h; obtain ⟨-, c1, c2, -⟩ := h.cells; exact c1
            have HEN : Hid (∀ v, MC v → ∃ r', PRel w q (k + 1) q0 (hadM p oi).1 r' v) := Lib.hid fun v h => by
              rw [hMC] at h
              obtain ⟨r', h, hs⟩ := h
              exact ⟨r', h.rel (by omega) (hadM_ok oi HOKp.out) (tk_had oi HTKp.out) hs⟩
            have hcd := HcA.out _ hA0
            obtain ⟨R, hR⟩ : ∃ R, R = (hadM p oi).2 := ⟨_, rfl⟩
            obtain ⟨PP, hPP⟩ : ∃ PP, PP = (hadM p oi).1 := ⟨_, rfl⟩
            rw [← hR] at H15 H16
            rw [← hPP] at HEN
            have f0 : (R != R) = false := by simp
            clear hMA hMB hMC hR hPP
            go_upto_region 20 with fail
            go_region_held3 (fun v => v.cell? ⟨wr.heap.size, 1, none⟩ = some (.int .i64 oi))
              ((first | exact HcA.out _ (by assumption) | exact HcB.out _ (by assumption) | exact HcC.out _ (by assumption)))
              ((first | ((go_at_call 15; refine (H15.out _ (by assumption)).mono ?_; rintro e w7 ⟨rfl, m7⟩)) | ((go_at_call 16; refine (H16.out _ (by assumption)).mono ?_; rintro e w8 ⟨rfl, m8⟩))))
            all_goals go_wp2_with fail
            all_goals go_meet
            all_goals obtain ⟨r8, h8⟩ := HEN.out _ m8
            all_goals exact ⟨q0, _, r8, rfl, Lib.hid h8⟩
        by_cases k3 : kind = 3
        · as_aux_lemma =>
            subst k3
            obtain ⟨MA, hMA⟩ : ∃ MA, MA = Mid w q0 q wr.heap.size ⟨3, oi, ok_, on⟩ (101 * k) p r := ⟨_, rfl⟩
            obtain ⟨MB, hMB⟩ : ∃ MB, MB = Mid w q0 q wr.heap.size ⟨3, oi, ok_, on⟩ (101 * k + 1) (badM p oi ok_).1 r := ⟨_, rfl⟩
            obtain ⟨MC, hMC⟩ : ∃ MC : World → Prop, MC = fun v => ∃ r', Mid w q0 q wr.heap.size ⟨3, oi, ok_, on⟩ (101 * k + 1) (badM p oi ok_).1 r' v ∧ Sim (badM p oi ok_).1 r' := ⟨_, rfl⟩
            have hA0 : MA (wr.alloc (.cells #[.int .i64 3, .int .i64 oi, .int .i64 ok_, .int .i64 on] 32)).drew := by rw [hMA]; exact HMD.out.on ((Chg.refl _ _).drew)
            have H15 : Hid (∀ v, MA v → Calls Try.prog 17 #[.pointer (some ⟨q0.b, 0, none⟩), .int .i64 oi, .int .i64 ok_] v fun e w' => e = .returned (.int .i64 (badM p oi ok_).2) ∧ MB w') := Lib.hid fun v h => by rw [hMA] at h; rw [hMB]; exact h.bad HOKp.out (by omega) oi ok_
            have H16 : Hid (∀ v, MB v → Calls Try.prog 18 #[.pointer (some ⟨q.b, 0, none⟩), .int .i64 oi, .int .i64 ok_] v fun e w' => e = .returned (.int .i64 (badM p oi ok_).2) ∧ MC w') := Lib.hid fun v h => by rw [hMB] at h; rw [hMC]; exact h.rbad HSI.out HOKp.out (by omega) oi ok_
            have HcA : Hid (∀ v, MA v → v.cell? ⟨wr.heap.size, 1, none⟩ = some (.int .i64 oi) ∧ v.cell? ⟨wr.heap.size, 2, none⟩ = some (.int .i64 ok_)) := Lib.hid fun v h => by rw [hMA] at h; obtain ⟨-, c1, c2, -⟩ := h.cells; exact ⟨c1, c2⟩
            have HcB : Hid (∀ v, MB v → v.cell? ⟨wr.heap.size, 1, none⟩ = some (.int .i64 oi) ∧ v.cell? ⟨wr.heap.size, 2, none⟩ = some (.int .i64 ok_)) := Lib.hid fun v h => by rw [hMB] at h; obtain ⟨-, c1, c2, -⟩ := h.cells; exact ⟨c1, c2⟩
            have HcC : Hid (∀ v, MC v → v.cell? ⟨wr.heap.size, 1, none⟩ = some (.int .i64 oi) ∧ v.cell? ⟨wr.heap.size, 2, none⟩ = some (.int .i64 ok_)) := Lib.hid fun v h => by rw [hMC] at h; obtain ⟨r', h, -⟩ := h; obtain ⟨-, c1, c2, -⟩ := h.cells; exact ⟨c1, c2⟩
            have HEN : Hid (∀ v, MC v → ∃ r', PRel w q (k + 1) q0 (badM p oi ok_).1 r' v) := Lib.hid fun v h => by
              rw [hMC] at h
              obtain ⟨r', h, hs⟩ := h
              exact ⟨r', h.rel (by omega) (badM_ok oi ok_ HOKp.out) (tk_bad oi ok_ HTKp.out) hs⟩
            have hcd := HcA.out _ hA0
            obtain ⟨R, hR⟩ : ∃ R, R = (badM p oi ok_).2 := ⟨_, rfl⟩
            obtain ⟨PP, hPP⟩ : ∃ PP, PP = (badM p oi ok_).1 := ⟨_, rfl⟩
            rw [← hR] at H15 H16
            rw [← hPP] at HEN
            have f0 : (R != R) = false := by simp
            clear hMA hMB hMC hR hPP
            go_upto_region 23 with fail
            go_region_held3 (fun v => v.cell? ⟨wr.heap.size, 1, none⟩ = some (.int .i64 oi) ∧ v.cell? ⟨wr.heap.size, 2, none⟩ = some (.int .i64 ok_))
              ((first | exact HcA.out _ (by assumption) | exact HcB.out _ (by assumption) | exact HcC.out _ (by assumption)))
              ((first | ((go_at_call 17; refine (H15.out _ (by assumption)).mono ?_; rintro e w7 ⟨rfl, m7⟩)) | ((go_at_call 18; refine (H16.out _ (by assumption)).mono ?_; rintro e w8 ⟨rfl, m8⟩))))
            all_goals go_wp2_with fail
            all_goals go_meet
            all_goals obtain ⟨r8, h8⟩ := HEN.out _ m8
            all_goals exact ⟨q0, _, r8, rfl, Lib.hid h8⟩
        by_cases k4 : kind = 4
        · as_aux_lemma =>
            subst k4
            have HCP := Lib.hid (HMD.out.copy HOKp.out)
            have HLB : Hid (∀ g, q0.has g → g < (wr.alloc (.cells #[.int .i64 4, .int .i64 oi, .int .i64 ok_, .int .i64 on] 32)).heap.size) := Lib.hid fun g hg => HMD.out.pl.lt hg
            go_wp2_with fail
            refine HCP.out.mono ?_
            rintro e w3 ⟨q1, rfl, h3, hp3, hl3⟩
            have HAP : Hid (∀ g, q1.has g → ¬ q0.has g) := Lib.hid fun g h1 h2 => by have := hl3 g h1; have := HLB.out g h2; omega
            have HLL : Hid (∀ g, q1.has g → wr.heap.size < g) := Lib.hid fun g h1 => by have := hl3 g h1; simp at this; omega
            have HHD := Lib.hid (had_any 0 w3 q0 _ p h3.pl HOKp.out)
            have H3 := Lib.hid h3
            have HP3 := Lib.hid hp3
            clear h3 hp3 hl3 HCP HLB
            go_wp2_with fail
            refine HHD.out.mono ?_
            rintro e w4 ⟨rfl, hp4, hk4⟩
            have HNX := Lib.hid (next_any 0 w4 q0 _ _ hp4 (hadM_ok 0 HOKp.out) (by omega) ⟨by decide, by decide⟩)
            have H4 := Lib.hid (H3.out.plan hp4 hk4)
            have HP4 := Lib.hid (HP3.out.kept hk4 HAP.out)
            obtain ⟨R, hR⟩ : ∃ R, R = (hadM p 0).2 := ⟨_, rfl⟩
            rw [← hR]
            clear hp4 hk4 HHD H3 HP3 hR
            go_wp2_with fail
            refine HNX.out.mono ?_
            rintro e w5 ⟨rfl, hp5, hk5⟩
            have HE := Lib.hid (Mid.swap (k := k + 1) (H4.out.plan hp5 hk5) (HP4.out.kept hk5 HAP.out) (by omega) HOKp.out HTKp.out HSI.out HLL.out HWB.out)
            obtain ⟨V, hV⟩ : ∃ V, V = next3 (nextM (hadM p 0).1 0).2 := ⟨_, rfl⟩
            rw [← hV]
            clear hp5 hk5 HNX H4 HP4 hV
            go_wp2_with fail
            go_meet
            exact ⟨q1, p, r, rfl, HE⟩
        have f1 : (kind == 1) = false := by simp [k1]
        have f2 : (kind == 2) = false := by simp [k2]
        have f3 : (kind == 3) = false := by simp [k3]
        have f4 : (kind == 4) = false := by simp [k4]
        have HE := Lib.hid (HR.out.on ((Chg.refl _ _).alloc (.cells #[.int .i64 kind, .int .i64 oi, .int .i64 ok_, .int .i64 on] 32))).up
        clear k1 k2 k3 k4
        go_wp2_with fail
        go_meet
        exact ⟨q0, p, r, rfl, HE⟩
      case rest =>
        obtain ⟨q1, p', r', rfl, HX⟩ := hcut
        have HLK := Lib.hid HX.out.looked
        clear hw y0 y1 y2 y3 hkN
        go_wp2_with fail
        refine HLK.out.mono ?_
        rintro e w9 ⟨rfl, h9⟩
        have H9 := Lib.hid h9
        clear h9
        go_wp2_with fail
        go_roundw
        case rel => exact ⟨k + 1, q1, p', r', by have := HLT.out; omega, by go_num, rfl, H9⟩
        case measure => have := HLT.out; simp [intOf]; omega
    · have hkl : k = L.length := by omega
      have hdd : decide (k < L.length) = false := by rw [hkl]; simp
      have HCH := Lib.hid HR.out.chg
      clear hlt hkl
      go_wp2_with fail
      refine (known_any _).mono ?_
      rintro e w9 ⟨rfl, g9⟩
      have G9 := Lib.hid (HCH.out.trans g9)
      clear g9
      go_wp2_with fail
      go_ret
      exact ⟨rfl, G9.out⟩

end Go.Proofs.Ytippkdjggipnmaa
