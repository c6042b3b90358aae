/-
  The law AssignHad, walked.
-/
import Derived.Test.YtippkdjggipnmaaN
import Derived.Test.YtippkdjggipnmaaQ
import Derived.Test.YtippkdjggipnmaaV
import Derived.Deep.CutBlock
import Derived.Deep.Cut
import Derived.Deep.DeepCutAuto
namespace Go.Proofs.Ytippkdjggipnmaa
open Go.RowKit Go.Maps

theorem Try.info3 : (Try.prog.info? 3).map (fun i => (i.zero, i.size, i.bytes)) = some (some (.int .i64 0), 1, 8) := by kernel_rfl
theorem made1 (n : Nat) : (madeCells (Value.int .i64 0).cells (n * 1)).toList = List.replicate n (.int .i64 0) := by
  rw [List.eq_replicate_iff]
  refine ⟨by simp [size_madeCells], fun x hx => ?_⟩
  unfold madeCells at hx
  simp only [Array.toList_map, List.mem_map] at hx
  obtain ⟨i, _, rfl⟩ := hx
  have : i % 1 < 1 := Nat.mod_lt _ (by omega)
  show (#[Value.int .i64 0] : Array Value)[i % 1]! = _
  match i % 1, this with
  | 0, _ => rfl
theorem make52 (n : Nat) (hn : n < 1000000) (W : World) : ∃ W', (Instr.makeSlice 52 (.int .i64 n) (.int .i64 n)).run Try.prog W = .ok (.slice (some ⟨W.heap.size, 0, none⟩) n n) W' ∧
    BlkL W' W.heap.size (ints (List.replicate n 0)) 3 ∧ Chg none W W' := by
  obtain ⟨i0, hi, hz0, hz1, hz2⟩ := info_parts Try.info3
  have hr := run_make (P := Try.prog) W 52 3 i0 (.int .i64 0) Try.underlying52 hi hz0 .i64 .i64 (n : Int) (n : Int) (by omega) (by omega) (by rw [hz2]; omega) (by omega)
  rw [hr, Int.toNat_natCast, hz1]
  refine ⟨_, rfl, ?_, (Chg.refl _ _).alloc _⟩
  unfold ints
  rw [List.map_replicate, ← made1]
  unfold BlkL
  rw [Array.toArray_toList]
  exact Blk.new _ _ _

/-- What stands between two calls. -/
structure HadRel (w : World) (q : Qb) (bh nc np k : Nat) (p : Pl) (now nn : Int) (wr : World) : Prop where
  at_ : PlanAt wr q (101 * k) p
  ok : p.ok (101 * k)
  nc : p.ch.length = nc
  np : p.pe.length = np
  row : BlkL wr bh (ints (hadL p)) 3
  now : 0 ≤ now ∧ now ≤ 8 * k
  nn : nn = (hadL p).sum
  chg : Chg none w wr

theorem row_apart {w : World} {q : Qb} {n : Nat} {p : Pl} {b : Nat} {xs : List Value} (h : PlanAt w q n p) (hb : BlkL w b xs 3) : ¬ q.has b := by
  obtain ⟨⟨_, _, h1⟩, ⟨_, h2⟩, ⟨_, h3⟩, h4⟩ := h
  rintro (e | e | e | e)
  · exact blk_ne hb h1 (by decide) e
  · exact blk_ne hb h2 (by decide) e
  · exact blk_ne hb h3 (by decide) e
  · exact blk_map hb h4 e

section
variable {w wr w3 : World} {q : Qb} {bh nc np k : Nat} {p p' : Pl} {now now' nn : Int}
theorem HadRel.row3 (h : HadRel w q bh nc np k p now nn wr) {o : Obj} (hk : Kept q.has (wr.alloc o) w3) : BlkL w3 bh (ints (hadL p)) 3 := by
  have h1 : BlkL (wr.alloc o) bh (ints (hadL p)) 3 := Blk.alloc h.row o
  exact (hk.block bh (Blk.lt h1) (row_apart (h.at_.alloc o) h1)).trans h1
theorem PlanAt.tmp {n : Nat} (h : PlanAt wr q n p) {cs : Array Value} {T : TypeId} (hk : Kept q.has (wr.alloc (.cells cs T)) w3) (i : Nat) : w3.cell? ⟨wr.heap.size, i, none⟩ = cs[i]? := by
  have hb := Blk.new wr cs T
  have : Blk w3 wr.heap.size cs T := (hk.block _ (Blk.lt hb) (fun e => by have := h.lt e; omega)).trans hb
  exact this.cell i
theorem HadRel.go (h : HadRel w q bh nc np k p now nn wr) {o : Obj} (hp : PlanAt w3 q (101 * k + 101) p') (hok : p'.ok (101 * k + 101)) (h1 : p'.ch.length = p.ch.length) (h2 : p'.pe.length = p.pe.length)
    (hk : Kept q.has (wr.alloc o) w3) (hh : hadL p' = hadL p) (hn : 0 ≤ now' ∧ now' ≤ 8 * k + 8) (hq : ∀ g, q.has g → w.heap.size ≤ g) : HadRel w q bh nc np (k + 1) p' now' nn w3 := by
  refine ⟨hp, hok, h1.trans h.nc, h2.trans h.np, by rw [hh]; exact h.row3 hk, by omega, by rw [hh]; exact h.nn, Kept.fresh (h.chg.alloc o) hk hq⟩
theorem HadRel.put (h : HadRel w q bh nc np k p now nn wr) {o : Obj} {i : Nat} (hp : PlanAt w3 q (101 * k + 101) p') (hok : p'.ok (101 * k + 101)) (h1 : p'.ch.length = p.ch.length) (h2 : p'.pe.length = p.pe.length)
    (hk : Kept q.has (wr.alloc o) w3) (hi : (hadL p)[i]? = some 0) (hh : hadL p' = (hadL p).set i 1) (hq : ∀ g, q.has g → w.heap.size ≤ g) (hb : w.heap.size ≤ bh) :
    HadRel w q bh nc np (k + 1) p' now (nn + 1) (w3.setCell ⟨bh, i, none⟩ (.int .i64 1)) := by
  have hr := h.row3 hk
  have ha := row_apart hp hr
  have hn := h.now
  refine ⟨hp.kept (S := fun g => g = bh) ((Kept.refl _ _).setCell _ _ (.inl rfl)) (fun g hg e => ha (e ▸ hg)), hok, h1.trans h.nc, h2.trans h.np, ?_, by omega, ?_, (Kept.fresh (h.chg.alloc o) hk hq).setNew _ hb _⟩
  · have := BlkL.set hr i (.int .i64 1)
    rw [hh]
    unfold ints at *
    rw [List.map_set]
    exact this
  · rw [hh, sum_set _ _ hi, h.nn]
end

theorem u64_pos (n : Int) : 0 ≤ IntKind.u64.wrap n := by simp [IntKind.wrap, IntKind.bits, IntKind.signed]; omega

theorem hadM_len (p : Pl) (c : Int) : (hadM p c).1.ch.length = p.ch.length ∧ (hadM p c).1.pe.length = p.pe.length := by
  unfold hadM
  split
  · split
    · exact ⟨rfl, rfl⟩
    · split
      · exact ⟨List.length_set, List.length_set⟩
      · exact ⟨List.length_set, rfl⟩
  · exact ⟨rfl, rfl⟩
theorem badM_len (p : Pl) (c k : Int) : (badM p c k).1.ch.length = p.ch.length ∧ (badM p c k).1.pe.length = p.pe.length := by
  unfold badM
  split
  · split
    · exact ⟨List.length_set, List.length_set⟩
    · exact ⟨rfl, rfl⟩
  · exact ⟨rfl, rfl⟩

set_option maxRecDepth 100000 in
set_option maxHeartbeats 16000000 in
theorem had_main (nc np : Nat) (win tim : Int) (A : Option Addr) (L : List Opn) (ca : Nat) (w : World) (hm : mayP nc np win tim) (hL : ∀ o ∈ L, o.wide) (hA : RowsAt w 4 A Opn.cells L) (h150 : L.length ≤ 150) :
    Calls Try.prog 7 #[.int .i64 nc, .int .i64 np, .int .i64 win, .int .i64 tim, .slice A L.length ca] w fun e w' => e = .returned (.bool true) ∧ Chg none w w' := by
  have HN := Lib.hid (new_yes nc np win tim w hm)
  have HOK := Lib.hid (newP_ok hm)
  have hnc : nc ≤ 100 := by have := hm.1; omega
  have HMK := Lib.hid (make52 nc (by omega))
  have HL := Lib.hid hL
  have HA := Lib.hid hA
  clear hm hL hA
  go_enter Try.func7, Try.ntmps7
  go_wp2_with fail
  refine HN.out.mono ?_
  rintro e w1 ⟨q, rfl, h1, hq, g1⟩
  obtain ⟨w2, hr2, hb2, g2⟩ := HMK.out w1
  have hbh : w.heap.size ≤ w1.heap.size := g1.size
  have H1 := Lib.hid h1
  have HQ := Lib.hid hq
  have G1 := Lib.hid g1
  have HB2 := Lib.hid hb2
  have G2 := Lib.hid g2
  clear h1 hq g1 hb2 g2 HN HMK
  have e150 : decide ((150 : Int) < (L.length : Int)) = false := by simp; omega
  generalize hbn : w1.heap.size = bh at *
  clear hbn
  go_wp2_with fail
  go_loopw [14, 15, 46] (fun s14 s15 s46 wr => ∃ (k : Nat) (p : Pl) (now nn : Int), k ≤ L.length ∧ s46 = .int .i64 k ∧ s14 = .int .i64 now ∧ s15 = .int .i64 nn ∧ Hid (HadRel w q bh nc np k p now nn wr)) (fun _ _ i _ => L.length - (intOf i).toNat)
  case atStart =>
    refine ⟨0, newP nc np win tim, 0, 0, Nat.zero_le _, rfl, rfl, rfl, Lib.hid ⟨PlanAt.chg H1.out G2.out, HOK.out, List.length_replicate, List.length_replicate, ?_, by omega, ?_, G1.out.trans G2.out⟩⟩
    · have : hadL (newP nc np win tim) = List.replicate nc 0 := by
        show (List.replicate nc (⟨0, 0, 0⟩ : Ck)).map hadV = _
        rw [List.map_replicate]; rfl
      rw [this]; exact HB2.out
    · have : hadL (newP nc np win tim) = List.replicate nc 0 := by
        show (List.replicate nc (⟨0, 0, 0⟩ : Ck)).map hadV = _
        rw [List.map_replicate]; rfl
      rw [this]; simp
  case round =>
    obtain ⟨k, p, now, nn, hk, rfl, rfl, rfl, HR⟩ := hrel
    clear G1 G2 HB2 H1 HOK
    by_cases hlt : k < L.length
    · obtain ⟨o, ho⟩ : ∃ o, L[k]? = some o := ⟨_, List.getElem?_eq_getElem hlt⟩
      obtain ⟨bA, oA, rfl, hbA, hcA⟩ := HA.out.four (by intro h; rw [h] at hlt; simp at hlt)
      obtain ⟨x0, x1, x2, x3⟩ := hcA k o ho
      have hg := HR.out.chg
      have y0 := World.grownBy.cell hg x0 (by simp)
      have y1 := World.grownBy.cell hg x1 (by simp)
      have y2 := World.grownBy.cell hg x2 (by simp)
      have y3 := World.grownBy.cell hg x3 (by simp)
      have hz := hg.size
      have hw := HL.out o (List.mem_of_getElem? ho)
      have HW := Lib.hid hw
      have hnow := HR.out.now
      obtain ⟨n0, n1⟩ := hnow
      clear hcA hg x0 x1 x2 x3 ho hw
      obtain ⟨kind, oi, ok_, on⟩ := o
      dsimp only at y0 y1 y2 y3
      go_upto_block 2 with fail
      go_cut [14, 15] (fun s14 s15 wx => ∃ (p' : Pl) (now' nn' : Int), s14 = .int .i64 now' ∧ s15 = .int .i64 nn' ∧ Hid (HadRel w q bh nc np (k + 1) p' now' nn' wx))
      case first =>
        have hp8 := fun (o : Obj) => HR.out.at_.alloc o
        have HP8 := Lib.hid hp8
        have HOKp := Lib.hid HR.out.ok
        have HGO := Lib.hid (fun (p' : Pl) (now' : Int) (w3 : World) (o : Obj) => HR.out.go (p' := p') (now' := now') (w3 := w3) (o := o))
        clear hp8
        have u0 := u64_pos on
        by_cases k1 : kind = 1
        · as_aux_lemma =>
            have e1 : (kind == 1) = true := by simp [k1]
            obtain ⟨D, hD⟩ : ∃ D, now + IntKind.u64.wrap on % 9 = D := ⟨_, rfl⟩
            have hd : now ≤ D ∧ D ≤ now + 8 := by omega
            have HNX : Hid (∀ o, Calls Try.prog 13 #[.pointer (some ⟨q.b, 0, none⟩), .int .i64 D] (wr.alloc o) (NPost (wr.alloc o) q (101 * k + 101) (nextM p D))) :=
              Lib.hid fun o => next_any D _ q (101 * k) p (HP8.out o) HOKp.out (by omega) ⟨by omega, by omega⟩
            rw [← hD] at HNX
            have HD := Lib.hid hD
            obtain ⟨no, hno⟩ : ∃ no, (nextM p D).2 = no := ⟨_, rfl⟩
            have HNO := Lib.hid hno
            have HNOK := Lib.hid (nextM_ok (now := D) HOKp.out ⟨by omega, by omega⟩)
            clear hD hno
            subst k1
            go_wp2_with fail
            refine (HNX.out _).mono ?_
            rintro e w3 ⟨rfl, h3, k3⟩
            rw [HD.out] at h3 ⊢
            rw [HNO.out]
            have H3 := Lib.hid h3
            have K3 := Lib.hid k3
            have hbl := HR.out.row3 k3
            have HEND : Hid (HadRel w q bh nc np (k + 1) (nextM p D).1 D nn w3) := Lib.hid (HGO.out _ _ _ _ h3 HNOK.out (nextM_len p D).1 (nextM_len p D).2.1 k3 (hadL_next p D) (by omega) HQ.out)
            clear h3 k3
            cases no with
            | none =>
              unfold next3
              clear hbl
              go_wp2_with fail
              go_meet
              exact ⟨_, _, _, by rw [← HD.out], rfl, HEND⟩
            | some ck =>
              obtain ⟨c, kk⟩ := ck
              obtain ⟨hc, hc0⟩ := next_open HNO.out
              have hcn : c < nc := by have := HR.out.nc; omega
              have f0 : w3.cell? ⟨bh, c, none⟩ = some (.int .i64 0) := by
                rw [BlkL.cell hbl]; unfold ints; rw [List.getElem?_map, hc0]; rfl
              unfold next3
              clear hbl hc hc0
              go_wp2_with fail
              go_meet
              exact ⟨_, _, _, by rw [← HD.out], rfl, HEND⟩
        · have e1 : (kind == 1) = false := by simp [k1]
          by_cases k2 : kind = 2
          · as_aux_lemma =>
              have e2 : (kind == 2) = true := by simp [k2]
              have HHD : Hid (∀ o, Calls Try.prog 15 #[.pointer (some ⟨q.b, 0, none⟩), .int .i64 oi] (wr.alloc o) (HPost (wr.alloc o) q (101 * k + 101) (hadM p oi))) :=
                Lib.hid fun o => (had_any oi _ q (101 * k) p (HP8.out o) HOKp.out).mono fun _ _ h => ⟨h.1, h.2.1.mono (by omega), h.2.2⟩
              have HOK2 := Lib.hid ((hadM_ok oi HOKp.out).mono (m := 101 * k + 101) (by omega))
              have HLE := Lib.hid (hadM_len p oi)
              subst k2
              rcases hadL_had p oi with ⟨hr, i, rfl, hi, hh⟩ | ⟨hr, hh⟩
              · have HHR := Lib.hid hr
                have HPUT := Lib.hid (fun (w3 : World) (o : Obj) (h3 : PlanAt w3 q (101 * k + 101) (hadM p i).1) (k3 : Kept q.has (wr.alloc o) w3) => HR.out.put h3 HOK2.out HLE.out.1 HLE.out.2 k3 hi hh HQ.out hbh)
                have hin : i < nc := by
                  have := (List.getElem?_eq_some_iff.1 hi).1
                  rw [hadL_len] at this
                  have := HR.out.nc
                  omega
                have hnn : 0 ≤ nn ∧ nn ≤ 100 := by
                  have h1 := left_had p
                  have h2 := HR.out.nn
                  have h3 := HR.out.nc
                  have h4 : leftM p ≤ p.ch.length := List.countP_le_length
                  omega
                obtain ⟨m0, m1⟩ := hnn
                have HI := Lib.hid hi
                clear hr hi hh
                go_wp2_with fail
                refine (HHD.out _).mono ?_
                rintro e w3 ⟨rfl, h3, k3⟩
                rw [HHR.out]
                have hbl := HR.out.row3 k3
                have f0 : w3.cell? ⟨bh, i, none⟩ = some (.int .i64 0) := by
                  rw [BlkL.cell hbl]; unfold ints; rw [List.getElem?_map, HI.out]; rfl
                have ff := fun o => Blk.frozen hbl o
                have hne : bh ≠ wr.heap.size := Nat.ne_of_lt (Blk.lt HR.out.row)
                have t1 := HR.out.at_.tmp k3 1
                simp only [List.getElem?_toArray, List.getElem?_cons_succ, List.getElem?_cons_zero] at t1
                have HEND := Lib.hid (HPUT.out w3 _ h3 k3)
                clear h3 k3 hbl
                go_wp2_with fail
                go_meet
                exact ⟨_, _, _, rfl, rfl, HEND⟩
              · have hr2 : ((hadM p oi).2 == 0) = false := by simp [hr]
                have HEND := Lib.hid (fun (w3 : World) (o : Obj) (h3 : PlanAt w3 q (101 * k + 101) (hadM p oi).1) (k3 : Kept q.has (wr.alloc o) w3) => HGO.out _ now w3 o h3 HOK2.out HLE.out.1 HLE.out.2 k3 (by rw [hh]) (by omega) HQ.out)
                clear hr hh
                go_wp2_with fail
                refine (HHD.out _).mono ?_
                rintro e w3 ⟨rfl, h3, k3⟩
                have HE := Lib.hid (HEND.out w3 _ h3 k3)
                clear h3 k3 HEND
                generalize (hadM p oi).2 = r at *
                go_wp2_with fail
                go_meet
                exact ⟨_, _, _, rfl, rfl, HE⟩
          · as_aux_lemma =>
              have e2 : (kind == 2) = false := by simp [k2]
              have HBD : Hid (∀ o, Calls Try.prog 17 #[.pointer (some ⟨q.b, 0, none⟩), .int .i64 oi, .int .i64 ok_] (wr.alloc o) (HPost (wr.alloc o) q (101 * k + 101) (badM p oi ok_))) :=
                Lib.hid fun o => (bad_any oi ok_ _ q (101 * k) p (HP8.out o) HOKp.out (by omega)).mono fun _ _ h => ⟨h.1, h.2.1.mono (by omega), h.2.2⟩
              have HOK2 := Lib.hid ((badM_ok oi ok_ HOKp.out).mono (m := 101 * k + 101) (by omega))
              have HLE := Lib.hid (badM_len p oi ok_)
              have HEND := Lib.hid (fun (w3 : World) (o : Obj) (h3 : PlanAt w3 q (101 * k + 101) (badM p oi ok_).1) (k3 : Kept q.has (wr.alloc o) w3) => HGO.out _ now w3 o h3 HOK2.out HLE.out.1 HLE.out.2 k3 (hadL_bad p oi ok_) (by omega) HQ.out)
              go_wp2_with fail
              refine (HBD.out _).mono ?_
              rintro e w3 ⟨rfl, h3, k3⟩
              have HE := Lib.hid (HEND.out w3 _ h3 k3)
              clear h3 k3
              go_wp2_with fail
              go_meet
              exact ⟨_, _, _, rfl, rfl, HE⟩
      case rest =>
        obtain ⟨p', now', nn', rfl, rfl, HR'⟩ := hcut
        clear HR y0 y1 y2 y3 hz HW
        have HST := Lib.hid (fun (m : Nat) (j : Nat) => state_any j _ q _ p' (HR'.out.at_.drewN m) HR'.out.ok)
        have HLF := Lib.hid (fun (m : Nat) => left_any _ q _ p' (HR'.out.at_.drewN m) HR'.out.ok)
        have HRO : Hid (∀ j : Nat, j < nc → ∃ v, (hadL p')[j]? = some v ∧ wc.cell? ⟨bh, j, none⟩ = some (.int .i64 v)) := Lib.hid fun j hj => by
          obtain ⟨v, hv⟩ : ∃ v, (hadL p')[j]? = some v := ⟨_, List.getElem?_eq_getElem (by rw [hadL_len, HR'.out.nc]; exact hj)⟩
          exact ⟨v, hv, by rw [BlkL.cell HR'.out.row]; unfold ints; rw [List.getElem?_map, hv]; rfl⟩
        have HLE : Hid (((leftM p' : Nat) : Int) = nc - nn' ∧ 0 ≤ nn' ∧ nn' ≤ 100) := Lib.hid (by
          have h1 := left_had p'
          have h2 := HR'.out.nn
          have h3 := HR'.out.nc
          have h4 : leftM p' ≤ p'.ch.length := List.countP_le_length
          omega)
        obtain ⟨wo, rfl⟩ : ∃ wo : World, wo = wr := ⟨_, rfl⟩
        go_wp2_with fail
        go_loopw [126] (fun s126 wx => ∃ (j m : Nat), j ≤ nc ∧ s126 = .int .i64 j ∧ wx = wc.drewN m) (fun s126 _ => nc - (intOf s126).toNat)
        case atStart => exact ⟨0, 0, Nat.zero_le _, rfl, rfl⟩
        case round =>
          obtain ⟨j, m, hj, rfl, rfl⟩ := hrel
          by_cases hjl : j < nc
          · obtain ⟨v, hv, f0⟩ := HRO.out j hjl
            obtain ⟨hv01, hvs⟩ := state_had hv
            have HS := Lib.hid (fun (m : Nat) => HST.out m j)
            clear hv
            obtain ⟨S, hS⟩ : ∃ S, stateM p' j = S := ⟨_, rfl⟩
            rw [hS] at HS hvs
            clear hS
            rcases hv01 with rfl | rfl
            · have e2 : (S == 2) = false := by simp; omega
              clear hvs
              go_wp2
              go_quiet ((go_at_call 22; refine (HS.out _).mono (fun _ _ h => ⟨h.1, _, h.2.symm⟩)))
              go_wp2
              go_roundw
              case rel => exact ⟨j + 1, _, by omega, by go_num, rfl⟩
              case measure => simp [intOf]; omega
            · have e2 : (S == 2) = true := by simp; omega
              clear hvs
              go_wp2
              go_quiet ((go_at_call 22; refine (HS.out _).mono (fun _ _ h => ⟨h.1, _, h.2.symm⟩)))
              go_wp2
              go_roundw
              case rel => exact ⟨j + 1, _, by omega, by go_num, rfl⟩
              case measure => simp [intOf]; omega
          · obtain ⟨hle, l0, l1⟩ := HLE.out
            have HLM := Lib.hid hle
            clear hle
            go_wp2_with fail
            refine (HLF.out m).mono ?_
            rintro e w4 ⟨rfl, g4⟩
            have HG4 := Lib.hid g4
            clear g4
            rw [HLM.out]
            have e3 : (((nc : Int) - nn') != ((nc : Int) - nn')) = false := by simp
            go_wp2_with fail
            go_roundw
            case rel =>
              have c4 : Chg none wc w4 := ((Chg.refl none wc).drewN m).trans HG4.out
              exact ⟨k + 1, p', now', nn', by omega, by go_num, rfl, rfl, Lib.hid ⟨HR'.out.at_.chg c4, HR'.out.ok, HR'.out.nc, HR'.out.np, Blk.chg HR'.out.row c4 (by simp), HR'.out.now, HR'.out.nn, HR'.out.chg.trans c4⟩⟩
            case measure => simp [intOf]; omega
    · clear e150
      have HG := Lib.hid HR.out.chg
      clear HR
      go_wp2_with fail
      refine (known_any _).mono ?_
      rintro e w' ⟨rfl, g⟩
      have G := Lib.hid (HG.out.trans g)
      clear g
      go_wp2
      go_ret
      exact ⟨rfl, G.out⟩

set_option maxRecDepth 100000 in
set_option maxHeartbeats 4000000 in
theorem had_not (nc np win tim : Int) (A : Option Addr) (n ca : Nat) (w : World) (hm : ¬ mayP nc np win tim) :
    Calls Try.prog 7 #[.int .i64 nc, .int .i64 np, .int .i64 win, .int .i64 tim, .slice A n ca] w fun e w' => e = .returned (.bool true) ∧ Chg none w w' := by
  have HN := Lib.hid (new_no nc np win tim w hm)
  clear hm
  go_enter Try.func7, Try.ntmps7
  go_wp2_with fail
  refine HN.out.mono ?_
  rintro e w1 ⟨rfl, rfl⟩
  go_wp2_with fail
  refine (known_any _).mono ?_
  rintro e w2 ⟨rfl, g2⟩
  have G2 := Lib.hid g2
  clear g2
  go_wp2_with fail
  go_ret
  exact ⟨rfl, G2.out⟩

set_option maxRecDepth 100000 in
set_option maxHeartbeats 4000000 in
theorem had_long (nc np : Nat) (win tim : Int) (A : Option Addr) (n ca : Nat) (w : World) (hm : mayP nc np win tim) (hn : 150 < n) :
    Calls Try.prog 7 #[.int .i64 nc, .int .i64 np, .int .i64 win, .int .i64 tim, .slice A n ca] w fun e w' => e = .returned (.bool true) ∧ Chg none w w' := by
  have HN := Lib.hid (new_yes nc np win tim w hm)
  have e2 : decide ((150 : Int) < (n : Int)) = true := by simp; omega
  clear hm hn
  go_enter Try.func7, Try.ntmps7
  go_wp2_with fail
  refine HN.out.mono ?_
  rintro e w1 ⟨q, rfl, h1, hq, g1⟩
  have G1 := Lib.hid g1
  clear h1 hq g1
  go_wp2_with fail
  refine (known_any _).mono ?_
  rintro e w2 ⟨rfl, g2⟩
  have G2 := Lib.hid (G1.out.trans g2)
  clear g2
  go_wp2_with fail
  go_ret
  exact ⟨rfl, G2.out⟩

theorem had_all (nc np win tim : Int) (A : Option Addr) (L : List Opn) (ca : Nat) (w : World) (hL : ∀ o ∈ L, o.wide) (hA : RowsAt w 4 A Opn.cells L) :
    Calls Try.prog 7 #[.int .i64 nc, .int .i64 np, .int .i64 win, .int .i64 tim, .slice A L.length ca] w fun e w' => e = .returned (.bool true) ∧ Chg none w w' := by
  by_cases hm : mayP nc np win tim
  · obtain ⟨c, rfl⟩ := Int.eq_ofNat_of_zero_le hm.1.1
    obtain ⟨p, rfl⟩ := Int.eq_ofNat_of_zero_le hm.2.1.1
    by_cases hn : L.length ≤ 150
    · exact had_main c p win tim A L ca w hm hL hA hn
    · exact had_long c p win tim A L.length ca w hm (by omega)
  · exact had_not nc np win tim A L.length ca w hm

end Go.Proofs.Ytippkdjggipnmaa
