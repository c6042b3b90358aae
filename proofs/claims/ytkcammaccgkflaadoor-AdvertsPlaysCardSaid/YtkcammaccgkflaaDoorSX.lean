/-
  Package adverts: what is below a prefix, handed out one by one.
-/
import Derived.Test.YtkcammaccgkflaaDoorSW
import Derived.Test.YtkcammaccgkflaaDoorZD
import Derived.Test.YtkcammaccgkflaaDoorRG
import Derived.WalkKit
import Derived.OwnWalkIn
import Derived.TacticsInMore
import Derived.LoopNIn
import Derived.LoopIn
namespace Go.Proofs.YtkcammaccgkflaaDoor
open Go.RowKit

/-- A result that may be. -/
abbrev MA := { x : Att // mayB x.n = true }
def encA (x : MA) : Array Value := #[.agg (attCells x.1).toArray]
/-- What a round leaves as it was: all that lay there ahead of the loop, but one block. -/
def KeptBut (n g : Nat) : World → World → Prop := Kept (fun k => k = g ∨ n ≤ k)
theorem KeptBut.trans {n g : Nat} {u v w : World} (h : KeptBut n g u v) (k : KeptBut n g v w) : KeptBut n g u w := Kept.trans h k
theorem KeptBut.putObj {n g : Nat} (W : World) (l : Nat) (o o' : Obj) (hl : n ≤ l) (_ : W.heap[l]? = some o) (_ : o.isCells = false) : KeptBut n g W (W.putObj l o') :=
  (Kept.of_chg (c := some l) (grownBy_putObj' W l o')).mono fun k e => by injection e with e; exact .inr (e ▸ hl)
theorem KeptBut.chg {n g : Nat} {u v w : World} (h : KeptBut n g u v) (k : Chg none v w) : KeptBut n g u w := Kept.chg h k
/-- Between two that are handed out. -/
structure RangeI (w : World) (n g : Nat) (L : List Att) (pr : List UInt8) (J : List MA → World → Prop) (pre : List MA) (k : Nat) (W : World) : Prop where
  j : J pre W
  kept : KeptBut n g w W
  all : pre.map (·.1) = (L.take k).filter (inP pr)
theorem RangeI.next {w W W' : World} {n g k : Nat} {L : List Att} {pr : List UInt8} {J : List MA → World → Prop} {pre : List MA} {x : MA} (h : RangeI w n g L pr J pre k W) (hx : L[k]? = some x.1) (hi : inP pr x.1 = true) (hj : J (pre ++ [x]) W') (hk : KeptBut n g W W') : RangeI w n g L pr J (pre ++ [x]) (k + 1) W' :=
  ⟨hj, h.kept.trans hk, by rw [List.take_add_one, hx, List.filter_append, ← h.all]; simp [hi]⟩
theorem RangeI.skip {w W W' : World} {n g k : Nat} {L : List Att} {pr : List UInt8} {J : List MA → World → Prop} {pre : List MA} {x : Att} (h : RangeI w n g L pr J pre k W) (hx : L[k]? = some x) (hi : inP pr x = false) (hj : J pre W') (hk : KeptBut n g W W') : RangeI w n g L pr J pre (k + 1) W' :=
  ⟨hj, h.kept.trans hk, by rw [List.take_add_one, hx, List.filter_append, ← h.all]; simp [hi]⟩
theorem HandsA.empty {P : Program} {gf : Nat} {lb : Array Value} {Kp : World → World → Prop} {S : List MA → World → Prop} {N : Nat} {w : World} (h : ∀ (l : Nat) (W : World), Chg none w W → Calls P gf (#[.func (.yield l) #[] #[]] ++ lb) W fun e W' => (∃ v, e = .returned v) ∧ Chg none W W') (hS : ∀ W, S [] W) :
    Hands P gf lb encA Kp S N w := fun l _J W g hJ _ h0 => (h l W g).mono fun _ _ h => ⟨h.1, [], hS _, hJ _ _ _ h0 h.2⟩

set_option maxRecDepth 100000 in
set_option maxHeartbeats 4000000 in
theorem range92_nil (B1 B2 l : Nat) (W : World) (hb1 : Blk W B1 #[.pointer none] 67) : Calls Tryd.prog 92 (#[.func (.yield l) #[] #[]] ++ #[.pointer (some ⟨B1, 0, none⟩), .pointer (some ⟨B2, 0, none⟩)]) W fun e W' => (∃ v, e = .returned v) ∧ Chg none W W' := by
  show Calls Tryd.prog 92 #[.func (.yield l) #[] #[], .pointer (some ⟨B1, 0, none⟩), .pointer (some ⟨B2, 0, none⟩)] W _
  have c1 : W.cell? ⟨B1, 0, none⟩ = some (.pointer none) := by rw [hb1.cell]; rfl
  have HG := Lib.hid (Chg.refl none W)
  clear hb1
  go_enter Tryd.func92, Tryd.ntmps92
  go_step3
  go_wp2_with fail
  rw [Exit.noGoto_ret]
  refine bodyPost_ret (results_none rfl _ _ _) rfl ?_
  exact ⟨⟨_, rfl⟩, HG.out⟩
set_option maxRecDepth 100000 in
set_option maxHeartbeats 4000000 in
theorem range92_none (B1 B2 l p : Nat) (W : World) (pr : List UInt8) (Ap : Option Addr) (cp : Nat) (hb1 : Blk W B1 #[.pointer (some ⟨p, 0, none⟩)] 67) (hb2 : Blk W B2 #[.slice Ap pr.length cp] 22) (hT : Txt W Ap pr) (hpl : pr.length < 9223372036854775808) (hp : prefB pr = false) :
    Calls Tryd.prog 92 (#[.func (.yield l) #[] #[]] ++ #[.pointer (some ⟨B1, 0, none⟩), .pointer (some ⟨B2, 0, none⟩)]) W fun e W' => (∃ v, e = .returned v) ∧ Chg none W W' := by
  show Calls Tryd.prog 92 #[.func (.yield l) #[] #[], .pointer (some ⟨B1, 0, none⟩), .pointer (some ⟨B2, 0, none⟩)] W _
  have c1 : W.cell? ⟨B1, 0, none⟩ = some (.pointer (some ⟨p, 0, none⟩)) := by rw [hb1.cell]; rfl
  have c2 : W.cell? ⟨B2, 0, none⟩ = some (.slice Ap pr.length cp) := by rw [hb2.cell]; rfl
  have HP := Lib.hid (isprefix_any pr Ap cp W hT hpl)
  rw [hp] at HP
  have HG := Lib.hid (Chg.refl none W)
  clear hb1 hb2 hT hpl hp
  go_enter Tryd.func92, Tryd.ntmps92
  go_step3
  go_wp2_with fail
  refine HP.out.mono ?_
  rintro e w1 ⟨rfl, rfl⟩
  go_wp2_with fail
  rw [Exit.noGoto_ret]
  refine bodyPost_ret (results_none rfl _ _ _) rfl ?_
  exact ⟨⟨_, rfl⟩, HG.out⟩

set_option maxRecDepth 100000 in
set_option maxHeartbeats 16000000 in
theorem range92_hands (w0 w : World) (B p B1 B2 g : Nat) (A : Option Addr) (c : Nat) (L : List Att) (pr : List UInt8) (Ap : Option Addr) (cp : Nat) (h : SetAt w0 B p A c L) (hl : L.length ≤ 1000) (hT : Txt w0 Ap pr) (hpl : pr.length < 9223372036854775808) (hg : Chg none w0 w) (hgs : w0.heap.size ≤ g)
    (hb1 : Blk w B1 #[.pointer (some ⟨p, 0, none⟩)] 67) (hb2 : Blk w B2 #[.slice Ap pr.length cp] 22) (h1 : B1 ≠ g) (h2 : B2 ≠ g) (hp : prefB pr = true) (hmay : ∀ x ∈ L, mayB x.n = true) :
    Hands Tryd.prog 92 #[.pointer (some ⟨B1, 0, none⟩), .pointer (some ⟨B2, 0, none⟩)] encA (KeptBut w.heap.size g) (fun xs _ => xs.map (·.1) = belowA L pr) (L.length + 1) w := by
  intro l J W gW hJ hY h0
  show Calls Tryd.prog 92 #[.func (.yield l) #[] #[], .pointer (some ⟨B1, 0, none⟩), .pointer (some ⟨B2, 0, none⟩)] W _
  have HC : Hid (∀ v, KeptBut w.heap.size g w v → Chg none w0 v) := Lib.hid fun v k => Kept.fresh hg k fun i hi => by
    rcases hi with rfl | hi
    · exact hgs
    · exact Nat.le_trans hg.size hi
  have HB1 : Hid (∀ v, KeptBut w.heap.size g w v → v.cell? ⟨B1, 0, none⟩ = some (.pointer (some ⟨p, 0, none⟩))) := Lib.hid fun v k => by
    have hq : Blk v B1 #[.pointer (some ⟨p, 0, none⟩)] 67 := (k.block B1 (Blk.lt hb1) (fun e => e.elim h1 (fun e => by have := Blk.lt hb1; omega))).trans hb1
    rw [hq.cell]; rfl
  have HB2 : Hid (∀ v, KeptBut w.heap.size g w v → v.cell? ⟨B2, 0, none⟩ = some (.slice Ap pr.length cp)) := Lib.hid fun v k => by
    have hq : Blk v B2 #[.slice Ap pr.length cp] 22 := (k.block B2 (Blk.lt hb2) (fun e => e.elim h2 (fun e => by have := Blk.lt hb2; omega))).trans hb2
    rw [hq.cell]; rfl
  have HROW : Hid (∀ k x, L[k]? = some x → ∃ b, A = some ⟨b, 0, none⟩ ∧ ∀ v, Chg none w0 v → v.rangeAt b (k * 97) (attCells x)) := Lib.hid fun k x hk => by
    obtain ⟨b, c', e, -, hbl, hr⟩ := arow_at h.ow hk
    injection e with e1 _ _
    exact ⟨b, e1, fun v g => rangeAt_chg hr g (by simp)⟩
  have HSET : Hid (∀ v, Chg none w0 v → v.cell? ⟨p, 0, none⟩ = some (.slice A L.length c)) := Lib.hid fun v g => (h.chg g).cell
  have HT : Hid (∀ v, Chg none w0 v → Txt v Ap pr) := Lib.hid fun v g => hT.chg g
  have HPL : Hid (pr.length ≤ 8) := Lib.hid (by unfold prefB at hp; rw [Bool.and_eq_true] at hp; exact of_decide_eq_true hp.1)
  have HBE : Hid (belowA L pr = L.filter (inP pr)) := Lib.hid (by unfold belowA; rw [if_pos hp])
  have hk0 : KeptBut w.heap.size g w W := (Kept.of_chg gW).mono fun k e => by cases e
  have c1 := HB1.out W hk0
  have c2 := HB2.out W hk0
  have c3 := HSET.out W (HC.out W hk0)
  have HP := Lib.hid (isprefix_any pr Ap cp W (HT.out W (HC.out W hk0)) hpl)
  rw [hp] at HP
  have HST : Hid (RangeI w w.heap.size g L pr J [] 0 W) := Lib.hid ⟨h0, hk0, rfl⟩
  have HY := Lib.hid hY
  have HJ := Lib.hid hJ
  have HL := Lib.hid hl
  have HMAY := Lib.hid hmay
  have HI30 : Hid (∀ d : Dg, (Tryd.prog.info? 30).map (·.size) = some (byteVals d.1).length) := Lib.hid fun d => by rw [byteVals_len, d.2]; show _ = _; kernel_rfl
  clear h hT hg hgs hb1 hb2 h1 h2 hp hl hpl hY hJ h0 hk0 hmay
  generalize w.heap.size = nn at *
  go_enter Tryd.func92, Tryd.ntmps92
  go_step3
  go_wp2_with fail
  refine HP.out.mono ?_
  rintro e w1 ⟨rfl, rfl⟩
  go_wp2_with fail
  go_step3
  go_wp2_with fail
  clear c1 c2 c3 HP
  go_loopw [20] (fun s20 wr => ∃ (pre : List MA) (k : Nat), k ≤ L.length ∧ s20 = .int .i64 k ∧ Hid (RangeI w nn g L pr J pre k wr)) (fun s20 _ => L.length - (intOf s20).toNat)
  case atStart => exact ⟨[], 0, Nat.zero_le _, rfl, HST⟩
  case round =>
    obtain ⟨pre, k, hk, rfl, HR⟩ := hrel
    by_cases hlt : k < L.length
    · have hd : decide (k < L.length) = true := by rw [decide_eq_true_eq]; exact hlt
      have hd2 : decide ((k : Int) < (L.length : Int)) = true := by rw [decide_eq_true_eq]; omega
      have hlt' : (k : Int) < (L.length : Int) := by omega
      have hkl : (k : Int) ≤ 1000 := by have := HL.out; omega
      obtain ⟨x, hx⟩ : ∃ x, L[k]? = some x := ⟨_, List.getElem?_eq_getElem hlt⟩
      obtain ⟨rb, rfl, hr⟩ := HROW.out k x hx
      have HRX := Lib.hid (hr wr (HC.out wr HR.out.kept))
      have HIX := Lib.hid (info46 x)
      have HLT := Lib.hid hlt
      have HX := Lib.hid hx
      clear hr hx hlt
      obtain ⟨WA, hWA⟩ : ∃ WA, WA = (wr.alloc (.cells Tryd.zeroCells46 46)).setRow wr.heap.size (attCells x).toArray := ⟨_, rfl⟩
      have hzb : (wr.alloc (.cells Tryd.zeroCells46 46)).heap[wr.heap.size]? = some (.cells Tryd.zeroCells46 46 (0, 0)) := heap_alloc_new wr _
      have hbx : BlkL WA wr.heap.size (attCells x) 46 := by rw [hWA]; exact setRow_heap _ _ _ _ 46 _ hzb
      have hga : Chg none wr WA := by rw [hWA]; exact Chg.own ((Chg.refl none wr).alloc _) (chg_setRow _ _ _) (Nat.le_refl _)
      have HZB := Lib.hid hzb
      have HZS : Hid (Tryd.zeroCells46.size = (attCells x).toArray.size) := Lib.hid (by
        have h97 : (attCells x).toArray.size = 97 := by rw [List.size_toArray, attCells_len]
        rw [h97]; show _ = _; kernel_rfl)
      have HI46 := Lib.hid (info46a x)
      have HO1 := Lib.hid (attCells_one x)
      have HWA := Lib.hid hWA
      have HGA := Lib.hid hga
      have HBX : Hid (∀ v, Chg none WA v → v.rangeAt wr.heap.size 0 (attCells x)) := Lib.hid fun v g => Blk.range (Blk.chg hbx g (by simp))
      have cB2 := HB2.out WA (HR.out.kept.chg hga)
      clear hWA hzb hbx hga
      go_upto_region 5 with (first
          | (refine wpList_load_mid rfl 46 _ rfl rb (k * 97) rfl (attCells x) _ HRX.out Tryd.underlying46 rfl HIX.out ?_)
          | (refine wpList_store_row rfl 46 _ _ rfl wr.heap.size (attCells x).toArray rfl rfl 46 _ HZB.out HI46.out HZS.out HO1.out ?_; rw [← HWA.out]))
      clear cB2
      generalize wr.heap.size = pa at *
      obtain ⟨wo, rfl⟩ : ∃ wo : World, wo = wr := ⟨_, rfl⟩
      go_loopw [26] (fun s26 wi => ∃ i : Nat, i ≤ pr.length ∧ s26 = .int .i64 i ∧ Hid (∀ j, j < i → halfN x.k.1 j = (pr.getD j 0).toNat) ∧ Hid (Chg none WA wi)) (fun s26 _ => pr.length - (intOf s26).toNat)
      case atStart => exact ⟨0, Nat.zero_le _, rfl, Lib.hid fun j hj => by omega, Lib.hid (Chg.refl _ _)⟩
      case round =>
        obtain ⟨i, hi, rfl, HH, HG⟩ := hrel
        by_cases hil : i < pr.length
        · have hq : decide (i < pr.length) = true := by rw [decide_eq_true_eq]; exact hil
          have hq2 : decide ((i : Int) < (pr.length : Int)) = true := by rw [decide_eq_true_eq]; omega
          have hil' : (i : Int) < (pr.length : Int) := by omega
          have hi8 : (i : Int) ≤ 8 := by have := HPL.out; omega
          obtain ⟨n, hn⟩ : ∃ n, pr[i]? = some n := ⟨_, List.getElem?_eq_getElem hil⟩
          obtain ⟨sb, so, rfl, -, hcell⟩ := HT.out wr ((HC.out _ (HR.out.kept.chg HGA.out)).trans HG.out) (by omega)
          have y0 := hcell i n hn
          have HKX := Lib.hid (att_key (HBX.out wr HG.out))
          have HHF := Lib.hid (half_any x.k i wr (by have := HPL.out; omega))
          have HN := Lib.hid (show (pr.getD i 0).toNat = n.toNat by rw [List.getD_eq_getElem?_getD, hn]; rfl)
          have HIL := Lib.hid hil
          clear hcell hn hil
          generalize hhv : halfN x.k.1 i = hv at HHF
          have HHV := Lib.hid hhv
          clear hhv
          by_cases heq : hv = n.toNat
          · have e1 : ((hv : Int) != (n.toNat : Int)) = false := by simp; omega
            have e2 : (hv : Int) = (n.toNat : Int) := by omega
            have HH2 : Hid (∀ j, j < i + 1 → halfN x.k.1 j = (pr.getD j 0).toNat) := Lib.hid fun j hj => by
              rcases Nat.lt_or_ge j i with h | h
              · exact HH.out j h
              · obtain rfl : j = i := by omega
                rw [HHV.out, HN.out, heq]
            clear heq
            go_wp2_with (first
              | (refine wpList_load_mid rfl 30 _ rfl pa 0 rfl (byteVals x.k.1) _ HKX.out Tryd.underlying30 rfl (HI30.out x.k) ?_))
            refine HHF.out.mono ?_
            rintro e w2 ⟨rfl, g2⟩
            have HG2 := Lib.hid (HG.out.trans g2)
            clear g2
            go_wp2_with fail
            go_roundw
            case rel => exact ⟨i + 1, by have := HIL.out; omega, by first | rfl | go_num, HH2, HG2⟩
            case measure => have := HIL.out; first | omega | (simp only [intOf]; omega) | (simp [intOf]; omega)
          · have e1 : ((hv : Int) != (n.toNat : Int)) = true := by simp; omega
            have e2 : ¬ (hv : Int) = (n.toNat : Int) := by omega
            have HNO : Hid (inP pr x = false) := Lib.hid (by
              cases hq : inP pr x with
              | false => rfl
              | true => exact absurd (by rw [← HHV.out, (inP_iff pr x).1 hq i HIL.out, HN.out]) heq)
            clear heq
            go_wp2_with (first
              | (refine wpList_load_mid rfl 30 _ rfl pa 0 rfl (byteVals x.k.1) _ HKX.out Tryd.underlying30 rfl (HI30.out x.k) ?_))
            refine HHF.out.mono ?_
            rintro e w2 ⟨rfl, g2⟩
            have HG2 := Lib.hid ((HGA.out.trans HG.out).trans g2)
            clear g2
            go_wp2_with fail
            go_roundw
            case rel => exact ⟨pre, k + 1, by have := HLT.out; omega, by first | rfl | go_num, Lib.hid (HR.out.skip HX.out HNO.out (HJ.out _ _ _ HR.out.j HG2.out) ((Kept.of_chg HG2.out).mono fun k e => by cases e))⟩
            case measure => have := HLT.out; first | omega | (simp only [intOf]; omega) | (simp [intOf]; omega)
        · have hq : decide (i < pr.length) = false := by rw [decide_eq_false_iff_not]; exact hil
          have hq2 : decide ((i : Int) < (pr.length : Int)) = false := by rw [decide_eq_false_iff_not]; omega
          have HYES : Hid (inP pr x = true) := Lib.hid ((inP_iff pr x).2 fun j hj => HH.out j (by omega))
          have HG2 := Lib.hid (HGA.out.trans HG.out)
          obtain ⟨fn, tmps, assign, body, hy, hRd⟩ := HY.out pre ⟨x, HMAY.out x (List.mem_of_getElem? HX.out)⟩ wr (HJ.out _ _ _ HR.out.j HG2.out) (by
            have h1 : pre.length ≤ (L.take k).length := by rw [← List.length_map (f := fun x : MA => x.1), HR.out.all]; exact List.length_filter_le _ _
            rw [List.length_take] at h1
            have := HLT.out; omega)
          dsimp only [encA] at hy
          have HRD := Lib.hid hRd
          have HAX := Lib.hid (HBX.out wr HG.out)
          clear hRd hil
          go_upto_region 9 with fail
          refine (wpIn_wide (n := 2)).1 ?_
          gi_wp2_with (first
            | (refine wpListIn_load_mid rfl 46 _ rfl pa 0 rfl (attCells x) _ HAX.out Tryd.underlying46 rfl HIX.out ?_))
          refine HRD.out.mono ?_
          rintro e W3 ⟨rfl, hJ3, hk3⟩
          have HNEW := Lib.hid (HR.out.next (x := ⟨x, HMAY.out x (List.mem_of_getElem? HX.out)⟩) HX.out HYES.out hJ3 (KeptBut.trans ((Kept.of_chg HG2.out).mono fun k e => by cases e) hk3))
          clear hJ3 hk3 hy
          gi_wp2_with fail
          go_wp2_with fail
          go_roundw
          case rel => exact ⟨_, k + 1, by have := HLT.out; omega, by first | rfl | go_num, HNEW⟩
          case measure => have := HLT.out; first | omega | (simp only [intOf]; omega) | (simp [intOf]; omega)
    · have hd : decide (k < L.length) = false := by rw [decide_eq_false_iff_not]; exact hlt
      have hd2 : decide ((k : Int) < (L.length : Int)) = false := by rw [decide_eq_false_iff_not]; omega
      have HALL : Hid (pre.map (·.1) = belowA L pr) := Lib.hid (by
        have := HR.out.all
        rwa [show k = L.length by omega, List.take_length, ← HBE.out] at this)
      clear hlt
      go_wp2_with fail
      rw [Exit.noGoto_normal]
      refine bodyPost_end (results_none rfl _ _ _) rfl ?_
      exact ⟨⟨_, rfl⟩, pre, HALL.out, HR.out.j⟩

end Go.Proofs.YtkcammaccgkflaaDoor
