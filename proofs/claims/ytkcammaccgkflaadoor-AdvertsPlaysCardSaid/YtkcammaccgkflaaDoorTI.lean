/-
  Package adverts, the document's: Below.
-/
import Derived.Test.YtkcammaccgkflaaDoorSV
import Derived.Test.YtkcammaccgkflaaDoorTC
namespace Go.Proofs.YtkcammaccgkflaaDoor
open Go.RowKit

def inK (pr : List UInt8) (x : Att) (k : Nat) : Bool := (List.range k).all fun i => halfN x.k.1 i == (pr.getD i 0).toNat
theorem inK_all (pr : List UInt8) (x : Att) : inK pr x pr.length = inP pr x := rfl
theorem inK_step (pr : List UInt8) (x : Att) (k : Nat) : inK pr x (k + 1) = (inK pr x k && (halfN x.k.1 k == (pr.getD k 0).toNat)) := by
  unfold inK
  rw [List.range_succ, List.all_append]; simp
theorem bel_step {L : List Att} {pr : List UInt8} {k : Nat} {x : Att} (h : L[k]? = some x) : (L.take (k + 1)).filter (inP pr) = (L.take k).filter (inP pr) ++ (if inP pr x then [x] else []) := by
  rw [List.take_add_one, h, List.filter_append]
  congr 1
  show List.filter _ [x] = _
  rw [List.filter_cons]
  rfl
def RBelow (w : World) (M : List Att) (e : Ending) (w' : World) : Prop :=
  ∃ (A : Option Addr) (c : Nat), e = .returned (.slice A M.length c) ∧ w'.ownsRow w.heap.size 46 97 (.slice A M.length c) M.length (M.flatMap attCells) ∧ Chg none w w'

set_option maxRecDepth 100000 in
set_option maxHeartbeats 16000000 in
theorem refbelow_any (L : List Att) (B : Nat) (A : Option Addr) (c : Nat) (pr : List UInt8) (Ap : Option Addr) (cp : Nat) (w : World) (h : w.ownsRow B 46 97 (.slice A L.length c) L.length (L.flatMap attCells)) (hl : L.length ≤ 1000) (hT : Txt w Ap pr) (hpl : pr.length ≤ 1000) :
    Calls Tryd.prog 53 #[.slice A L.length c, .slice Ap pr.length cp] w (RBelow w (belowA L pr)) := by
  have HP := Lib.hid (refprefix_any pr Ap cp w hT hpl)
  cases hp : prefB pr with
  | false =>
    rw [hp] at HP
    have HE : Hid (belowA L pr = []) := Lib.hid (by unfold belowA; rw [if_neg (by rw [hp]; decide)])
    clear h hT
    go_enter Tryd.func53, Tryd.ntmps53
    go_wp2_with fail
    refine HP.out.mono ?_
    rintro e w0 ⟨rfl, rfl⟩
    go_wp2_with fail
    go_ret
    unfold RBelow
    rw [HE.out]
    exact ⟨none, 0, rfl, World.ownsRow_nil _ _ _ _, Chg.refl _ _⟩
  | true =>
    rw [hp] at HP
    obtain ⟨i0, hi0, hz0, hz1, hz2⟩ := zinfo46
    have HE : Hid (belowA L pr = L.filter (inP pr)) := Lib.hid (by unfold belowA; rw [if_pos hp])
    have HPL : Hid (pr.length ≤ 8) := Lib.hid (by unfold prefB at hp; rw [Bool.and_eq_true] at hp; exact of_decide_eq_true hp.1)
    have HROW : Hid (∀ k x, L[k]? = some x → ∃ b, A = some ⟨b, 0, none⟩ ∧ ∀ v, Chg none w v → v.rangeAt b (k * 97) (attCells x)) := Lib.hid fun k x hk => by
      obtain ⟨b, c', e, -, hbl, hr⟩ := arow_at h hk
      injection e with e1 _ _
      exact ⟨b, e1, fun v g => rangeAt_chg hr g (by simp)⟩
    have HT : Hid (∀ v, Chg none w v → Txt v Ap pr) := Lib.hid fun v g => hT.chg g
    have HL := Lib.hid hl
    have HZ : Hid ((Value.agg (attCells attZero).toArray).cells.size = 97) := Lib.hid (by show (attCells attZero).toArray.size = 97; rw [List.size_toArray, attCells_len])
    clear h hT hl hpl hp
    go_enter Tryd.func53, Tryd.ntmps53
    go_wp2_with fail
    refine HP.out.mono ?_
    rintro e w0 ⟨rfl, rfl⟩
    go_upto_region 5 with fail
    clear HP
    go_loopw [5, 6] (fun s5 s6 wr => ∃ (k : Nat) (A' : Option Addr) (c' : Nat), k ≤ L.length ∧ s6 = .int .i64 k ∧ s5 = .slice A' ((L.take k).filter (inP pr)).length c' ∧
      Hid (wr.ownsRow w.heap.size 46 97 (.slice A' ((L.take k).filter (inP pr)).length c') ((L.take k).filter (inP pr)).length (((L.take k).filter (inP pr)).flatMap attCells)) ∧ Hid (Chg none w wr)) (fun _ s6 _ => L.length - (intOf s6).toNat)
    case atStart => exact ⟨0, none, 0, Nat.zero_le _, rfl, rfl, Lib.hid (World.ownsRow_nil _ _ _ _), Lib.hid (Chg.refl _ _)⟩
    case round =>
      obtain ⟨k, A', c', hk, rfl, rfl, HOW, HG⟩ := hrel
      by_cases hlt : k < L.length
      · have hd : decide (k < L.length) = true := by rw [decide_eq_true_eq]; exact hlt
        have hd2 : decide ((k : Int) < (L.length : Int)) = true := by rw [decide_eq_true_eq]; omega
        have hlt' : (k : Int) < (L.length : Int) := by omega
        have hkl : (k : Int) ≤ 1000 := by have := HL.out; omega
        obtain ⟨x, hx⟩ : ∃ x, L[k]? = some x := ⟨_, List.getElem?_eq_getElem hlt⟩
        obtain ⟨rb, rfl, hr⟩ := HROW.out k x hx
        have HRX := Lib.hid (hr wr HG.out)
        have HIX := Lib.hid (info46 x)
        have HLT := Lib.hid hlt
        have HST := Lib.hid (bel_step (pr := pr) hx)
        have HTX := Lib.hid (HT.out wr HG.out)
        have hml : ((L.take k).filter (inP pr)).length ≤ 1000 := by
          have h1 : ((L.take k).filter (inP pr)).length ≤ (L.take k).length := List.length_filter_le _ _
          rw [List.length_take] at h1
          have := HL.out; omega
        clear hr hx hlt
        generalize (L.take k).filter (inP pr) = Q0 at *
        go_upto_region 9 with fail
        obtain ⟨wo, rfl⟩ : ∃ wo : World, wo = wr := ⟨_, rfl⟩
        go_loopw [7, 8] (fun s7 s8 wr => ∃ i : Nat, i ≤ pr.length ∧ s8 = .int .i64 i ∧ s7 = .bool (inK pr x i) ∧ wo = wr) (fun _ s8 _ => pr.length - (intOf s8).toNat)
        case atStart => exact ⟨0, Nat.zero_le _, rfl, rfl, rfl⟩
        case round =>
          obtain ⟨i, hi, rfl, rfl, rfl⟩ := hrel
          by_cases hil : i < pr.length
          · have hq : decide (i < pr.length) = true := by rw [decide_eq_true_eq]; exact hil
            have hq2 : decide ((i : Int) < (pr.length : Int)) = true := by rw [decide_eq_true_eq]; omega
            have hil' : (i : Int) < (pr.length : Int) := by omega
            have hi8 : (i : Int) ≤ 8 := by have := HPL.out; omega
            have hi8n : i ≤ 8 := by omega
            obtain ⟨n, hn⟩ : ∃ n, pr[i]? = some n := ⟨_, List.getElem?_eq_getElem hil⟩
            obtain ⟨sb, so, rfl, -, hcell⟩ := HTX.out (by omega)
            have y0 := hcell i n hn
            have hki : (attCells x)[i / 2]? = some (.int .u8 (x.k.1.getD (i / 2) 0).toNat) := by
              unfold attCells
              rw [List.getElem?_append_left (by rw [byteVals_len, x.k.2]; omega)]
              exact byte_at (by rw [x.k.2]; omega)
            have y1 := HRX.out (i / 2) _ hki
            have hbx : (x.k.1.getD (i / 2) 0).toNat < 256 := UInt8.toNat_lt _
            have hst := inK_step pr x i
            have hpn : (pr.getD i 0).toNat = n.toNat := by rw [List.getD_eq_getElem?_getD, hn]; rfl
            rw [hpn] at hst
            have HIL := Lib.hid hil
            have hhv : halfN x.k.1 i = if i % 2 = 0 then (x.k.1.getD (i / 2) 0).toNat / 16 else (x.k.1.getD (i / 2) 0).toNat % 16 := rfl
            clear hcell hn hil hki hpn
            generalize (x.k.1.getD (i / 2) 0).toNat = bx at *
            by_cases hpar : i % 2 = 0
            · have e1 : (((i : Int) % 2) == 1) = false := by simp; omega
              rw [if_pos hpar] at hhv
              rw [hhv] at hst
              clear hhv hpar
              cases hik : inK pr x i with
              | false =>
                rw [hik] at hst
                have HST2 : Hid (inK pr x (i + 1) = false) := Lib.hid (by rw [hst]; rfl)
                clear hst hik
                go_wp2_with fail
                go_roundw
                case rel => exact ⟨i + 1, by have := HIL.out; omega, by first | rfl | go_num, by rw [HST2.out], by first | rfl | trivial⟩
                case measure => have := HIL.out; first | omega | (simp only [intOf]; omega) | (simp [intOf]; omega)
              | true =>
                rw [hik] at hst
                clear hik
                by_cases heq : bx / 16 = n.toNat
                · have e3 : (((bx : Int) / 16) == (n.toNat : Int)) = true := by simp; omega
                  have HST2 : Hid (inK pr x (i + 1) = true) := Lib.hid (by rw [hst, heq]; simp)
                  clear hst heq
                  go_wp2_with fail
                  go_roundw
                  case rel => exact ⟨i + 1, by have := HIL.out; omega, by first | rfl | go_num, by rw [HST2.out], by first | rfl | trivial⟩
                  case measure => have := HIL.out; first | omega | (simp only [intOf]; omega) | (simp [intOf]; omega)
                · have e3 : (((bx : Int) / 16) == (n.toNat : Int)) = false := by simp; omega
                  have HST2 : Hid (inK pr x (i + 1) = false) := Lib.hid (by rw [hst]; simp [heq])
                  clear hst heq
                  go_wp2_with fail
                  go_roundw
                  case rel => exact ⟨i + 1, by have := HIL.out; omega, by first | rfl | go_num, by rw [HST2.out], by first | rfl | trivial⟩
                  case measure => have := HIL.out; first | omega | (simp only [intOf]; omega) | (simp [intOf]; omega)
            · have e1 : (((i : Int) % 2) == 1) = true := by simp; omega
              rw [if_neg hpar] at hhv
              rw [hhv] at hst
              clear hhv hpar
              cases hik : inK pr x i with
              | false =>
                rw [hik] at hst
                have HST2 : Hid (inK pr x (i + 1) = false) := Lib.hid (by rw [hst]; rfl)
                clear hst hik
                go_wp2_with fail
                go_roundw
                case rel => exact ⟨i + 1, by have := HIL.out; omega, by first | rfl | go_num, by rw [HST2.out], by first | rfl | trivial⟩
                case measure => have := HIL.out; first | omega | (simp only [intOf]; omega) | (simp [intOf]; omega)
              | true =>
                rw [hik] at hst
                clear hik
                by_cases heq : bx % 16 = n.toNat
                · have e3 : (((bx : Int) % 16) == (n.toNat : Int)) = true := by simp; omega
                  have HST2 : Hid (inK pr x (i + 1) = true) := Lib.hid (by rw [hst, heq]; simp)
                  clear hst heq
                  go_wp2_with fail
                  go_roundw
                  case rel => exact ⟨i + 1, by have := HIL.out; omega, by first | rfl | go_num, by rw [HST2.out], by first | rfl | trivial⟩
                  case measure => have := HIL.out; first | omega | (simp only [intOf]; omega) | (simp [intOf]; omega)
                · have e3 : (((bx : Int) % 16) == (n.toNat : Int)) = false := by simp; omega
                  have HST2 : Hid (inK pr x (i + 1) = false) := Lib.hid (by rw [hst]; simp [heq])
                  clear hst heq
                  go_wp2_with fail
                  go_roundw
                  case rel => exact ⟨i + 1, by have := HIL.out; omega, by first | rfl | go_num, by rw [HST2.out], by first | rfl | trivial⟩
                  case measure => have := HIL.out; first | omega | (simp only [intOf]; omega) | (simp [intOf]; omega)
          · have hq : decide (i < pr.length) = false := by rw [decide_eq_false_iff_not]; exact hil
            have hq2 : decide ((i : Int) < (pr.length : Int)) = false := by rw [decide_eq_false_iff_not]; omega
            obtain rfl : i = pr.length := by omega
            rw [inK_all]
            clear hil hi
            cases hin : inP pr x with
            | false =>
              rw [hin] at HST
              clear hin
              go_wp2_with fail
              go_roundw
              case rel => exact ⟨k + 1, A', c', by have := HLT.out; omega, by first | rfl | go_num, by rw [HST.out]; simp, by rw [HST.out]; simpa using HOW, HG⟩
              case measure => have := HLT.out; first | omega | (simp only [intOf]; omega) | (simp [intOf]; omega)
            | true =>
              rw [hin] at HST
              clear hin
              have HFI := Lib.hid (fill46 x i0 hz1)
              obtain ⟨WB, hWB⟩ : ∃ WB, WB = wo.alloc (.cells (attCells x).toArray 46) := ⟨_, rfl⟩
              have HOWB : Hid (WB.ownsRow w.heap.size 46 97 (.slice A' Q0.length c') Q0.length (Q0.flatMap attCells)) := Lib.hid (by rw [hWB]; exact HOW.out.alloc _)
              have HGB : Hid (Chg none w WB) := Lib.hid (by rw [hWB]; exact HG.out.alloc _)
              have HNW : Hid (∀ j u, (attCells x)[j]? = some u → WB.cell? ((⟨wo.heap.size, 0, none⟩ : Addr).add j) = some u) := Lib.hid fun j u hj => by
                rw [Go.WideShapes.add_plain, Nat.zero_add, hWB, BlkL.cell (show BlkL (wo.alloc (.cells (attCells x).toArray 46)) wo.heap.size (attCells x) 46 from Blk.new _ _ _)]
                exact hj
              have HNL : Hid ((attCells x).length = 1 * 97) := Lib.hid (by rw [attCells_len])
              have HONE := Lib.hid (ones_att x)
              have hs1 : Q0.length + 1 ≤ maxLen := by unfold maxLen; omega
              have hs2 : (Q0.length + 1) * 104 ≤ 140737488355328 := by omega
              have hs3 : w.heap.size ≤ WB.heap.size := HGB.out.size
              have HWB := Lib.hid hWB
              clear hWB
              go_wp2_with (first
                | (refine wpList_load_mid rfl 46 _ rfl rb (k * 97) rfl (attCells x) _ HRX.out Tryd.underlying46 rfl HIX.out ?_)
                | (refine wpList_buildSlice rfl 64 46 1 _ rfl (attCells x).toArray i0 (.agg (attCells attZero).toArray) Tryd.underlying64 hi0 hz0 (by rw [hz1]; decide) (by rw [hz1]; decide) (by simp only [List.map_toArray, List.map_cons, List.map_nil]; exact HFI.out) ?_; rw [← HWB.out])
                | (refine wpList_append_own _ rfl (.tmp 51) (.tmp 56) 64 rfl w.heap.size 46 i0 (.agg (attCells attZero).toArray) 97 104 Tryd.underlying64 hi0 hz0 hz1 hz2 HZ.out (by decide) (.slice A' Q0.length c') Q0.length _ rfl HOWB.out ⟨wo.heap.size, 0, none⟩ 1 1 (attCells x) rfl HNL.out HNW.out HONE.out hs1 hs2 hs3 ?_
                   intro v' w' hown hgr hno
                   obtain ⟨A2, c2, rfl⟩ : ∃ A2 c2, v' = .slice A2 (Q0.length + 1) c2 := by
                     rcases hown.2 with ⟨e, h0⟩ | ⟨g, cap, cur, e, -⟩
                     · omega
                     · exact ⟨_, _, e⟩
                   have HOW2 := Lib.hid hown
                   have HG2 : Hid (Chg none w w') := Lib.hid (Chg.ownRow HGB.out hgr (fun y hy => (HOWB.out.lt y hy).1))
                   clear hown hgr hno hs1 hs2 hs3))
              go_roundw
              case rel =>
                refine ⟨k + 1, A2, c2, by have := HLT.out; omega, by first | rfl | go_num, by rw [HST.out, List.length_append]; rfl, ?_, HG2⟩
                rw [HST.out, List.length_append, List.flatMap_append]
                have := HOW2.out
                refine Lib.hid ?_
                simpa using this
              case measure => have := HLT.out; first | omega | (simp only [intOf]; omega) | (simp [intOf]; omega)
      · have hd : decide (k < L.length) = false := by rw [decide_eq_false_iff_not]; exact hlt
        have hd2 : decide ((k : Int) < (L.length : Int)) = false := by rw [decide_eq_false_iff_not]; omega
        obtain rfl : k = L.length := by omega
        have HOWF := Lib.hid (show wr.ownsRow w.heap.size 46 97 (.slice A' (L.filter (inP pr)).length c') (L.filter (inP pr)).length ((L.filter (inP pr)).flatMap attCells) by have := HOW.out; rwa [List.take_length] at this)
        rw [List.take_length]
        clear HOW hlt
        go_wp2_with fail
        go_ret
        unfold RBelow
        rw [HE.out]
        exact ⟨A', c', rfl, HOWF.out, HG.out⟩

end Go.Proofs.YtkcammaccgkflaaDoor
