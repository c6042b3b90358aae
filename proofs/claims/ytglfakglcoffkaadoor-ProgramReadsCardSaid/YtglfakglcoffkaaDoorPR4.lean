/-
  Package program: Read, and where what it tells lies.
-/
import Derived.Test.YtglfakglcoffkaaDoorPR2
namespace Go.Proofs.YtglfakglcoffkaaDoor
open Go.RowKit

/-- What Read tells, in memory of its own. -/
def ToldQ (w : World) (r : Option (List Ins)) (e : Ending) (w' : World) : Prop :=
  (r = none ∧ e = .returned (.tuple #[.slice none 0 0, .int .i64 5]) ∧ Chg none w w') ∨
  (∃ L A c, r = some L ∧ e = .returned (.tuple #[.slice A L.length c, .int .i64 0]) ∧ RowsAt w' 6 A insCells L ∧ L.length ≤ c ∧ L.length ≤ 30 ∧ (∀ x ∈ L, x.fits) ∧ (∀ a : Addr, A = some a → w.heap.size ≤ a.block) ∧ Chg none w w')
theorem own_base {w : World} {base n c : Nat} {A : Option Addr} {e : TypeId} {size : Nat} {xs : List Value} (h : w.ownsRow base e size (.slice A n c) n xs) {a : Addr} (hA : A = some a) : base ≤ a.block := by
  rcases h.2 with ⟨h1, _⟩ | ⟨g, cap, cur, h1, h2, _⟩
  · injection h1 with h1; rw [hA] at h1; cases h1
  · injection h1 with h1
    rw [hA] at h1
    injection h1 with h1
    rw [h1]
    exact h2

set_option maxHeartbeats 16000000 in
set_option maxRecDepth 100000 in
theorem read_own (A : Option Addr) (bs : List UInt8) (c : Nat) (w : World) (hr : Reads w w.heap.size 1 A bs.length (byteVals bs)) (hcap : bs.length ≤ c) (hl : bs.length ≤ 1000000) (hF : Flds w) :
    Calls Tryd.prog 39 #[.slice A bs.length c] w (ToldQ w (readP bs)) := by
  obtain ⟨i0, hi, hz0, hz1, hz2⟩ := info_parts Tryd.info61
  have HR : Hid (∀ v, Chg none w v → Reads v w.heap.size 1 A bs.length (byteVals bs)) := fun v g => hr.below (g.belowNone (Nat.le_refl _))
  have HF : Hid (∀ v, Chg none w v → Flds v) := fun v g => hF.chg g
  have HRP : Hid (readP bs = if (listS bs (numS bs 30 (some 0)).1 (numS bs 30 (some 0)).2).2 = some bs.length ∧ mayB (listS bs (numS bs 30 (some 0)).1 (numS bs 30 (some 0)).2).1 = true then some (listS bs (numS bs 30 (some 0)).1 (numS bs 30 (some 0)).2).1 else none) := rfl
  have hnle := numS_le bs 30 (some 0)
  have HNU : Hid (∀ v, Chg none w v → RdAt v w.heap.size A bs c (some 0) → w.heap.size ≤ v.heap.size → Calls Tryd.prog 74 #[.pointer (some ⟨w.heap.size, 0, none⟩), .int .u64 30] v fun e w' => e = .returned (.int .i64 (numS bs 30 (some 0)).1) ∧ RdAt w' w.heap.size A bs c (numS bs 30 (some 0)).2 ∧ Chg (some w.heap.size) v w') :=
    fun v g h h2 => number_any w.heap.size w.heap.size A bs c (some 0) 30 v h (HR.out v g) h2 hcap hl (by decide)
  have HIN : Hid (∀ s v, Chg none w v → RdAt v w.heap.size A bs c s → w.heap.size < v.heap.size → Calls Tryd.prog 75 #[.pointer (some ⟨w.heap.size, 0, none⟩)] v fun e w' => e = .returned (.agg (insCells (insS bs s).1).toArray) ∧ RdAt w' w.heap.size A bs c (insS bs s).2 ∧ Chg (some w.heap.size) v w') :=
    fun s v g h h2 => instr_any w.heap.size w.heap.size A bs c s v h (HR.out v g) (Nat.le_refl _) h2 hcap hl
  generalize readP bs = RP at *
  obtain ⟨n, s0, hns⟩ : ∃ n s0, numS bs 30 (some 0) = (n, s0) := ⟨_, _, rfl⟩
  rw [hns] at HRP hnle HNU
  dsimp only at HRP hnle HNU
  clear hns hr hF
  go_enter Tryd.func39, Tryd.ntmps39
  go_upto_region 2 with fail
  have HB0 : Hid (RdAt (w.alloc (.cells #[.slice A bs.length c, .int .i64 0, .bool false] 104)) w.heap.size A bs c (some 0)) := ⟨0, false, blk_newAt w _ 104 rfl, rfl⟩
  have HG0 : Hid (Chg none w (w.alloc (.cells #[.slice A bs.length c, .int .i64 0, .bool false] 104))) := (Chg.refl _ _).alloc _
  have HSZ0 : Hid (w.heap.size < (w.alloc (.cells #[.slice A bs.length c, .int .i64 0, .bool false] 104)).heap.size) := by show _ < _; simp
  generalize w.alloc (.cells #[.slice A bs.length c, .int .i64 0, .bool false] 104) = v0 at *
  obtain ⟨P0, hP⟩ : ∃ P0, P0 = w.heap.size := ⟨_, rfl⟩
  have HP := Lib.hid hP
  rw [← hP] at HB0 HNU HIN HSZ0 ⊢
  clear hP
  go_wp2_with fail
  refine (HNU.out _ HG0.out HB0.out (Nat.le_of_lt HSZ0.out)).mono ?_
  rintro e v1 ⟨rfl, hs1, hg1⟩
  have HS1 := Lib.hid hs1
  have HG1 : Hid (Chg none w v1) := Chg.own (b := P0) HG0.out hg1 (Nat.le_of_eq HP.out.symm)
  have HZ1 : Hid (P0 < v1.heap.size) := Nat.lt_of_lt_of_le HSZ0.out hg1.size
  clear hs1 hg1 HNU HB0 HG0 HSZ0
  go_wp2_with fail
  go_loopw [6, 11] (fun s6 s11 wr => ∃ (k : Nat) (A1 : Option Addr) (c1 : Nat), s11 = .int .i64 k ∧ s6 = .slice A1 k c1 ∧ Hid (k ≤ n) ∧ Hid (wr.ownsRow (P0 + 1) 61 6 (.slice A1 k c1) k ((listS bs k s0).1.flatMap insCells)) ∧ Hid (RdAt wr P0 A bs c (listS bs k s0).2) ∧ Hid (Chg none w wr) ∧ Hid (P0 < wr.heap.size)) (fun _ s11 _ => n - (intOf s11).toNat)
  case atStart => exact ⟨0, none, 0, rfl, rfl, Lib.hid (Nat.zero_le _), Lib.hid (World.ownsRow_nil _ _ _ _), HS1, HG1, HZ1⟩
  case round =>
    obtain ⟨k, A1, c1, rfl, rfl, H1, H2, H3, H4, H5⟩ := hrel
    by_cases hlt : k < n
    · have hd : decide ((k : Int) < (n : Int)) = true := by rw [decide_eq_true_eq]; omega
      have HLT := Lib.hid hlt
      have HI1 := Lib.hid (HIN.out (listS bs k s0).2 wr H4.out H3.out H5.out)
      have HLS : Hid ((listS bs (k + 1) s0).1 = (listS bs k s0).1 ++ [(insS bs (listS bs k s0).2).1] ∧ (listS bs (k + 1) s0).2 = (insS bs (listS bs k s0).2).2) := ⟨rfl, rfl⟩
      obtain ⟨R1, hR1⟩ : ∃ R1, R1 = listS bs (k + 1) s0 := ⟨_, rfl⟩
      rw [← hR1] at HLS
      have HR1 := Lib.hid hR1
      clear hR1
      generalize insS bs (listS bs k s0).2 = RI at *
      have hfit : ∀ v : World, Reads (v.alloc (.cells (insCells RI.1).toArray 61 (0, 0))) (v.alloc (.cells (insCells RI.1).toArray 61 (0, 0))).heap.size 6 (some ⟨v.heap.size, 0, none⟩) 1 (insCells RI.1) := fun v => by
        have h := reads_lit61 v [RI.1]
        simp only [List.flatMap_cons, List.flatMap_nil, List.append_nil, List.length_cons, List.length_nil, Nat.zero_add] at h
        exact h
      have HFI := Lib.hid hfit
      have hone : ∀ u ∈ insCells RI.1, u.oneCell' = true := fun u hu => insCells_one (L := [RI.1]) u (by simpa using hu)
      have HON := Lib.hid hone
      clear hlt hfit hone
      obtain ⟨x1, x2⟩ := RI
      dsimp only at HI1 HLS HFI HON
      obtain ⟨xo, xa, xb, xc, xn, xm⟩ := x1
      unfold insCells at HI1 HFI HON
      dsimp only at HI1 HFI HON
      go_wp2_with fail
      refine HI1.out.mono ?_
      rintro e v2 ⟨rfl, hs2, hg2⟩
      have HS2 := Lib.hid hs2
      have HG2 : Hid (Chg none w v2) := Chg.own (b := P0) H4.out hg2 (Nat.le_of_eq HP.out.symm)
      have HO2 := Lib.hid (World.ownsRow.kept H2.out hg2 (.inr (by intro hh; have := (H2.out.lt P0 hh).1; omega)))
      have HZ2 : Hid (P0 < v2.heap.size) := Nat.lt_of_lt_of_le H5.out hg2.size
      have HSE : Hid (∀ o : Obj, P0 + 1 ≤ (v2.alloc o).heap.size) := fun o => Nat.le_trans HZ2.out ((Chg.refl none v2).alloc o).size
      clear hs2 hg2 HI1
      have hn30 : k < 30 := Nat.lt_of_lt_of_le HLT.out hnle
      go_wp2_with (at_builtin; refine wpList_append_any _ rfl (.tmp 13) (.tmp 15) 52 rfl (P0 + 1) 61 i0 (.agg #[.int .u8 0, .string ⟨#[]⟩, .string ⟨#[]⟩, .string ⟨#[]⟩, .int .i64 0, .int .i64 0]) 6 72 Tryd.underlying52 hi hz0 hz1 hz2 rfl (by decide) _ k ((listS bs k s0).1.flatMap insCells) rfl (HO2.out.alloc _) _ (some ⟨v2.heap.size, 0, none⟩) 1 1 _ rfl (HFI.out v2) HON.out (by unfold maxLen; omega) (by omega) (HSE.out _) ?_)
      intro v3 w3 hown3 hgr3 _
      obtain ⟨A3, c3, rfl⟩ := own_slice hown3
      have HG3 : Hid (Chg none w w3) := own_chg (HG2.out.alloc _) (HO2.out.alloc _) (by rw [HP.out]; omega) hgr3
      have hdiff : some P0 ≠ (Value.slice A1 k c1).ownBlock := fun hh => by have := (HO2.out.lt P0 hh.symm).1; omega
      have HS3 : Hid (RdAt w3 P0 A bs c R1.2) := by
        show RdAt w3 P0 A bs c R1.2
        rw [HLS.out.2]
        exact (HS2.out.chg ((Chg.refl none v2).alloc _) (by simp)).chg hgr3 hdiff
      have HZ3 : Hid (P0 < w3.heap.size) := Nat.lt_of_lt_of_le (Nat.lt_of_lt_of_le HZ2.out ((Chg.refl none v2).alloc _).size) hgr3.size
      have HO3 : Hid (w3.ownsRow (P0 + 1) 61 6 (.slice A3 (k + 1) c3) (k + 1) (R1.1.flatMap insCells)) := by
        show World.ownsRow _ _ _ _ _ _ _
        rw [HLS.out.1, List.flatMap_append]
        exact hown3
      clear hown3 hgr3 hdiff HO2 HFI HON HSE HG2 HS2 hn30
      go_wp2_with fail
      go_roundw
      case rel => exact ⟨k + 1, A3, c3, by first | rfl | (simp; done), rfl, Lib.hid HLT.out, by rw [← HR1.out]; exact HO3, by rw [← HR1.out]; exact HS3, HG3, HZ3⟩
      case measure =>
        have := HLT.out
        first | omega | (simp only [intOf]; omega) | (simp [intOf]; omega)
    · have hd : decide (k < n) = false := by rw [decide_eq_false_iff_not]; exact hlt
      have hkn : k = n := by have := H1.out; omega
      have hrp := HRP.out
      have hown := H2.out
      obtain ⟨at_, wr_, hblk, hsE⟩ := H3.out
      subst hkn
      rw [hsE] at hrp
      clear hlt
      have x1 : wr.cell? ⟨P0, 1, none⟩ = some (.int .i64 at_) := hblk.cell 1
      have x2 : wr.cell? ⟨P0, 2, none⟩ = some (.bool wr_) := hblk.cell 2
      obtain ⟨hrow, hnl, hnc⟩ := rows_of_own hown
      have hfit := listS_fits bs s0 k
      have hlen := listS_len bs k s0
      generalize (listS bs k s0).1 = L at *
      have hmy := may_any L A1 c1 wr hrow hfit (by omega) (HF.out wr H4.out)
      rw [hlen] at hmy
      have HOB : Hid (∀ a : Addr, A1 = some a → w.heap.size ≤ a.block) := fun a h => by have := own_base hown h; have := HP.out; omega
      have HMY := Lib.hid hmy
      have HROW := Lib.hid hrow
      have HFIT := Lib.hid hfit
      have HLEN := Lib.hid hlen
      have HNC := Lib.hid hnc
      have HNL := Lib.hid hnle
      clear hmy hrow hfit hlen hnl hnc hnle hown hblk hsE H1 H2 H3 H5 HIN HR HF
      cases wr_
      rotate_left
      · have hno : RP = none := by rw [hrp]; exact if_neg (fun h => by cases h.1)
        have HNO := Lib.hid hno
        clear hrp hno
        go_wp2_with fail
        go_ret2
        exact .inl ⟨HNO.out, rfl, H4.out⟩
      by_cases hat : at_ = bs.length
      rotate_left
      · have dne : ((at_ : Int) != (bs.length : Int)) = true := by rw [bne_iff_ne]; omega
        have hno : RP = none := by rw [hrp]; exact if_neg (fun h => hat (by have := h.1; rw [if_neg (by decide)] at this; exact Option.some.inj this))
        have HNO := Lib.hid hno
        clear hrp hno hat
        go_wp2_with fail
        go_ret2
        exact .inl ⟨HNO.out, rfl, H4.out⟩
      have dne : ((at_ : Int) != (bs.length : Int)) = false := by rw [bne_eq_false_iff_eq]; omega
      by_cases hmb : mayB L = true
      · have hyes : RP = some L := by rw [hrp]; exact if_pos ⟨by rw [if_neg (by decide), hat], hmb⟩
        have HYES := Lib.hid hyes
        rw [hmb] at HMY
        clear hrp hyes hat hmb
        go_wp2_with fail
        refine HMY.out.mono ?_
        rintro e w9 ⟨rfl, g9⟩
        have G9 := Lib.hid g9
        clear g9
        go_wp2_with fail
        go_ret2
        exact .inr ⟨L, A1, c1, HYES.out, by rw [HLEN.out]; rfl, HROW.out.chg G9.out, by rw [HLEN.out]; exact HNC.out, by rw [HLEN.out]; exact HNL.out, HFIT.out, HOB.out, H4.out.trans G9.out⟩
      · have hmb' : mayB L = false := by simpa using hmb
        have hno : RP = none := by rw [hrp]; exact if_neg (fun h => hmb h.2)
        have HNO := Lib.hid hno
        rw [hmb'] at HMY
        clear hrp hno hat hmb hmb'
        go_wp2_with fail
        refine HMY.out.mono ?_
        rintro e w9 ⟨rfl, g9⟩
        have G9 := Lib.hid g9
        clear g9
        go_wp2_with fail
        go_ret2
        exact .inl ⟨HNO.out, rfl, H4.out.trans G9.out⟩

end Go.Proofs.YtglfakglcoffkaaDoor
