/-
  Package tree: Read.
-/
import Derived.Test.YtglfakglcoffkaaTW
import Derived.Test.YtglfakglcoffkaaTR
namespace Go.Proofs.Ytglfakglcoffkaa
open Go.RowKit

theorem readB_nat {bs : List UInt8} {a : Nat} {most : Int} (h : (readB bs a most).2.2 = 0) : ∃ b : Nat, (readB bs a most).2.1 = b := by
  unfold readB at h ⊢
  by_cases h0 : (readC bs a most).2.2 = 0
  · rw [if_pos h0] at h ⊢
    by_cases h1 : (bs.length : Int) - (readC bs a most).2.1 < ((readC bs a most).1 : Int)
    · rw [if_pos h1] at h; cases h
    · rw [if_neg h1]
      obtain ⟨q0, q1, q2⟩ := (readC_well bs a most).ok h0
      exact ⟨((readC bs a most).2.1 + (readC bs a most).1).toNat, by dsimp only; omega⟩
  · rw [if_neg h0] at h; exact absurd h h0
theorem reads_up {w : World} {B C k n : Nat} {A : Option Addr} {xs : List Value} (h : Reads w B k A n xs) (hB : B ≤ C) : Reads w C k A n xs :=
  ⟨h.1, fun h0 => by
    obtain ⟨ad, e, hb, hc⟩ := h.2 h0
    exact ⟨ad, e, Nat.lt_of_lt_of_le hb hB, hc⟩⟩
theorem txtS_of {bs x : List UInt8} {a b m : Nat} (h : readB bs a m = (x, (b : Int), 0)) : txtS bs m (some a) = (x, some b) := by
  unfold txtS
  dsimp only
  rw [h, if_pos rfl]
  dsimp only
  rw [Int.toNat_natCast]
theorem txtS_no {bs : List UInt8} {a m : Nat} (h : (readB bs a m).2.2 ≠ 0) : txtS bs m (some a) = ([], none) := if_neg h
theorem filS_bad1 {bs : List UInt8} {a : Nat} (h : (readB bs a 40).2.2 ≠ 0) : (filS bs (some a)).2 = none := by
  show (txtS bs 2000 (txtS bs 40 (some a)).2).2 = none
  rw [txtS_no (m := 40) h]; rfl
theorem filS_bad2 {bs x : List UInt8} {a b : Nat} (h1 : readB bs a 40 = (x, (b : Int), 0)) (h : (readB bs b 2000).2.2 ≠ 0) : (filS bs (some a)).2 = none := by
  show (txtS bs 2000 (txtS bs 40 (some a)).2).2 = none
  rw [txtS_of (m := 40) h1, txtS_no (m := 2000) h]
theorem filS_good {bs x y : List UInt8} {a b d : Nat} (h1 : readB bs a 40 = (x, (b : Int), 0)) (h2 : readB bs b 2000 = (y, (d : Int), 0)) : filS bs (some a) = ((x, y), some d) := by
  unfold filS
  rw [txtS_of (m := 40) h1]
  dsimp only
  rw [txtS_of (m := 2000) h2]

/-- What Read tells. -/
def ToldR (w : World) (r : Option (List Key)) (e : Ending) (w' : World) : Prop :=
  (r = none ∧ e = .returned (.tuple #[.slice none 0 0, .int .i64 5]) ∧ Chg none w w') ∨
  (∃ A c M, r = some (keys M) ∧ e = .returned (.tuple #[.slice A M.length c, .int .i64 0]) ∧ OwnL w w' A c M ∧ mayT M = true)

set_option maxHeartbeats 16000000 in
set_option maxRecDepth 100000 in
theorem tread_any (A : Option Addr) (bs : List UInt8) (c : Nat) (w : World) (hr : Reads w w.heap.size 1 A bs.length (byteVals bs)) (hcap : bs.length ≤ c) (hl : bs.length ≤ 1000000) :
    Calls Try.prog 11 #[.slice A bs.length c] w (ToldR w (readT bs)) := by
  obtain ⟨i0, hi, hz0, hz1, hz2⟩ := info_parts Try.info38
  have HU : Hid (Calls Try.prog 33 #[.slice A bs.length c, .int .i64 0] w (Told3 w (readU bs 0))) := uint_any A bs c 0 w hr hcap hl
  have HBY : Hid (∀ (a : Nat) (m : Int) v, m ≤ 2000 → Chg none w v → Calls Try.prog 34 #[.slice A bs.length c, .int .i64 a, .int .i64 m] v (ToldB v (readB bs a m))) := fun a m v hm g => bytes_any A bs c a m v (reads_up (hr.below (g.belowNone (Nat.le_refl _))) g.size) hcap hl (by omega)
  have hwell := readU_well bs 0
  have HNS : Hid (numS bs 16 (some 0) = if (readU bs 0).2.2 = 0 ∧ (readU bs 0).1 ≤ 16 then ((readU bs 0).1, some (readU bs 0).2.1.toNat) else (0, none)) := rfl
  obtain ⟨n, at0, er, hq⟩ : ∃ n at0 er, readU bs 0 = (n, at0, er) := ⟨_, _, _, rfl⟩
  rw [hq] at HU HNS hwell
  dsimp only at HNS
  clear hr hq
  by_cases her : er = 0
  rotate_left
  · have d0 : (er != 0) = true := by rw [bne_iff_ne]; exact her
    have HNO : Hid (readT bs = none) := readT_lost (by rw [HNS.out, if_neg (fun h => her h.1)])
    clear her hwell HNS HBY
    as_aux_lemma =>
      go_enter Try.func11, Try.ntmps11
      go_wp2_with fail
      refine HU.out.mono ?_
      rintro e w' ⟨rfl, rfl⟩
      go_wp2_with fail
      go_ret2
      exact .inl ⟨HNO.out, rfl, Chg.refl _ _⟩
  subst her
  by_cases hn : n ≤ 16
  rotate_left
  · have d0 : decide ((16 : Int) < (n : Int)) = true := by rw [decide_eq_true_eq]; omega
    have HNO : Hid (readT bs = none) := readT_lost (by rw [HNS.out, if_neg (fun h => hn h.2)])
    clear hn hwell HNS HBY
    as_aux_lemma =>
      go_enter Try.func11, Try.ntmps11
      go_wp2_with fail
      refine HU.out.mono ?_
      rintro e w' ⟨rfl, rfl⟩
      go_wp2_with fail
      go_ret2
      exact .inl ⟨HNO.out, rfl, Chg.refl _ _⟩
  have d0 : decide ((16 : Int) < (n : Int)) = false := by rw [decide_eq_false_iff_not]; omega
  obtain ⟨q0, q1, q2⟩ := hwell.ok rfl
  dsimp only at q0 q1 q2
  obtain ⟨a0, rfl⟩ := Int.eq_ofNat_of_zero_le (show 0 ≤ at0 by omega)
  have hns : numS bs 16 (some 0) = (n, some a0) := by rw [HNS.out, if_pos ⟨rfl, hn⟩]; rfl
  have HN2 := Lib.hid hns
  have HN16 := Lib.hid hn
  obtain ⟨RP, HRP⟩ : ∃ RP, Hid (RP = readT bs ∧ RP = if (filsS bs n (some a0)).2 = some bs.length ∧ mayK (filsS bs n (some a0)).1 = true then some (filsS bs n (some a0)).1 else none) := ⟨_, rfl, by unfold readT; rw [hns]⟩
  have HLOST : Hid (∀ k, k < n → (filS bs (filsS bs k (some a0)).2).2 = none → RP = none) := fun k hk h => by
    rw [HRP.out.1]
    refine readT_lost_at (k := k) (by rw [hns]; exact hk) ?_
    rw [hns]; exact h
  rw [← HRP.out.1]
  clear hns hn hwell HNS q0 q1 q2
  go_enter Try.func11, Try.ntmps11
  go_wp2_with fail
  refine HU.out.mono ?_
  rintro e w' ⟨rfl, rfl⟩
  clear HU
  have HO0 : Hid (OwnL w w none 0 []) := ⟨World.ownsRow_nil _ _ _ _, fun m h => (by cases h), Chg.refl _ _⟩
  go_wp2_with fail
  go_loopw [5, 7, 26] (fun s5 s7 s26 wr => ∃ (k a : Nat) (A1 : Option Addr) (c1 : Nat) (M : List Fil), s26 = .int .u64 k ∧ s5 = .int .i64 a ∧ s7 = .slice A1 M.length c1 ∧ Hid (k ≤ n) ∧ Hid (OwnL w wr A1 c1 M) ∧ Hid (keys M = (filsS bs k (some a0)).1 ∧ (filsS bs k (some a0)).2 = some a ∧ M.length = k)) (fun _ _ s26 _ => n - (intOf s26).toNat)
  case atStart => exact ⟨0, a0, none, 0, [], rfl, rfl, rfl, Lib.hid (Nat.zero_le _), HO0, Lib.hid ⟨rfl, rfl, rfl⟩⟩
  case round =>
    obtain ⟨k, a, A1, c1, M, rfl, rfl, rfl, H1, H2, H3⟩ := hrel
    by_cases hlt : k < n
    · have hdd : decide ((k : Int) < (n : Int)) = true := by rw [decide_eq_true_eq]; omega
      have HLT := Lib.hid hlt
      have HML : Hid (M.length ≤ 16) := by have h1 := H3.out.2.2; have h2 := HN16.out; show _ ≤ _; omega
      have HB1 := Lib.hid (HBY.out a 40 wr (by decide) H2.out.chg)
      have HLO : Hid ((filS bs (some a)).2 = none → RP = none) := fun h => HLOST.out k hlt (by rw [H3.out.2.1]; exact h)
      have hbn1 := readB_nat (bs := bs) (a := a) (most := 40)
      have hbx1 := txtS_le bs 40 (some a)
      unfold txtS at hbx1
      dsimp only at hbx1
      have hb1 := filS_bad1 (bs := bs) (a := a)
      obtain ⟨x1, p1, e1, hq1⟩ : ∃ x1 p1 e1, readB bs a 40 = (x1, p1, e1) := ⟨_, _, _, rfl⟩
      rw [hq1] at hbn1 hb1 HB1
      rw [show ((40 : Nat) : Int) = 40 from rfl, hq1] at hbx1
      dsimp only at hbn1 hb1 hbx1
      by_cases he1 : e1 = 0
      rotate_left
      · have d1 : (e1 != 0) = true := by rw [bne_iff_ne]; exact he1
        have HNO := Lib.hid (HLO.out (hb1 he1))
        clear he1 hb1 hbn1 hbx1 hq1 hlt HBY HLOST HO0
        as_aux_lemma =>
          go_wp2_with fail
          refine HB1.out.mono ?_
          rintro e w2 ⟨A2, n2, c2, rfl, -, -, hb2⟩
          have G2 : Hid (Chg none w w2) := chg_ofX H2.out.chg hb2 H2.out.chg.size
          clear hb2
          go_wp2_with fail
          go_ret2
          exact .inl ⟨HNO.out, rfl, G2.out⟩
      subst he1
      obtain ⟨b, rfl⟩ := hbn1 rfl
      rw [if_pos rfl] at hbx1
      dsimp only at hbx1
      have HX1 := Lib.hid hbx1
      have hbn2 := readB_nat (bs := bs) (a := b) (most := 2000)
      have hbx2 := txtS_le bs 2000 (some b)
      unfold txtS at hbx2
      dsimp only at hbx2
      have hb2' := fun h => filS_bad2 (bs := bs) (a := a) hq1 h
      have hg2 := fun (y : List UInt8) (d : Nat) h => filS_good (bs := bs) (a := a) (y := y) (d := d) hq1 h
      obtain ⟨x2, p2, e2, hq2⟩ : ∃ x2 p2 e2, readB bs b 2000 = (x2, p2, e2) := ⟨_, _, _, rfl⟩
      rw [hq2] at hbn2 hb2'
      rw [show ((2000 : Nat) : Int) = 2000 from rfl, hq2] at hbx2
      dsimp only at hbn2 hb2' hbx2
      have HQ2 := Lib.hid hq2
      clear hb1 hbn1 hbx1 hq1 hlt hq2
      by_cases he2 : e2 = 0
      rotate_left
      · have d1 : (e2 != 0) = true := by rw [bne_iff_ne]; exact he2
        have HNO := Lib.hid (HLO.out (hb2' he2))
        clear he2 hb2' hg2 hbn2 hbx2 HLOST HO0
        as_aux_lemma =>
          go_wp2_with fail
          refine HB1.out.mono ?_
          rintro e w2 ⟨A2, n2, c2, rfl, -, -, hb2⟩
          have G2 : Hid (Chg none w w2) := chg_ofX H2.out.chg hb2 H2.out.chg.size
          have HB2 := Lib.hid (HBY.out b 2000 w2 (by decide) G2.out)
          rw [HQ2.out] at HB2
          clear hb2 HBY
          go_wp2_with fail
          refine HB2.out.mono ?_
          rintro e w3 ⟨A3, n3, c3, rfl, -, -, hb3⟩
          have G3 : Hid (Chg none w w3) := chg_ofX G2.out hb3 G2.out.size
          clear hb3
          go_wp2_with fail
          go_ret2
          exact .inl ⟨HNO.out, rfl, G3.out⟩
      subst he2
      obtain ⟨d, rfl⟩ := hbn2 rfl
      rw [if_pos rfl] at hbx2
      dsimp only at hbx2
      have HX2 := Lib.hid hbx2
      have hfs := hg2 x2 d HQ2.out
      have HFS : Hid ((filsS bs (k + 1) (some a0)).1 = (filsS bs k (some a0)).1 ++ [(x1, x2)] ∧ (filsS bs (k + 1) (some a0)).2 = some d) := by
        constructor
        · show _ ++ [(filS bs (filsS bs k (some a0)).2).1] = _
          rw [H3.out.2.1, hfs]
        · show (filS bs (filsS bs k (some a0)).2).2 = _
          rw [H3.out.2.1, hfs]
      clear hbn2 hb2' hg2 hbx2 hfs HLO HLOST HO0
      go_wp2_with fail
      refine HB1.out.mono ?_
      rintro e w2 ⟨A2, n2, c2, rfl, hn2, ho2, hb2⟩
      dsimp only at hn2 ho2
      subst hn2
      have G2 : Hid (Chg none w w2) := chg_ofX H2.out.chg hb2 H2.out.chg.size
      have k2 : Chg none wr w2 := ⟨hb2.os, hb2.tape, hb2.output, hb2.size, fun k hk _ => hb2.block k hk⟩
      have HL2 := Lib.hid (H2.out.on k2)
      have HB2 := Lib.hid (HBY.out b 2000 w2 (by decide) G2.out)
      rw [HQ2.out] at HB2
      have HO2 := Lib.hid ho2
      clear hb2 ho2 k2 HB1 HBY
      go_wp2_with fail
      refine HB2.out.mono ?_
      rintro e w3 ⟨A3, n3, c3, rfl, hn3, ho3, hb3⟩
      dsimp only at hn3 ho3
      subst hn3
      have k3 : Chg none w2 w3 := ⟨hb3.os, hb3.tape, hb3.output, hb3.size, fun k hk _ => hb3.block k hk⟩
      have HL3 := Lib.hid (HL2.out.on k3)
      have HO3 := Lib.hid (World.ownsRow.mono ho3 G2.out.size)
      have hcv := conv_reads (c := c2) w3 (Reads.of_own (own_chgW HO2.out k3))
      have HFI : Hid (∀ v : World, Reads (v.alloc (.cells #[.string ⟨x1.toArray⟩, .slice A3 x2.length c3] 38)) (v.alloc (.cells #[.string ⟨x1.toArray⟩, .slice A3 x2.length c3] 38)).heap.size 2 (some ⟨v.heap.size, 0, none⟩) 1 (filCells ⟨x1, A3, x2, c3⟩)) := fun v => by
        have h := reads_lit38 v [⟨x1, A3, x2, c3⟩]
        simp only [List.flatMap_cons, List.flatMap_nil, List.append_nil, List.length_cons, List.length_nil, Nat.zero_add] at h
        exact h
      have HON : Hid (∀ u ∈ filCells ⟨x1, A3, x2, c3⟩, u.oneCell' = true) := fun u hu => filCells_one (L := [⟨x1, A3, x2, c3⟩]) u (by simpa using hu)
      have HSE : Hid (∀ ob : Obj, w.heap.size ≤ (w3.alloc ob).heap.size) := fun ob => (HL3.out.chg.alloc ob).size
      clear ho3 hb3 k3 HB2 HL2 HO2
      go_wp2_with (at_builtin; refine wpList_append_any _ rfl (.tmp 46) (.tmp 51) 25 rfl w.heap.size 38 i0 (.agg #[.string ⟨#[]⟩, .slice none 0 0]) 2 40 Try.underlying25 hi hz0 hz1 hz2 rfl (by decide) _ M.length (M.flatMap filCells) rfl (HL3.out.row.alloc _) _ (some ⟨w3.heap.size, 0, none⟩) 1 1 _ rfl (HFI.out w3) HON.out (by have := HML.out; unfold maxLen; omega) (by have := HML.out; omega) (HSE.out _) ?_)
      intro v4 w4 hown4 hgr4 _
      obtain ⟨A4, c4, rfl⟩ := own_slice hown4
      have HO4 := Lib.hid ((HL3.out.on ((Chg.refl none w3).alloc _)).app (m := ⟨x1, A3, x2, c3⟩) (HO3.out.alloc _) hown4 hgr4)
      have HLN : Hid ((M ++ [(⟨x1, A3, x2, c3⟩ : Fil)]).length = M.length + 1) := by show _ = _; simp
      have hwk : IntKind.u64.wrap ((k : Int) + 1) = ((k + 1 : Nat) : Int) := by have h1 := HLT.out; have h2 := HN16.out; rw [IntKind.wrap_u64]; omega
      have HWK := Lib.hid hwk
      clear hown4 hgr4 HFI HON HSE HL3 HO3 hcv hwk
      rw [← HLN.out]
      go_wp2_with fail
      go_roundw
      case rel => exact ⟨k + 1, d, A4, c4, M ++ [⟨x1, A3, x2, c3⟩], by first | rfl | (rw [HWK.out]; done) | (simp; done), rfl, rfl, Lib.hid HLT.out, HO4, Lib.hid ⟨by rw [HFS.out.1, ← H3.out.1]; unfold keys; rw [List.map_append]; rfl, HFS.out.2, by rw [HLN.out, H3.out.2.2]⟩⟩
      case measure =>
        have h1 := HLT.out
        first | (rw [HWK.out]; simp only [intOf]; omega) | (simp only [intOf]; rw [HWK.out]; omega) | (simp only [intOf, HWK.out]; omega)
    · have hdd : decide (k < n) = false := by rw [decide_eq_false_iff_not]; exact hlt
      have hd2 : decide ((k : Int) < (n : Int)) = false := by rw [decide_eq_false_iff_not]; omega
      obtain rfl : k = n := by have := H1.out; omega
      have HT := Lib.hid (H2.out.tree (fun m hm => by
        have h1 : keyF m ∈ (filsS bs k (some a0)).1 := by rw [← H3.out.1]; exact List.mem_map_of_mem hm
        have h2 : ∀ j, ∀ x ∈ (filsS bs j (some a0)).1, x.1.length ≤ 40 := by
          intro j
          induction j with
          | zero => intro x hx; cases hx
          | succ j ih =>
            intro x hx
            rcases List.mem_append.1 (show x ∈ (filsS bs j (some a0)).1 ++ [(filS bs (filsS bs j (some a0)).2).1] from hx) with h | h
            · exact ih x h
            · rw [List.mem_singleton.1 h]; exact txtS_le _ _ _
        have := h2 k _ h1
        exact Nat.le_trans this (by decide)))
      have hmy := mayt_any M A1 c1 wr HT.out (by have h1 := H3.out.2.2; have h2 := HN16.out; omega)
      have hrp := HRP.out.2
      rw [H3.out.2.1, ← H3.out.1, ← mayT_keys] at hrp
      have HMY := Lib.hid hmy
      clear hmy hlt HLOST HBY HO0 HRP
      by_cases hat : a = bs.length
      rotate_left
      · have dne : ((a : Int) != (bs.length : Int)) = true := by rw [bne_iff_ne]; omega
        have HNO : Hid (RP = none) := by rw [hrp]; exact if_neg (fun h => hat (Option.some.inj h.1))
        clear hrp hat
        as_aux_lemma =>
          go_wp2_with fail
          go_ret2
          exact .inl ⟨HNO.out, rfl, H2.out.chg⟩
      have dne : ((a : Int) != (bs.length : Int)) = false := by rw [bne_eq_false_iff_eq]; omega
      by_cases hmb : mayT M = true
      · have HYES : Hid (RP = some (keys M) ∧ mayT M = true) := ⟨by rw [hrp]; exact if_pos ⟨by rw [hat], hmb⟩, hmb⟩
        rw [hmb] at HMY
        clear hrp hat hmb
        as_aux_lemma =>
          go_wp2_with fail
          refine HMY.out.mono ?_
          rintro e w9 ⟨rfl, g9⟩
          have G9 := Lib.hid g9
          clear g9
          go_wp2_with fail
          go_ret2
          exact .inr ⟨A1, c1, M, HYES.out.1, rfl, H2.out.on G9.out, HYES.out.2⟩
      · have hmb' : mayT M = false := by simpa using hmb
        have HNO : Hid (RP = none) := by rw [hrp]; exact if_neg (fun h => hmb h.2)
        rw [hmb'] at HMY
        clear hrp hat hmb hmb'
        as_aux_lemma =>
          go_wp2_with fail
          refine HMY.out.mono ?_
          rintro e w9 ⟨rfl, g9⟩
          have G9 := Lib.hid g9
          clear g9
          go_wp2_with fail
          go_ret2
          exact .inl ⟨HNO.out, rfl, H2.out.chg.trans G9.out⟩

end Go.Proofs.Ytglfakglcoffkaa
