/-
  TreeOnly, walked.
-/
import Derived.Test.YtglfakglcoffkaaTRD
import Derived.Test.YtglfakglcoffkaaTK
namespace Go.Proofs.Ytglfakglcoffkaa
open Go.RowKit

set_option maxRecDepth 100000 in
set_option maxHeartbeats 32000000 in
theorem tonly_law (p : Prt) (m : Int) (w : World) (hp : p.ok w) (hpm : p.c ≤ 9223372036854775807) (hm : 0 ≤ m ∧ m ≤ 255) :
    Calls Try.prog 6 #[.slice p.A p.x.length p.c, .int .u8 m] w fun e w' => e = .returned (.bool true) ∧ Chg none w w' := by
  obtain ⟨i0, hi, hz0, hz1, hz2⟩ := info_parts Try.info5
  have hpl : p.x.length ≤ 9223372036854775807 := by have := hp.2; omega
  have HK := Lib.hid (fun v => known5_any v)
  by_cases h4 : 6000 < p.x.length
  · have d1 : decide ((6000 : Int) < (p.x.length : Int)) = true := by rw [decide_eq_true_eq]; omega
    clear hp h4 hpl hpm
    as_aux_lemma =>
      go_enter Try.func6, Try.ntmps6
      go_wp2_with fail
      refine (HK.out _).mono ?_
      rintro e w1 ⟨rfl, g1⟩
      go_wp2_with fail
      go_ret
      exact ⟨rfl, g1⟩
  have d1 : decide ((6000 : Int) < (p.x.length : Int)) = false := by rw [decide_eq_false_iff_not]; omega
  have HPX : Hid (p.x.length ≤ 6000) := by show _ ≤ _; omega
  have HPO : Hid (∀ v, Chg none w v → p.ok v) := fun v g => hp.chg g
  have HRA : Hid (∀ (A : Option Addr) (bs : List UInt8) (c : Nat) v, Reads v v.heap.size 1 A bs.length (byteVals bs) → bs.length ≤ c → bs.length ≤ 1000000 → Calls Try.prog 11 #[.slice A bs.length c] v (ToldR v (readT bs))) := fun A bs c v h1 h2 h3 => tread_any A bs c v h1 h2 h3
  have HRD := Lib.hid (HRA.out p.A p.x p.c w (txt_reads hp.1) hp.2 (by omega))
  clear h4 hp
  go_enter Try.func6, Try.ntmps6
  go_wp2_with fail
  refine HRD.out.mono ?_
  rintro e w3 h3
  rcases h3 with ⟨hno, rfl, g3⟩ | ⟨A3, c3, M, hyes, rfl, hol, hmay⟩
  · have G3 := Lib.hid g3
    clear hno g3 HRD HRA HPO HPX d1
    as_aux_lemma =>
      go_wp2_with fail
      refine (HK.out _).mono ?_
      rintro e w4 ⟨rfl, g4⟩
      go_wp2_with fail
      go_ret
      exact ⟨rfl, G3.out.trans g4⟩
  have G3 := Lib.hid hol.chg
  obtain ⟨hwas, hmk⟩ := readT_was hyes
  have HMORE : Hid (∀ y, readT (p.x ++ [y]) = none) := fun y => readT_more hyes y
  have HLESS := Lib.hid (readT_less hyes)
  have hpos := readT_pos hyes
  have htr := hol.tree (fun m hm => by
    have h1 := (mayK_parts hmk).2 (keyF m) (List.mem_map_of_mem hm)
    exact Nat.le_trans h1.1 (by decide))
  have hby := tbytes_yes M A3 c3 w3 htr hmay
  rw [treeB_keys, ← hwas] at hby
  have HBY := Lib.hid hby
  clear hwas hmk hyes hol htr hby hmay HRD d1
  go_wp2_with fail
  refine HBY.out.mono ?_
  rintro e w4 ⟨A4, n4, c4, rfl, hb4⟩
  have HB4 := Lib.hid hb4
  have G4 := Lib.hid (G3.out.trans hb4.2.2)
  have HN4 := Lib.hid hb4.1
  clear hb4 HBY
  have hE := own_empty5 w4 w4.heap.size (Nat.le_refl _)
  have gE : Chg none w (w4.alloc (.cells #[] 5 (0, 0))) := G4.out.alloc _
  have HE := Lib.hid hE
  have HGE := Lib.hid gE
  have HRX := Lib.hid (txt_reads (HPO.out _ gE).1)
  have HOX := Lib.hid (byteVals_one p.x)
  have HSE : Hid (w4.heap.size ≤ (w4.alloc (.cells #[] 5 (0, 0))).heap.size) := ((Chg.refl none w4).alloc _).size
  have HGE4 : Hid (Chg none w4 (w4.alloc (.cells #[] 5 (0, 0)))) := (Chg.refl none w4).alloc _
  clear hE gE
  go_wp2_with (at_builtin; refine wpList_append_any _ rfl (.tmp 31) (.tmp 32) 22 rfl w4.heap.size 5 i0 (.int .u8 0) 1 1 Try.underlying22 hi hz0 hz1 hz2 rfl (by decide) _ 0 (byteVals []) rfl HE.out _ p.A p.x.length p.c (byteVals p.x) rfl HRX.out HOX.out (by have := HPX.out; unfold maxLen; omega) (by have := HPX.out; omega) HSE.out ?_)
  intro v5 w5 hown5 hgr5 _
  obtain ⟨A5, c5, rfl⟩ := own_slice hown5
  have g5 : Chg none w4 w5 := own_chg HGE4.out HE.out (Nat.le_refl _) hgr5
  have e5 : byteVals [] ++ byteVals p.x = byteVals p.x := rfl
  try rw [e5] at hown5
  try simp only [Nat.zero_add] at hown5
  try simp only [Nat.zero_add]
  have HO5 := Lib.hid hown5
  have G5 := Lib.hid g5
  have HS5 : Hid (∀ o : Obj, w4.heap.size ≤ (w5.alloc o).heap.size) := fun o => (g5.alloc o).size
  obtain ⟨y, hy⟩ : ∃ y : UInt8, (y.toNat : Int) = m := ⟨UInt8.ofNat m.toNat, by rw [UInt8.toNat_ofNat']; omega⟩
  have hly := reads_one w5 y
  rw [hy] at hly
  have HLY := Lib.hid hly
  have HOY := Lib.hid (byteVals_one [y])
  clear hown5 hgr5 g5 e5 HE HGE HGE4 HRX HOX HSE hly hy
  go_wp2_with (at_builtin; refine wpList_append_any _ rfl (.tmp 33) (.tmp 35) 22 rfl w4.heap.size 5 i0 (.int .u8 0) 1 1 Try.underlying22 hi hz0 hz1 hz2 rfl (by decide) _ p.x.length (byteVals p.x) rfl (HO5.out.alloc _) _ (some ⟨w5.heap.size, 0, none⟩) 1 1 (byteVals [y]) rfl HLY.out HOY.out (by have := HPX.out; unfold maxLen; omega) (by have := HPX.out; omega) (HS5.out _) ?_)
  intro v6 w6 hown6 hgr6 _
  obtain ⟨A6, c6, rfl⟩ := own_slice hown6
  have g6 : Chg none w4 w6 := own_chg (G5.out.alloc _) (HO5.out.alloc _) (Nat.le_refl _) hgr6
  have hown6' : w6.ownsRow w4.heap.size 5 1 (.slice A6 (p.x.length + 1) c6) (p.x.length + 1) (byteVals (p.x ++ [y])) := by rw [← byteVals_append]; exact hown6
  have hlen6 : (p.x ++ [y]).length = p.x.length + 1 := by simp
  have HRM := HRA.out A6 (p.x ++ [y]) c6 w6 (by rw [hlen6]; exact Reads.of_own hown6') (by rw [hlen6]; exact own_capN hown6') (by rw [hlen6]; have := HPX.out; omega)
  rw [hlen6, HMORE.out y] at HRM
  have HRM := Lib.hid HRM
  have HB6 : Hid (∀ v, Chg none w4 v → Reads v v.heap.size 1 A4 n4 (byteVals p.x)) := fun v gv => Reads.of_own (own_chgW HB4.out.2.1 gv)
  have G6 := Lib.hid g6
  clear hown6 hown6' hgr6 g6 hlen6 HO5 G5 HS5 HLY HOY HMORE
  go_wp2_with fail
  refine HRM.out.mono ?_
  rintro e w7 h7
  rcases h7 with ⟨-, rfl, g7⟩ | ⟨_, _, _, h, -⟩
  rotate_left
  · cases h
  have G47 := Lib.hid (G6.out.trans g7)
  have G7 := Lib.hid (G4.out.trans G47.out)
  obtain ⟨K, hK⟩ : ∃ K, p.x.length = K + 1 := ⟨p.x.length - 1, by omega⟩
  have hw1 : IntKind.i64.wrap ((p.x.length : Int) - 1) = (K : Int) := by have := HPX.out; rw [IntKind.wrap_i64]; omega
  have hcu := fun v => cut_hi22 p.A p.x.length p.c K (by have := (HPO.out w (Chg.refl _ _)).2; omega) v
  have hc1 := conv_reads (c := c4) w7 (HB6.out w7 G47.out)
  have hc2 := conv_reads (c := p.c) w7 (txt_reads (HPO.out w7 G7.out).1)
  have hlz : ((p.x.length : Int) == 0) = false := by rw [beq_eq_false_iff_ne]; omega
  have hlt : (p.x.take K).length = K := by rw [List.length_take]; omega
  have hles := HLESS.out
  rw [hK, Nat.add_sub_cancel] at hles
  have HRL := HRA.out p.A (p.x.take K) p.c w7 (txt_reads ((HPO.out w7 G7.out).1.first K)) (by have := (HPO.out w (Chg.refl _ _)).2; omega) (by have := HPX.out; omega)
  rw [hlt, hles] at HRL
  have HRL := Lib.hid HRL
  clear hK hlt hles hpos g7 G47 G6 HB6 HB4 HN4 HRM HLESS G3 G4 HRA HPO HPX
  go_wp2_with fail
  refine HRL.out.mono ?_
  rintro e w8 h8
  rcases h8 with ⟨-, rfl, g8⟩ | ⟨_, _, _, h, -⟩
  rotate_left
  · cases h
  have G8 := Lib.hid (G7.out.trans g8)
  clear g8 hw1 hcu hc1 hc2 hlz HRL G7
  go_wp2_with fail
  refine (HK.out _).mono ?_
  rintro e w9 ⟨rfl, g9⟩
  go_wp2_with fail
  go_ret
  exact ⟨rfl, G8.out.trans g9⟩

end Go.Proofs.Ytglfakglcoffkaa
