/-
  Package journal: check, Form, record; bytes.Equal.
-/
import Derived.Test.YthkghjkgmfjmoaaDoorJP
import Derived.Test.YthkghjkgmfjmoaaDoorV
namespace Go.Proofs.YthkghjkgmfjmoaaDoor
open Go.RowKit

theorem below_chg {w w' : World} (h : Below w.heap.size w w') : Chg none w w' := ⟨h.os, h.tape, h.output, h.size, fun i hi _ => h.block i hi⟩
theorem blk_reads {w : World} {b n : Nat} {x : List UInt8} {T : TypeId} (h : BlkL w b (byteVals x) T) (hn : n ≤ x.length) : Reads w w.heap.size 1 (some ⟨b, 0, none⟩) n (byteVals (x.take n)) := by
  have hl : (x.take n).length = n := by rw [List.length_take]; omega
  have := txt_reads (w := w) (A := some ⟨b, 0, none⟩) (x := x.take n) (Txt.first (prt_of_row h (Nat.le_refl _)).1 n)
  rwa [hl] at this
theorem cut30_8 (w : World) (b : Nat) : (Instr.sliceAt 30 (.pointer (some ⟨b, 0, none⟩)) none (some (.int .i64 8)) none).run Tryd.prog w = .ok (.slice (some ⟨b, 0, none⟩) 8 32) w := by
  have u30 := Tryd.underlying30
  have z5 := Tryd.sizeOf5
  go_simp

set_option maxRecDepth 100000 in
set_option maxHeartbeats 4000000 in
theorem check_any (p : Prt) (w : World) (hp : p.ok w) (hn : p.x.length ≤ 1000000) (hT : Tabs w) :
    Calls Tryd.prog 32 #[.slice p.A p.x.length p.c] w fun e w' => ∃ b, e = .returned (.slice (some ⟨b, 0, none⟩) 8 32) ∧ BlkL w' b (byteVals (dig p.x)) 30 ∧ w.heap.size ≤ b ∧ Chg none w w' := by
  have HS := Lib.hid (sum_any p.A p.x p.c w hp.1 hp.2 (by omega) hT)
  obtain ⟨D, hD⟩ : ∃ D, D = byteVals (dig p.x) := ⟨_, rfl⟩
  have hDl : D.length = 32 := by rw [hD, byteVals_len, dig_len]
  have hsz : D.toArray.size = 32 := by rw [List.size_toArray]; exact hDl
  have HI : Hid ((Tryd.prog.info? 30).map (·.size) = some D.toArray.size) := by rw [hsz]; show _ = _; kernel_rfl
  have HZ : Hid (zero32.size = D.toArray.size) := by rw [hsz]; rfl
  have HO : Hid (D.toArray.all (·.oneCell') = true) := by rw [hD]; exact (row_facts (dig p.x) 32 (dig_len _)).2
  have HNW : Hid (∀ v : World, (v.alloc (.cells zero32 30)).heap[v.heap.size]? = some (.cells zero32 30 (0, 0))) := fun v => heap_alloc_new v _
  have HNR : Hid (∀ v : World, Chg none v ((v.alloc (.cells zero32 30)).setRow v.heap.size D.toArray) ∧ BlkL ((v.alloc (.cells zero32 30)).setRow v.heap.size D.toArray) v.heap.size D 30) := fun v => new_row v D.toArray
  have HCU := Lib.hid cut30_8
  rw [← hD] at HS ⊢
  clear hD hDl hp hT hsz
  go_enter Tryd.func32, Tryd.ntmps32
  go_wp2_with fail
  refine HS.out.mono ?_
  rintro e w1 ⟨rfl, g1⟩
  obtain ⟨gn, bn⟩ := HNR.out w1
  obtain ⟨W2, hW2⟩ : ∃ W2, W2 = (w1.alloc (.cells zero32 30)).setRow w1.heap.size D.toArray := ⟨_, rfl⟩
  have HW2 : Hid ((w1.alloc (.cells #[Value.int IntKind.u8 0, Value.int IntKind.u8 0, Value.int IntKind.u8 0, Value.int IntKind.u8 0, Value.int IntKind.u8 0, Value.int IntKind.u8 0, Value.int IntKind.u8 0, Value.int IntKind.u8 0, Value.int IntKind.u8 0, Value.int IntKind.u8 0, Value.int IntKind.u8 0, Value.int IntKind.u8 0, Value.int IntKind.u8 0, Value.int IntKind.u8 0, Value.int IntKind.u8 0, Value.int IntKind.u8 0, Value.int IntKind.u8 0, Value.int IntKind.u8 0, Value.int IntKind.u8 0, Value.int IntKind.u8 0, Value.int IntKind.u8 0, Value.int IntKind.u8 0, Value.int IntKind.u8 0, Value.int IntKind.u8 0, Value.int IntKind.u8 0, Value.int IntKind.u8 0, Value.int IntKind.u8 0, Value.int IntKind.u8 0, Value.int IntKind.u8 0, Value.int IntKind.u8 0, Value.int IntKind.u8 0, Value.int IntKind.u8 0] 30)).setRow w1.heap.size D.toArray = W2) := hW2.symm
  rw [← hW2] at gn bn
  have HN1 := Lib.hid (HNW.out w1)
  have HSZ := Lib.hid g1.size
  have G2 := g1.trans gn
  clear hW2 gn HS HNR HNW
  go_upto_region 2 with (refine wpList_store_row rfl 30 _ _ rfl w1.heap.size D.toArray rfl rfl 30 _ HN1.out HI.out HZ.out HO.out ?_)
  rw [HW2.out]
  clear HW2 HN1
  generalize w1.heap.size = pD at *
  have hcu := HCU.out W2 pD
  go_wp2_with fail
  go_ret
  exact ⟨pD, rfl, bn, HSZ.out, G2⟩

set_option maxHeartbeats 4000000 in
theorem equal_any (p q : Prt) (w : World) (hp : Txt w p.A p.x) (hq : Txt w q.A q.x) :
    Calls Tryd.prog 51 #[.slice p.A p.x.length p.c, .slice q.A q.x.length q.c] w fun e w' => e = .returned (.bool (p.x == q.x)) ∧ Chg none w w' := by
  have c1 := conv_reads (c := p.c) w (txt_reads hp)
  have c2 := conv_reads (c := q.c) w (txt_reads hq)
  go_enter Tryd.func51, Tryd.ntmps51
  go_wp2_with fail
  go_ret
  exact ⟨by simp, Chg.refl _ _⟩

/-- What Form refuses. -/
def mayJ (x : List UInt8) : Bool := decide (1 ≤ x.length) && decide (x.length ≤ 8000)

set_option maxHeartbeats 4000000 in
theorem form_no (A : Option Addr) (l c : Nat) (w : World) (h : l = 0 ∨ 8000 < l) :
    Calls Tryd.prog 17 #[.slice A l c] w fun e w' => e = .returned (.tuple #[.slice none 0 0, .int .i64 2]) ∧ Chg none w w' := by
  rcases h with h | h
  · have d1 : ((l : Int) == 0) = true := by simp; omega
    subst h
    go_enter Tryd.func17, Tryd.ntmps17
    go_wp2_with fail
    go_ret2
    exact ⟨rfl, Chg.refl _ _⟩
  · have d1 : ((l : Int) == 0) = false := by simp; omega
    have d2 : decide ((8000 : Int) < (l : Int)) = true := by simp; omega
    go_enter Tryd.func17, Tryd.ntmps17
    go_wp2_with fail
    go_ret2
    exact ⟨rfl, Chg.refl _ _⟩

set_option maxRecDepth 100000 in
set_option maxHeartbeats 4000000 in
theorem form_yes (p : Prt) (w : World) (hp : p.ok w) (h1 : 1 ≤ p.x.length) (h2 : p.x.length ≤ 8000) (hT : Tabs w) :
    Calls Tryd.prog 17 #[.slice p.A p.x.length p.c] w fun e w' =>
      ∃ A c, e = .returned (.tuple #[.slice A (formJ p.x).length c, .int .i64 0]) ∧ w'.ownsRow w.heap.size 5 1 (.slice A (formJ p.x).length c) (formJ p.x).length (byteVals (formJ p.x)) ∧ Chg none w w' := by
  obtain ⟨i0, hi, hz0, hz1, hz2⟩ := info_parts Tryd.info5
  have HA := Lib.hid (appendBytes_nil p.A p.x p.c w (txt_reads hp.1) (by omega))
  have HC : Hid (∀ v, Chg none w v → Calls Tryd.prog 32 #[.slice p.A p.x.length p.c] v fun e w' => ∃ b, e = .returned (.slice (some ⟨b, 0, none⟩) 8 32) ∧ BlkL w' b (byteVals (dig p.x)) 30 ∧ v.heap.size ≤ b ∧ Chg none v w') := fun v g => check_any p v (hp.chg g) (by omega) (hT.chg g (by simp))
  have d1 : ((p.x.length : Int) == 0) = false := by rw [beq_eq_false_iff_ne]; omega
  have d2 : decide ((8000 : Int) < (p.x.length : Int)) = false := by simp; omega
  have hrl := row_len p.x (by omega)
  have HRL : Hid ((row p.x).length ≤ 8009) := by show _ ≤ _; omega
  obtain ⟨R, hR⟩ : ∃ R, R = row p.x := ⟨_, rfl⟩
  obtain ⟨D8, hD8⟩ : ∃ D8, D8 = (dig p.x).take 8 := ⟨_, rfl⟩
  have HD8 : Hid (∀ (v : World) (b : Nat), BlkL v b (byteVals (dig p.x)) 30 → Reads v v.heap.size 1 (some ⟨b, 0, none⟩) 8 (byteVals D8)) := fun v b hb => by
    rw [hD8]; exact blk_reads hb (by rw [dig_len]; decide)
  have HO := Lib.hid (byteVals_one D8)
  have hF : formJ p.x = R ++ D8 := by unfold formJ; rw [hR, hD8]
  have HL : Hid ((formJ p.x).length = R.length + 8) := by rw [hR]; exact formJ_len p.x
  have HF := Lib.hid hF
  rw [← hR] at HA HRL
  clear hR hD8 hF hrl hp hT
  generalize formJ p.x = FJ at *
  have hs0 := Nat.le_refl w.heap.size
  have HS0 := Lib.hid hs0
  clear hs0
  go_enter Tryd.func17, Tryd.ntmps17
  go_wp2_with fail
  refine HA.out.mono ?_
  rintro e w1 ⟨A1, n1, c1, rfl, hn1, hown1, hb1⟩
  subst hn1
  have g1 := below_chg hb1
  have HC1 := Lib.hid (HC.out w1 g1)
  have HOWN1 := Lib.hid hown1
  clear HA HC hown1 hb1
  go_wp2_with fail
  refine HC1.out.mono ?_
  rintro e w2 ⟨b, rfl, bD, _, g2⟩
  have HR2 := Lib.hid (HD8.out w2 b bD)
  have g02 := g1.trans g2
  have HOWN2 : Hid (w2.ownsRow w.heap.size 5 1 (.slice A1 R.length c1) R.length (byteVals R)) := own_chgW HOWN1.out g2
  have HSZ := Lib.hid g02.size
  clear HC1 HOWN1 bD g2 g1 HD8
  go_wp2_with (at_builtin; refine wpList_append_any _ rfl (.tmp 13) (.tmp 15) 22 rfl w.heap.size 5 i0 (.int .u8 0) 1 1 Tryd.underlying22 hi hz0 hz1 hz2 rfl (by decide) _ R.length (byteVals R) rfl HOWN2.out _ (some ⟨b, 0, none⟩) 8 32 (byteVals D8) rfl HR2.out HO.out (by have := HRL.out; unfold maxLen; omega) (by have := HRL.out; omega) HSZ.out ?_)
  intro v3 w3 hown3 hgr3 _
  have G3 : Chg none w w3 := own_chg g02 HOWN2.out (Nat.le_refl _) hgr3
  rw [byteVals_append] at hown3
  obtain ⟨A3, c3, rfl⟩ := own_slice hown3
  have HOWN3 := Lib.hid hown3
  clear hown3 hgr3 HOWN2 g02 HSZ
  go_wp2_with fail
  go_ret2
  refine ⟨A3, c3, ?_, ?_, G3⟩
  · rw [HL.out]; rfl
  · rw [HL.out, HF.out]; exact HOWN3.out

set_option maxRecDepth 100000 in
set_option maxHeartbeats 8000000 in
theorem record_any (p : Prt) (k : Nat) (w : World) (hp : p.ok w) (hl : p.x.length ≤ 400000) (hT : Tabs w) :
    Calls Tryd.prog 45 #[.slice p.A p.x.length p.c, .int .i64 k] w fun e w' => Chg none w w' ∧
      ((∃ x q A c, recJ p.x k = some (x, q) ∧ e = .returned (.tuple #[.slice A x.length c, .int .i64 q, .bool true]) ∧ w'.ownsRow w.heap.size 5 1 (.slice A x.length c) x.length (byteVals x)) ∨
       (∃ v z, recJ p.x k = none ∧ e = .returned (.tuple #[v, .int .i64 z, .bool false]))) := by
  have HB := Lib.hid (bytes_any p.A p.x p.c (k : Int) 8000 w (txt_reads hp.1) hp.2 (by omega) (by decide))
  obtain ⟨y, next, er, hq⟩ : ∃ y next er, readB p.x k 8000 = (y, next, er) := ⟨_, _, _, rfl⟩
  have hrec : recJ p.x k = if er = 0 ∧ y ≠ [] ∧ next + 8 ≤ p.x.length ∧ (p.x.drop next.toNat).take 8 = (dig y).take 8 then some (y, next.toNat + 8) else none := by
    unfold recJ; rw [hq]
  rw [hq] at HB
  have HTT : Hid (∀ v, Chg none w v → Tabs v) := fun v g => hT.chg g (by simp)
  have HPO : Hid (∀ v, Chg none w v → p.ok v) := fun v g => hp.chg g
  by_cases he : er = 0
  rotate_left
  · rw [if_neg (fun h => he h.1)] at hrec
    have HREC := Lib.hid hrec
    have d1 : (er == 0) = false := by simpa using he
    have d1' : (er != 0) = true := by simpa using he
    have d1'' : er ≠ 0 := he
    clear hq hrec he hp hT
    go_enter Tryd.func45, Tryd.ntmps45
    go_wp2_with fail
    refine HB.out.mono ?_
    rintro e w1 ⟨A1, n1, c1, rfl, _, _, hb1⟩
    have g1 := below_chg hb1
    clear hb1 HB
    go_wp2_with fail
    go_ret3
    exact ⟨g1, .inr ⟨_, _, HREC.out, rfl⟩⟩
  subst he
  by_cases hy : y = []
  · rw [if_neg (fun h => h.2.1 hy)] at hrec
    have HREC := Lib.hid hrec
    subst hy
    clear hq hrec hp hT
    go_enter Tryd.func45, Tryd.ntmps45
    go_wp2_with fail
    refine HB.out.mono ?_
    rintro e w1 ⟨A1, n1, c1, rfl, hn1, _, hb1⟩
    have g1 := below_chg hb1
    replace hn1 : n1 = 0 := hn1
    subst hn1
    clear hb1 HB
    go_wp2_with fail
    go_ret3
    exact ⟨g1, .inr ⟨_, _, HREC.out, rfl⟩⟩
  obtain ⟨q, rfl, _, hqk, hqb, hm⟩ := readB_of p.x k 8000 y next hq
  have hyl : 1 ≤ y.length := by
    cases y with
    | nil => exact absurd rfl hy
    | cons a l => simp
  have d3 : ((y.length : Int) == 0) = false := by rw [beq_eq_false_iff_ne]; omega
  by_cases hs : (p.x.length : Int) - (q : Int) < 8
  · have hrec : recJ p.x k = none := by rw [hrec, if_neg (fun h => by have := h.2.2.1; omega)]
    have HREC := Lib.hid hrec
    have d4 : decide ((p.x.length : Int) - (q : Int) < 8) = true := by simpa using hs
    have HW : Hid (IntKind.i64.wrap ((p.x.length : Int) - (q : Int)) = (p.x.length : Int) - (q : Int)) := by show _ = _; rw [IntKind.wrap_i64]; omega
    have hw := HW.out
    clear hq hrec hp hT hy hqk hm hs hyl hqb
    go_enter Tryd.func45, Tryd.ntmps45
    go_wp2_with fail
    refine HB.out.mono ?_
    rintro e w1 ⟨A1, n1, c1, rfl, hn1, _, hb1⟩
    have g1 := below_chg hb1
    replace hn1 : n1 = y.length := hn1
    subst hn1
    clear hb1 HB
    go_wp2_with fail
    go_ret3
    exact ⟨g1, .inr ⟨_, _, HREC.out, rfl⟩⟩
  have HEQ : Hid (∀ v b, BlkL v b (byteVals (dig y)) 30 → ∀ A c, Txt v A ((p.x.drop q).take 8) → Calls Tryd.prog 51 #[.slice A 8 c, .slice (some ⟨b, 0, none⟩) 8 32] v fun e w' => e = .returned (.bool ((p.x.drop q).take 8 == (dig y).take 8)) ∧ Chg none v w') := fun v b hb A c hA => by
    have := equal_any ⟨A, (p.x.drop q).take 8, c⟩ ⟨some ⟨b, 0, none⟩, (dig y).take 8, 32⟩ v hA (Txt.first (prt_of_row hb (Nat.le_refl _)).1 8)
    dsimp only at this
    rwa [chk_len, List.length_take, List.length_drop, show min 8 (p.x.length - q) = 8 by omega] at this
  obtain ⟨EQ, hEQ⟩ : ∃ EQ, EQ = ((p.x.drop q).take 8 == (dig y).take 8) := ⟨_, rfl⟩
  have hrec : recJ p.x k = if EQ = true then some (y, q + 8) else none := by
    rw [hrec, Int.toNat_natCast]
    by_cases h : (p.x.drop q).take 8 = (dig y).take 8
    · rw [if_pos ⟨rfl, hy, by omega, h⟩, if_pos (by rw [hEQ]; simpa using h)]
    · rw [if_neg (fun h' => h h'.2.2.2), if_neg (by rw [hEQ]; simpa using h)]
  have HREC := Lib.hid hrec
  have HCH : Hid (∀ v A c, Chg none w v → Txt v A y → y.length ≤ c → Calls Tryd.prog 32 #[.slice A y.length c] v fun e w' => ∃ b, e = .returned (.slice (some ⟨b, 0, none⟩) 8 32) ∧ BlkL w' b (byteVals (dig y)) 30 ∧ v.heap.size ≤ b ∧ Chg none v w') := fun v A c g h hc => check_any ⟨A, y, c⟩ v ⟨h, hc⟩ (by show y.length ≤ 1000000; omega) (HTT.out v g)
  rw [← hEQ] at HEQ
  have d4 : decide ((p.x.length : Int) - (q : Int) < 8) = false := by simpa using hs
  have hw : IntKind.i64.wrap ((p.x.length : Int) - (q : Int)) = (p.x.length : Int) - (q : Int) := by rw [IntKind.wrap_i64]; omega
  have hw2 : IntKind.i64.wrap ((q : Int) + 8) = (q : Int) + 8 := by rw [IntKind.wrap_i64]; omega
  obtain ⟨AQ, hAQ⟩ : ∃ AQ, AQ = if p.c = q then p.A else p.A.map (·.add q) := ⟨_, rfl⟩
  have HTQ : Hid (∀ v, Chg none w v → Txt v AQ ((p.x.drop q).take 8)) := fun v g => by rw [hAQ]; exact ((hp.1.chg g).cut hp.2).first 8
  have HCU : Hid (∀ v : World, (Instr.sliceAt 22 (.slice p.A p.x.length p.c) (some (.int .i64 q)) (some (.int .i64 ((q : Int) + 8))) none).run Tryd.prog v = .ok (.slice AQ 8 (p.c - q)) v) := fun v => by
    have := cut_lo_hi p.A p.x.length p.c q (q + 8) (by omega) (by have := hp.2; omega) v
    rw [← hAQ, show q + 8 - q = 8 by omega] at this
    rw [show ((q : Int) + 8) = ((q + 8 : Nat) : Int) by omega]
    exact this
  clear hq hrec hp hT hy hqk hm hs hyl hqb hEQ hAQ
  go_enter Tryd.func45, Tryd.ntmps45
  go_wp2_with fail
  refine HB.out.mono ?_
  rintro e w1 ⟨A1, n1, c1, rfl, hn1, hown1, hb1⟩
  have g1 := below_chg hb1
  replace hn1 : n1 = y.length := hn1
  subst hn1
  have HOWN1 := Lib.hid hown1
  have HT1 := Lib.hid (own_txt hown1).1
  have hc1 := (own_txt hown1).2.2
  clear hb1 HB hown1
  go_upto_region 5 with fail
  have E0 := g1.drew
  have F0 := (Chg.refl none w1).drew
  have hS0 : Txt w1.drew A1 y := HT1.out.chg F0
  refine wp_region_held_drew (S := fun w' => Txt w' A1 y) (by kernel_rfl) hS0 (fun _ => ?_)
  clear g1 HT1
  generalize w1.drew = v0 at *
  refine wpAnyH_take (i := 0) (oi := ⟨some 32, _, _, _, _, _⟩) (v := ?_) rfl (by kernel_rfl) (by kernel_rfl) (by kernel_rfl) (fun _ _ _ h => h) (Or.inl ⟨by rfl, ?_⟩) (by assumption) ?_
  rotate_left
  · intro w hSw; (try dsimp only at hSw); go_simp; (try with_reducible rfl)
  try simp only [Act.put, List.setIfInBounds_toArray, List.set_cons_zero, List.set_cons_succ]
  refine wpAnyH_take (i := 1) (oi := ⟨some 33, _, _, _, _, _⟩) (v := ?_) rfl (by kernel_rfl) (by kernel_rfl) (by kernel_rfl) (fun _ _ _ h => h) (Or.inl ⟨by rfl, ?_⟩) (by assumption) ?_
  rotate_left
  · intro w hSw; (try dsimp only at hSw); go_simp; (try with_reducible rfl)
  try simp only [Act.put, List.setIfInBounds_toArray, List.set_cons_zero, List.set_cons_succ]
  refine wpAnyH_take (i := 2) (oi := ⟨some 34, _, _, _, _, _⟩) (v := ?_) rfl (by kernel_rfl) (by kernel_rfl) (by kernel_rfl) (fun _ _ _ h => h) (Or.inl ⟨by rfl, ?_⟩) (by assumption) ?_
  rotate_left
  · intro w hSw; (try dsimp only at hSw); go_simp; (try with_reducible rfl)
  try simp only [Act.put, List.setIfInBounds_toArray, List.set_cons_zero, List.set_cons_succ]
  refine wpAnyH_take (i := 3) (oi := ⟨some 35, _, _, _, _, _⟩) (v := ?_) rfl (by kernel_rfl) (by kernel_rfl) (by kernel_rfl) (fun _ _ _ h => h) (Or.inl ⟨by rfl, ?_⟩) (by assumption) ?_
  rotate_left
  · intro w hSw; (try dsimp only at hSw); go_simp; (try with_reducible rfl)
  try simp only [Act.put, List.setIfInBounds_toArray, List.set_cons_zero, List.set_cons_succ]
  refine wpAnyH_take (i := 4) (oi := ⟨some 36, _, _, _, _, _⟩) (v := ?_) rfl (by kernel_rfl) (by kernel_rfl) (by kernel_rfl) (fun _ _ _ h => h) (Or.inl ⟨by rfl, ?_⟩) (by assumption) ?_
  rotate_left
  · intro w hSw; (try dsimp only at hSw); go_simp; (try with_reducible rfl)
  try simp only [Act.put, List.setIfInBounds_toArray, List.set_cons_zero, List.set_cons_succ]
  refine wpAnyH_take (i := 5) (oi := ⟨some 37, _, _, _, _, _⟩) (v := .slice AQ 8 (p.c - q)) rfl (by kernel_rfl) (by kernel_rfl) (by kernel_rfl) (fun _ _ _ h => h) (Or.inl ⟨by rfl, ?_⟩) (by assumption) ?_
  · intro w _; have hcx := HCU.out w; go_simp
  try simp only [Act.put, List.setIfInBounds_toArray, List.set_cons_zero, List.set_cons_succ]
  refine wpAnyH_take (i := 6) (oi := ⟨some 38, _, _, _, _, _⟩) (v := ?_) rfl (by kernel_rfl) (by kernel_rfl) (by kernel_rfl) (fun _ _ _ h => h) (Or.inl ⟨by rfl, ?_⟩) (by assumption) ?_
  rotate_left
  · intro w hSw; (try dsimp only at hSw); go_simp; (try with_reducible rfl)
  try simp only [Act.put, List.setIfInBounds_toArray, List.set_cons_zero, List.set_cons_succ]
  refine wpAnyH_ready (rs := [7]) (by kernel_rfl) (by simp) ?_
  refine AllReadyH.cons (o := ⟨some 39, _, _, _, _, _⟩) rfl (fun K hK => ?_) (AllReadyH.nil)
  go_simp
  go_at_call 32
  refine (HCH.out _ A1 c1 E0 hS0 hc1).mono ?_
  rintro e v1 ⟨b, rfl, bD, _, g11⟩
  have hS1 : Txt v1 A1 y := hS0.chg g11
  have E1 := E0.trans g11
  have F1 := F0.trans g11
  go_wp2_with fail
  refine hK.out _ _ hS1 (fun _ => ?_)
  clear hK K
  try simp only [Act.put, List.setIfInBounds_toArray, List.set_cons_zero, List.set_cons_succ]
  refine wpAnyH_ready (rs := [8]) (by kernel_rfl) (by simp) ?_
  refine AllReadyH.cons (o := ⟨some 40, _, _, _, _, _⟩) rfl (fun K hK => ?_) (AllReadyH.nil)
  go_simp
  go_at_call 51
  refine (HEQ.out _ b bD AQ _ (HTQ.out _ E1)).mono ?_
  rintro e v2 ⟨rfl, g12⟩
  have hS2 : Txt v2 A1 y := hS1.chg g12
  have E2 := E1.trans g12
  have F2 := F1.trans g12
  go_wp2_with fail
  refine hK.out _ _ hS2 (fun _ => ?_)
  clear hK K
  try simp only [Act.put, List.setIfInBounds_toArray, List.set_cons_zero, List.set_cons_succ]
  refine wpAnyH_take (i := 9) (oi := ⟨some 4, _, _, _, _, _⟩) (v := ?_) rfl (by kernel_rfl) (by kernel_rfl) (by kernel_rfl) (fun _ _ _ h => h) (Or.inl ⟨by rfl, ?_⟩) (by assumption) ?_
  rotate_left
  · intro w hSw; (try dsimp only at hSw); go_simp; (try with_reducible rfl)
  try simp only [Act.put, List.setIfInBounds_toArray, List.set_cons_zero, List.set_cons_succ]
  refine wpAnyH_take (i := 10) (oi := ⟨some 5, _, _, _, _, _⟩) (v := ?_) rfl (by kernel_rfl) (by kernel_rfl) (by kernel_rfl) (fun _ _ _ h => h) (Or.inl ⟨by rfl, ?_⟩) (by assumption) ?_
  rotate_left
  · intro w hSw; (try dsimp only at hSw); go_simp; (try with_reducible rfl)
  try simp only [Act.put, List.setIfInBounds_toArray, List.set_cons_zero, List.set_cons_succ]
  refine wpAnyH_take (i := 11) (oi := ⟨some 6, _, _, _, _, _⟩) (v := ?_) rfl (by kernel_rfl) (by kernel_rfl) (by kernel_rfl) (fun _ _ _ h => h) (Or.inl ⟨by rfl, ?_⟩) (by assumption) ?_
  rotate_left
  · intro w hSw; (try dsimp only at hSw); go_simp; (try with_reducible rfl)
  try simp only [Act.put, List.setIfInBounds_toArray, List.set_cons_zero, List.set_cons_succ]
  refine wpAnyH_done (by kernel_rfl) ?_ _
  try simp only [Act.put]
  go_wp2_with fail
  go_ret3
  refine ⟨E2, ?_⟩
  have hr := HREC.out
  cases EQ
  · exact .inr ⟨_, _, by rw [hr]; rfl, rfl⟩
  · refine .inl ⟨y, q + 8, A1, c1, by rw [hr]; rfl, rfl, ?_⟩
    exact own_chgW HOWN1.out F2

end Go.Proofs.YthkghjkgmfjmoaaDoor
