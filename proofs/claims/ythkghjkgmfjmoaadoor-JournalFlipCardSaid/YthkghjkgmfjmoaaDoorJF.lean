/-
  Layer 11's known.
-/
import Derived.Test.YthkghjkgmfjmoaaDoorJE
import Derived.Lib.SlBytesConst
namespace Go.Proofs.YthkghjkgmfjmoaaDoor
open Go.RowKit

theorem own_emptyR (w : World) (B : Nat) (hB : B ≤ w.heap.size) : (w.alloc (.cells #[] 5 (0, 0))).ownsRow B 5 1 (.slice (some ⟨w.heap.size, 0, none⟩) 0 0) 0 (byteVals []) :=
  ⟨rfl, .inr ⟨w.heap.size, 0, #[], rfl, hB, heap_alloc_new w _, Nat.le_refl _, by unfold maxLen; decide, rfl, rfl⟩⟩
theorem lit_ok (bs : List UInt8) (fl : Nat × Nat) (v : World) : (⟨some ⟨v.heap.size, 0, none⟩, bs, bs.length⟩ : Prt).ok (v.alloc (.cells (byteVals bs).toArray 5 fl)) :=
  ⟨fun _ => ⟨v.heap.size, 0, rfl, by simp, fun j c hj => by
    unfold World.cell?
    rw [heap_alloc_new v (.cells (byteVals bs).toArray 5 fl)]
    have h := byteVals_get hj
    simp [h]⟩, Nat.le_refl _⟩
def abB : List UInt8 := [97, 98]
def cB : List UInt8 := [99]
theorem formJ_ab : (formJ abB).length = 12 := by rw [formJ_len]; decide
theorem formJ_c : (formJ cB).length = 11 := by rw [formJ_len]; decide
/-- A record, whatever stands behind it. -/
theorem readJ_pre (pre x rest : List UInt8) (h1 : 1 ≤ x.length) (h2 : x.length ≤ 8000) :
    readJ (pre ++ (formJ x ++ rest)) pre.length = (x :: (readJ (pre ++ (formJ x ++ rest)) (pre ++ formJ x).length).1, (readJ (pre ++ (formJ x ++ rest)) (pre ++ formJ x).length).2) := by
  rw [readJ_some (recJ_form pre x rest h1 h2), List.length_append]
theorem recJ_odd (pre : List UInt8) : recJ (pre ++ [7]) pre.length = none := by
  have := recJ_shift pre [7] 0
  rw [Nat.add_zero] at this
  rw [this]
  have e : recJ [7] 0 = none := by
    refine recJ_err ?_
    decide
  rw [e]; rfl
theorem readJ_known : readJ (formJ abB ++ formJ cB ++ [7]) 0 = ([abB, cB], 23) := by
  have h1 := readJ_pre [] abB (formJ cB ++ [7]) (by decide) (by decide)
  have h2 := readJ_pre (formJ abB) cB [7] (by decide) (by decide)
  have h3 := readJ_none (recJ_odd (formJ abB ++ formJ cB))
  rw [List.nil_append, List.nil_append, List.length_nil] at h1
  rw [List.append_assoc] at h3 ⊢
  rw [h1, h2, h3, List.length_append, formJ_ab, formJ_c]

set_option maxRecDepth 100000 in
set_option maxHeartbeats 16000000 in
theorem known11_any (w : World) (hT : Tabs w) : Calls Tryd.prog 16 #[] w fun e w' => e = .returned (.bool true) ∧ Chg none w w' := by
  obtain ⟨i0, hi, hz0, hz1, hz2⟩ := info_parts Tryd.info5
  have kc := fun (w : World) (C : Array Value) (n c : Nat) => Lib.run_convert_bytes_const (P := Tryd.prog) w 22 5 C n c Tryd.underlying22 Tryd.underlying5
  obtain ⟨FA, hFA⟩ : ∃ FA, FA = formJ abB := ⟨_, rfl⟩
  obtain ⟨FC, hFC⟩ : ∃ FC, FC = formJ cB := ⟨_, rfl⟩
  have hAl : FA.length = 12 := by rw [hFA]; exact formJ_ab
  have hCl : FC.length = 11 := by rw [hFC]; exact formJ_c
  have hrj : readJ (FA ++ FC ++ [7]) 0 = ([abB, cB], 23) := by rw [hFA, hFC]; exact readJ_known
  have gOk : ∀ (v : World) (C : Array Value) (fl : Nat × Nat), Chg none v (v.alloc (.cells C 5 fl)) := fun v C fl => (Chg.refl _ _).alloc _
  have HFA : Hid (∀ v, Chg none w v → Calls Tryd.prog 17 #[.slice (some ⟨v.heap.size, 0, none⟩) 2 2] (v.alloc (.cells #[.int .u8 97, .int .u8 98] 5 (2, 3))) fun e w' =>
      ∃ A c, e = .returned (.tuple #[.slice A 12 c, .int .i64 0]) ∧ w'.ownsRow v.heap.size 5 1 (.slice A 12 c) 12 (byteVals FA) ∧ Chg none v w') := fun v g => by
    have := form_yes ⟨some ⟨v.heap.size, 0, none⟩, abB, 2⟩ (v.alloc (.cells (byteVals abB).toArray 5 (2, 3))) (lit_ok abB (2, 3) v) (by show 1 ≤ abB.length; decide) (by show abB.length ≤ 8000; decide) (hT.chg (g.trans (gOk v _ _)) (by simp))
    refine this.mono ?_
    rintro e w' ⟨A, c, h1, h2, h3⟩
    rw [show (formJ abB).length = 12 from formJ_ab] at h1 h2
    rw [← hFA] at h2
    exact ⟨A, c, h1, World.ownsRow.mono h2 (by simp), (gOk v _ _).trans h3⟩
  have HFC : Hid (∀ v, Chg none w v → Calls Tryd.prog 17 #[.slice (some ⟨v.heap.size, 0, none⟩) 1 1] (v.alloc (.cells #[.int .u8 99] 5 (1, 2))) fun e w' =>
      ∃ A c, e = .returned (.tuple #[.slice A 11 c, .int .i64 0]) ∧ w'.ownsRow v.heap.size 5 1 (.slice A 11 c) 11 (byteVals FC) ∧ Chg none v w') := fun v g => by
    have := form_yes ⟨some ⟨v.heap.size, 0, none⟩, cB, 1⟩ (v.alloc (.cells (byteVals cB).toArray 5 (1, 2))) (lit_ok cB (1, 2) v) (by show 1 ≤ cB.length; decide) (by show cB.length ≤ 8000; decide) (hT.chg (g.trans (gOk v _ _)) (by simp))
    refine this.mono ?_
    rintro e w' ⟨A, c, h1, h2, h3⟩
    rw [show (formJ cB).length = 11 from formJ_c] at h1 h2
    rw [← hFC] at h2
    exact ⟨A, c, h1, World.ownsRow.mono h2 (by simp), (gOk v _ _).trans h3⟩
  have HFN : Hid (∀ v, Calls Tryd.prog 17 #[.slice none 0 0] v fun e w' => e = .returned (.tuple #[.slice none 0 0, .int .i64 2]) ∧ Chg none v w') := fun v => form_no none 0 0 v (.inl rfl)
  obtain ⟨ZZ, hZZ⟩ : ∃ ZZ, ZZ = (byteVals (zeros 8001)).toArray := ⟨_, rfl⟩
  have hmk : ∀ W : World, (Instr.makeSlice 22 (.int .i64 8001) (.int .i64 8001)).run Tryd.prog W = .ok (.slice (some ⟨W.heap.size, 0, none⟩) 8001 8001) (W.alloc (.cells ZZ 5)) := fun W => by rw [hZZ]; exact make_n 8001 (by decide) W
  have HFB : Hid (∀ v : World, Calls Tryd.prog 17 #[.slice (some ⟨v.heap.size, 0, none⟩) 8001 8001] (v.alloc (.cells ZZ 5)) fun e w' => e = .returned (.tuple #[.slice none 0 0, .int .i64 2]) ∧ Chg none v w') := fun v =>
    (form_no (some ⟨v.heap.size, 0, none⟩) 8001 8001 (v.alloc (.cells ZZ 5)) (.inr (by decide))).mono fun e w' h => ⟨h.1, ((Chg.refl none v).alloc _).trans h.2⟩
  have HRD : Hid (∀ v A c, Chg none w v → Txt v A (FA ++ FC ++ [7]) → 24 ≤ c → Calls Tryd.prog 21 #[.slice A 24 c] v fun e w' => ∃ (r1 r2 : RecE) (A1 : Option Addr) (c1 : Nat), e = .returned (.tuple #[.slice A1 2 c1, .int .i64 23]) ∧ r1.x = abB ∧
      w'.ownsRow v.heap.size 22 1 (.slice A1 2 c1) 2 [r1.val, r2.val] ∧ w'.ownsRow v.heap.size 5 1 r1.val r1.x.length (byteVals r1.x) ∧ Chg none v w') := fun v A c g h hc => by
    have hl : (FA ++ FC ++ [7]).length = 24 := by rw [List.length_append, List.length_append, hAl, hCl]; rfl
    have := readj_any ⟨A, FA ++ FC ++ [7], c⟩ v ⟨h, by show (FA ++ FC ++ [7]).length ≤ c; omega⟩ (by show (FA ++ FC ++ [7]).length ≤ 400000; omega) (hT.chg g (by simp))
    dsimp only at this
    rw [hl] at this
    refine this.mono ?_
    rintro e w' ⟨xs, A1, c1, rfl, hlist, hgot, g'⟩
    have hall := hgot.all
    rw [hrj] at hall
    have hlen : xs.length = 2 := by have := congrArg List.length hall; rwa [List.length_map] at this
    obtain ⟨r1, r2, rfl⟩ : ∃ r1 r2, xs = [r1, r2] := by
      cases xs with
      | nil => cases hlen
      | cons a l =>
        cases l with
        | nil => cases hlen
        | cons b l =>
          cases l with
          | nil => exact ⟨a, b, rfl⟩
          | cons d l => simp at hlen
    injection hall with h1 hall
    exact ⟨r1, r2, A1, c1, by rw [hrj]; rfl, h1, hlist, hgot.own r1 (by simp), g'⟩
  have HE := Lib.hid own_emptyR
  have HOA := Lib.hid (byteVals_one FA)
  have HOC := Lib.hid (byteVals_one FC)
  have HO7 := Lib.hid (byteVals_one [7])
  have HAL := Lib.hid hAl
  have HCL := Lib.hid hCl
  have HM0 := Lib.hid (HFA.out w (Chg.refl _ _))
  clear hFA hFC hAl hCl hrj gOk hZZ hT
  go_enter Tryd.func16, Tryd.ntmps16
  go_wp2_with fail
  refine HM0.out.mono ?_
  rintro e w1 ⟨A1, c1, rfl, hown1, g1⟩
  have HM1 := Lib.hid (HFC.out w1 g1)
  have HOWN1 := Lib.hid hown1
  clear hown1 HM0 HFA
  go_wp2_with fail
  refine HM1.out.mono ?_
  rintro e w2 ⟨A2, c2, rfl, hown2, g2⟩
  have G2 := g1.trans g2
  have HOWN2 : Hid (w2.ownsRow w.heap.size 5 1 (.slice A2 11 c2) 11 (byteVals FC)) := World.ownsRow.mono hown2 g1.size
  have HOWN1' := Lib.hid (own_on HOWN1.out g2)
  clear hown2 HM1 HFC HOWN1 g1 g2
  go_wp2_with fail
  refine (HFN.out _).mono ?_
  rintro e w3 ⟨rfl, g3⟩
  go_wp2_with fail
  refine (HFB.out _).mono ?_
  rintro e w4 ⟨rfl, g4⟩
  have G4 := (G2.trans g3).trans g4
  have HA4 := Lib.hid (own_on (own_on HOWN1'.out g3) g4)
  have HC4 := Lib.hid (own_on (own_on HOWN2.out g3) g4)
  clear HOWN1' HOWN2 G2 g3 g4 HFN HFB hmk
  have gE : Chg none w4 (w4.alloc (.cells #[] 5 (0, 0))) := (Chg.refl _ _).alloc _
  have HE4 := Lib.hid (HE.out w4 w4.heap.size (Nat.le_refl _))
  have HRA := Lib.hid (txt_reads (own_txt (own_on HA4.out gE)).1)
  have HL4 := Lib.hid (Nat.le_refl w4.heap.size)
  have HSE : Hid (w4.heap.size ≤ (w4.alloc (.cells #[] 5 (0, 0))).heap.size) := gE.size
  go_wp2_with (at_builtin; refine wpList_append_any _ rfl (.tmp 33) (.tmp 34) 22 rfl w4.heap.size 5 i0 (.int .u8 0) 1 1 Tryd.underlying22 hi hz0 hz1 hz2 rfl (by decide) _ 0 (byteVals []) rfl HE4.out _ A1 12 c1 (byteVals FA) rfl (by have h := HRA.out; rwa [HAL.out] at h) HOA.out (by decide) (by decide) HSE.out ?_)
  intro v5 w5 hown5 hgr5 _
  have g5 : Chg none w4 w5 := own_chg gE HE4.out HL4.out hgr5
  have e5 : byteVals [] ++ byteVals FA = byteVals FA := rfl
  rw [e5] at hown5
  obtain ⟨A5, c5, rfl⟩ := own_slice hown5
  have HOWN5 := Lib.hid hown5
  have HRC := Lib.hid (txt_reads (own_txt (own_on HC4.out g5)).1)
  have HS5 := Lib.hid g5.size
  clear e5 hown5 hgr5 HE4 HRA HSE gE
  go_wp2_with (at_builtin; refine wpList_append_any _ rfl (.tmp 35) (.tmp 36) 22 rfl w4.heap.size 5 i0 (.int .u8 0) 1 1 Tryd.underlying22 hi hz0 hz1 hz2 rfl (by decide) _ 12 (byteVals FA) rfl HOWN5.out _ A2 11 c2 (byteVals FC) rfl (by have h := HRC.out; rwa [HCL.out] at h) HOC.out (by decide) (by decide) HS5.out ?_)
  intro v6 w6 hown6 hgr6 _
  have g6 : Chg none w4 w6 := own_chg g5 HOWN5.out HL4.out hgr6
  rw [byteVals_append] at hown6
  obtain ⟨A6, c6, rfl⟩ := own_slice hown6
  have HOWN6 := Lib.hid hown6
  have gB : Chg none w4 (w6.alloc (.cells #[.int .u8 7] 5 (0, 0))) := g6.alloc _
  have HR7 : Hid (Reads (w6.alloc (.cells #[.int .u8 7] 5 (0, 0))) (w6.alloc (.cells #[.int .u8 7] 5 (0, 0))).heap.size 1 (some ⟨w6.heap.size, 0, none⟩) 1 (byteVals [7])) := reads_one w6 7
  have HS6 := Lib.hid gB.size
  clear hown6 hgr6 HOWN5 HRC HS5 g5
  go_wp2_with (at_builtin; refine wpList_append_any _ rfl (.tmp 37) (.tmp 38) 22 rfl w4.heap.size 5 i0 (.int .u8 0) 1 1 Tryd.underlying22 hi hz0 hz1 hz2 rfl (by decide) _ 23 (byteVals (FA ++ FC)) rfl (HOWN6.out.alloc _) _ (some ⟨w6.heap.size, 0, none⟩) 1 1 (byteVals [7]) rfl HR7.out HO7.out (by decide) (by decide) HS6.out ?_)
  intro v7 w7 hown7 hgr7 _
  have g7 : Chg none w4 w7 := own_chg gB (HOWN6.out.alloc _) HL4.out hgr7
  rw [byteVals_append] at hown7
  obtain ⟨A7, c7, rfl⟩ := own_slice hown7
  have hT7 := own_txt hown7
  have G7 := G4.trans g7
  have HR := Lib.hid (HRD.out w7 A7 c7 G7 hT7.1 hT7.2.2)
  clear hown7 hgr7 hT7 HOWN6 HR7 HS6 gB g6 g7 HRD
  go_wp2_with fail
  refine HR.out.mono ?_
  rintro e w8 ⟨r1, r2, A8, c8, rfl, hx1, hlist, hr1, g8⟩
  have G8 := G7.trans g8
  obtain ⟨g, rfl, hc0⟩ : ∃ g, A8 = some ⟨g, 0, none⟩ ∧ w8.cell? ⟨g, 0, none⟩ = some r1.val := by
    rcases hlist.2 with ⟨_, h⟩ | ⟨g, cap, cur, h, _⟩
    · cases h
    · injection h with h1 _ _
      refine ⟨g, h1, ?_⟩
      have := hlist.cells (g := g) (by rw [h1]; rfl) 0 _ rfl
      rwa [Go.WideShapes.add_plain] at this
  have hv : r1.val = .slice r1.A 2 r1.c := by unfold RecE.val; rw [hx1]; rfl
  rw [hv] at hc0
  have hcv : (convert 22 9 (.slice r1.A 2 r1.c)).run Tryd.prog w8 = .ok (.string ⟨#[97, 98]⟩) w8 := by
    rw [hv, hx1] at hr1
    exact conv_reads (c := r1.c) w8 (txt_reads (own_txt hr1).1)
  clear hlist hr1 hv hx1 HR
  go_wp2_with fail
  go_ret
  exact ⟨rfl, G8⟩

end Go.Proofs.YthkghjkgmfjmoaaDoor
