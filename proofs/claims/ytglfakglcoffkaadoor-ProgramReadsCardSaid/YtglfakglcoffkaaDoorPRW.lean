/-
  ProgramReads: the walk.
-/
import Derived.Test.YtglfakglcoffkaaDoorPR3
import Derived.Test.YtglfakglcoffkaaDoorPK
namespace Go.Proofs.YtglfakglcoffkaaDoor
open Go.RowKit

def LR : Option (List Ins) → List Ins
  | none => []
  | some L => L
def ER : Option (List Ins) → Int
  | none => 5
  | some _ => 0
theorem toldq_form {w w' : World} {r : Option (List Ins)} {e : Ending} (h : ToldQ w r e w') : ∃ A c, e = .returned (.tuple #[.slice A (LR r).length c, .int .i64 (ER r)]) ∧ RowsAt w' 6 A insCells (LR r) ∧ (LR r).length ≤ 30 ∧ (∀ a : Addr, A = some a → w.heap.size ≤ a.block) ∧ Chg none w w' := by
  rcases h with ⟨rfl, rfl, g⟩ | ⟨L, A, c, rfl, rfl, h1, h2, h3, h4, h5, g⟩
  · exact ⟨none, 0, rfl, fun h => absurd rfl h, by decide, fun _ h => (by cases h), g⟩
  · exact ⟨A, c, rfl, h1, h3, h5, g⟩
theorem RowsAt.chgB {α : Type} {w w' : World} {k g : Nat} {A : Option Addr} {cells : α → List Value} {L : List α} (h : RowsAt w k A cells L) (hw : Chg (some g) w w') (hne : ∀ a : Addr, A = some a → a.block ≠ g) : RowsAt w' k A cells L := by
  intro hL
  obtain ⟨b, off, rfl, hlt, hc⟩ := h hL
  refine ⟨b, off, rfl, Nat.lt_of_lt_of_le hlt hw.size, fun i a hi j hj => ?_⟩
  rw [← hc i a hi j hj]
  exact World.cell?_of_block (hw.block b hlt (by simpa using hne _ rfl))
/-- From place k on the row is as it was. -/
def RestAt (wr : World) (g : Nat) (x : List UInt8) (k : Nat) : Prop := ∃ cs : Array Value, Blk wr g cs 5 ∧ ∀ (j : Nat) ch, k ≤ j → x[j]? = some ch → cs[j]? = some (.int .u8 ch.toNat)
theorem RestAt.put {wr : World} {g : Nat} {x : List UInt8} {k : Nat} (h : RestAt wr g x k) (v : Value) : RestAt (wr.setCell ⟨g, k, none⟩ v) g x (k + 1) := by
  obtain ⟨cs, h1, h2⟩ := h
  refine ⟨_, h1.set k v, fun j ch hj hx => ?_⟩
  rw [Array.getElem?_setIfInBounds_ne (by omega)]
  exact h2 j ch (by omega) hx

theorem own_empty5' (w : World) (B : Nat) (hB : B ≤ w.heap.size) : (w.alloc (.cells #[] 5 (0, 0))).ownsRow B 5 1 (.slice (some ⟨w.heap.size, 0, none⟩) 0 0) 0 (byteVals []) :=
  ⟨rfl, .inr ⟨w.heap.size, 0, #[], rfl, hB, heap_alloc_new w _, Nat.le_refl _, by unfold maxLen; decide, rfl, rfl⟩⟩

set_option maxRecDepth 100000 in
set_option maxHeartbeats 32000000 in
theorem reads_law (p : Prt) (w : World) (hp : p.ok w) (hpm : p.c ≤ 9223372036854775807) (hF : Flds w) :
    Calls Tryd.prog 9 #[.slice p.A p.x.length p.c] w fun e w' => e = .returned (.bool true) ∧ Chg none w w' := by
  obtain ⟨i0, hi, hz0, hz1, hz2⟩ := info_parts Tryd.info5
  have hpl : p.x.length ≤ 9223372036854775807 := by have := hp.2; omega
  have HKN : Hid (∀ v, Chg none w v → Calls Tryd.prog 33 #[] v fun e w' => e = .returned (.bool true) ∧ Chg none v w') := fun v g => known_any v (hF.chg g)
  obtain ⟨pA, px, pc⟩ := p
  dsimp only at hpl hpm ⊢
  by_cases h4 : 4000 < px.length
  · have d1 : decide ((4000 : Int) < (px.length : Int)) = true := by rw [decide_eq_true_eq]; omega
    have HK := Lib.hid (HKN.out w (Chg.refl _ _))
    clear HKN hp hF h4
    as_aux_lemma =>
      go_enter Tryd.func9, Tryd.ntmps9
      go_wp2_with fail
      refine HK.out.mono ?_
      rintro e w1 ⟨rfl, g1⟩
      go_wp2_with fail
      go_ret
      exact ⟨rfl, g1⟩
  have d1 : decide ((4000 : Int) < (px.length : Int)) = false := by rw [decide_eq_false_iff_not]; omega
  have HPX : Hid (px.length ≤ 4000) := by show _ ≤ _; omega
  have hpo : ∀ v, Chg none w v → Prt.ok v ⟨pA, px, pc⟩ := fun v g => hp.chg g
  have HPO : Hid (∀ v, Chg none w v → Txt v pA px) := fun v g => (hp.chg g).1
  have HRD : Hid (∀ A c v, Chg none w v → Reads v v.heap.size 1 A px.length (byteVals px) → px.length ≤ c → Calls Tryd.prog 39 #[.slice A px.length c] v (ToldQ v (readP px))) := fun A c v g hr hc => read_own A px c v hr hc (by omega) (hF.chg g)
  have HRR : Hid (∀ v, Chg none w v → Calls Tryd.prog 41 #[.slice pA px.length pc] v (ToldQ v (readP px))) := fun v g => refread_any pA px pc v (txt_reads (hpo v g).1) (by omega)
  have hE := own_empty5' w w.heap.size (Nat.le_refl _)
  have gE : Chg none w (w.alloc (.cells #[] 5 (0, 0))) := (Chg.refl _ _).alloc _
  have HE := Lib.hid hE
  have HGE := Lib.hid gE
  have HRX := Lib.hid (txt_reads (HPO.out _ gE))
  have HOX := Lib.hid (byteVals_one px)
  have HSE : Hid (w.heap.size ≤ (w.alloc (.cells #[] 5 (0, 0))).heap.size) := gE.size
  clear hpo hp hF h4 hE gE
  go_enter Tryd.func9, Tryd.ntmps9
  go_wp2_with (at_builtin; refine wpList_append_any _ rfl (.tmp 13) (.tmp 14) 22 rfl w.heap.size 5 i0 (.int .u8 0) 1 1 Tryd.underlying22 hi hz0 hz1 hz2 rfl (by decide) _ 0 (byteVals []) rfl HE.out _ pA px.length pc (byteVals px) rfl HRX.out HOX.out (by have := HPX.out; unfold maxLen; omega) (by have := HPX.out; omega) HSE.out ?_)
  intro v3 w3 hown3 hgr3 _
  obtain ⟨A3, c3, rfl⟩ := own_slice hown3
  have g3 : Chg none w w3 := own_chg HGE.out HE.out (Nat.le_refl _) hgr3
  have e3 : byteVals [] ++ byteVals px = byteVals px := rfl
  try rw [e3] at hown3
  try simp only [Nat.zero_add] at hown3
  try simp only [Nat.zero_add]
  obtain ⟨g, hg1, hg2, hg3⟩ : ∃ g, w.heap.size ≤ g ∧ (0 < px.length → A3 = some ⟨g, 0, none⟩ ∧ g < w3.heap.size) ∧ (0 < px.length → RestAt w3 g px 0) := by
    rcases hown3.2 with ⟨h1, h2⟩ | ⟨g, cap, cur, h1, h2, h3, h4, h5, h6, h7⟩
    · exact ⟨w.heap.size, Nat.le_refl _, fun h => absurd h (by omega), fun h => absurd h (by omega)⟩
    · injection h1 with h1
      refine ⟨g, h2, fun _ => ⟨h1, (Array.getElem?_eq_some_iff.1 h3).1⟩, fun _ => ⟨cur, h3, fun j ch _ hx => ?_⟩⟩
      have hb := byteVals_get hx
      have hj : j < px.length := (List.getElem?_eq_some_iff.1 hx).1
      rw [← h7, List.getElem?_take, if_pos (by omega), Array.getElem?_toList] at hb
      exact hb
  have HRDI := Lib.hid (HRD.out A3 c3 w3 g3 (Reads.of_own hown3) (own_capN hown3))
  have G3 := Lib.hid g3
  have HG1 := Lib.hid hg1
  have HG2 := Lib.hid hg2
  have HG3 := Lib.hid hg3
  clear hown3 hgr3 e3 g3 HE HGE HRX HOX HSE HRD hg1 hg2 hg3
  go_wp2_with fail
  refine HRDI.out.mono ?_
  rintro e w4 h4
  obtain ⟨A4, c4, rfl, hr4, hl4, hb4, g4⟩ := toldq_form h4
  have G4 := Lib.hid (G3.out.trans g4)
  have HRR4 := Lib.hid (HRR.out w4 G4.out)
  clear h4 HRDI HRR
  go_wp2_with fail
  refine HRR4.out.mono ?_
  rintro e w5 h5
  obtain ⟨A5, c5, rfl, hr5, -, hb5, g5⟩ := toldq_form h5
  have G5 := Lib.hid (G4.out.trans g5)
  have hr45 := hr4.chg g5
  have HSS : Hid (∀ v, (0 < px.length → Chg (some g) w5 v) → (px.length = 0 → v = w5) → Calls Tryd.prog 38 #[.slice A4 (LR (readP px)).length c4, .slice A5 (LR (readP px)).length c5] v fun e w' => e = .returned (.bool true) ∧ Chg none v w') := fun v gv gz => by
    have hx : RowsAt v 6 A4 insCells (LR (readP px)) ∧ RowsAt v 6 A5 insCells (LR (readP px)) := by
      rcases Nat.eq_zero_or_pos px.length with h0 | h0
      · rw [gz h0]; exact ⟨hr45, hr5⟩
      · have hgl := (HG2.out h0).2
        exact ⟨hr45.chgB (gv h0) (fun a h => by have := hb4 a h; omega), hr5.chgB (gv h0) (fun a h => by have h1 := hb5 a h; have h2 := g4.size; omega)⟩
    have h := refsame_any _ _ A4 A5 c4 c5 v hx.1 hx.2 (by omega) (by omega)
    rw [decide_eq_true rfl] at h
    exact h
  have HRE : Hid (0 < px.length → RestAt w5 g px 0) := fun h0 => by
    obtain ⟨cs, h1, h2⟩ := HG3.out h0
    exact ⟨cs, (h1.chg g4 (by simp)).chg g5 (by simp), h2⟩
  clear h5 HRR4 hr4 hr45 hr5 hb4 hb5 g4 g5 HG3
  generalize hLR : (LR (readP px)).length = nL at *
  generalize ER (readP px) = eR at *
  clear hLR
  go_wp2_with fail
  go_loopw [28] (fun s28 wr => ∃ k : Nat, s28 = .int .i64 k ∧ Hid (k ≤ px.length) ∧ Hid (0 < px.length → RestAt wr g px k) ∧ Hid (0 < px.length → Chg (some g) w5 wr) ∧ Hid (px.length = 0 → wr = w5) ∧ Hid (Chg none w wr)) (fun s28 _ => px.length - (intOf s28).toNat)
  case atStart => exact ⟨0, rfl, Lib.hid (Nat.zero_le _), HRE, Lib.hid (fun _ => Chg.refl _ _), Lib.hid (fun _ => rfl), G5⟩
  case round =>
    obtain ⟨k, rfl, H1, H2, H3, H4, H5⟩ := hrel
    by_cases hlt : k < px.length
    · have hd : decide ((k : Int) < (px.length : Int)) = true := by rw [decide_eq_true_eq]; omega
      have h0 : 0 < px.length := by omega
      obtain ⟨rfl, -⟩ := HG2.out h0
      obtain ⟨ch, hch⟩ : ∃ ch, px[k]? = some ch := ⟨_, List.getElem?_eq_getElem hlt⟩
      obtain ⟨cs, hblk, hrest⟩ := H2.out h0
      have HGD : Hid (Chg none w wr.drew) := H5.out.drew
      obtain ⟨sb, so, rfl, -, hcp⟩ := (HPO.out wr.drew HGD.out) h0
      have z1 : wr.drew.cell? ⟨g, k, none⟩ = some (.int .u8 ch.toNat) := by
        have h1 : wr.drew.cell? ⟨g, k, none⟩ = cs[k]? := hblk.cell k
        rw [h1]; exact hrest k ch (Nat.le_refl _) hch
      have z2 : wr.drew.cell? ⟨sb, so + k, none⟩ = some (.int .u8 ch.toNat) := hcp k ch hch
      have z3 : wr.drew.frozen? ⟨g, k, none⟩ = false := hblk.frozen k
      have HRE1 : Hid (RestAt wr.drew g px k) := ⟨cs, hblk, hrest⟩
      have HC3 : Hid (Chg (some g) w5 wr.drew) := (H3.out h0).drew
      have HLT := Lib.hid hlt
      clear hch hblk hrest hcp hlt HRE H2 H3 H4 HPO
      go_upto_region 9 with fail
      refine wp_region_held_drew (S := fun v => v = wr.drew) (by kernel_rfl) rfl (fun _ => ?_)
      generalize wr.drew = v0 at *
      refine wpAnyH_take (i := 0) (oi := ⟨some 31, _, _, _, _, _⟩) (v := ?_) rfl (by kernel_rfl) (by kernel_rfl) (by kernel_rfl) (fun _ _ _ h => h) (Or.inl ⟨by rfl, ?_⟩) (by assumption) ?_
      rotate_left
      · intro w hSw; (try dsimp only at hSw); go_simp; (try with_reducible rfl)
      try simp only [Act.put, List.setIfInBounds_toArray, List.set_cons_zero, List.set_cons_succ]
      refine wpAnyH_take (i := 1) (oi := ⟨some 32, _, _, _, _, _⟩) (v := ?_) rfl (by kernel_rfl) (by kernel_rfl) (by kernel_rfl) (fun _ _ _ h => h) (Or.inl ⟨by rfl, ?_⟩) (by assumption) ?_
      rotate_left
      · intro w hSw; (try dsimp only at hSw); go_simp; (try with_reducible rfl)
      try simp only [Act.put, List.setIfInBounds_toArray, List.set_cons_zero, List.set_cons_succ]
      refine wpAnyH_take (i := 2) (oi := ⟨some 33, _, _, _, _, _⟩) (v := ?_) rfl (by kernel_rfl) (by kernel_rfl) (by kernel_rfl) (fun _ _ _ h => h) (Or.inl ⟨by rfl, ?_⟩) (by assumption) ?_
      rotate_left
      · intro w hSw; (try dsimp only at hSw); go_simp; (try with_reducible rfl)
      try simp only [Act.put, List.setIfInBounds_toArray, List.set_cons_zero, List.set_cons_succ]
      refine wpAnyH_take (i := 3) (oi := ⟨some 34, _, _, _, _, _⟩) (v := .int .u8 ch.toNat) rfl (by kernel_rfl) (by kernel_rfl) (by kernel_rfl) (fun _ _ _ h => h) (Or.inl ⟨by rfl, ?_⟩) (by assumption) ?_
      · intro v hSv; subst hSv; go_simp
      try simp only [Act.put, List.setIfInBounds_toArray, List.set_cons_zero, List.set_cons_succ]
      refine wpAnyH_take (i := 4) (oi := ⟨some 35, _, _, _, _, _⟩) (v := ?_) rfl (by kernel_rfl) (by kernel_rfl) (by kernel_rfl) (fun _ _ _ h => h) (Or.inl ⟨by rfl, ?_⟩) (by assumption) ?_
      rotate_left
      · intro w hSw; (try dsimp only at hSw); go_simp; (try with_reducible rfl)
      try simp only [Act.put, List.setIfInBounds_toArray, List.set_cons_zero, List.set_cons_succ]
      refine wpAnyH_take (i := 5) (oi := ⟨some 36, _, _, _, _, _⟩) (v := ?_) rfl (by kernel_rfl) (by kernel_rfl) (by kernel_rfl) (fun _ _ _ h => h) (Or.inl ⟨by rfl, ?_⟩) (by assumption) ?_
      rotate_left
      · intro w hSw; (try dsimp only at hSw); go_simp; (try with_reducible rfl)
      try simp only [Act.put, List.setIfInBounds_toArray, List.set_cons_zero, List.set_cons_succ]
      refine wpAnyH_take (i := 6) (oi := ⟨some 37, _, _, _, _, _⟩) (v := ?_) rfl (by kernel_rfl) (by kernel_rfl) (by kernel_rfl) (fun _ _ _ h => h) (Or.inl ⟨by rfl, ?_⟩) (by assumption) ?_
      rotate_left
      · intro w hSw; (try dsimp only at hSw); go_simp; (try with_reducible rfl)
      try simp only [Act.put, List.setIfInBounds_toArray, List.set_cons_zero, List.set_cons_succ]
      refine wpAnyH_take (i := 7) (oi := ⟨some 38, _, _, _, _, _⟩) (v := .int .u8 ch.toNat) rfl (by kernel_rfl) (by kernel_rfl) (by kernel_rfl) (fun _ _ _ h => h) (Or.inl ⟨by rfl, ?_⟩) (by assumption) ?_
      · intro v hSv; subst hSv; go_simp
      try simp only [Act.put, List.setIfInBounds_toArray, List.set_cons_zero, List.set_cons_succ]
      refine wpAnyH_take (i := 8) (oi := ⟨some 39, _, _, _, _, _⟩) (v := .bool false) rfl (by kernel_rfl) (by kernel_rfl) (by kernel_rfl) (fun _ _ _ h => h) (Or.inl ⟨by rfl, ?_⟩) (by assumption) ?_
      · intro v hSv; subst hSv; go_simp
      try simp only [Act.put, List.setIfInBounds_toArray, List.set_cons_zero, List.set_cons_succ]
      refine wpAnyH_done (by kernel_rfl) ?_ _
      try simp only [Act.put]
      go_wp2_with fail
      go_roundw
      case rel => exact ⟨k + 1, by first | rfl | (simp; done), Lib.hid HLT.out, Lib.hid (fun _ => HRE1.out.put _), Lib.hid (fun _ => HC3.out.setCell k _), Lib.hid (fun h => by have := HLT.out; omega), Lib.hid (HGD.out.setNew _ HG1.out _)⟩
      case measure =>
        have := HLT.out
        first | omega | (simp only [intOf]; omega) | (simp [intOf]; omega)
    · have hd : decide (k < px.length) = false := by rw [decide_eq_false_iff_not]; exact hlt
      have hd2 : decide ((k : Int) < (px.length : Int)) = false := by rw [decide_eq_false_iff_not]; omega
      have HS := Lib.hid (HSS.out wr H3.out H4.out)
      clear hlt HRE H2 H3 H4 HPO HSS
      as_aux_lemma =>
        go_wp2_with fail
        refine HS.out.mono ?_
        rintro e w8 ⟨rfl, g8⟩
        have G8 := Lib.hid (H5.out.trans g8)
        have HK := Lib.hid (HKN.out _ G8.out)
        clear g8
        go_wp2_with fail
        refine HK.out.mono ?_
        rintro e w9 ⟨rfl, g9⟩
        go_wp2_with fail
        go_ret
        exact ⟨rfl, G8.out.trans g9⟩

end Go.Proofs.YtglfakglcoffkaaDoor
