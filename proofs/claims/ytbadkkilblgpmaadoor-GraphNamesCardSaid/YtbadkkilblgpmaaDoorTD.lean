/-
  Package tree: Bytes.
-/
import Derived.Test.YtbadkkilblgpmaaDoorTA
import Derived.Test.YtbadkkilblgpmaaDoorTC
namespace Go.Proofs.YtbadkkilblgpmaaDoor
open Go.RowKit

def fileF (f : Fil) : List UInt8 := row f.p ++ row f.x
def treeB (L : List Fil) : List UInt8 := form L.length ++ L.flatMap fileF
def partT (L : List Fil) (k : Nat) : List UInt8 := form L.length ++ (L.take k).flatMap fileF
theorem partT_succ {L : List Fil} {k : Nat} {f : Fil} (h : L[k]? = some f) : partT L (k + 1) = partT L k ++ fileF f := by
  unfold partT
  rw [List.take_add_one, h]
  simp
theorem partT_all {L : List Fil} {k : Nat} (h : L.length ≤ k) : partT L k = treeB L := by
  unfold partT treeB
  rw [List.take_of_length_le h]
theorem path_len {s : List UInt8} (h : pathB s = true) : 1 ≤ s.length ∧ s.length ≤ 40 := by
  unfold pathB at h
  simp only [Bool.and_eq_true, decide_eq_true_eq] at h
  exact h.1
theorem mayT_parts {L : List Fil} (h : mayT L = true) : L.length ≤ 16 ∧ (∀ f ∈ L, pathB f.p = true ∧ f.x.length ≤ 2000) ∧ riseT L = true ∧ sumT L ≤ 4000 := by
  unfold mayT at h
  simp only [Bool.and_eq_true, decide_eq_true_eq, List.all_eq_true] at h
  refine ⟨h.1, fun f hf => ?_, h.2.2.1, h.2.2.2⟩
  have := h.2.1 f hf
  unfold fileT at this
  simpa only [Bool.and_eq_true, decide_eq_true_eq] using this
theorem fileF_len {f : Fil} (h : f.p.length ≤ 40 ∧ f.x.length ≤ 2000) : (fileF f).length ≤ 2058 := by
  unfold fileF
  have h1 := row_len f.p (by omega)
  have h2 := row_len f.x (by omega)
  rw [List.length_append]; omega
theorem flatF_len : ∀ L : List Fil, (∀ f ∈ L, f.p.length ≤ 40 ∧ f.x.length ≤ 2000) → (L.flatMap fileF).length ≤ 2058 * L.length
  | [], _ => by simp
  | f :: L, h => by
    rw [List.flatMap_cons, List.length_append, List.length_cons]
    have h1 := fileF_len (h f (by simp))
    have h2 := flatF_len L (fun g hg => h g (by simp [hg]))
    omega
theorem partT_len {L : List Fil} (h : mayT L = true) (k : Nat) : (partT L k).length ≤ 33000 := by
  obtain ⟨h1, h2, -, -⟩ := mayT_parts h
  unfold partT
  rw [List.length_append]
  have h3 := form_small L.length (by omega)
  have h4 := flatF_len (L.take k) (fun f hf => ⟨(path_len (h2 f (List.mem_of_mem_take hf)).1).2, (h2 f (List.mem_of_mem_take hf)).2⟩)
  rw [List.length_take] at h4
  omega

set_option maxHeartbeats 8000000 in
set_option maxRecDepth 100000 in
theorem tbytes_no (L : List Fil) (A : Option Addr) (c : Nat) (w : World) (hT : TreeAt w A L) (hl : L.length ≤ 9223372036854775807) (hm : mayT L = false) :
    Calls Tryd.prog 29 #[.slice A L.length c] w fun e w' => e = .returned (.tuple #[.slice none 0 0, .int .i64 2]) ∧ Chg none w w' := by
  have HM := Lib.hid (mayt_any L A c w hT hl)
  rw [hm] at HM
  clear hT hl hm
  go_enter Tryd.func29, Tryd.ntmps29
  go_wp2_with fail
  refine HM.out.mono ?_
  rintro e w1 ⟨rfl, g1⟩
  go_wp2_with fail
  go_ret2
  exact ⟨rfl, g1⟩

set_option maxHeartbeats 16000000 in
set_option maxRecDepth 100000 in
theorem tbytes_yes (L : List Fil) (A : Option Addr) (c : Nat) (w : World) (hT : TreeAt w A L) (hm : mayT L = true) :
    Calls Tryd.prog 29 #[.slice A L.length c] w fun e w' => ∃ A' n c', e = .returned (.tuple #[.slice A' n c', .int .i64 0]) ∧ ByAt w w' A' n c' (treeB L) := by
  obtain ⟨hl, hsm, -, -⟩ := mayT_parts hm
  have HSM := Lib.hid hsm
  have HMY := Lib.hid (mayt_any L A c w hT (by omega))
  rw [hm] at HMY
  have HT : Hid (∀ v, Chg none w v → TreeAt v A L) := fun v g => hT.chg g
  have HPL : Hid (∀ k, (partT L k).length ≤ 33000) := partT_len hm
  have HU : Hid (∀ (v : World) (A : Option Addr) (n c : Nat) (bs : List UInt8) (m : Nat), ByAt w v A n c bs → bs.length ≤ 40000 → m < 18446744073709551616 →
      Calls Tryd.prog 74 #[.slice A n c, .int .u64 m] v fun e w' => ∃ A' n' c', e = .returned (.slice A' n' c') ∧ ByAt w w' A' n' c' (bs ++ form m) ∧ Chg none v w') := fun v A n c bs m h h1 h2 => put_u m h (by omega) h2
  have HB : Hid (∀ (v : World) (A : Option Addr) (n c : Nat) (bs : List UInt8) (Ax : Option Addr) (x : List UInt8) (cx : Nat), ByAt w v A n c bs → bs.length ≤ 40000 → Reads v v.heap.size 1 Ax x.length (byteVals x) → x.length ≤ 2000 →
      Calls Tryd.prog 75 #[.slice A n c, .slice Ax x.length cx] v fun e w' => ∃ A' n' c', e = .returned (.slice A' n' c') ∧ ByAt w w' A' n' c' (bs ++ row x) ∧ Chg none v w') := fun v A n c bs Ax x cx h h1 h2 h3 => put_b Ax x cx h (by omega) h2 (by omega)
  clear hT hm hsm
  have hwl : IntKind.u64.wrap (L.length : Int) = (L.length : Int) := by rw [IntKind.wrap_u64]; omega
  go_enter Tryd.func29, Tryd.ntmps29
  go_wp2_with fail
  refine HMY.out.mono ?_
  rintro e w1 ⟨rfl, g1⟩
  have B1 : Hid (ByAt w w1 none 0 0 []) := ⟨rfl, World.ownsRow_nil _ _ _ _, g1⟩
  have HU1 := Lib.hid (HU.out w1 none 0 0 [] L.length B1.out (by simp) (by omega))
  clear g1 HMY
  go_wp2_with fail
  refine HU1.out.mono ?_
  rintro e w2 ⟨A2, n2, c2, rfl, hb2, -⟩
  have B2 : Hid (ByAt w w2 A2 n2 c2 (partT L 0)) := by
    show ByAt _ _ _ _ _ _
    have e : partT L 0 = [] ++ form L.length := by unfold partT; simp
    rw [e]; exact hb2
  clear hb2 HU1 B1 hwl
  go_wp2_with fail
  go_loopw [4, 16] (fun s4 s16 wr => ∃ (k : Nat) (A1 : Option Addr) (n1 c1 : Nat), s16 = .int .i64 k ∧ s4 = .slice A1 n1 c1 ∧ Hid (k ≤ L.length) ∧ Hid (ByAt w wr A1 n1 c1 (partT L k))) (fun _ s16 _ => L.length - (intOf s16).toNat)
  case atStart => exact ⟨0, A2, n2, c2, rfl, rfl, Lib.hid (Nat.zero_le _), B2⟩
  case round =>
    obtain ⟨k, A1, n1, c1, rfl, rfl, H1, H2⟩ := hrel
    by_cases hlt : k < L.length
    · have hd : decide ((k : Int) < (L.length : Int)) = true := by rw [decide_eq_true_eq]; omega
      obtain ⟨x, hkx⟩ : ∃ x, L[k]? = some x := ⟨_, List.getElem?_eq_getElem hlt⟩
      have hne : L ≠ [] := by intro e; subst e; simp at hlt
      have HRW := Lib.hid (HT.out wr H2.out.2.2)
      obtain ⟨b, off, rfl, -, -⟩ := HRW.out.1 hne
      obtain ⟨hb, x0, x1⟩ := HRW.out.1.two hkx
      have HLT := Lib.hid hlt
      have HSX := Lib.hid (HSM.out x (List.mem_of_getElem? hkx))
      have HPS := Lib.hid (partT_succ hkx)
      have HTX : Hid (∀ v, Chg none w v → Txt v x.A x.x) := fun v g => ((HT.out v g).2 x (List.mem_of_getElem? hkx)).t
      have HWR : Hid (Chg none w wr) := H2.out.2.2
      obtain ⟨V0, hV⟩ : ∃ V0, V0 = wr := ⟨_, rfl⟩
      rw [← hV] at hb x0 x1 H2 HWR ⊢
      clear hV hkx hne HRW HT hlt HSM B2
      obtain ⟨fp, fA, fx, fc⟩ := x
      dsimp only at x0 x1
      go_upto_region 7 with fail
      have HG0 : Hid (Chg none V0 (V0.alloc (.cells #[.string ⟨fp.toArray⟩, .slice fA fx.length fc] 91))) := (Chg.refl _ _).alloc _
      have HX0 : Hid (Blk (V0.alloc (.cells #[.string ⟨fp.toArray⟩, .slice fA fx.length fc] 91)) V0.heap.size #[.string ⟨fp.toArray⟩, .slice fA fx.length fc] 91) := Blk.new _ _ _
      generalize V0.alloc (.cells #[.string ⟨fp.toArray⟩, .slice fA fx.length fc] 91) = W0 at *
      have B0 := Lib.hid (H2.out.chg HG0.out)
      have HBX : Hid (∀ v, Chg none W0 v → Blk v V0.heap.size #[.string ⟨fp.toArray⟩, .slice fA fx.length fc] 91) := fun v g => HX0.out.chg g (by simp)
      have q0 : W0.cell? ⟨V0.heap.size, 0, none⟩ = some (.string ⟨fp.toArray⟩) := HX0.out.cell 0
      have HFP : Hid (fp.length ≤ 40) := (path_len HSX.out.1).2
      have HFX : Hid (fx.length ≤ 2000) := HSX.out.2
      have cs := fun v => conv_sb fp v
      have hrd := sb_reads fp W0
      have hcg := sb_chg ⟨fp.toArray⟩ W0
      have HB5 := fun cx => HB.out (Lib.bytesWorld W0 5 ⟨fp.toArray⟩) A1 n1 c1 _ (some ⟨W0.heap.size, 0, none⟩) fp cx (B0.out.chg hcg) (by have := HPL.out k; omega) hrd (by have := HFP.out; omega)
      have HB6 := Lib.hid HB5
      have HCG := Lib.hid hcg
      clear HX0 x0 x1 hb H2 hrd hcg HB5
      generalize V0.heap.size = PX at *
      go_wp2_with fail
      refine (HB6.out _).mono ?_
      rintro e v3 ⟨A3, n3, c3, rfl, hb3, hg3⟩
      have G3 := Lib.hid (HCG.out.trans hg3)
      have B3 := Lib.hid hb3
      have q1 : v3.cell? ⟨PX, 1, none⟩ = some (.slice fA fx.length fc) := (HBX.out v3 G3.out).cell 1
      have HB7 := Lib.hid (HB.out v3 A3 n3 c3 _ fA fx fc hb3 (by have h1 := HPL.out k; have h2 := row_len fp (by have := HFP.out; omega); have h3 := HFP.out; rw [List.length_append]; omega) (txt_reads (HTX.out v3 (HWR.out.trans (HG0.out.trans G3.out)))) HFX.out)
      clear hb3 hg3 HB6 q0 cs HCG
      go_wp2_with fail
      refine HB7.out.mono ?_
      rintro e v4 ⟨A4, n4, c4, rfl, hb4, hg4⟩
      have B4 : Hid (ByAt w v4 A4 n4 c4 (partT L (k + 1))) := by
        show ByAt _ _ _ _ _ _
        rw [HPS.out]
        unfold fileF
        simpa using hb4
      clear hb4 hg4 HB7 q1
      go_wp2_with fail
      go_roundw
      case rel => exact ⟨k + 1, A4, n4, c4, by first | rfl | (simp; done), rfl, Lib.hid HLT.out, B4⟩
      case measure =>
        have := HLT.out
        first | omega | (simp only [intOf]; omega) | (simp [intOf]; omega)
    · have hd : decide (k < L.length) = false := by rw [decide_eq_false_iff_not]; exact hlt
      have I2' : Hid (ByAt w wr A1 n1 c1 (treeB L)) := by
        show ByAt _ _ _ _ _ _
        rw [← partT_all (k := k) (by omega)]; exact H2.out
      clear hlt H2
      go_wp2_with fail
      go_ret2
      exact ⟨A1, n1, c1, rfl, I2'.out⟩

end Go.Proofs.YtbadkkilblgpmaaDoor
