/-
  Package tree: Under.
-/
import Derived.Test.YtbadkkilblgpmaaDoorTH
namespace Go.Proofs.YtbadkkilblgpmaaDoor
open Go.RowKit

theorem ba_append (a b : List UInt8) : (⟨a.toArray⟩ : ByteArray) ++ (⟨b.toArray⟩ : ByteArray) = ⟨(a ++ b).toArray⟩ := by
  apply ByteArray.ext
  simp
def putDir (dir : List UInt8) (m : Fil) : Fil := { m with p := dir ++ ([47] ++ m.p) }
theorem OwnT.setPath {w0 w : World} {g i : Nat} {M : List Fil} {m : Fil} (h : OwnT w0 w g M) (hi : M[i]? = some m) (p' : List UInt8) :
    OwnT w0 (w.setCell ⟨g, i * 2, none⟩ (.string ⟨p'.toArray⟩)) g (M.set i { m with p := p' }) := by
  obtain ⟨cs, h1, h2, h3⟩ := h.blk
  have hlt : i < M.length := (List.getElem?_eq_some_iff.1 hi).1
  have hgr : Chg (some g) w (w.setCell ⟨g, i * 2, none⟩ (.string ⟨p'.toArray⟩)) := (Chg.refl _ _).setCell _ _
  refine ⟨⟨_, h1.set _ _, by simpa using h2, fun j m' hj => ?_⟩, fun m' hm' => ?_, h.base, Chg.own (b := g) h.chg hgr h.base⟩
  · by_cases e : i = j
    · subst e
      rw [List.getElem?_set_self hlt] at hj
      obtain rfl := Option.some.inj hj
      have hs : i * 2 < cs.size := by omega
      refine ⟨by simp [hs], ?_⟩
      rw [Array.getElem?_setIfInBounds_ne (by omega)]
      exact (h3 i m hi).2
    · rw [List.getElem?_set_ne e] at hj
      rw [Array.getElem?_setIfInBounds_ne (by omega), Array.getElem?_setIfInBounds_ne (by omega)]
      exact h3 j m' hj
  · have hown : w.ownsRow w0.heap.size 5 1 (.slice m'.A m'.x.length m'.c) m'.x.length (byteVals m'.x) := by
      rcases List.mem_or_eq_of_mem_set hm' with hm | hm
      · exact h.own m' hm
      · rw [hm]; exact h.own m (List.mem_of_getElem? hi)
    exact World.ownsRow.kept hown hgr (.inr (own_other hown h1 (by decide)))
/-- The first k put under the directory. -/
def partU (dir : List UInt8) (M : List Fil) (k : Nat) : List Fil := (M.take k).map (putDir dir) ++ M.drop k
theorem partU_len (dir : List UInt8) (M : List Fil) (k : Nat) : (partU dir M k).length = M.length := by
  unfold partU; simp; omega
theorem partU_at {dir : List UInt8} {M : List Fil} {k : Nat} {m : Fil} (h : M[k]? = some m) : (partU dir M k)[k]? = some m := by
  have hlt := (List.getElem?_eq_some_iff.1 h).1
  unfold partU
  rw [List.getElem?_append_right (by rw [List.length_map, List.length_take]; omega), List.length_map, List.length_take, Nat.min_eq_left (by omega), Nat.sub_self, List.getElem?_drop, Nat.add_zero]
  exact h
theorem partU_succ {dir : List UInt8} {M : List Fil} {k : Nat} {m : Fil} (h : M[k]? = some m) : (partU dir M k).set k (putDir dir m) = partU dir M (k + 1) := by
  have hlt := (List.getElem?_eq_some_iff.1 h).1
  have hd : M.drop k = m :: M.drop (k + 1) := by
    have h1 := List.getElem?_eq_some_iff.1 h
    rw [← h1.2, ← List.drop_eq_getElem_cons h1.1]
  unfold partU
  rw [List.set_append_right _ _ (by rw [List.length_map, List.length_take]; omega), List.length_map, List.length_take, Nat.min_eq_left (by omega), Nat.sub_self, hd, List.set_cons_zero, List.take_add_one, h]
  simp
theorem partU_all {dir : List UInt8} {M : List Fil} {k : Nat} (h : M.length ≤ k) : partU dir M k = M.map (putDir dir) := by
  unfold partU
  rw [List.take_of_length_le h, List.drop_eq_nil_of_le h, List.append_nil]

set_option maxHeartbeats 8000000 in
set_option maxRecDepth 100000 in
theorem under_no (L : List Fil) (A : Option Addr) (c : Nat) (dir : List UInt8) (w : World) (hT : TreeAt w A L) (hl : L.length ≤ 9223372036854775807) (hd : dir.length ≤ 9223372036854775807) (hm : (mayT L && pathB dir) = false) :
    Calls Tryd.prog 72 #[.slice A L.length c, .string ⟨dir.toArray⟩] w fun e w' => e = .returned (.tuple #[.slice none 0 0, .int .i64 2]) ∧ Chg none w w' := by
  have HM := Lib.hid (mayt_any L A c w hT hl)
  have HD := Lib.hid (fun v => ispath_any dir v hd)
  clear hT hl hd
  by_cases h1 : mayT L = true
  · have h2 : pathB dir = false := by rw [h1, Bool.true_and] at hm; exact hm
    rw [h1] at HM
    rw [h2] at HD
    clear hm h1 h2
    go_enter Tryd.func72, Tryd.ntmps72
    go_wp2_with fail
    refine HM.out.mono ?_
    rintro e w1 ⟨rfl, g1⟩
    have HDD := Lib.hid (HD.out w1)
    have G1 := Lib.hid g1
    clear g1
    go_wp2_with fail
    refine HDD.out.mono ?_
    rintro e w2 ⟨rfl, g2⟩
    have G2 := Lib.hid (G1.out.trans g2)
    clear g2
    go_wp2_with fail
    go_ret2
    exact ⟨rfl, G2.out⟩
  · have h2 : mayT L = false := by simpa using h1
    rw [h2] at HM
    clear hm h1 h2
    go_enter Tryd.func72, Tryd.ntmps72
    go_wp2_with fail
    refine HM.out.mono ?_
    rintro e w1 ⟨rfl, g1⟩
    go_wp2_with fail
    go_ret2
    exact ⟨rfl, g1⟩

/-- What Under tells of a tree that may be. -/
def ToldU (w : World) (L : List Fil) (dir : List UInt8) (e : Ending) (w' : World) : Prop :=
  ∃ (g : Nat) (M : List Fil), M.length = L.length ∧ (∀ (i : Nat) (m f : Fil), M[i]? = some m → L[i]? = some f → m.p = f.p ∧ m.x = f.x) ∧ ToldH w g L.length (M.map (putDir dir)) e w'

set_option maxHeartbeats 16000000 in
set_option maxRecDepth 100000 in
theorem under_yes (L : List Fil) (A : Option Addr) (c : Nat) (dir : List UInt8) (w : World) (hT : TreeAt w A L) (hm : mayT L = true) (hd : pathB dir = true) :
    Calls Tryd.prog 72 #[.slice A L.length c, .string ⟨dir.toArray⟩] w (ToldU w L dir) := by
  obtain ⟨h16, hfl, -, -⟩ := mayT_parts hm
  have HM := Lib.hid (mayt_any L A c w hT (by omega))
  have HD := Lib.hid (fun v => ispath_any dir v (by have := (path_len hd).2; omega))
  rw [hm] at HM
  rw [hd] at HD
  have HCP := Lib.hid (fun v (g : Chg none w v) => copied_any L A c v (hT.chg g) (by omega) (fun f hf => by have := (hfl f hf).2; omega))
  have HPL : Hid (∀ f ∈ L, f.p.length ≤ 40) := fun f hf => (path_len (hfl f hf).1).2
  have HDL : Hid (dir.length ≤ 40) := (path_len hd).2
  have HL16 := Lib.hid h16
  clear hT hm hd hfl h16
  go_enter Tryd.func72, Tryd.ntmps72
  go_wp2_with fail
  refine HM.out.mono ?_
  rintro e w1 ⟨rfl, g1⟩
  have HDD := Lib.hid (HD.out w1)
  have G1 := Lib.hid g1
  clear g1
  go_wp2_with fail
  refine HDD.out.mono ?_
  rintro e w2 ⟨rfl, g2⟩
  have G2 := Lib.hid (G1.out.trans g2)
  have HC2 := Lib.hid (HCP.out w2 G2.out)
  clear g2 HCP HD HM HDD
  go_wp2_with fail
  refine HC2.out.mono ?_
  rintro e w3 ⟨g, M, rfl, hcp⟩
  have HML : Hid (M.length = L.length) := hcp.len
  have HSA := Lib.hid hcp.same
  have HO3 : Hid (OwnT w w3 g (partU dir M 0)) := by
    have h := hcp.ownT
    show OwnT w w3 g (partU dir M 0)
    have e : partU dir M 0 = M := by unfold partU; simp
    rw [e]
    exact ⟨h.blk, fun m hm => World.ownsRow.mono (h.own m hm) G2.out.size, Nat.le_trans G2.out.size h.base, G2.out.trans h.chg⟩
  have HMP : Hid (∀ m ∈ M, m.p.length ≤ 40) := fun m hm => by
    obtain ⟨i, hi, rfl⟩ := List.mem_iff_getElem.1 hm
    have hiL : i < L.length := by rw [← HML.out]; exact hi
    have h := HSA.out i M[i] L[i] (List.getElem?_eq_getElem hi) (List.getElem?_eq_getElem hiL)
    rw [h.1]
    exact HPL.out _ (List.getElem_mem hiL)
  clear hcp HC2
  go_wp2_with fail
  go_loopw [20] (fun s20 wr => ∃ k : Nat, s20 = .int .i64 k ∧ Hid (k ≤ L.length) ∧ Hid (OwnT w wr g (partU dir M k))) (fun s20 _ => L.length - (intOf s20).toNat)
  case atStart => exact ⟨0, rfl, Lib.hid (Nat.zero_le _), HO3⟩
  case round =>
    obtain ⟨k, rfl, H1, H2⟩ := hrel
    by_cases hlt : k < L.length
    · have hdd : decide ((k : Int) < (L.length : Int)) = true := by rw [decide_eq_true_eq]; omega
      obtain ⟨m, hkm⟩ : ∃ m, M[k]? = some m := ⟨_, List.getElem?_eq_getElem (by rw [HML.out]; exact hlt)⟩
      have HNX := Lib.hid (H2.out.setPath (partU_at (dir := dir) hkm) (dir ++ ([47] ++ m.p)))
      have hps := partU_succ (dir := dir) hkm
      unfold putDir at hps
      rw [hps] at HNX
      obtain ⟨cs, hb, -, hc⟩ := H2.out.blk
      have x0 : wr.cell? ⟨g, k * 2, none⟩ = some (.string ⟨m.p.toArray⟩) := by rw [hb.cell]; exact (hc k m (partU_at hkm)).1
      have y0 : wr.frozen? ⟨g, k * 2, none⟩ = false := hb.frozen _
      have HLT := Lib.hid hlt
      have h16 := HL16.out
      have hmp40 := HMP.out m (List.mem_of_getElem? hkm)
      have hdl40 := HDL.out
      have hs1 : ¬ 9223372036854775807 < dir.length + 1 := by omega
      have hs2 : ¬ 9223372036854775807 < dir.length + 1 + m.p.length := by omega
      clear hkm hps hb hc hlt HO3 hmp40 hdl40
      obtain ⟨mp, mA, mx, mc⟩ := m
      dsimp only at x0 HNX hs2
      have hc1 : (⟨dir.toArray⟩ : ByteArray) ++ (⟨#[47]⟩ : ByteArray) = ⟨(dir ++ [47]).toArray⟩ := ba_append dir [47]
      have hc2 : (⟨(dir ++ [47]).toArray⟩ : ByteArray) ++ (⟨mp.toArray⟩ : ByteArray) = ⟨(dir ++ ([47] ++ mp)).toArray⟩ := by rw [ba_append, List.append_assoc]
      go_wp2_with fail
      go_roundw
      case rel => exact ⟨k + 1, by first | rfl | (simp; done), Lib.hid HLT.out, by first | exact HNX | (simpa using HNX) | (trace_state; exact HNX)⟩
      case measure =>
        have := HLT.out
        first | omega | (simp only [intOf]; omega) | (simp [intOf]; omega)
    · have hdd : decide (k < L.length) = false := by rw [decide_eq_false_iff_not]; exact hlt
      have hd2 : decide ((k : Int) < (L.length : Int)) = false := by rw [decide_eq_false_iff_not]; omega
      have hkl : M.length ≤ k := by rw [HML.out]; omega
      have hO := H2.out
      rw [partU_all hkl] at hO
      have hh := held_any w wr g L.length (M.map (putDir dir)) hO (by rw [List.length_map, HML.out]; have := HL16.out; omega) (fun m hm => by
        obtain ⟨m0, hm0, rfl⟩ := List.mem_map.1 hm
        have h1 := HMP.out m0 hm0
        have h2 := HDL.out
        unfold putDir
        simp only [List.length_append, List.length_cons, List.length_nil]
        omega)
      rw [List.length_map, HML.out] at hh
      have HH := Lib.hid hh
      have HU : Hid (∀ e w', ToldH w g L.length (M.map (putDir dir)) e w' → ToldU w L dir e w') := fun e w' h => ⟨g, M, HML.out, HSA.out, h⟩
      clear hlt hkl hO hh HO3 H1 H2
      go_wp2_with fail
      refine HH.out.mono ?_
      rintro e w9 h9
      have h9' := h9
      obtain ⟨M', hpm, hst, htr, hown, hch, hend⟩ := h9
      have HE := Lib.hid (fun e he => HU.out e w9 ⟨M', hpm, hst, htr, hown, hch, he⟩)
      clear h9' hpm hst htr hown hch
      rcases hend with ⟨hm9, rfl⟩ | ⟨hm9, rfl⟩
      · have HM9 := Lib.hid hm9
        clear hm9
        go_wp2_with fail
        go_ret2
        exact HE.out _ (.inl ⟨HM9.out, rfl⟩)
      · have HM9 := Lib.hid hm9
        clear hm9
        go_wp2_with fail
        go_ret2
        exact HE.out _ (.inr ⟨HM9.out, rfl⟩)

end Go.Proofs.YtbadkkilblgpmaaDoor
