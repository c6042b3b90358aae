/-
  The document's plan of layer 23: better.
-/
import Derived.Test.YtippkdjggipnmaaRC
namespace Go.Proofs.Ytippkdjggipnmaa
open Go.RowKit Go.Maps

def betB (p : Pl) (i k m : Nat) : Bool := decide (cmpL (rankM p i k) (rankM p i m) < 0)
theorem cmpI_lt {a b : Int} (h : a ≠ b) : decide (cmpI a b < 0) = decide (a < b) ∧ cmpI a b ≠ 0 := by
  unfold cmpI
  by_cases h1 : a < b
  · rw [if_pos h1]; simp [h1]
  · rw [if_neg h1, if_pos (by omega)]; simp [h1]
theorem cmpI_self (a : Int) : cmpI a a = 0 := by unfold cmpI; simp
theorem betB_eq {p : Pl} {i k m : Nat} {x y : Pr} (hx : p.pe[k]? = some x) (hy : p.pe[m]? = some y) :
    betB p i k m = if p.ts i k ≠ p.ts i m then decide (p.ts i k < p.ts i m) else if x.ak ≠ y.ak then decide (x.ak < y.ak) else if x.de ≠ y.de then decide (x.de < y.de) else decide (k < m) := by
  unfold betB rankM
  rw [getD_of hx, getD_of hy]
  by_cases h1 : p.ts i k = p.ts i m
  · rw [if_neg (by simpa using h1)]
    simp only [cmpL, h1, cmpI_self]
    by_cases h2 : x.ak = y.ak
    · rw [if_neg (by simp)]
      simp only [h2, cmpI_self]
      by_cases h3 : x.de = y.de
      · rw [if_neg (by simp)]
        simp only [h3, cmpI_self]
        by_cases h4 : k = m
        · subst h4; simp [cmpI_self]
        · have h5 := cmpI_lt (a := (k : Int)) (b := (m : Int)) (by omega)
          simp [h5.2]
          simpa using h5.1
      · have h5 := cmpI_lt h3
        simp [h3, h5.2]
        simpa using h5.1
    · have h5 := cmpI_lt h2
      simp [h2, h5.2]
      simpa using h5.1
  · have h5 := cmpI_lt h1
    simp [h1, cmpL, h5.2]
    simpa using h5.1

set_option maxHeartbeats 4000000 in
set_option maxRecDepth 100000 in
theorem better_any (i k m n : Nat) (w : World) (q : Rb) (p : Pl) (r : Rf) (h : RefAt w q r) (hs : Sim p r) (hok : p.ok n) (hi : i < p.ch.length) (hk : k < p.pe.length) (hm : m < p.pe.length) :
    Calls Try.prog 33 #[.pointer (some ⟨q.b, 0, none⟩), .int .i64 i, .int .i64 k, .int .i64 m] w fun e w' => e = .returned (.bool (betB p i k m)) ∧ Chg none w w' := by
  obtain ⟨a, ho⟩ := h.at_
  have hnc := hok.nc
  have hnp := hok.np
  obtain ⟨x, hx⟩ : ∃ x, p.pe[k]? = some x := ⟨_, List.getElem?_eq_getElem hk⟩
  obtain ⟨y, hy⟩ : ∃ y, p.pe[m]? = some y := ⟨_, List.getElem?_eq_getElem hm⟩
  have hb := betB_eq (i := i) hx hy
  have hax := hok.aks _ _ hx
  have hay := hok.aks _ _ hy
  have hcx := cnt_le p.ch k
  have hcy := cnt_le p.ch m
  have HL : Hid (∀ v, Chg none w v → ∀ K, Calls Try.prog 32 #[.pointer (some ⟨q.b, 0, none⟩), .int .i64 K] v fun e w' => e = .returned (.int .i64 (cnt p.ch K : Nat)) ∧ Chg none v w') := Lib.hid fun v g K => load_any K v q p r (h.chg g) hs hnc
  have HLk := Lib.hid (fun v (g : Chg none w v) => HL.out v g k)
  have HLm := Lib.hid (fun v (g : Chg none w v) => HL.out v g m)
  obtain ⟨row, hrow⟩ : ∃ row, r.tm[i]? = some row := ⟨_, List.getElem?_eq_getElem (by rw [hs.tl]; exact hi)⟩
  obtain ⟨hrl, hrk⟩ := hs.tm i row hrow
  obtain ⟨hA5, A', c', b', z4, -, hrI⟩ := ho.tm.one hrow
  obtain ⟨hA', zk, -⟩ := hrI.one (hrk k hk)
  obtain ⟨-, zm, -⟩ := hrI.one (hrk m hm)
  obtain ⟨-, -, -, y3, y4, -, -⟩ := ho.cells
  rw [hA5, hs.tl] at y4
  rw [hs.bdl] at y3
  rw [hA', hrl] at z4
  obtain ⟨hA4, dk, -⟩ := ho.bd.one (hs.bdi hx)
  obtain ⟨-, dm, -⟩ := ho.bd.one (hs.bdi hy)
  rw [hA4] at y3
  have HX : Hid (∀ v, Chg none w v → v.cell? ⟨q.b, 3, none⟩ = some (.slice (some ⟨q.d, 0, none⟩) p.pe.length a.c4) ∧ v.cell? ⟨q.d, k, none⟩ = some (.int .i64 x.de) ∧ v.cell? ⟨q.d, m, none⟩ = some (.int .i64 y.de)) := Lib.hid fun v g =>
    ⟨World.grownBy.cell g y3 (by simp), World.grownBy.cell g dk (by simp), World.grownBy.cell g dm (by simp)⟩
  have hx1 : 0 ≤ x.ak ∧ x.ak ≤ 100 := by omega
  have hy1 : 0 ≤ y.ak ∧ y.ak ≤ 100 := by omega
  rw [← hax] at HLk
  rw [← hay] at HLm
  rw [hb]
  have HI := Lib.hid hi
  have HK := Lib.hid hk
  have HM := Lib.hid hm
  have di : i < p.ch.length := hi
  generalize p.ch.length = N at *
  generalize p.pe.length = M at *
  obtain ⟨ak, de⟩ := x
  obtain ⟨bk, be⟩ := y
  dsimp only at *
  generalize p.ts i k = u at *
  generalize p.ts i m = v at *
  clear hb hax hay hcx hcy HL hrow hrl hrk hrI hA5 hA' hA4 hx hy h hs hok ho dk dm
  by_cases h1 : u = v
  · have e1 : (u != v) = false := by simp [h1]
    rw [if_neg (by simpa using h1)]
    clear h1
    by_cases h2 : ak = bk
    · have e2 : (ak != bk) = false := by simp [h2]
      rw [if_neg (by simpa using h2)]
      clear h2
      by_cases h3 : de = be
      · have e3 : (de != be) = false := by simp [h3]
        rw [if_neg (by simpa using h3)]
        have e4 : decide ((k : Int) < (m : Int)) = decide (k < m) := by simp
        clear h3
        go_enter Try.func33, Try.ntmps33
        go_wp2_with fail
        go_region
        go_wp2_with fail
        refine (HLk.out _ (by first | exact Chg.refl _ _ | exact (Chg.refl _ _).drew)).mono ?_
        rintro e w2 ⟨rfl, g2⟩
        have G2 : Hid (Chg none w w2) := Lib.hid (Chg.trans (by first | exact Chg.refl _ _ | exact (Chg.refl _ _).drew) g2)
        clear g2
        go_wp2_with fail
        refine (HLm.out _ (by first | exact G2.out | exact Chg.drew G2.out)).mono ?_
        rintro e w3 ⟨rfl, g3⟩
        have G3 := Lib.hid (G2.out.trans g3)
        clear g3 y3 y4 z4 zk zm
        obtain ⟨v1, v2, v3⟩ := HX.out w3 G3.out
        go_wp2_with fail
        go_region
        go_wp2_with fail
        go_ret
        exact ⟨rfl, by first | exact G3.out | exact Chg.drew G3.out⟩
      · have e3 : (de != be) = true := by simp [h3]
        rw [if_pos h3]
        clear h3
        go_enter Try.func33, Try.ntmps33
        go_wp2_with fail
        go_region
        go_wp2_with fail
        refine (HLk.out _ (by first | exact Chg.refl _ _ | exact (Chg.refl _ _).drew)).mono ?_
        rintro e w2 ⟨rfl, g2⟩
        have G2 : Hid (Chg none w w2) := Lib.hid (Chg.trans (by first | exact Chg.refl _ _ | exact (Chg.refl _ _).drew) g2)
        clear g2
        go_wp2_with fail
        refine (HLm.out _ (by first | exact G2.out | exact Chg.drew G2.out)).mono ?_
        rintro e w3 ⟨rfl, g3⟩
        have G3 := Lib.hid (G2.out.trans g3)
        clear g3 y3 y4 z4 zk zm
        obtain ⟨v1, v2, v3⟩ := HX.out w3 G3.out
        go_wp2_with fail
        go_region
        go_wp2_with fail
        go_region
        go_wp2_with fail
        go_ret
        exact ⟨rfl, by first | exact G3.out | exact Chg.drew G3.out | exact Chg.drew (Chg.drew G3.out)⟩
    · have e2 : (ak != bk) = true := by simp [h2]
      rw [if_pos h2]
      clear h2
      go_enter Try.func33, Try.ntmps33
      go_wp2_with fail
      go_region
      go_wp2_with fail
      refine (HLk.out _ (by first | exact Chg.refl _ _ | exact (Chg.refl _ _).drew)).mono ?_
      rintro e w2 ⟨rfl, g2⟩
      have G2 : Hid (Chg none w w2) := Lib.hid (Chg.trans (by first | exact Chg.refl _ _ | exact (Chg.refl _ _).drew) g2)
      clear g2
      go_wp2_with fail
      refine (HLm.out _ (by first | exact G2.out | exact Chg.drew G2.out)).mono ?_
      rintro e w3 ⟨rfl, g3⟩
      have G3 := Lib.hid (G2.out.trans g3)
      clear g3
      go_wp2_with fail
      refine (HLk.out _ (by first | exact G3.out | exact Chg.drew G3.out)).mono ?_
      rintro e w4 ⟨rfl, g4⟩
      have G4 := Lib.hid (G3.out.trans g4)
      clear g4
      go_wp2_with fail
      refine (HLm.out _ (by first | exact G4.out | exact Chg.drew G4.out)).mono ?_
      rintro e w5 ⟨rfl, g5⟩
      have G5 := Lib.hid (G4.out.trans g5)
      clear g5
      go_wp2_with fail
      go_ret
      exact ⟨rfl, G5.out⟩
  · have e1 : (u != v) = true := by simp [h1]
    rw [if_pos h1]
    clear h1
    go_enter Try.func33, Try.ntmps33
    go_wp2_with fail
    go_region
    go_wp2_with fail
    go_region
    go_wp2_with fail
    go_ret
    exact ⟨rfl, by first | exact Chg.refl _ _ | exact (Chg.refl _ _).drew | exact (Chg.refl _ _).drew.drew⟩

end Go.Proofs.Ytippkdjggipnmaa
