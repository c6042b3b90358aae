/-
  The document's plan of layer 23: Had, Spoilt, better.
-/
import Derived.Test.YtippkdjggipnmaaRB
namespace Go.Proofs.Ytippkdjggipnmaa
open Go.RowKit Go.Maps

def Rb.has (q : Rb) (g : Nat) : Prop := g ∈ q.all
/-- What a call leaves: a plan of the document that stands to p. -/
def RPost2 (w : World) (q : Rb) (p : Pl) (w' : World) : Prop := ∃ r', RefAt w' q r' ∧ Sim p r' ∧ Kept q.has w w'

section
variable {w : World} {q : Rb} {r : Rf} {a : Hd}
theorem RefO.apart (_ : RefO w q r a) (hn : q.all.Nodup) : q.b ≠ q.s ∧ q.b ≠ q.p ∧ q.b ≠ q.n ∧ q.b ≠ q.d ∧ q.b ≠ q.t ∧ q.s ≠ q.p ∧ q.s ≠ q.n ∧ q.s ≠ q.d ∧ q.s ≠ q.t ∧ q.p ≠ q.n ∧ q.p ≠ q.d ∧ q.p ≠ q.t ∧ q.n ≠ q.d ∧ q.n ≠ q.t ∧ q.d ≠ q.t ∧
    (q.t :: q.rs).Nodup ∧ (∀ g ∈ q.rs, g ≠ q.b ∧ g ≠ q.s ∧ g ≠ q.p ∧ g ≠ q.n ∧ g ≠ q.d ∧ g ≠ q.t) := by
  unfold Rb.all at hn
  simp only [List.nodup_cons, List.mem_cons, not_or] at hn
  obtain ⟨⟨b1, b2, b3, b4, b5, b6⟩, ⟨s1, s2, s3, s4, s5⟩, ⟨p1, p2, p3, p4⟩, ⟨n1, n2, n3⟩, ⟨d1, d2⟩, t1, hr⟩ := hn
  refine ⟨b1, b2, b3, b4, b5, s1, s2, s3, s4, p1, p2, p3, n1, n2, d1, by rw [List.nodup_cons]; exact ⟨t1, hr⟩, fun g hg => ⟨?_, ?_, ?_, ?_, ?_, ?_⟩⟩ <;> (intro e; subst e; contradiction)
theorem RefO.setSt (h : RefO w q r a) (hn : q.all.Nodup) (i : Nat) (x : Int) (hi : i < r.st.length) : RefO (w.setCell ⟨q.s, i, none⟩ (.int .i64 x)) q { r with st := r.st.set i x } a := by
  obtain ⟨b1, b2, b3, b4, b5, s1, s2, s3, s4, p1, p2, p3, n1, n2, d1, ht, hr⟩ := h.apart hn
  refine ⟨?_, h.st.set i x hi, h.pe.setOther _ _ s1.symm, h.sn.setOther _ _ s2.symm, h.bd.setOther _ _ s3.symm, h.tm.setOther _ _ s4.symm (fun g hg => (hr g hg).2.1)⟩
  simp only [List.length_set]
  exact Blk.setOther h.hd _ _ b1
theorem RefO.setPe (h : RefO w q r a) (hn : q.all.Nodup) (i : Nat) (x : Int) (hi : i < r.pe.length) : RefO (w.setCell ⟨q.p, i, none⟩ (.int .i64 x)) q { r with pe := r.pe.set i x } a := by
  obtain ⟨b1, b2, b3, b4, b5, s1, s2, s3, s4, p1, p2, p3, n1, n2, d1, ht, hr⟩ := h.apart hn
  refine ⟨?_, h.st.setOther _ _ s1, h.pe.set i x hi, h.sn.setOther _ _ p1.symm, h.bd.setOther _ _ p2.symm, h.tm.setOther _ _ p3.symm (fun g hg => (hr g hg).2.2.1)⟩
  simp only [List.length_set]
  exact Blk.setOther h.hd _ _ b2
theorem RefO.setSn (h : RefO w q r a) (hn : q.all.Nodup) (i : Nat) (x : Int) (hi : i < r.sn.length) : RefO (w.setCell ⟨q.n, i, none⟩ (.int .i64 x)) q { r with sn := r.sn.set i x } a := by
  obtain ⟨b1, b2, b3, b4, b5, s1, s2, s3, s4, p1, p2, p3, n1, n2, d1, ht, hr⟩ := h.apart hn
  refine ⟨?_, h.st.setOther _ _ s2, h.pe.setOther _ _ p1, h.sn.set i x hi, h.bd.setOther _ _ n1.symm, h.tm.setOther _ _ n2.symm (fun g hg => (hr g hg).2.2.2.1)⟩
  simp only [List.length_set]
  exact Blk.setOther h.hd _ _ b3
theorem RefO.setBd (h : RefO w q r a) (hn : q.all.Nodup) (i : Nat) (x : Int) (hi : i < r.bd.length) : RefO (w.setCell ⟨q.d, i, none⟩ (.int .i64 x)) q { r with bd := r.bd.set i x } a := by
  obtain ⟨b1, b2, b3, b4, b5, s1, s2, s3, s4, p1, p2, p3, n1, n2, d1, ht, hr⟩ := h.apart hn
  refine ⟨?_, h.st.setOther _ _ s3, h.pe.setOther _ _ p2, h.sn.setOther _ _ n1, h.bd.set i x hi, h.tm.setOther _ _ d1.symm (fun g hg => (hr g hg).2.2.2.2.1)⟩
  simp only [List.length_set]
  exact Blk.setOther h.hd _ _ b4
theorem RefO.setTm (h : RefO w q r a) (hn : q.all.Nodup) {i k b : Nat} {x : List Int} (hi : r.tm[i]? = some x) (hb : q.rs[i]? = some b) (hk : k < x.length) (v : Int) : RefO (w.setCell ⟨b, k, none⟩ (.int .i64 v)) q { r with tm := r.tm.set i (x.set k v) } a := by
  obtain ⟨b1, b2, b3, b4, b5, s1, s2, s3, s4, p1, p2, p3, n1, n2, d1, ht, hr⟩ := h.apart hn
  obtain ⟨g0, g1, g2, g3, g4, g5⟩ := hr b (List.mem_of_getElem? hb)
  refine ⟨?_, h.st.setOther _ _ g1.symm, h.pe.setOther _ _ g2.symm, h.sn.setOther _ _ g3.symm, h.bd.setOther _ _ g4.symm, h.tm.set hi hb hk v ht⟩
  simp only [List.length_set]
  exact Blk.setOther h.hd _ _ g0.symm
end

def Rf.had (r : Rf) (i : Nat) : Rf := { r with st := r.st.set i 2 }
theorem Sim.had {p : Pl} {r : Rf} (h : Sim p r) {i : Nat} {x : Ck} (hx : p.ch[i]? = some x) (h2 : x.st ≠ 2) : Sim (hadM p i).1 (r.had i) ∧ (hadM p i).2 = 0 := by
  rw [had_in hx, if_neg h2]
  unfold Rf.had
  by_cases h1 : x.st = 1
  · rw [if_pos h1]
    refine ⟨⟨by show r.st.set i 2 = _; rw [h.st]; unfold hadAt; simp only [List.map_set], by unfold hadAt; simp only [List.length_set]; exact h.pl, by unfold hadAt; simp only [List.length_set]; exact h.sl, ?_, ?_, by unfold hadAt; simp only [List.length_set]; exact h.tl, ?_, h.win, h.tim⟩, rfl⟩
    · intro j z hz h1
      rcases get_set hz with ⟨rfl, rfl⟩ | ⟨-, hz'⟩
      · cases h1
      · exact h.asked j z hz' h1
    · show r.bd = _
      unfold hadAt
      simp only [List.map_set]
      rw [h.bd]
      symm
      by_cases hk : x.pe.toNat < p.pe.length
      · refine set_same _ _ _ ?_
        rw [List.getElem?_map, List.getElem?_eq_getElem hk, Option.map_some, getD_of (List.getElem?_eq_getElem hk)]
      · rw [List.set_eq_of_length_le (by rw [List.length_map]; omega)]
    · intro j row hj
      unfold hadAt
      simp only [List.length_set]
      exact h.tm j row hj
  · rw [if_neg h1]
    refine ⟨⟨by show r.st.set i 2 = _; rw [h.st]; simp only [List.map_set], by simp only [List.length_set]; exact h.pl, by simp only [List.length_set]; exact h.sl, ?_, h.bd, by simp only [List.length_set]; exact h.tl, h.tm, h.win, h.tim⟩, rfl⟩
    intro j z hz h1
    rcases get_set hz with ⟨rfl, rfl⟩ | ⟨-, hz'⟩
    · cases h1
    · exact h.asked j z hz' h1

set_option maxHeartbeats 4000000 in
theorem rhad_any (c : Int) (w : World) (q : Rb) (p : Pl) (r : Rf) (h : RefAt w q r) (hs : Sim p r) (_hnc : p.ch.length ≤ 100) :
    Calls Try.prog 16 #[.pointer (some ⟨q.b, 0, none⟩), .int .i64 c] w fun e w' => e = .returned (.int .i64 (hadM p c).2) ∧ RPost2 w q (hadM p c).1 w' := by
  obtain ⟨a, ho⟩ := h.at_
  have hl := hs.stl
  have hap := h.apart
  obtain ⟨y0, -, -, -, -, -, -⟩ := ho.cells
  rw [hl] at y0
  by_cases hin : 0 ≤ c ∧ c < p.ch.length
  · obtain ⟨i, rfl⟩ := Int.eq_ofNat_of_zero_le hin.1
    have hil : i < p.ch.length := by omega
    obtain ⟨x, hx⟩ : ∃ x, p.ch[i]? = some x := ⟨_, List.getElem?_eq_getElem hil⟩
    have hne : r.st ≠ [] := by intro e; rw [e] at hl; simp at hl; omega
    obtain ⟨hA, z0, zf⟩ := ho.st.one (hs.sti hx)
    have d1 : decide ((i : Int) < 0) = false := by simp
    have d2 : decide ((p.ch.length : Int) ≤ (i : Int)) = false := by simp; omega
    have d3 : decide (p.ch.length ≤ i) = false := by simp; omega
    by_cases h2 : x.st = 2
    · have e2 : (x.st == 2) = true := by simp [h2]
      have hm : hadM p i = (p, 7) := by rw [had_in hx, if_pos h2]
      rw [hm]
      have HE : Hid (RPost2 w q p w) := Lib.hid ⟨r, h, hs, Kept.refl _ _⟩
      rw [hA] at y0
      generalize p.ch.length = N at *
      clear hm h2 hx hs h ho hap hne hA
      go_enter Try.func16, Try.ntmps16
      go_wp2
      go_ret
      exact ⟨rfl, HE.out⟩
    · have e2 : (x.st == 2) = false := by simp [h2]
      obtain ⟨hs2, hr0⟩ := hs.had hx h2
      rw [hr0]
      have hset := ho.setSt (hap hne) i 2 (by rw [hl]; exact hil)
      have HE : Hid (RPost2 w q (hadM p i).1 (w.setCell ⟨q.s, i, none⟩ (.int .i64 2))) := Lib.hid ⟨_, ⟨⟨a, hset⟩, fun _ => hap hne⟩, hs2, (Kept.refl _ _).setCell _ _ (.inl (by unfold Rb.has Rb.all; simp))⟩
      rw [hA] at y0
      generalize p.ch.length = N at *
      generalize (hadM p i).1 = pp at *
      clear h2 hx hs h ho hap hne hA hs2 hr0 hset
      go_enter Try.func16, Try.ntmps16
      go_wp2
      go_ret
      exact ⟨rfl, HE.out⟩
  · rw [had_out hin]
    have HE : Hid (RPost2 w q p w) := Lib.hid ⟨r, h, hs, Kept.refl _ _⟩
    generalize p.ch.length = N at *
    clear hs h ho hap
    by_cases h0 : c < 0
    · have d1 : decide (c < 0) = true := by simp [h0]
      go_enter Try.func16, Try.ntmps16
      go_wp2
      go_ret
      exact ⟨rfl, HE.out⟩
    · have d1 : decide (c < 0) = false := by simp; omega
      have d2 : decide ((N : Int) ≤ c) = true := by simp; omega
      go_enter Try.func16, Try.ntmps16
      go_wp2
      go_ret
      exact ⟨rfl, HE.out⟩

set_option maxHeartbeats 4000000 in
theorem rbad_any (c k : Int) (n : Nat) (w : World) (q : Rb) (p : Pl) (r : Rf) (h : RefAt w q r) (hs : Sim p r) (hok : p.ok n) (hn : n < 1000000000000) :
    Calls Try.prog 18 #[.pointer (some ⟨q.b, 0, none⟩), .int .i64 c, .int .i64 k] w fun e w' => e = .returned (.int .i64 (badM p c k).2) ∧ RPost2 w q (badM p c k).1 w' := by
  obtain ⟨a, ho⟩ := h.at_
  have hl := hs.stl
  have hpl := hs.pl
  have hbl := hs.bdl
  have hap := h.apart
  have hnc := hok.nc
  have hnp := hok.np
  obtain ⟨y0, y1, -, y3, -, -, -⟩ := ho.cells
  rw [hl] at y0
  rw [hpl] at y1
  rw [hbl] at y3
  by_cases hin : (0 ≤ c ∧ c < p.ch.length) ∧ (0 ≤ k ∧ k < p.pe.length)
  · obtain ⟨i, rfl⟩ := Int.eq_ofNat_of_zero_le hin.1.1
    obtain ⟨j, rfl⟩ := Int.eq_ofNat_of_zero_le hin.2.1
    have hil : i < p.ch.length := by omega
    have hjl : j < p.pe.length := by omega
    obtain ⟨x, hx⟩ : ∃ x, p.ch[i]? = some x := ⟨_, List.getElem?_eq_getElem hil⟩
    obtain ⟨y, hy⟩ : ∃ y, r.pe[i]? = some y := ⟨_, List.getElem?_eq_getElem (by omega)⟩
    obtain ⟨z, hz⟩ : ∃ z, p.pe[j]? = some z := ⟨_, List.getElem?_eq_getElem hjl⟩
    have hzd := hok.de z (List.mem_of_getElem? hz)
    have hne : r.st ≠ [] := by intro e; rw [e] at hl; simp at hl; omega
    obtain ⟨hA, z0, zf⟩ := ho.st.one (hs.sti hx)
    obtain ⟨hA2, z1, -⟩ := ho.pe.one hy
    obtain ⟨hA4, z3, zf3⟩ := ho.bd.one (hs.bdi hz)
    obtain ⟨b1, b2, b3, b4, b5, s1, s2, s3, s4, -⟩ := ho.apart (hap hne)
    have d1 : decide ((i : Int) < 0) = false := by simp
    have d2 : decide ((p.ch.length : Int) ≤ (i : Int)) = false := by simp; omega
    have d3 : decide (p.ch.length ≤ i) = false := by simp; omega
    have d4 : decide ((j : Int) < 0) = false := by simp
    have d5 : decide ((p.pe.length : Int) ≤ (j : Int)) = false := by simp; omega
    have d6 : decide (p.pe.length ≤ j) = false := by simp; omega
    rw [hA] at y0
    rw [hA2] at y1
    rw [hA4] at y3
    have hbi := bad_in hx hin.2
    by_cases h1 : x.st = 1
    · have e1 : (x.st != 1) = false := by simp [h1]
      have hyx : y = x.pe := Option.some.inj (hy.symm.trans (hs.asked i x hx h1).1)
      by_cases h2 : x.pe = (j : Int)
      · have e2 : (y != (j : Int)) = false := by rw [hyx]; simp [h2]
        rw [if_pos ⟨h1, h2⟩] at hbi
        rw [hbi]
        have hs2 := hs.reopen hx h2 hjl
        have hset := (ho.setSt (hap hne) i 0 (by rw [hl]; exact hil)).setBd (hap hne) j (z.de + 1) (by show j < r.bd.length; rw [hbl]; exact hjl)
        have hbd := hs.bdi hz
        have ho2 : r.bd.getD j 0 = z.de := by rw [List.getD_eq_getElem?_getD, hbd]; rfl
        unfold Rf.open at hs2
        rw [ho2] at hs2
        have HE : Hid (RPost2 w q (reopenM p i) ((w.setCell ⟨q.s, i, none⟩ (.int .i64 0)).setCell ⟨q.d, j, none⟩ (.int .i64 (z.de + 1)))) := Lib.hid ⟨_, ⟨⟨a, hset⟩, fun _ => hap hne⟩, hs2, ((Kept.refl _ _).setCell _ _ (.inl (by unfold Rb.has Rb.all; simp))).setCell _ _ (.inl (by unfold Rb.has Rb.all; simp))⟩
        generalize p.ch.length = N at *
        generalize p.pe.length = M at *
        generalize reopenM p i = pp at *
        have s3' := s3.symm
        have b1' := b1.symm
        have b4' := b4.symm
        obtain ⟨u1, u2⟩ := hzd
        clear h1 h2 hx hy hz hs h ho hap hne hA hA2 hA4 hs2 hset hok hbi hyx hbd ho2
        go_enter Try.func18, Try.ntmps18
        go_wp2
        go_ret
        exact ⟨rfl, HE.out⟩
      · have e2 : (y != (j : Int)) = true := by rw [hyx]; simp [h2]
        rw [if_neg (fun h => h2 h.2)] at hbi
        rw [hbi]
        have HE : Hid (RPost2 w q p w) := Lib.hid ⟨r, h, hs, Kept.refl _ _⟩
        generalize p.ch.length = N at *
        generalize p.pe.length = M at *
        clear h1 h2 hx hy hz hs h ho hap hne hA hA2 hA4 hok hbi hyx
        go_enter Try.func18, Try.ntmps18
        go_wp2
        go_ret
        exact ⟨rfl, HE.out⟩
    · have e1 : (x.st != 1) = true := by simp [h1]
      rw [if_neg (fun h => h1 h.1)] at hbi
      rw [hbi]
      have HE : Hid (RPost2 w q p w) := Lib.hid ⟨r, h, hs, Kept.refl _ _⟩
      generalize p.ch.length = N at *
      generalize p.pe.length = M at *
      clear h1 hx hy hz hs h ho hap hne hA hA2 hA4 hok hbi
      go_enter Try.func18, Try.ntmps18
      go_wp2
      go_ret
      exact ⟨rfl, HE.out⟩
  · rw [bad_out hin]
    have HE : Hid (RPost2 w q p w) := Lib.hid ⟨r, h, hs, Kept.refl _ _⟩
    generalize p.ch.length = N at *
    generalize p.pe.length = M at *
    clear hs h ho hap hok
    by_cases h0 : c < 0
    · have d1 : decide (c < 0) = true := by simp [h0]
      go_enter Try.func18, Try.ntmps18
      go_wp2
      go_ret
      exact ⟨rfl, HE.out⟩
    · have d1 : decide (c < 0) = false := by simp; omega
      by_cases h1 : (N : Int) ≤ c
      · have d2 : decide ((N : Int) ≤ c) = true := by simp; omega
        go_enter Try.func18, Try.ntmps18
        go_wp2
        go_ret
        exact ⟨rfl, HE.out⟩
      · have d2 : decide ((N : Int) ≤ c) = false := by simp; omega
        by_cases h3 : k < 0
        · have d3 : decide (k < 0) = true := by simp [h3]
          go_enter Try.func18, Try.ntmps18
          go_wp2
          go_ret
          exact ⟨rfl, HE.out⟩
        · have d3 : decide (k < 0) = false := by simp; omega
          have d4 : decide ((M : Int) ≤ k) = true := by simp; omega
          go_enter Try.func18, Try.ntmps18
          go_wp2
          go_ret
          exact ⟨rfl, HE.out⟩

end Go.Proofs.Ytippkdjggipnmaa
