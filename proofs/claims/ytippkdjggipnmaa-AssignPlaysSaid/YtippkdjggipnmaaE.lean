/-
  Walks over package assign: a chunk came, a peer answered wrongly, of whom one is asked, stuck.
-/
import Derived.Test.YtippkdjggipnmaaD
namespace Go.Proofs.Ytippkdjggipnmaa
open Go.RowKit Go.Maps

def hadAt (p : Pl) (c k : Nat) : Pl := { p with ch := p.ch.set c ⟨2, 0, 0⟩, pe := p.pe.set k ⟨(p.pe.getD k default).ak - 1, (p.pe.getD k default).de⟩ }

/-- Had: the plan then, and the answer. -/
def hadM (p : Pl) (c : Int) : Pl × Int :=
  if 0 ≤ c ∧ c < p.ch.length then
    if (p.ch.getD c.toNat default).st = 2 then (p, 7)
    else if (p.ch.getD c.toNat default).st = 1 then (hadAt p c.toNat (p.ch.getD c.toNat default).pe.toNat, 0)
    else ({ p with ch := p.ch.set c.toNat ⟨2, 0, 0⟩ }, 0)
  else (p, 6)

theorem had_out {p : Pl} {c : Int} (h : ¬ (0 ≤ c ∧ c < p.ch.length)) : hadM p c = (p, 6) := by unfold hadM; rw [if_neg h]
theorem had_in {p : Pl} {i : Nat} {x : Ck} (h : p.ch[i]? = some x) :
    hadM p i = if x.st = 2 then (p, 7) else if x.st = 1 then (hadAt p i x.pe.toNat, 0) else ({ p with ch := p.ch.set i ⟨2, 0, 0⟩ }, 0) := by
  have := (List.getElem?_eq_some_iff.1 h).1
  unfold hadM; rw [if_pos ⟨by omega, by omega⟩, Int.toNat_natCast, getD_of h]

theorem hadM_ok {p : Pl} {n : Nat} (c : Int) (h : p.ok n) : (hadM p c).1.ok n := by
  by_cases g : 0 ≤ c ∧ c < p.ch.length
  · obtain ⟨i, rfl⟩ := Int.eq_ofNat_of_zero_le g.1
    have hi : i < p.ch.length := by omega
    obtain ⟨x, hx⟩ : ∃ x, p.ch[i]? = some x := ⟨_, List.getElem?_eq_getElem hi⟩
    have hxo := h.cks x (List.mem_of_getElem? hx)
    rw [had_in hx]
    have hcn := cnt_set hx ⟨2, 0, 0⟩
    split
    · exact h
    · split
      · rename_i h1
        have hp : 0 ≤ x.pe ∧ x.pe < p.pe.length := by unfold Ck.ok at hxo; omega
        have hk : x.pe.toNat < p.pe.length := by omega
        obtain ⟨r, hr⟩ : ∃ r, p.pe[x.pe.toNat]? = some r := ⟨_, List.getElem?_eq_getElem hk⟩
        have hde := h.de r (List.mem_of_getElem? hr)
        unfold hadAt
        rw [getD_of hr]
        refine ⟨h.win, h.tim, by simpa using h.nc, by simpa using h.np, ?_, ?_, ?_, h.ts⟩
        · intro y hy
          rw [List.length_set]
          rcases mem_set hy with hy | rfl
          · exact h.cks y hy
          · exact .inr (.inr ⟨rfl, rfl, rfl⟩)
        · intro k y hy
          have hcn := hcn (k : Int)
          rw [hcn]
          rcases get_set hy with ⟨rfl, rfl⟩ | ⟨hne, hy⟩
          · rw [if_pos ⟨h1, by omega⟩, if_neg (by simp)]
            have := h.aks _ _ hr
            show r.ak - 1 = _
            omega
          · rw [if_neg (by omega), if_neg (by simp)]
            have := h.aks _ _ hy
            omega
        · intro y hy
          rcases mem_set hy with hy | rfl
          · exact h.de y hy
          · exact hde
      · rename_i h2 h1
        refine ⟨h.win, h.tim, by simpa using h.nc, h.np, ?_, ?_, h.de, h.ts⟩
        · intro y hy
          rcases mem_set hy with hy | rfl
          · exact h.cks y hy
          · exact .inr (.inr ⟨rfl, rfl, rfl⟩)
        · intro k y hy
          have hcn := hcn (k : Int)
          rw [hcn, if_neg (by omega), if_neg (by simp)]
          have := h.aks _ _ hy
          omega
  · rw [had_out g]; exact h

def HPost (w : World) (q : Qb) (n : Nat) (r : Pl × Int) (e : Ending) (w' : World) : Prop := e = .returned (.int .i64 r.2) ∧ PlanAt w' q n r.1 ∧ Kept q.has w w'

set_option maxHeartbeats 1000000 in
theorem had_any (c : Int) (w : World) (q : Qb) (n : Nat) (p : Pl) (h : PlanAt w q n p) (ho : p.ok n) :
    Calls Try.prog 15 #[.pointer (some ⟨q.b, 0, none⟩), .int .i64 c] w (HPost w q n (hadM p c)) := by
  have HM := Lib.hid (h.made ho)
  have hH := hasChunk_any c w q n p h ho
  have hnc := ho.nc
  have hnp := ho.np
  obtain ⟨c1, c2, o0, o1, o2, o3, o4, fz⟩ := h.open
  by_cases g : 0 ≤ c ∧ c < p.ch.length
  · have e0 : inB c p.ch.length = true := by simp [inB, g]
    rw [e0] at hH
    have HH := Lib.hid hH
    obtain ⟨i, rfl⟩ := Int.eq_ofNat_of_zero_le g.1
    have hi : i < p.ch.length := by omega
    obtain ⟨x, hx⟩ : ∃ x, p.ch[i]? = some x := ⟨_, List.getElem?_eq_getElem hi⟩
    have hxo := ho.cks x (List.mem_of_getElem? hx)
    obtain ⟨x0, x1, x2, xf⟩ := h.chunk hx
    rw [had_in hx]
    by_cases h2 : x.st = 2
    · rw [if_pos h2]
      have e2 : (x.st == 2) = true := by simp [h2]
      have h' := Lib.hid h
      clear e0 hH ho hxo g hx h2 h
      generalize p.ch.length = L at *
      go_enter Try.func15, Try.ntmps15
      go_wp2_with fail
      refine HM.out.mono ?_
      rintro e w' ⟨rfl, rfl⟩
      go_wp2_with fail
      refine HH.out.mono ?_
      rintro e w' ⟨rfl, rfl⟩
      go_wp2
      go_ret
      exact ⟨rfl, h'.out, Kept.refl _ _⟩
    · rw [if_neg h2]
      have e2 : (x.st == 2) = false := by simp [h2]
      by_cases h1 : x.st = 1
      · rw [if_pos h1]
        have e1 : (x.st == 1) = true := by simp [h1]
        have hp : 0 ≤ x.pe ∧ x.pe < p.pe.length := by unfold Ck.ok at hxo; omega
        obtain ⟨k, hk⟩ := Int.eq_ofNat_of_zero_le hp.1
        have hkl : k < p.pe.length := by omega
        obtain ⟨r, hr⟩ : ∃ r, p.pe[k]? = some r := ⟨_, List.getElem?_eq_getElem hkl⟩
        have hak := ho.aks _ _ hr
        have hcl := cnt_le p.ch k
        obtain ⟨r0, r1, rf⟩ := h.peer hr
        rw [hk] at x1
        rw [hk, Int.toNat_natCast]
        have hE : hadAt p i k = { p with ch := p.ch.set i ⟨2, 0, 0⟩, pe := p.pe.set k ⟨r.ak - 1, r.de⟩ } := by unfold hadAt; rw [getD_of hr]
        rw [hE]
        have ha := h.apart
        have s1 := h.drew.setPeer (j := 0) (x' := ⟨r.ak - 1, r.de⟩) (v := .int .i64 (r.ak - 1)) hr (by omega) rfl
        have s3 := s1.setChunk (j := 0) (x' := ⟨2, x.pe, x.sn⟩) (v := .int .i64 2) hx (by omega) rfl
        have s4 := s3.setChunk (j := 1) (x := ⟨2, x.pe, x.sn⟩) (x' := ⟨2, 0, x.sn⟩) (v := .int .i64 0) (List.getElem?_set_self hi) (by omega) rfl
        have s5 := s4.setChunk (j := 2) (x := ⟨2, 0, x.sn⟩) (x' := ⟨2, 0, 0⟩) (v := .int .i64 0) (List.getElem?_set_self (by simpa using hi)) (by omega) rfl
        simp only [List.set_set] at s5
        have S5 := Lib.hid s5
        have hkp : Kept q.has w (((((w.drew.setCell ⟨q.p, k * 2 + 0, none⟩ (.int .i64 (r.ak - 1))).setCell ⟨q.c, i * 3 + 0, none⟩ (.int .i64 2)).setCell ⟨q.c, i * 3 + 1, none⟩ (.int .i64 0))).setCell ⟨q.c, i * 3 + 2, none⟩ (.int .i64 0)) :=
          (((((Kept.refl _ _).drew).setCell _ _ (.inl (.inr (.inr (.inl rfl))))).setCell _ _ (.inl (.inr (.inl rfl)))).setCell _ _ (.inl (.inr (.inl rfl)))).setCell _ _ (.inl (.inr (.inl rfl)))
        have KP := Lib.hid hkp
        obtain ⟨a1, a2, a3, a4, a5, a6⟩ := ha
        have b1 := a1.symm
        have b2 := a2.symm
        have b4 := a4.symm
        have u1 : -100 ≤ r.ak := by omega
        have u2 : r.ak ≤ 100 := by omega
        clear s1 s3 s4 s5 hkp hE h ho hxo hp hk hr hx hak hcl h1 h2 e0 hH g
        generalize p.ch.length = L at *
        generalize p.pe.length = M at *
        go_enter Try.func15, Try.ntmps15
        go_wp2_with fail
        refine HM.out.mono ?_
        rintro e w' ⟨rfl, rfl⟩
        go_wp2_with fail
        refine HH.out.mono ?_
        rintro e w' ⟨rfl, rfl⟩
        go_wp2
        go_region
        all_goals (go_wp2; go_ret; exact ⟨rfl, S5.out, KP.out⟩)
      · rw [if_neg h1]
        have e1 : (x.st == 1) = false := by simp [h1]
        have h0 : x.st = 0 ∧ x.pe = 0 ∧ x.sn = 0 := by unfold Ck.ok at hxo; omega
        have s3 := h.setChunk (j := 0) (x' := ⟨2, x.pe, x.sn⟩) (v := .int .i64 2) hx (by omega) rfl
        have s4 := s3.setChunk (j := 1) (x := ⟨2, x.pe, x.sn⟩) (x' := ⟨2, 0, x.sn⟩) (v := .int .i64 0) (List.getElem?_set_self hi) (by omega) rfl
        have s5 := s4.setChunk (j := 2) (x := ⟨2, 0, x.sn⟩) (x' := ⟨2, 0, 0⟩) (v := .int .i64 0) (List.getElem?_set_self (by simpa using hi)) (by omega) rfl
        simp only [List.set_set] at s5
        have S5 := Lib.hid s5
        have hkp : Kept q.has w ((((w.setCell ⟨q.c, i * 3 + 0, none⟩ (.int .i64 2)).setCell ⟨q.c, i * 3 + 1, none⟩ (.int .i64 0))).setCell ⟨q.c, i * 3 + 2, none⟩ (.int .i64 0)) :=
          (((Kept.refl _ _).setCell _ _ (.inl (.inr (.inl rfl)))).setCell _ _ (.inl (.inr (.inl rfl)))).setCell _ _ (.inl (.inr (.inl rfl)))
        have KP := Lib.hid hkp
        clear s3 s4 s5 hkp h ho hxo hx h0 h1 h2 e0 hH g
        generalize p.ch.length = L at *
        generalize p.pe.length = M at *
        go_enter Try.func15, Try.ntmps15
        go_wp2_with fail
        refine HM.out.mono ?_
        rintro e w' ⟨rfl, rfl⟩
        go_wp2_with fail
        refine HH.out.mono ?_
        rintro e w' ⟨rfl, rfl⟩
        go_wp2
        go_ret
        exact ⟨rfl, S5.out, KP.out⟩
  · have e0 : inB c p.ch.length = false := by simp [inB]; omega
    rw [e0] at hH
    rw [had_out g]
    have HH := Lib.hid hH
    have h' := Lib.hid h
    clear e0 hH h ho g
    go_enter Try.func15, Try.ntmps15
    go_wp2_with fail
    refine HM.out.mono ?_
    rintro e w' ⟨rfl, rfl⟩
    go_wp2_with fail
    refine HH.out.mono ?_
    rintro e w' ⟨rfl, rfl⟩
    go_wp2
    go_ret
    exact ⟨rfl, h'.out, Kept.refl _ _⟩

end Go.Proofs.Ytippkdjggipnmaa
