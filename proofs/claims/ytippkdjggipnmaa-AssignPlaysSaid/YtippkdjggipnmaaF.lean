/-
  Walks over package assign: a peer answered wrongly, of whom a chunk is asked, stuck.
-/
import Derived.Test.YtippkdjggipnmaaE
namespace Go.Proofs.Ytippkdjggipnmaa
open Go.RowKit Go.Maps

/-- Bad: the plan then, and the answer. -/
def badM (p : Pl) (c k : Int) : Pl × Int :=
  if (0 ≤ c ∧ c < p.ch.length) ∧ (0 ≤ k ∧ k < p.pe.length) then
    if (p.ch.getD c.toNat default).st = 1 ∧ (p.ch.getD c.toNat default).pe = k then (reopenM p c.toNat, 0) else (p, 2)
  else (p, 6)

theorem bad_out {p : Pl} {c k : Int} (h : ¬ ((0 ≤ c ∧ c < p.ch.length) ∧ (0 ≤ k ∧ k < p.pe.length))) : badM p c k = (p, 6) := by unfold badM; rw [if_neg h]
theorem bad_in {p : Pl} {i : Nat} {k : Int} {x : Ck} (h : p.ch[i]? = some x) (hk : 0 ≤ k ∧ k < p.pe.length) :
    badM p i k = if x.st = 1 ∧ x.pe = k then (reopenM p i, 0) else (p, 2) := by
  have := (List.getElem?_eq_some_iff.1 h).1
  unfold badM; rw [if_pos ⟨⟨by omega, by omega⟩, hk⟩, Int.toNat_natCast, getD_of h]

theorem badM_ok {p : Pl} {n : Nat} (c k : Int) (h : p.ok n) : (badM p c k).1.ok (n + 1) := by
  have hm : p.ok (n + 1) := ⟨h.win, h.tim, h.nc, h.np, h.cks, h.aks, fun x hx => by have := h.de x hx; omega, fun c k => by have := h.ts c k; omega⟩
  by_cases g : (0 ≤ c ∧ c < p.ch.length) ∧ (0 ≤ k ∧ k < p.pe.length)
  · obtain ⟨i, rfl⟩ := Int.eq_ofNat_of_zero_le g.1.1
    obtain ⟨x, hx⟩ : ∃ x, p.ch[i]? = some x := ⟨_, List.getElem?_eq_getElem (by omega)⟩
    rw [bad_in hx g.2]
    split
    · rename_i h1
      exact reopenM_ok h hx h1.1
    · exact hm
  · rw [bad_out g]; exact hm

set_option maxHeartbeats 1000000 in
theorem bad_any (c k : Int) (w : World) (q : Qb) (n : Nat) (p : Pl) (h : PlanAt w q n p) (ho : p.ok n) (hn : n < 1000000000000) :
    Calls Try.prog 17 #[.pointer (some ⟨q.b, 0, none⟩), .int .i64 c, .int .i64 k] w (HPost w q (n + 1) (badM p c k)) := by
  have HM := Lib.hid (h.made ho)
  have hH := hasChunk_any c w q n p h ho
  have hH2 := hasPeer_any k w q n p h ho
  have hnc := ho.nc
  have hnp := ho.np
  obtain ⟨c1, c2, o0, o1, o2, o3, o4, fz⟩ := h.open
  have h' := Lib.hid (h.mono (Nat.le_succ n))
  by_cases g : 0 ≤ c ∧ c < p.ch.length
  · have e0 : inB c p.ch.length = true := by simp [inB, g]
    rw [e0] at hH
    have HH := Lib.hid hH
    by_cases g2 : 0 ≤ k ∧ k < p.pe.length
    · have e3 : inB k p.pe.length = true := by simp [inB, g2]
      rw [e3] at hH2
      have HH2 := Lib.hid hH2
      obtain ⟨i, rfl⟩ := Int.eq_ofNat_of_zero_le g.1
      have hi : i < p.ch.length := by omega
      obtain ⟨x, hx⟩ : ∃ x, p.ch[i]? = some x := ⟨_, List.getElem?_eq_getElem hi⟩
      obtain ⟨x0, x1, x2, xf⟩ := h.chunk hx
      have hlb := h.lt (g := q.b) (.inl rfl)
      have hlc := h.lt (g := q.c) (.inr (.inl rfl))
      rw [bad_in hx g2]
      have hr := fun W hW h1 => reopen_any i W q n p x hW ho hn hx h1
      have hal := fun o => h.alloc o
      have HAL := Lib.hid hal
      have HR := Lib.hid hr
      by_cases h1 : x.st = 1
      · have e1 : (x.st != 1) = false := by simp [h1]
        by_cases h2 : x.pe = k
        · have e2 : (x.pe != k) = false := by simp [h2]
          rw [if_pos ⟨h1, h2⟩]
          have H1 := Lib.hid h1
          clear e0 hH hH2 ho g hx h1 h2 h hr hal e3 hn g2
          generalize p.ch.length = L at *
          go_enter Try.func17, Try.ntmps17
          go_wp2_with fail
          refine HM.out.mono ?_
          rintro e w' ⟨rfl, rfl⟩
          go_wp2_with fail
          refine HH.out.mono ?_
          rintro e w' ⟨rfl, rfl⟩
          go_wp2_with fail
          refine HH2.out.mono ?_
          rintro e w' ⟨rfl, rfl⟩
          go_wp2_with fail
          refine (HR.out _ (HAL.out _) H1.out).mono ?_
          rintro e w' ⟨rfl, hp, hk, hz⟩
          have HP := Lib.hid hp
          have HK := Lib.hid hk
          clear hp hk hz
          go_wp2
          go_ret
          exact ⟨rfl, HP.out, ((Kept.refl _ _).alloc _).trans HK.out⟩
        · have e2 : (x.pe != k) = true := by simp [h2]
          rw [if_neg (by omega)]
          clear e0 hH hH2 ho g hx h1 h2 h hr hal e3 hn g2
          generalize p.ch.length = L at *
          go_enter Try.func17, Try.ntmps17
          go_wp2_with fail
          refine HM.out.mono ?_
          rintro e w' ⟨rfl, rfl⟩
          go_wp2_with fail
          refine HH.out.mono ?_
          rintro e w' ⟨rfl, rfl⟩
          go_wp2_with fail
          refine HH2.out.mono ?_
          rintro e w' ⟨rfl, rfl⟩
          go_wp2_with fail
          go_ret
          exact ⟨rfl, PlanAt.alloc h'.out _, (Kept.refl _ _).alloc _⟩
      · have e1 : (x.st != 1) = true := by simp [h1]
        rw [if_neg (by omega)]
        clear e0 hH hH2 ho g hx h1 h hr hal e3 hn g2
        generalize p.ch.length = L at *
        go_enter Try.func17, Try.ntmps17
        go_wp2_with fail
        refine HM.out.mono ?_
        rintro e w' ⟨rfl, rfl⟩
        go_wp2_with fail
        refine HH.out.mono ?_
        rintro e w' ⟨rfl, rfl⟩
        go_wp2_with fail
        refine HH2.out.mono ?_
        rintro e w' ⟨rfl, rfl⟩
        go_wp2_with fail
        go_ret
        exact ⟨rfl, PlanAt.alloc h'.out _, (Kept.refl _ _).alloc _⟩
    · have e3 : inB k p.pe.length = false := by simp [inB]; omega
      rw [e3] at hH2
      have HH2 := Lib.hid hH2
      rw [bad_out (fun e => g2 e.2)]
      clear e0 hH hH2 ho g h e3 hn g2
      go_enter Try.func17, Try.ntmps17
      go_wp2_with fail
      refine HM.out.mono ?_
      rintro e w' ⟨rfl, rfl⟩
      go_wp2_with fail
      refine HH.out.mono ?_
      rintro e w' ⟨rfl, rfl⟩
      go_wp2_with fail
      refine HH2.out.mono ?_
      rintro e w' ⟨rfl, rfl⟩
      go_wp2_with fail
      go_ret
      exact ⟨rfl, h'.out, Kept.refl _ _⟩
  · have e0 : inB c p.ch.length = false := by simp [inB]; omega
    rw [e0] at hH
    have HH := Lib.hid hH
    rw [bad_out (fun e => g e.1)]
    clear e0 hH hH2 ho g h hn
    go_enter Try.func17, Try.ntmps17
    go_wp2_with fail
    refine HM.out.mono ?_
    rintro e w' ⟨rfl, rfl⟩
    go_wp2_with fail
    refine HH.out.mono ?_
    rintro e w' ⟨rfl, rfl⟩
    go_wp2_with fail
    go_ret
    exact ⟨rfl, h'.out, Kept.refl _ _⟩

/-- Asked: of whom, since when. -/
def askedM (p : Pl) (c : Int) : Int × Int × Bool :=
  if stateM p c = 1 then ((p.ch.getD c.toNat default).pe, (p.ch.getD c.toNat default).sn, true) else (0, 0, false)
def tri (x : Int × Int × Bool) : Value := .tuple #[.int .i64 x.1, .int .i64 x.2.1, .bool x.2.2]

set_option maxHeartbeats 1000000 in
theorem asked_any (c : Int) (w : World) (q : Qb) (n : Nat) (p : Pl) (h : PlanAt w q n p) (ho : p.ok n) :
    Calls Try.prog 21 #[.pointer (some ⟨q.b, 0, none⟩), .int .i64 c] w fun e w' => e = .returned (tri (askedM p c)) ∧ Chg none w w' := by
  have hS := state_any c w q n p h ho
  have HS := Lib.hid hS
  have hnc := ho.nc
  obtain ⟨c1, c2, o0, o1, o2, o3, o4, fz⟩ := h.open
  unfold askedM
  by_cases h1 : stateM p c = 1
  · rw [if_pos h1]
    have e1 : (stateM p c != 1) = false := by simp [h1]
    have g : 0 ≤ c ∧ c < p.ch.length := by
      by_cases g : 0 ≤ c ∧ c < p.ch.length
      · exact g
      · unfold stateM at h1; rw [if_neg g] at h1; omega
    obtain ⟨i, rfl⟩ := Int.eq_ofNat_of_zero_le g.1
    have hi : i < p.ch.length := by omega
    obtain ⟨x, hx⟩ : ∃ x, p.ch[i]? = some x := ⟨_, List.getElem?_eq_getElem hi⟩
    obtain ⟨x0, x1, x2, xf⟩ := h.chunk hx
    rw [Int.toNat_natCast, getD_of hx]
    have hlb := h.lt (g := q.b) (.inl rfl)
    have hlc := h.lt (g := q.c) (.inr (.inl rfl))
    clear hS h ho hx h1 g
    generalize p.ch.length = L at *
    generalize stateM p i = S at *
    go_enter Try.func21, Try.ntmps21
    go_wp2_with fail
    refine HS.out.mono ?_
    rintro e w' ⟨rfl, rfl⟩
    go_wp2
    go_region
    all_goals (go_wp2; go_ret3; exact ⟨rfl, ((Chg.refl _ _).alloc _).drew⟩)
  · rw [if_neg h1]
    have e1 : (stateM p c != 1) = true := by simp [h1]
    clear hS h ho h1
    generalize stateM p c = S at *
    go_enter Try.func21, Try.ntmps21
    go_wp2_with fail
    refine HS.out.mono ?_
    rintro e w' ⟨rfl, rfl⟩
    go_wp2
    go_ret3
    exact ⟨rfl, Chg.refl _ _⟩

end Go.Proofs.Ytippkdjggipnmaa
