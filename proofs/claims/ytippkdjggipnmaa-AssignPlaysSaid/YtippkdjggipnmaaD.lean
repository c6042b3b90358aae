/-
  Walks over package assign: a chunk is opened again, the least open one, what is left.
-/
import Derived.Test.YtippkdjggipnmaaC
namespace Go.Proofs.Ytippkdjggipnmaa
open Go.RowKit Go.Maps

/-- A chunk that was asked in vain. -/
def reopenAt (p : Pl) (c k : Nat) : Pl := { p with ch := p.ch.set c ⟨0, 0, 0⟩, pe := p.pe.set k ⟨(p.pe.getD k default).ak - 1, (p.pe.getD k default).de + 1⟩ }
def reopenM (p : Pl) (c : Nat) : Pl := reopenAt p c (p.ch.getD c default).pe.toNat

theorem reopenM_ch (p : Pl) (c : Nat) : (reopenM p c).ch = p.ch.set c ⟨0, 0, 0⟩ := rfl
theorem reopenM_len (p : Pl) (c : Nat) : (reopenM p c).ch.length = p.ch.length ∧ (reopenM p c).pe.length = p.pe.length ∧ (reopenM p c).win = p.win ∧ (reopenM p c).tim = p.tim ∧ (reopenM p c).ts = p.ts :=
  ⟨List.length_set, List.length_set, rfl, rfl, rfl⟩

theorem cnt_set {L : List Ck} {i : Nat} {x : Ck} (h : L[i]? = some x) (y : Ck) (k : Int) :
    (cnt (L.set i y) k : Int) = cnt L k - (if x.st = 1 ∧ x.pe = k then 1 else 0) + (if y.st = 1 ∧ y.pe = k then 1 else 0) := by
  induction L generalizing i with
  | nil => simp at h
  | cons a L ih =>
    cases i with
    | zero =>
      simp at h; subst h
      unfold cnt
      rw [List.set_cons_zero, List.countP_cons, List.countP_cons]
      simp only [decide_eq_true_eq]
      split <;> split <;> omega
    | succ i =>
      have := ih (i := i) (by simpa using h)
      unfold cnt at *
      rw [List.set_cons_succ, List.countP_cons, List.countP_cons]
      simp only [Int.natCast_add] at *
      omega

theorem cnt_le (L : List Ck) (k : Int) : cnt L k ≤ L.length := List.countP_le_length

theorem mem_set {α : Type} {L : List α} {i : Nat} {x y : α} (h : y ∈ L.set i x) : y ∈ L ∨ y = x := List.mem_or_eq_of_mem_set h

theorem get_set {α : Type} {L : List α} {i j : Nat} {x y : α} (h : (L.set i x)[j]? = some y) : (i = j ∧ y = x) ∨ (i ≠ j ∧ L[j]? = some y) := by
  by_cases e : i = j
  · subst e
    have hl : i < L.length := by
      have := (List.getElem?_eq_some_iff.1 h).1
      simpa using this
    rw [List.getElem?_set_self hl] at h
    exact .inl ⟨rfl, (Option.some.inj h).symm⟩
  · rw [List.getElem?_set_ne e] at h
    exact .inr ⟨e, h⟩

theorem reopenM_ok {p : Pl} {n c : Nat} {x : Ck} (h : p.ok n) (hx : p.ch[c]? = some x) (h1 : x.st = 1) : (reopenM p c).ok (n + 1) := by
  have hxo := h.cks x (List.mem_of_getElem? hx)
  have hp : 0 ≤ x.pe ∧ x.pe < p.pe.length := by unfold Ck.ok at hxo; omega
  have hk : x.pe.toNat < p.pe.length := by omega
  obtain ⟨r, hr⟩ : ∃ r, p.pe[x.pe.toNat]? = some r := ⟨_, List.getElem?_eq_getElem hk⟩
  have hde := h.de r (List.mem_of_getElem? hr)
  have hcn := cnt_set hx ⟨0, 0, 0⟩
  unfold reopenM
  rw [getD_of hx]
  unfold reopenAt
  rw [getD_of hr]
  refine ⟨h.win, h.tim, by simpa using h.nc, by simpa using h.np, ?_, ?_, ?_, fun c k => ?_⟩
  · intro y hy
    rw [List.length_set]
    rcases mem_set hy with hy | rfl
    · exact h.cks y hy
    · exact .inl ⟨rfl, rfl, rfl⟩
  · intro k y hy
    have hcn := hcn (k : Int)
    rw [hcn]
    rcases get_set hy with ⟨rfl, rfl⟩ | ⟨hne, hy⟩
    · rw [if_pos ⟨h1, by omega⟩, if_neg (by simp)]
      have := h.aks _ _ hr
      show r.ak - 1 = _
      omega
    · rw [if_neg (by omega), if_neg (by simp)]
      have := h.aks _ _ hy
      omega
  · intro y hy
    rcases mem_set hy with hy | rfl
    · have := h.de y hy
      omega
    · show 0 ≤ r.de + 1 ∧ r.de + 1 ≤ _
      omega
  · have := h.ts c k
    show 0 ≤ p.ts c k ∧ p.ts c k ≤ _
    omega

def RPost (w : World) (q : Qb) (n : Nat) (p : Pl) (w' : World) : Prop := PlanAt w' q n p ∧ Kept q.has w w' ∧ w.heap.size ≤ w'.heap.size

set_option maxHeartbeats 1000000 in
theorem reopen_any (c : Nat) (w : World) (q : Qb) (n : Nat) (p : Pl) (x : Ck) (h : PlanAt w q n p) (ho : p.ok n) (hn : n < 1000000000000) (hx : p.ch[c]? = some x) (h1 : x.st = 1) :
    Calls Try.prog 28 #[.pointer (some ⟨q.b, 0, none⟩), .int .i64 c] w fun e w' => e = .returned (.tuple #[]) ∧ RPost w q (n + 1) (reopenM p c) w' := by
  have hxo := ho.cks x (List.mem_of_getElem? hx)
  have hp : 0 ≤ x.pe ∧ x.pe < p.pe.length := by unfold Ck.ok at hxo; omega
  obtain ⟨k, hk⟩ := Int.eq_ofNat_of_zero_le hp.1
  have hkl : k < p.pe.length := by omega
  obtain ⟨r, hr⟩ : ∃ r, p.pe[k]? = some r := ⟨_, List.getElem?_eq_getElem hkl⟩
  have hde := ho.de r (List.mem_of_getElem? hr)
  have hak := ho.aks _ _ hr
  have hcl := cnt_le p.ch k
  have hnc := ho.nc
  have hnp := ho.np
  have hcc : c < p.ch.length := (List.getElem?_eq_some_iff.1 hx).1
  have hR : reopenM p c = { p with ch := p.ch.set c ⟨0, 0, 0⟩, pe := p.pe.set k ⟨r.ak - 1, r.de + 1⟩ } := by
    unfold reopenM; rw [getD_of hx, hk, Int.toNat_natCast]; unfold reopenAt; rw [getD_of hr]
  rw [hR]
  obtain ⟨c1, c2, o0, o1, o2, o3, o4, fz⟩ := h.open
  obtain ⟨x0, x1, x2, xf⟩ := h.chunk hx
  obtain ⟨r0, r1, rf⟩ := h.peer hr
  rw [hk] at x1
  have ha := h.apart
  have s1 := h.setPeer (j := 0) (x' := ⟨r.ak - 1, r.de⟩) (v := .int .i64 (r.ak - 1)) hr (by omega) rfl
  have s2 := s1.setPeer (j := 1) (x := ⟨r.ak - 1, r.de⟩) (x' := ⟨r.ak - 1, r.de + 1⟩) (v := .int .i64 (r.de + 1)) (List.getElem?_set_self hkl) (by omega) rfl
  have s3 := s2.setChunk (j := 0) (x' := ⟨0, x.pe, x.sn⟩) (v := .int .i64 0) hx (by omega) rfl
  have s4 := s3.setChunk (j := 1) (x := ⟨0, x.pe, x.sn⟩) (x' := ⟨0, 0, x.sn⟩) (v := .int .i64 0) (List.getElem?_set_self hcc) (by omega) rfl
  have s5 := s4.setChunk (j := 2) (x := ⟨0, 0, x.sn⟩) (x' := ⟨0, 0, 0⟩) (v := .int .i64 0) (List.getElem?_set_self (by simpa using hcc)) (by omega) rfl
  simp only [List.set_set] at s5
  have S5 := Lib.hid s5
  have hkp : Kept q.has w ((((((w.setCell ⟨q.p, k * 2 + 0, none⟩ (.int .i64 (r.ak - 1))).setCell ⟨q.p, k * 2 + 1, none⟩ (.int .i64 (r.de + 1))).setCell ⟨q.c, c * 3 + 0, none⟩ (.int .i64 0)).setCell ⟨q.c, c * 3 + 1, none⟩ (.int .i64 0))).setCell ⟨q.c, c * 3 + 2, none⟩ (.int .i64 0)) :=
    (((((Kept.refl _ _).setCell _ _ (.inl (.inr (.inr (.inl rfl))))).setCell _ _ (.inl (.inr (.inr (.inl rfl))))).setCell _ _ (.inl (.inr (.inl rfl)))).setCell _ _ (.inl (.inr (.inl rfl)))).setCell _ _ (.inl (.inr (.inl rfl)))
  have KP := Lib.hid hkp
  obtain ⟨a1, a2, a3, a4, a5, a6⟩ := ha
  have b1 := a1.symm
  have b2 := a2.symm
  have b4 := a4.symm
  have u1 : -100 ≤ r.ak := by omega
  have u2 : r.ak ≤ 100 := by omega
  have u3 := hde.1
  have u4 : r.de ≤ 1000000000000 := by omega
  clear s1 s2 s3 s4 s5 hkp hR h ho hxo hp hk hr hx hak hcl h1 hde
  generalize p.ch.length = L at *
  generalize p.pe.length = M at *
  go_enter Try.func28, Try.ntmps28
  go_wp2
  go_end0
  exact ⟨rfl, PlanAt.mono S5.out (Nat.le_succ n), KP.out, by simp [World.setCell]⟩

def leastM (p : Pl) : Option Nat := p.ch.findIdx? (fun x => x.st == 0)

def optPair (o : Option Nat) : Value := match o with | none => .tuple #[.int .i64 0, .bool false] | some c => .tuple #[.int .i64 c, .bool true]

theorem least_none {L : List Ck} (h : ∀ x ∈ L, (x.st == 0) = false) : L.findIdx? (fun x => x.st == 0) = none := by
  rw [List.findIdx?_eq_none_iff]; exact h

set_option maxHeartbeats 1000000 in
theorem least_any (w : World) (q : Qb) (n : Nat) (p : Pl) (h : PlanAt w q n p) (ho : p.ok n) :
    Calls Try.prog 29 #[.pointer (some ⟨q.b, 0, none⟩)] w fun e w' => e = .returned (optPair (leastM p)) ∧ Chg none w w' := by
  obtain ⟨c1, c2, o0, o1, o2, o3, o4, fz⟩ := h.open
  have hnc := ho.nc
  have hlb := h.lt (g := q.b) (.inl rfl)
  have hlc := h.lt (g := q.c) (.inr (.inl rfl))
  have hck := fun (i : Nat) (x : Ck) (hx : p.ch[i]? = some x) => h.chunk hx
  have HC := Lib.hid hck
  clear hck ho h
  unfold leastM
  generalize p.ch = L at *
  go_enter Try.func29, Try.ntmps29
  go_wp2
  go_loopw [11] (fun i wr => ∃ k : Nat, k ≤ L.length ∧ i = .int .i64 k ∧ Hid (∀ x ∈ L.take k, (x.st == 0) = false) ∧ Chg none w wr) (fun i _ => L.length - (intOf i).toNat)
  case atStart => exact ⟨0, Nat.zero_le _, rfl, Lib.hid (by simp), Chg.refl _ _⟩
  case round =>
    obtain ⟨k, hk, rfl, HT, hg⟩ := hrel
    by_cases hlt : k < L.length
    · obtain ⟨x, hx⟩ : ∃ x, L[k]? = some x := ⟨_, List.getElem?_eq_getElem hlt⟩
      obtain ⟨x0, x1, x2, xf⟩ := HC.out k x hx
      have y0 := World.grownBy.cell hg x0 (by simp)
      have y1 := World.grownBy.cell hg x1 (by simp)
      have y2 := World.grownBy.cell hg x2 (by simp)
      have hz := hg.size
      by_cases he : x.st = 0
      · have e2 : (x.st == 0) = true := by simp [he]
        have hres : L.findIdx? (fun x => x.st == 0) = some k := by
          rw [List.findIdx?_eq_some_iff_getElem]
          refine ⟨hlt, ?_, fun j hj => ?_⟩
          · rw [List.getElem?_eq_getElem hlt] at hx
            rw [Option.some.inj hx]; exact e2
          · have := HT.out (L[j]'(by omega)) (List.mem_take_iff_getElem.2 ⟨j, by omega, rfl⟩)
            simpa using this
        have HR := Lib.hid hres
        have HG := Lib.hid hg
        clear hres hx HT he hg
        go_wp2
        go_ret2
        exact ⟨by rw [HR.out]; rfl, by repeat (first | exact HG.out | (refine Chg.alloc ?_ _) | (refine Chg.setNew ?_ _ (by simpa using hz) _))⟩
      · have e2 : (x.st == 0) = false := by simp [he]
        have HT2 : Hid (∀ x ∈ L.take (k + 1), (x.st == 0) = false) := by
          refine Lib.hid fun y hy => ?_
          rw [List.take_add_one, hx] at hy
          rcases List.mem_append.1 hy with hy | hy
          · exact HT.out y hy
          · simp at hy; rw [hy]; exact e2
        have HG := Lib.hid hg
        clear hx HT he hg
        go_wp2
        go_roundw
        case rel => exact ⟨k + 1, by omega, by go_num, HT2, by repeat (first | exact HG.out | (refine Chg.alloc ?_ _) | (refine Chg.setNew ?_ _ (by simpa using hz) _))⟩
        case measure => simp [intOf]; omega
    · have hkl : k = L.length := by omega
      have hres : L.findIdx? (fun x => x.st == 0) = none := by
        have := HT.out
        rw [hkl, List.take_length] at this
        exact least_none this
      have HR := Lib.hid hres
      have HG := Lib.hid hg
      clear hres HT hg
      go_wp2
      go_ret2
      exact ⟨by rw [HR.out]; rfl, HG.out⟩

def leftM (p : Pl) : Nat := p.ch.countP (fun x => x.st != 2)

set_option maxHeartbeats 1000000 in
theorem left_any (w : World) (q : Qb) (n : Nat) (p : Pl) (h : PlanAt w q n p) (ho : p.ok n) :
    Calls Try.prog 24 #[.pointer (some ⟨q.b, 0, none⟩)] w fun e w' => e = .returned (.int .i64 (leftM p : Nat)) ∧ Chg none w w' := by
  have hM := fun W (h : PlanAt W q n p) => h.made ho
  have hM0 := hM w h
  obtain ⟨c1, c2, o0, o1, o2, o3, o4, fz⟩ := h.open
  have hnc := ho.nc
  have hlb := h.lt (g := q.b) (.inl rfl)
  have hlc := h.lt (g := q.c) (.inr (.inl rfl))
  have hck := fun (i : Nat) (x : Ck) (hx : p.ch[i]? = some x) => h.chunk hx
  have HC := Lib.hid hck
  have HM := Lib.hid hM0
  clear hck ho h hM hM0
  unfold leftM
  generalize p.ch = L at *
  go_enter Try.func24, Try.ntmps24
  go_wp2_with fail
  refine HM.out.mono ?_
  rintro e w' ⟨rfl, rfl⟩
  go_wp2
  go_loopw [3, 13] (fun t i wr => ∃ k : Nat, k ≤ L.length ∧ i = .int .i64 k ∧ t = .int .i64 ((L.take k).countP (fun x => x.st != 2) : Nat) ∧ Chg none w wr) (fun _ i _ => L.length - (intOf i).toNat)
  case atStart => exact ⟨0, Nat.zero_le _, rfl, rfl, Chg.refl _ _⟩
  case round =>
    obtain ⟨k, hk, rfl, rfl, hg⟩ := hrel
    have hcl : (L.take k).countP (fun x => x.st != 2) ≤ k := Nat.le_trans List.countP_le_length (by rw [List.length_take]; omega)
    by_cases hlt : k < L.length
    · obtain ⟨x, hx⟩ : ∃ x, L[k]? = some x := ⟨_, List.getElem?_eq_getElem hlt⟩
      obtain ⟨x0, x1, x2, xf⟩ := HC.out k x hx
      have y0 := World.grownBy.cell hg x0 (by simp)
      have y1 := World.grownBy.cell hg x1 (by simp)
      have y2 := World.grownBy.cell hg x2 (by simp)
      have hz := hg.size
      have HS : Hid ((L.take (k + 1)).countP (fun x => x.st != 2) = (L.take k).countP (fun x => x.st != 2) + if x.st != 2 then 1 else 0) := by
        refine Lib.hid ?_
        rw [List.take_add_one, hx, List.countP_append]
        simp
      generalize (L.take k).countP (fun x => x.st != 2) = N at *
      have HG := Lib.hid hg
      by_cases he : x.st = 2
      · have e2 : (x.st != 2) = false := by simp [he]
        rw [e2] at HS
        clear hx he hg
        go_wp2
        go_roundw
        case rel => exact ⟨k + 1, by omega, by go_num, by rw [HS.out, if_neg (by simp)]; rfl, by repeat (first | exact HG.out | (refine Chg.alloc ?_ _) | (refine Chg.setNew ?_ _ (by simpa using hz) _))⟩
        case measure => simp [intOf]; omega
      · have e2 : (x.st != 2) = true := by simp [he]
        rw [e2] at HS
        clear hx he hg
        go_wp2
        go_roundw
        case rel => exact ⟨k + 1, by omega, by go_num, by rw [HS.out, if_pos rfl]; go_num, by repeat (first | exact HG.out | (refine Chg.alloc ?_ _) | (refine Chg.setNew ?_ _ (by simpa using hz) _))⟩
        case measure => simp [intOf]; omega
    · have hkl : k = L.length := by omega
      have HS : Hid (L.take k = L) := Lib.hid (by rw [hkl, List.take_length])
      have HG := Lib.hid hg
      clear hg hkl
      go_wp2
      go_ret
      exact ⟨by rw [HS.out]; rfl, HG.out⟩

end Go.Proofs.Ytippkdjggipnmaa
