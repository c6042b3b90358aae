/-
  The document's plan of layer 23 in memory, and how it stands to a plan of the program.
-/
import Derived.Test.YtippkdjggipnmaaQ
namespace Go.Proofs.Ytippkdjggipnmaa
open Go.RowKit Go.Maps

structure Rf where
  st : List Int
  pe : List Int
  sn : List Int
  bd : List Int
  tm : List (List Int)
  win : Int
  tim : Int

/-- The blocks of the document's plan. -/
structure Rb where
  b : Nat
  s : Nat
  p : Nat
  n : Nat
  d : Nat
  t : Nat
  rs : List Nat
def Rb.all (q : Rb) : List Nat := q.b :: q.s :: q.p :: q.n :: q.d :: q.t :: q.rs

def IntS (w : World) (A : Option Addr) (b : Nat) (L : List Int) : Prop := L ≠ [] → A = some ⟨b, 0, none⟩ ∧ ∃ tl T, BlkL w b (ints L ++ tl) T

theorem IntS.kept {S : Nat → Prop} {w w' : World} {A : Option Addr} {b : Nat} {L : List Int} (h : IntS w A b L) (hk : Kept S w w') (hn : ¬ S b) : IntS w' A b L := fun hl => by
  obtain ⟨e, tl, T, hb⟩ := h hl
  exact ⟨e, tl, T, (hk.block b (Blk.lt hb) hn).trans hb⟩
theorem ints_len (L : List Int) : (ints L).length = L.length := List.length_map _
theorem IntS.one {w : World} {A : Option Addr} {b : Nat} {L : List Int} (h : IntS w A b L) {i : Nat} {x : Int} (hi : L[i]? = some x) :
    A = some ⟨b, 0, none⟩ ∧ w.cell? ⟨b, i, none⟩ = some (.int .i64 x) ∧ ∀ o, w.frozen? ⟨b, o, none⟩ = false := by
  obtain ⟨e, tl, T, hb⟩ := h (by intro e; subst e; simp at hi)
  refine ⟨e, ?_, fun o => Blk.frozen hb o⟩
  have hl : i < L.length := (List.getElem?_eq_some_iff.1 hi).1
  rw [BlkL.cell hb, List.getElem?_append_left (by rw [ints_len]; exact hl)]
  unfold ints
  rw [List.getElem?_map, hi]; rfl
theorem IntS.set {w : World} {A : Option Addr} {b : Nat} {L : List Int} (h : IntS w A b L) (i : Nat) (x : Int) (hi : i < L.length) : IntS (w.setCell ⟨b, i, none⟩ (.int .i64 x)) A b (L.set i x) := fun _ => by
  obtain ⟨e, tl, T, hb⟩ := h (by intro e; subst e; simp at hi)
  refine ⟨e, tl, T, ?_⟩
  have := BlkL.set_head (v := .int .i64 x) (i := i) hb (by rw [ints_len]; exact hi)
  unfold ints at *
  rwa [List.map_set]
theorem IntS.setOther {w : World} {A : Option Addr} {b : Nat} {L : List Int} (h : IntS w A b L) (a : Addr) (v : Value) (hn : b ≠ a.block) : IntS (w.setCell a v) A b L := fun hl => by
  obtain ⟨e, tl, T, hb⟩ := h hl
  exact ⟨e, tl, T, Blk.setOther hb a v hn⟩

/-- Rows of integers: one slice each. -/
structure Rw where
  A : Option Addr
  L : List Int
  c : Nat
def rwC (r : Rw) : Value := .slice r.A r.L.length r.c
def TmS (w : World) (A : Option Addr) (t : Nat) (rs : List Nat) (tm : List (List Int)) : Prop :=
  tm ≠ [] → A = some ⟨t, 0, none⟩ ∧ ∃ (rows : List Rw) (tl : List Value) (T : TypeId), BlkL w t (rows.map rwC ++ tl) T ∧ tm = rows.map Rw.L ∧ rs.length = rows.length ∧ ∀ (i : Nat) r b, rows[i]? = some r → rs[i]? = some b → IntS w r.A b r.L
theorem TmS.kept {S : Nat → Prop} {w w' : World} {A : Option Addr} {t : Nat} {rs : List Nat} {tm : List (List Int)} (h : TmS w A t rs tm) (hk : Kept S w w') (hn : ¬ S t) (hr : ∀ b ∈ rs, ¬ S b) : TmS w' A t rs tm := fun hl => by
  obtain ⟨e, rows, tl, T, hb, h1, h2, h3⟩ := h hl
  exact ⟨e, rows, tl, T, (hk.block t (Blk.lt hb) hn).trans hb, h1, h2, fun i r b hi hb' => (h3 i r b hi hb').kept hk (hr b (List.mem_of_getElem? hb'))⟩
theorem TmS.one {w : World} {A : Option Addr} {t : Nat} {rs : List Nat} {tm : List (List Int)} (h : TmS w A t rs tm) {i : Nat} {x : List Int} (hi : tm[i]? = some x) :
    A = some ⟨t, 0, none⟩ ∧ ∃ A' c b, w.cell? ⟨t, i, none⟩ = some (.slice A' x.length c) ∧ rs[i]? = some b ∧ IntS w A' b x := by
  obtain ⟨e, rows, tl, T, hb, h1, h2, h3⟩ := h (by intro e; subst e; simp at hi)
  subst h1
  rw [List.getElem?_map] at hi
  cases hr : rows[i]? with
  | none => rw [hr] at hi; cases hi
  | some r =>
    rw [hr] at hi
    obtain rfl : r.L = x := by simpa using hi
    have hl : i < rows.length := (List.getElem?_eq_some_iff.1 hr).1
    obtain ⟨b, hbb⟩ : ∃ b, rs[i]? = some b := ⟨_, List.getElem?_eq_getElem (by omega)⟩
    refine ⟨e, r.A, r.c, b, ?_, hbb, h3 i r b hr hbb⟩
    rw [BlkL.cell hb, List.getElem?_append_left (by simpa using hl), List.getElem?_map, hr]; rfl
theorem TmS.setOther {w : World} {A : Option Addr} {t : Nat} {rs : List Nat} {tm : List (List Int)} (h : TmS w A t rs tm) (a : Addr) (v : Value) (hn : t ≠ a.block) (hr : ∀ b ∈ rs, b ≠ a.block) : TmS (w.setCell a v) A t rs tm := fun hl => by
  obtain ⟨e, rows, tl, T, hb, h1, h2, h3⟩ := h hl
  exact ⟨e, rows, tl, T, Blk.setOther hb a v hn, h1, h2, fun i r b hi hb' => (h3 i r b hi hb').setOther a v (hr b (List.mem_of_getElem? hb'))⟩
theorem TmS.set {w : World} {A : Option Addr} {t : Nat} {rs : List Nat} {tm : List (List Int)} (h : TmS w A t rs tm) {i k b : Nat} {x : List Int} (hi : tm[i]? = some x) (hb : rs[i]? = some b) (hk : k < x.length) (v : Int) (hn : (t :: rs).Nodup) :
    TmS (w.setCell ⟨b, k, none⟩ (.int .i64 v)) A t rs (tm.set i (x.set k v)) := fun _ => by
  obtain ⟨e, rows, tl, T, hbk, h1, h2, h3⟩ := h (by intro e; subst e; simp at hi)
  subst h1
  rw [List.getElem?_map] at hi
  cases hr : rows[i]? with
  | none => rw [hr] at hi; cases hi
  | some r =>
    rw [hr] at hi
    obtain rfl : r.L = x := by simpa using hi
    rw [List.nodup_cons] at hn
    have htb : t ≠ b := fun e => hn.1 (e ▸ List.mem_of_getElem? hb)
    have hl : i < rows.length := (List.getElem?_eq_some_iff.1 hr).1
    refine ⟨e, rows.set i ⟨r.A, r.L.set k v, r.c⟩, tl, T, ?_, ?_, by rw [List.length_set]; exact h2, ?_⟩
    · have e1 : (rows.set i ⟨r.A, r.L.set k v, r.c⟩).map rwC = rows.map rwC := by
        rw [List.map_set]
        refine set_same _ _ _ ?_
        rw [List.getElem?_map, hr]
        unfold rwC
        simp
      rw [e1]
      exact Blk.setOther hbk _ _ htb
    · rw [List.map_set]
    · intro j r' b' hj hb'
      rcases get_set hj with ⟨rfl, rfl⟩ | ⟨hne, hj'⟩
      · obtain rfl : b = b' := Option.some.inj (hb.symm.trans hb')
        exact (h3 i r b hr hb).set k v hk
      · refine (h3 j r' b' hj' hb').setOther _ _ ?_
        intro e2
        have e3 : b' = b := e2
        subst e3
        exact hne ((List.getElem?_inj (List.getElem?_eq_some_iff.1 hb).1 hn.2).1 (hb.trans hb'.symm))

structure Hd where
  A1 : Option Addr
  A2 : Option Addr
  A3 : Option Addr
  A4 : Option Addr
  A5 : Option Addr
  c1 : Nat
  c2 : Nat
  c3 : Nat
  c4 : Nat
  c5 : Nat
structure RefO (w : World) (q : Rb) (r : Rf) (a : Hd) : Prop where
  hd : Blk w q.b #[.slice a.A1 r.st.length a.c1, .slice a.A2 r.pe.length a.c2, .slice a.A3 r.sn.length a.c3, .slice a.A4 r.bd.length a.c4, .slice a.A5 r.tm.length a.c5, .int .i64 r.win, .int .i64 r.tim] 57
  st : IntS w a.A1 q.s r.st
  pe : IntS w a.A2 q.p r.pe
  sn : IntS w a.A3 q.n r.sn
  bd : IntS w a.A4 q.d r.bd
  tm : TmS w a.A5 q.t q.rs r.tm
structure RefAt (w : World) (q : Rb) (r : Rf) : Prop where
  at_ : ∃ a, RefO w q r a
  apart : r.st ≠ [] → q.all.Nodup

theorem RefO.kept {S : Nat → Prop} {w w' : World} {q : Rb} {r : Rf} {a : Hd} (h : RefO w q r a) (hk : Kept S w w') (hn : ∀ g ∈ q.all, ¬ S g) : RefO w' q r a := by
  unfold Rb.all at hn
  simp only [List.mem_cons] at hn
  exact ⟨(hk.block _ (Blk.lt h.hd) (hn _ (.inl rfl))).trans h.hd, h.st.kept hk (hn _ (by simp)), h.pe.kept hk (hn _ (by simp)), h.sn.kept hk (hn _ (by simp)), h.bd.kept hk (hn _ (by simp)), h.tm.kept hk (hn _ (by simp)) (fun b hb => hn b (by simp [hb]))⟩
theorem RefO.chg {w w' : World} {q : Rb} {r : Rf} {a : Hd} (h : RefO w q r a) (hc : Chg none w w') : RefO w' q r a := h.kept (Kept.of_chg hc) (fun g _ e => by cases e)
theorem RefAt.kept {S : Nat → Prop} {w w' : World} {q : Rb} {r : Rf} (h : RefAt w q r) (hk : Kept S w w') (hn : ∀ g ∈ q.all, ¬ S g) : RefAt w' q r := by
  obtain ⟨⟨a, h0⟩, ha⟩ := h
  exact ⟨⟨a, h0.kept hk hn⟩, ha⟩
theorem RefAt.chg {w w' : World} {q : Rb} {r : Rf} (h : RefAt w q r) (hc : Chg none w w') : RefAt w' q r := h.kept (Kept.of_chg hc) (fun g _ e => by cases e)
theorem RefO.cells {w : World} {q : Rb} {r : Rf} {a : Hd} (h : RefO w q r a) : w.cell? ⟨q.b, 0, none⟩ = some (.slice a.A1 r.st.length a.c1) ∧ w.cell? ⟨q.b, 1, none⟩ = some (.slice a.A2 r.pe.length a.c2) ∧ w.cell? ⟨q.b, 2, none⟩ = some (.slice a.A3 r.sn.length a.c3) ∧
    w.cell? ⟨q.b, 3, none⟩ = some (.slice a.A4 r.bd.length a.c4) ∧ w.cell? ⟨q.b, 4, none⟩ = some (.slice a.A5 r.tm.length a.c5) ∧ w.cell? ⟨q.b, 5, none⟩ = some (.int .i64 r.win) ∧ w.cell? ⟨q.b, 6, none⟩ = some (.int .i64 r.tim) := by
  refine ⟨?_, ?_, ?_, ?_, ?_, ?_, ?_⟩ <;> (rw [Blk.cell h.hd]; rfl)

/-- How the document's plan stands to the program's. -/
structure Sim (p : Pl) (r : Rf) : Prop where
  st : r.st = p.ch.map Ck.st
  pl : r.pe.length = p.ch.length
  sl : r.sn.length = p.ch.length
  asked : ∀ (i : Nat) x, p.ch[i]? = some x → x.st = 1 → r.pe[i]? = some x.pe ∧ r.sn[i]? = some x.sn
  bd : r.bd = p.pe.map Pr.de
  tl : r.tm.length = p.ch.length
  tm : ∀ (i : Nat) row, r.tm[i]? = some row → row.length = p.pe.length ∧ ∀ k : Nat, k < p.pe.length → row[k]? = some (p.ts i k)
  win : r.win = p.win
  tim : r.tim = p.tim

section
variable {p : Pl} {r : Rf}
theorem Sim.stl (h : Sim p r) : r.st.length = p.ch.length := by rw [h.st, List.length_map]
theorem Sim.bdl (h : Sim p r) : r.bd.length = p.pe.length := by rw [h.bd, List.length_map]
theorem Sim.sti (h : Sim p r) {i : Nat} {x : Ck} (hx : p.ch[i]? = some x) : r.st[i]? = some x.st := by rw [h.st, List.getElem?_map, hx]; rfl
theorem Sim.bdi (h : Sim p r) {i : Nat} {x : Pr} (hx : p.pe[i]? = some x) : r.bd[i]? = some x.de := by rw [h.bd, List.getElem?_map, hx]; rfl

/-- A chunk is opened that was asked. -/
def Rf.open (r : Rf) (i k : Nat) : Rf := { r with st := r.st.set i 0, bd := r.bd.set k (r.bd.getD k 0 + 1) }
theorem Sim.reopen (h : Sim p r) {i k : Nat} {x : Ck} (hx : p.ch[i]? = some x) (hk : x.pe = (k : Int)) (hkl : k < p.pe.length) : Sim (reopenM p i) (r.open i k) := by
  have e : reopenM p i = { p with ch := p.ch.set i ⟨0, 0, 0⟩, pe := p.pe.set k ⟨(p.pe.getD k default).ak - 1, (p.pe.getD k default).de + 1⟩ } := by
    unfold reopenM; rw [getD_of hx, hk, Int.toNat_natCast]; rfl
  obtain ⟨y, hy⟩ : ∃ y, p.pe[k]? = some y := ⟨_, List.getElem?_eq_getElem hkl⟩
  have hb := h.bdi hy
  rw [e]
  unfold Rf.open
  refine ⟨by rw [h.st]; simp only [List.map_set], by simp only [List.length_set]; exact h.pl, by simp only [List.length_set]; exact h.sl, ?_, ?_, by simp only [List.length_set]; exact h.tl, ?_, h.win, h.tim⟩
  · intro j z hz h1
    rcases get_set hz with ⟨rfl, rfl⟩ | ⟨-, hz'⟩
    · cases h1
    · exact h.asked j z hz' h1
  · rw [List.getD_eq_getElem?_getD, hb, h.bd]
    simp only [List.map_set, Option.getD_some]
    rw [getD_of hy]
  · intro j row hj
    simp only [List.length_set]
    exact h.tm j row hj
end

end Go.Proofs.Ytippkdjggipnmaa
