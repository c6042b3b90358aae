/-
  AssignPlays: what stands between two calls.
-/
import Derived.Test.YtippkdjggipnmaaRM
import Derived.Test.YtippkdjggipnmaaRL
import Derived.Test.YtippkdjggipnmaaRJ
import Derived.Test.YtippkdjggipnmaaV
namespace Go.Proofs.Ytippkdjggipnmaa
open Go.RowKit Go.Maps

def T60 (n : Int) : Prop := -1152921504606846976 ≤ n ∧ n ≤ 1152921504606846976
theorem tk_next {p : Pl} {now : Int} (h : ∀ x ∈ p.ch, Tk x) (hn : T60 now) : ∀ x ∈ (nextM p now).1.ch, Tk x := by
  have hs : ∀ x ∈ (sweepM p now).ch, Tk x := tk_sweep now h _
  unfold nextM
  split
  · exact hs
  · split
    · exact hs
    · intro x hx
      unfold askAt at hx
      rcases mem_set hx with h1 | h1
      · exact hs x h1
      · rw [h1]; exact hn
theorem tk_had {p : Pl} (c : Int) (h : ∀ x ∈ p.ch, Tk x) : ∀ x ∈ (hadM p c).1.ch, Tk x := by
  unfold hadM
  split
  · split
    · exact h
    · split
      · intro x hx
        unfold hadAt at hx
        rcases mem_set hx with h1 | h1
        · exact h x h1
        · rw [h1]; exact ⟨by decide, by decide⟩
      · intro x hx
        rcases mem_set hx with h1 | h1
        · exact h x h1
        · rw [h1]; exact ⟨by decide, by decide⟩
  · exact h
theorem tk_bad {p : Pl} (c k : Int) (h : ∀ x ∈ p.ch, Tk x) : ∀ x ∈ (badM p c k).1.ch, Tk x := by
  unfold badM
  split
  · split
    · intro x hx
      rw [reopenM_ch] at hx
      rcases mem_set hx with h1 | h1
      · exact h x h1
      · rw [h1]; exact ⟨by decide, by decide⟩
    · exact h
  · exact h

theorem box_apart {w : World} {q : Qb} {n : Nat} {p : Pl} {b : Nat} {cs : Array Value} (h : PlanAt w q n p) (hb : Blk w b cs 32) : ¬ q.has b := by
  obtain ⟨⟨_, _, h1⟩, ⟨_, h2⟩, ⟨_, h3⟩, h4⟩ := h
  rintro (e | e | e | e)
  · exact blk_ne hb h1 (by decide) e
  · exact blk_ne hb h2 (by decide) e
  · exact blk_ne hb h3 (by decide) e
  · exact blk_map hb h4 e

/-- In the midst of a round: the plan, the document's, the call that is made. -/
structure Mid (w : World) (q0 : Qb) (q : Rb) (bx : Nat) (o : Opn) (n : Nat) (p : Pl) (r : Rf) (v : World) : Prop where
  pl : PlanAt v q0 n p
  rf : RefAt v q r
  bk : Blk v bx o.cells.toArray 32
  ap : ∀ g ∈ q.all, ¬ q0.has g
  lt : ∀ g ∈ q.all, g < bx
  lo : ∀ g, q0.has g → w.heap.size ≤ g
  hi : ∀ g ∈ q.all, w.heap.size ≤ g
  chg : Chg none w v
section
variable {w v v' : World} {q0 : Qb} {q : Rb} {bx : Nat} {o : Opn} {n n' : Nat} {p p' : Pl} {r r' : Rf}
theorem Mid.on (h : Mid w q0 q bx o n p r v) (g : Chg none v v') : Mid w q0 q bx o n p r v' := ⟨h.pl.chg g, h.rf.chg g, Blk.chg h.bk g (by simp), h.ap, h.lt, h.lo, h.hi, h.chg.trans g⟩
theorem Mid.plan (h : Mid w q0 q bx o n p r v) (hp : PlanAt v' q0 n' p') (hk : Kept q0.has v v') : Mid w q0 q bx o n' p' r v' :=
  ⟨hp, h.rf.kept hk h.ap, (hk.block bx (Blk.lt h.bk) (box_apart h.pl h.bk)).trans h.bk, h.ap, h.lt, h.lo, h.hi, Kept.fresh h.chg hk h.lo⟩
theorem Mid.ref (h : Mid w q0 q bx o n p r v) (hr : RefAt v' q r') (hk : Kept q.has v v') : Mid w q0 q bx o n p r' v' :=
  ⟨h.pl.kept hk (fun g hg hq => h.ap g hq hg), hr, (hk.block bx (Blk.lt h.bk) (fun hq => by have := h.lt bx hq; omega)).trans h.bk, h.ap, h.lt, h.lo, h.hi, Kept.fresh h.chg hk h.hi⟩
theorem Mid.cells (h : Mid w q0 q bx o n p r v) : v.cell? ⟨bx, 0, none⟩ = some (.int .i64 o.kind) ∧ v.cell? ⟨bx, 1, none⟩ = some (.int .i64 o.i) ∧ v.cell? ⟨bx, 2, none⟩ = some (.int .i64 o.k) ∧ v.cell? ⟨bx, 3, none⟩ = some (.int .i64 o.n) := by
  refine ⟨?_, ?_, ?_, ?_⟩ <;> (rw [Blk.cell h.bk]; rfl)

theorem Mid.next (h : Mid w q0 q bx o n p r v) (ho : p.ok n) (hn : n < 900000000000) (D : Int) (hD : T60 D) :
    Calls Try.prog 13 #[.pointer (some ⟨q0.b, 0, none⟩), .int .i64 D] v fun e w' => e = .returned (next3 (nextM p D).2) ∧ Mid w q0 q bx o (n + 101) (nextM p D).1 r w' :=
  (next_any D v q0 n p h.pl ho hn ⟨by have := hD.1; omega, by have := hD.2; omega⟩).mono fun _ _ ⟨he, hp, hk⟩ => ⟨he, h.plan hp hk⟩
theorem Mid.rnext {m : Nat} (h : Mid w q0 q bx o m p' r v) (hs : Sim p r) (ho : p.ok n) (hn : n < 900000000000) (D : Int) (hD : T60 D) (ht : ∀ x ∈ p.ch, Tk x) :
    Calls Try.prog 14 #[.pointer (some ⟨q.b, 0, none⟩), .int .i64 D] v fun e w' => e = .returned (next3 (nextM p D).2) ∧ ∃ r', Mid w q0 q bx o m p' r' w' ∧ Sim (nextM p D).1 r' :=
  (rnext_any D n v q p r h.rf hs ho hn hD ht).mono fun _ _ ⟨he, r', hr, hs', hk⟩ => ⟨he, r', h.ref hr hk, hs'⟩
theorem Mid.had (h : Mid w q0 q bx o n p r v) (ho : p.ok n) (c : Int) :
    Calls Try.prog 15 #[.pointer (some ⟨q0.b, 0, none⟩), .int .i64 c] v fun e w' => e = .returned (.int .i64 (hadM p c).2) ∧ Mid w q0 q bx o n (hadM p c).1 r w' :=
  (had_any c v q0 n p h.pl ho).mono fun _ _ ⟨he, hp, hk⟩ => ⟨he, h.plan hp hk⟩
theorem Mid.rhad {m : Nat} (h : Mid w q0 q bx o m p' r v) (hs : Sim p r) (hnc : p.ch.length ≤ 100) (c : Int) :
    Calls Try.prog 16 #[.pointer (some ⟨q.b, 0, none⟩), .int .i64 c] v fun e w' => e = .returned (.int .i64 (hadM p c).2) ∧ ∃ r', Mid w q0 q bx o m p' r' w' ∧ Sim (hadM p c).1 r' :=
  (rhad_any c v q p r h.rf hs hnc).mono fun _ _ ⟨he, r', hr, hs', hk⟩ => ⟨he, r', h.ref hr hk, hs'⟩
theorem Mid.bad (h : Mid w q0 q bx o n p r v) (ho : p.ok n) (hn : n < 1000000000000) (c k : Int) :
    Calls Try.prog 17 #[.pointer (some ⟨q0.b, 0, none⟩), .int .i64 c, .int .i64 k] v fun e w' => e = .returned (.int .i64 (badM p c k).2) ∧ Mid w q0 q bx o (n + 1) (badM p c k).1 r w' :=
  (bad_any c k v q0 n p h.pl ho hn).mono fun _ _ ⟨he, hp, hk⟩ => ⟨he, h.plan hp hk⟩
theorem Mid.rbad {m : Nat} (h : Mid w q0 q bx o m p' r v) (hs : Sim p r) (ho : p.ok n) (hn : n < 1000000000000) (c k : Int) :
    Calls Try.prog 18 #[.pointer (some ⟨q.b, 0, none⟩), .int .i64 c, .int .i64 k] v fun e w' => e = .returned (.int .i64 (badM p c k).2) ∧ ∃ r', Mid w q0 q bx o m p' r' w' ∧ Sim (badM p c k).1 r' :=
  (rbad_any c k n v q p r h.rf hs ho hn).mono fun _ _ ⟨he, r', hr, hs', hk⟩ => ⟨he, r', h.ref hr hk, hs'⟩
theorem Mid.copy (h : Mid w q0 q bx o n p r v) (ho : p.ok n) :
    Calls Try.prog 19 #[.pointer (some ⟨q0.b, 0, none⟩)] v fun e w' => ∃ q' : Qb, e = .returned (.pointer (some ⟨q'.b, 0, none⟩)) ∧ Mid w q0 q bx o n p r w' ∧ PlanAt w' q' n p ∧ ∀ g, q'.has g → v.heap.size ≤ g :=
  (copy_any v q0 n p h.pl ho).mono fun _ _ ⟨q', he, hp, hl, hg⟩ => ⟨q', he, h.on hg, hp, hl⟩
end

/-- What stands at the head of each round. -/
structure PRel (w : World) (q : Rb) (k : Nat) (q0 : Qb) (p : Pl) (r : Rf) (v : World) : Prop where
  pl : PlanAt v q0 (101 * k) p
  ok : p.ok (101 * k)
  tk : ∀ x ∈ p.ch, Tk x
  rf : RefAt v q r
  sim : Sim p r
  ap : ∀ g ∈ q.all, ¬ q0.has g
  lt : ∀ g ∈ q.all, g < v.heap.size
  lo : ∀ g, q0.has g → w.heap.size ≤ g
  hi : ∀ g ∈ q.all, w.heap.size ≤ g
  chg : Chg none w v
section
variable {w v v' : World} {q0 q1 : Qb} {q : Rb} {bx k : Nat} {o : Opn} {n n' : Nat} {p p' : Pl} {r r' : Rf}
theorem PRel.mid (h : PRel w q k q0 p r v) (o : Opn) : Mid w q0 q v.heap.size o (101 * k) p r (v.alloc (.cells o.cells.toArray 32)) :=
  ⟨h.pl.alloc _, h.rf.chg ((Chg.refl _ _).alloc _), Blk.new _ _ _, h.ap, h.lt, h.lo, h.hi, h.chg.alloc _⟩
theorem Mid.rel (h : Mid w q0 q bx o n p r v) (hn : n ≤ 101 * k) (ho : p.ok n) (ht : ∀ x ∈ p.ch, Tk x) (hs : Sim p r) : PRel w q k q0 p r v :=
  ⟨h.pl.mono hn, ho.mono hn, ht, h.rf, hs, h.ap, fun g hg => Nat.lt_trans (h.lt g hg) (Blk.lt h.bk), h.lo, h.hi, h.chg⟩
theorem PRel.on (h : PRel w q k q0 p r v) (g : Chg none v v') : PRel w q k q0 p r v' := ⟨h.pl.chg g, h.ok, h.tk, h.rf.chg g, h.sim, h.ap, fun x hx => Nat.lt_of_lt_of_le (h.lt x hx) g.size, h.lo, h.hi, h.chg.trans g⟩
theorem PRel.up (h : PRel w q k q0 p r v) : PRel w q (k + 1) q0 p r v := ⟨h.pl.mono (by omega), h.ok.mono (by omega), h.tk, h.rf, h.sim, h.ap, h.lt, h.lo, h.hi, h.chg⟩
theorem PRel.looked (h : PRel w q k q0 p r v) : Calls Try.prog 20 #[.pointer (some ⟨q0.b, 0, none⟩), .pointer (some ⟨q.b, 0, none⟩)] v fun e w' => e = .returned (.bool true) ∧ PRel w q k q0 p r w' :=
  (looked_any v q0 (101 * k) p q r h.pl h.ok h.rf h.sim).mono fun _ _ ⟨he, g⟩ => ⟨he, h.on g⟩
/-- Behind a copy: the old plan is spoilt, the new one stays. -/
theorem Mid.swap {pa : Pl} {na nb : Nat} {v2 : World} (h : Mid w q0 q bx o na pa r v2) (hp : PlanAt v2 q1 nb p) (hn : nb ≤ 101 * k) (ho : p.ok nb) (ht : ∀ x ∈ p.ch, Tk x) (hs : Sim p r) (hl : ∀ g, q1.has g → bx < g) (hw : w.heap.size ≤ bx) : PRel w q k q1 p r v2 :=
  ⟨hp.mono hn, ho.mono hn, ht, h.rf, hs, fun g hg hq => by have := hl g hq; have := h.lt g hg; omega, fun g hg => Nat.lt_trans (h.lt g hg) (Blk.lt h.bk), fun g hg => by have := hl g hg; omega, h.hi, h.chg⟩
end

end Go.Proofs.Ytippkdjggipnmaa
