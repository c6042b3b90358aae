/-
  Package journal: the records handed out one by one.
-/
import Derived.Test.YthkghjkgmfjmoaaDoorJA
import Derived.Test.YthkghjkgmfjmoaaDoorRF
import Derived.WalkKit
import Derived.OwnWalkIn
import Derived.TacticsInMore
import Derived.LoopNIn
import Derived.LoopIn
namespace Go.Proofs.YthkghjkgmfjmoaaDoor
open Go.RowKit

/-- A record that is handed out: its bytes' place, and where its form ends. -/
structure RecE where
  A : Option Addr
  x : List UInt8
  c : Nat
  q : Nat
def RecE.val (r : RecE) : Value := .slice r.A r.x.length r.c
def encR (r : RecE) : Array Value := #[.slice r.A r.x.length r.c, .int .i64 r.q]
def lastQ (L : List RecE) : Nat := match L.getLast? with
  | some r => r.q
  | none => 0
theorem lastQ_snoc (L : List RecE) (r : RecE) : lastQ (L ++ [r]) = r.q := by unfold lastQ; rw [List.getLast?_append, List.getLast?_singleton]; rfl

/-- What a round keeps: all below n0; bytes wherever they lie; the box B. -/
structure Keep (n0 B : Nat) (W W' : World) : Prop where
  below : Below n0 W W'
  same : ∀ (k : Nat) (cs : Array Value) (fl : Nat × Nat), W.heap[k]? = some (.cells cs 5 fl) → W'.heap[k]? = some (.cells cs 5 fl)
  box : ∀ o, W.heap[B]? = some o → W'.heap[B]? = some o
theorem Keep.trans {n0 b : Nat} {A B C : World} (h : Keep n0 b A B) (k : Keep n0 b B C) : Keep n0 b A C := ⟨h.below.trans k.below, fun i cs fl hi => k.same i cs fl (h.same i cs fl hi), fun o ho => k.box o (h.box o ho)⟩
theorem Keep.putObj {n0 B : Nat} {w : World} (hn : n0 ≤ w.heap.size) (hB : B < w.heap.size) (W : World) (l : Nat) (o o' : Obj) (hl : w.heap.size ≤ l) (h : W.heap[l]? = some o) (hc : o.isCells = false) : Keep n0 B W (W.putObj l o') :=
  ⟨(Below.refl n0 W).grown (grownBy_putObj' W l o') (by have := (Array.getElem?_eq_some_iff.1 h).1; omega) (fun k e => by cases e; omega),
   fun k cs fl hk => by
    by_cases e : k = l
    · subst e; rw [h] at hk; injection hk with hk; subst hk; cases hc
    · rw [World.putObj_heap_other e]; exact hk,
   fun o hk => by rw [World.putObj_heap_other (by omega)]; exact hk⟩
theorem Keep.own {n0 b B n : Nat} {W W' : World} {v : Value} {xs : List Value} (hk : Keep n0 b W W') (h : W.ownsRow B 5 1 v n xs) : W'.ownsRow B 5 1 v n xs :=
  ⟨h.1, h.2.elim .inl fun ⟨g, cap, cur, h1, h2, h3, h4⟩ => .inr ⟨g, cap, cur, h1, h2, hk.same g cur _ h3, h4⟩⟩
theorem Keep.blk {n0 B : Nat} {W W' : World} {cs : Array Value} {t : TypeId} (hk : Keep n0 B W W') (h : Blk W B cs t) : Blk W' B cs t := hk.box _ h
theorem Txt.below {w w' : World} {A : Option Addr} {x : List UInt8} (h : Txt w A x) (hb : Below w.heap.size w w') : Txt w' A x := fun h0 => by
  obtain ⟨sb, so, e, hlt, hc⟩ := h h0
  exact ⟨sb, so, e, Nat.lt_of_lt_of_le hlt hb.size, fun j c hj => (hb.cell (p := ⟨sb, so + j, none⟩) hlt).trans (hc j c hj)⟩
theorem Tabs.below {w w' : World} (h : Tabs w) (hb : Below w.heap.size w w') : Tabs w' := by
  have h2 := h.lt
  exact ⟨fun i hi => (hb.cell (p := ⟨0, i, none⟩) (by show 0 < w.heap.size; omega)).trans (h.h i hi), fun i hi => (hb.cell (p := ⟨1, i, none⟩) (by show 1 < w.heap.size; omega)).trans (h.k i hi), Nat.le_trans h2 hb.size⟩

/-- The rows' blocks rise. -/
def RecE.ahead (r s : RecE) : Prop := ∀ g h, r.val.ownBlock = some g → s.val.ownBlock = some h → g < h
theorem rise_snoc {W W' : World} {B : Nat} {pre : List RecE} {r : RecE} (h : pre.Pairwise RecE.ahead) (ho : ∀ s ∈ pre, W.ownsRow B 5 1 s.val s.x.length (byteVals s.x)) (hr : W'.ownsRow W.heap.size 5 1 r.val r.x.length (byteVals r.x)) : (pre ++ [r]).Pairwise RecE.ahead := by
  rw [List.pairwise_append]
  refine ⟨h, List.pairwise_singleton _ _, fun a ha b hb => ?_⟩
  rw [List.mem_singleton] at hb
  subst hb
  intro g k hg hk
  have h1 := ((ho a ha).lt g hg).2
  have h2 := (hr.lt k hk).1
  omega

/-- What has been handed out, in the world behind it. -/
structure Got (n0 : Nat) (bs : List UInt8) (xs : List RecE) (W : World) : Prop where
  own : ∀ r ∈ xs, W.ownsRow n0 5 1 r.val r.x.length (byteVals r.x)
  all : xs.map (·.x) = (readJ bs 0).1
  last : lastQ xs = (readJ bs 0).2
  rise : xs.Pairwise RecE.ahead

/-- Between two records. -/
structure Handed (w0 : World) (p : Prt) (B : Nat) (J : List RecE → World → Prop) (pre : List RecE) (k : Nat) (W : World) : Prop where
  j : J pre W
  own : ∀ r ∈ pre, W.ownsRow w0.heap.size 5 1 r.val r.x.length (byteVals r.x)
  all : pre.map (·.x) ++ (readJ p.x k).1 = (readJ p.x 0).1
  last : (readJ p.x k).2 = (readJ p.x 0).2
  here : lastQ pre = k
  few : pre.length ≤ k
  most : k ≤ p.x.length
  below : Below w0.heap.size w0 W
  box : Blk W B #[.slice p.A p.x.length p.c] 22
  rise : pre.Pairwise RecE.ahead

set_option maxRecDepth 100000 in
set_option maxHeartbeats 8000000 in
theorem forms1_hands (p : Prt) (B : Nat) (w0 w : World) (hp : p.ok w0) (hT : Tabs w0) (hl : p.x.length ≤ 400000) (hb0 : Below w0.heap.size w0 w) (hbox : Blk w B #[.slice p.A p.x.length p.c] 22) :
    Hands Tryd.prog 44 #[.pointer (some ⟨B, 0, none⟩)] encR (Keep w0.heap.size B) (Got w0.heap.size p.x) (p.x.length + 1) w := by
  intro l J W gW hJ hY h0
  refine (callsIn_wide (n := 2)).1 ?_
  refine callsIn_of_wp Tryd.func44 rfl trivial ?_ rfl
  have hst : Handed w0 p B J [] 0 W := ⟨h0, fun r hr => (by cases hr), rfl, rfl, rfl, Nat.le_refl _, Nat.zero_le _, hb0.trans (gW.belowNone hb0.size), hbox.chg gW (by simp), List.Pairwise.nil⟩
  have HST := Lib.hid hst
  clear hst h0 hbox hb0
  have HY := Lib.hid hY
  have HJ := Lib.hid hJ
  clear hY hJ
  simp only [Tryd.ntmps44, List.size_toArray, List.length_cons, List.length_nil, Nat.reduceAdd, Nat.reduceSub, Array.replicate_succ, Array.replicate_zero, List.push_toArray, List.append_toArray, List.nil_append, List.cons_append]
  gi_wp2
  gi_loopw [3] (fun s3 wr => ∃ (pre : List RecE) (k : Nat), s3 = .int .i64 k ∧ Handed w0 p B J pre k wr) (fun s3 _ => p.x.length + 1 - (intOf s3).toNat)
  case atStart => exact ⟨[], 0, rfl, HST.out⟩
  case round =>
    obtain ⟨pre, k, rfl, hH⟩ := hrel
    have HH := Lib.hid hH
    have cB := hH.box.cell 0
    simp only [List.getElem?_toArray, List.getElem?_cons_zero] at cB
    have HR := Lib.hid (record_any p k wr ⟨hp.1.below hH.below, hp.2⟩ hl (hT.below hH.below))
    clear hH
    gi_wp2_with fail
    refine ⟨trivial, ?_⟩
    gi_at_call 45
    refine (callsIn_wide.2 HR.out).mono ?_
    rintro e w1 ⟨g1, ⟨x, q, A, c, hrec, rfl, hown⟩ | ⟨v, z, hrec, rfl⟩⟩
    · have hlt := recJ_lt hrec
      have hrs := readJ_some hrec
      obtain ⟨fn, tmps, assign, body, hy, hRd⟩ := HY.out pre ⟨A, x, c, q⟩ w1 (HJ.out _ _ _ HH.out.j g1) (by have := HH.out.few; have := HH.out.most; omega)
      dsimp only [encR] at hy
      have HRD := Lib.hid hRd
      have HOWN := Lib.hid hown
      have HLT := Lib.hid hlt
      have HRS := Lib.hid hrs
      clear hRd hown hlt hrs hrec HR
      gi_wp2_with fail
      refine HRD.out.mono ?_
      rintro e W3 ⟨rfl, hJ3, hk3⟩
      have hnew : Handed w0 p B J (pre ++ [⟨A, x, c, q⟩]) q W3 := by
        have hh := HH.out
        have hle := HLT.out
        refine ⟨hJ3, fun r hr => ?_, ?_, ?_, lastQ_snoc _ _, ?_, hle.2, (hh.below.trans (g1.belowNone hh.below.size)).trans hk3.below, hk3.blk (hh.box.chg g1 (by simp)), rise_snoc hh.rise hh.own HOWN.out⟩
        · rcases List.mem_append.1 hr with hr | hr
          · exact hk3.own (own_chgW (hh.own r hr) g1)
          · rw [List.mem_singleton] at hr
            subst hr
            exact hk3.own (World.ownsRow.mono HOWN.out hh.below.size)
        · rw [List.map_append, List.append_assoc, ← hh.all, HRS.out]; rfl
        · rw [← hh.last, HRS.out]
        · rw [List.length_append, List.length_singleton]; have := hh.few; omega
      have HNEW := Lib.hid hnew
      clear hnew hJ3 hk3 hy
      gi_wp2_with fail
      go_roundw
      case rel => exact ⟨_, q, rfl, HNEW.out⟩
      case measure =>
        have := HLT.out
        simp [intOf]; omega
    · have hrn := readJ_none hrec
      have hfin : Got w0.heap.size p.x pre w1 := by
        have hh := HH.out
        refine ⟨fun r hr => own_chgW (hh.own r hr) g1, ?_, ?_, hh.rise⟩
        · rw [← hh.all, hrn, List.append_nil]
        · rw [hh.here, ← hh.last, hrn]
      have HF := Lib.hid hfin
      have HJ1 := Lib.hid (HJ.out _ _ _ HH.out.j g1)
      clear hfin hrn hrec HR
      gi_wp2_with fail
      refine ⟨fun _ h => (by cases h), ?_⟩
      gi_wp2_with fail
      refine bodyPost_ret (results_none rfl _ _ _) rfl ?_
      exact ⟨⟨_, rfl⟩, pre, HF.out, HJ1.out⟩

end Go.Proofs.YthkghjkgmfjmoaaDoor
