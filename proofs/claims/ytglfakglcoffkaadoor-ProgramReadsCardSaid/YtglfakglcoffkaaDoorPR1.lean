/-
  Package program: the reader.
-/
import Derived.Test.YtglfakglcoffkaaDoorPRP
import Derived.Handy
import Derived.Deep.Cut
import Derived.Deep.CutBlock
import Derived.Deep.DeepCutAuto
import Derived.Deep.RegionHeld3
namespace Go.Proofs.YtglfakglcoffkaaDoor
open Go.RowKit

/-- The reader lies in block b: what it reads, and where it is, if no fault was met. -/
def RdAt (w : World) (b : Nat) (A : Option Addr) (bs : List UInt8) (c : Nat) (s : Option Nat) : Prop :=
  ∃ (at_ : Nat) (wr : Bool), Blk w b #[.slice A bs.length c, .int .i64 at_, .bool wr] 104 ∧ s = if wr then none else some at_
theorem numS_ok {bs : List UInt8} {most k n : Nat} {x : Int} (h : readU bs k = (n, x, 0)) (hn : n ≤ most) : numS bs most (some k) = (n, some x.toNat) := by
  unfold numS
  dsimp only
  rw [h, if_pos ⟨rfl, hn⟩]
theorem numS_no {bs : List UInt8} {most k n : Nat} {x e : Int} (h : readU bs k = (n, x, e)) (hn : ¬ (e = 0 ∧ n ≤ most)) : numS bs most (some k) = (0, none) := by
  unfold numS
  dsimp only
  rw [h, if_neg hn]
theorem txtS_ok {bs l : List UInt8} {k : Nat} {x : Int} (h : readB bs k 40 = (l, x, 0)) : txtS bs (some k) = (l, some x.toNat) := by
  unfold txtS
  dsimp only
  rw [h, if_pos rfl]
theorem txtS_no {bs l : List UInt8} {k : Nat} {x e : Int} (h : readB bs k 40 = (l, x, e)) (hn : e ≠ 0) : txtS bs (some k) = ([], none) := by
  unfold txtS
  dsimp only
  rw [h, if_neg hn]
theorem readB_place (bs : List UInt8) (k : Nat) (most : Int) (h : (readB bs k most).2.2 = 0) : 0 ≤ (readB bs k most).2.1 := by
  unfold readB at h ⊢
  have hw := readC_well bs k most
  by_cases h0 : (readC bs k most).2.2 = 0
  · rw [if_pos h0] at h ⊢
    have := hw.ok h0
    by_cases h1 : (bs.length : Int) - (readC bs k most).2.1 < ((readC bs k most).1 : Int)
    · rw [if_pos h1] at h; cases h
    · rw [if_neg h1]; dsimp only; omega
  · rw [if_neg h0] at h; exact absurd h h0

set_option maxHeartbeats 8000000 in
set_option maxRecDepth 100000 in
theorem number_any (b B : Nat) (A : Option Addr) (bs : List UInt8) (c : Nat) (s : Option Nat) (most : Nat) (w : World) (hs : RdAt w b A bs c s) (hr : Reads w B 1 A bs.length (byteVals bs)) (hB : B ≤ w.heap.size)
    (hcap : bs.length ≤ c) (hl : bs.length ≤ 1000000) (hm : most ≤ 9223372036854775807) :
    Calls Tryd.prog 74 #[.pointer (some ⟨b, 0, none⟩), .int .u64 most] w fun e w' => e = .returned (.int .i64 (numS bs most s).1) ∧ RdAt w' b A bs c (numS bs most s).2 ∧ Chg (some b) w w' := by
  obtain ⟨at_, wr, hb, rfl⟩ := hs
  have x0 : w.cell? ⟨b, 0, none⟩ = some (.slice A bs.length c) := hb.cell 0
  have x1 : w.cell? ⟨b, 1, none⟩ = some (.int .i64 at_) := hb.cell 1
  have x2 : w.cell? ⟨b, 2, none⟩ = some (.bool wr) := hb.cell 2
  have y1 : w.frozen? ⟨b, 1, none⟩ = false := hb.frozen 1
  have y2 : w.frozen? ⟨b, 2, none⟩ = false := hb.frozen 2
  have HB := Lib.hid hb
  cases wr
  rotate_left
  · clear hb
    rw [if_pos rfl]
    go_enter Tryd.func74, Tryd.ntmps74
    go_wp2_with fail
    go_ret
    exact ⟨rfl, ⟨at_, true, HB.out, rfl⟩, Chg.refl _ _⟩
  rw [if_neg (by decide)]
  have HU := Lib.hid (uint_any A bs c at_ w.drew (hr.more hB).drew hcap hl)
  obtain ⟨n, nx, er, hq⟩ : ∃ n nx er, readU bs at_ = (n, nx, er) := ⟨_, _, _, rfl⟩
  have hw := readU_well bs at_
  rw [hq] at HU hw
  have HQ := Lib.hid hq
  have htop := hw.top
  have hok := hw.ok
  dsimp only at htop hok
  have HG : Hid (Chg (some b) w w.drew) := (Chg.refl _ _).drew
  clear hb hq hw hr
  by_cases hgood : er = 0 ∧ n ≤ most
  · obtain ⟨rfl, hn⟩ := hgood
    have hres := numS_ok HQ.out hn
    rw [hres]
    have hnx := (hok rfl)
    obtain ⟨N2, hN2⟩ : ∃ N2 : Nat, nx = N2 := ⟨nx.toNat, by omega⟩
    subst hN2
    have dm : decide (most < n) = false := by rw [decide_eq_false_iff_not]; omega
    have hw64 : wrap64 (n : Int) = (n : Int) := by go_arith
    clear hres hnx hok hn htop
    go_enter Tryd.func74, Tryd.ntmps74
    go_upto_region 3 with fail
    refine wp_region_held_drew (S := fun v => v = w.drew) (by kernel_rfl) rfl (fun _ => ?_)
    have x0 : w.drew.cell? ⟨b, 0, none⟩ = some (.slice A bs.length c) := x0
    have x1 : w.drew.cell? ⟨b, 1, none⟩ = some (.int .i64 at_) := x1
    have y1 : w.drew.frozen? ⟨b, 1, none⟩ = false := y1
    have HB : Hid (Blk w.drew b #[.slice A bs.length c, .int .i64 at_, .bool false] 104) := HB.out.drew
    generalize w.drew = v0 at *
    refine wpAnyH_take (i := 0) (oi := ⟨some 13, _, _, _, _, _⟩) (v := ?_) rfl (by kernel_rfl) (by kernel_rfl) (by kernel_rfl) (fun _ _ _ h => h) (Or.inl ⟨by rfl, ?_⟩) (by assumption) ?_
    rotate_left
    · intro w hSw; (try dsimp only at hSw); go_simp; (try with_reducible rfl)
    try simp only [Act.put, List.setIfInBounds_toArray, List.set_cons_zero, List.set_cons_succ]
    refine wpAnyH_take (i := 1) (oi := ⟨some 14, _, _, _, _, _⟩) (v := ?_) rfl (by kernel_rfl) (by kernel_rfl) (by kernel_rfl) (fun _ _ _ h => h) (Or.inl ⟨by rfl, ?_⟩) (by assumption) ?_
    rotate_left
    · intro w hSw; (try dsimp only at hSw); go_simp; (try with_reducible rfl)
    try simp only [Act.put, List.setIfInBounds_toArray, List.set_cons_zero, List.set_cons_succ]
    refine wpAnyH_take (i := 2) (oi := ⟨some 15, _, _, _, _, _⟩) (v := ?_) rfl (by kernel_rfl) (by kernel_rfl) (by kernel_rfl) (fun _ _ _ h => h) (Or.inl ⟨by rfl, ?_⟩) (by assumption) ?_
    rotate_left
    · intro w hSw; (try dsimp only at hSw); go_simp; (try with_reducible rfl)
    try simp only [Act.put, List.setIfInBounds_toArray, List.set_cons_zero, List.set_cons_succ]
    refine wpAnyH_take (i := 3) (oi := ⟨some 16, _, _, _, _, _⟩) (v := .slice A bs.length c) rfl (by kernel_rfl) (by kernel_rfl) (by kernel_rfl) (fun _ _ _ h => h) (Or.inl ⟨by rfl, ?_⟩) (by assumption) ?_
    · intro v hSv; subst hSv; go_simp
    try simp only [Act.put, List.setIfInBounds_toArray, List.set_cons_zero, List.set_cons_succ]
    refine wpAnyH_take (i := 4) (oi := ⟨some 17, _, _, _, _, _⟩) (v := ?_) rfl (by kernel_rfl) (by kernel_rfl) (by kernel_rfl) (fun _ _ _ h => h) (Or.inl ⟨by rfl, ?_⟩) (by assumption) ?_
    rotate_left
    · intro w hSw; (try dsimp only at hSw); go_simp; (try with_reducible rfl)
    try simp only [Act.put, List.setIfInBounds_toArray, List.set_cons_zero, List.set_cons_succ]
    refine wpAnyH_take (i := 5) (oi := ⟨some 18, _, _, _, _, _⟩) (v := ?_) rfl (by kernel_rfl) (by kernel_rfl) (by kernel_rfl) (fun _ _ _ h => h) (Or.inl ⟨by rfl, ?_⟩) (by assumption) ?_
    rotate_left
    · intro w hSw; (try dsimp only at hSw); go_simp; (try with_reducible rfl)
    try simp only [Act.put, List.setIfInBounds_toArray, List.set_cons_zero, List.set_cons_succ]
    refine wpAnyH_take (i := 6) (oi := ⟨some 19, _, _, _, _, _⟩) (v := ?_) rfl (by kernel_rfl) (by kernel_rfl) (by kernel_rfl) (fun _ _ _ h => h) (Or.inl ⟨by rfl, ?_⟩) (by assumption) ?_
    rotate_left
    · intro w hSw; (try dsimp only at hSw); go_simp; (try with_reducible rfl)
    try simp only [Act.put, List.setIfInBounds_toArray, List.set_cons_zero, List.set_cons_succ]
    refine wpAnyH_take (i := 7) (oi := ⟨some 20, _, _, _, _, _⟩) (v := .int .i64 at_) rfl (by kernel_rfl) (by kernel_rfl) (by kernel_rfl) (fun _ _ _ h => h) (Or.inl ⟨by rfl, ?_⟩) (by assumption) ?_
    · intro v hSv; subst hSv; go_simp
    try simp only [Act.put, List.setIfInBounds_toArray, List.set_cons_zero, List.set_cons_succ]
    refine wpAnyH_ready (rs := [8]) (by kernel_rfl) (by simp) ?_
    refine AllReadyH.cons (o := ⟨some 21, _, _, _, _, _⟩) rfl (fun K hK => ?_) (AllReadyH.nil)
    go_simp
    go_at_call 65
    refine HU.out.mono ?_
    rintro e v1 ⟨rfl, rfl⟩
    go_wp2_with fail
    refine hK.out _ _ (by first | assumption | rfl) (fun _ => ?_)
    clear hK K
    try simp only [Act.put, List.setIfInBounds_toArray, List.set_cons_zero, List.set_cons_succ]
    refine wpAnyH_take (i := 9) (oi := ⟨some 12, _, _, _, _, _⟩) (v := ?_) rfl (by kernel_rfl) (by kernel_rfl) (by kernel_rfl) (fun _ _ _ h => h) (Or.inl ⟨by rfl, ?_⟩) (by assumption) ?_
    rotate_left
    · intro w hSw; (try dsimp only at hSw); go_simp; (try with_reducible rfl)
    try simp only [Act.put, List.setIfInBounds_toArray, List.set_cons_zero, List.set_cons_succ]
    refine wpAnyH_take (i := 10) (oi := ⟨some 22, _, _, _, _, _⟩) (v := ?_) rfl (by kernel_rfl) (by kernel_rfl) (by kernel_rfl) (fun _ _ _ h => h) (Or.inl ⟨by rfl, ?_⟩) (by assumption) ?_
    rotate_left
    · intro w hSw; (try dsimp only at hSw); go_simp; (try with_reducible rfl)
    try simp only [Act.put, List.setIfInBounds_toArray, List.set_cons_zero, List.set_cons_succ]
    refine wpAnyH_take (i := 11) (oi := ⟨some 23, _, _, _, _, _⟩) (v := ?_) rfl (by kernel_rfl) (by kernel_rfl) (by kernel_rfl) (fun _ _ _ h => h) (Or.inl ⟨by rfl, ?_⟩) (by assumption) ?_
    rotate_left
    · intro w hSw; (try dsimp only at hSw); go_simp; (try with_reducible rfl)
    try simp only [Act.put, List.setIfInBounds_toArray, List.set_cons_zero, List.set_cons_succ]
    refine wpAnyH_take (i := 12) (oi := ⟨some 24, _, _, _, _, _⟩) (v := ?_) rfl (by kernel_rfl) (by kernel_rfl) (by kernel_rfl) (fun _ _ _ h => h) (Or.inl ⟨by rfl, ?_⟩) (by assumption) ?_
    rotate_left
    · intro w hSw; (try dsimp only at hSw); go_simp; (try with_reducible rfl)
    try simp only [Act.put, List.setIfInBounds_toArray, List.set_cons_zero, List.set_cons_succ]
    refine wpAnyH_take (i := 13) (oi := ⟨some 5, _, _, _, _, _⟩) (v := ?_) rfl (by kernel_rfl) (by kernel_rfl) (by kernel_rfl) (fun _ _ _ h => h) (Or.inl ⟨by rfl, ?_⟩) (by assumption) ?_
    rotate_left
    · intro w hSw; (try dsimp only at hSw); go_simp; (try with_reducible rfl)
    try simp only [Act.put, List.setIfInBounds_toArray, List.set_cons_zero, List.set_cons_succ]
    refine wpAnyH_take (i := 14) (oi := ⟨some 6, _, _, _, _, _⟩) (v := ?_) rfl (by kernel_rfl) (by kernel_rfl) (by kernel_rfl) (fun _ _ _ h => h) (Or.inl ⟨by rfl, ?_⟩) (by assumption) ?_
    rotate_left
    · intro w hSw; (try dsimp only at hSw); go_simp; (try with_reducible rfl)
    try simp only [Act.put, List.setIfInBounds_toArray, List.set_cons_zero, List.set_cons_succ]
    refine wpAnyH_take (i := 15) (oi := ⟨some 7, _, _, _, _, _⟩) (v := ?_) rfl (by kernel_rfl) (by kernel_rfl) (by kernel_rfl) (fun _ _ _ h => h) (Or.inl ⟨by rfl, ?_⟩) (by assumption) ?_
    rotate_left
    · intro w hSw; (try dsimp only at hSw); go_simp; (try with_reducible rfl)
    try simp only [Act.put, List.setIfInBounds_toArray, List.set_cons_zero, List.set_cons_succ]
    refine wpAnyH_done (by kernel_rfl) ?_ _
    try simp only [Act.put]
    go_wp2_with fail
    go_ret
    exact ⟨rfl, ⟨N2, false, HB.out.set 1 _, rfl⟩, HG.out.setCell 1 _⟩
  · have hres := numS_no HQ.out hgood
    rw [hres]
    clear hres
    by_cases he : er = 0
    · subst he
      have dm : decide (most < n) = true := by rw [decide_eq_true_eq]; omega
      clear hok hgood htop
      go_enter Tryd.func74, Tryd.ntmps74
      go_upto_region 3 with fail
      refine wp_region_held_drew (S := fun v => v = w.drew) (by kernel_rfl) rfl (fun _ => ?_)
      have x0 : w.drew.cell? ⟨b, 0, none⟩ = some (.slice A bs.length c) := x0
      have x1 : w.drew.cell? ⟨b, 1, none⟩ = some (.int .i64 at_) := x1
      have y2 : w.drew.frozen? ⟨b, 2, none⟩ = false := y2
      have x2 : w.drew.cell? ⟨b, 2, none⟩ = some (.bool false) := x2
      have HB : Hid (Blk w.drew b #[.slice A bs.length c, .int .i64 at_, .bool false] 104) := HB.out.drew
      generalize w.drew = v0 at *
      refine wpAnyH_take (i := 0) (oi := ⟨some 13, _, _, _, _, _⟩) (v := ?_) rfl (by kernel_rfl) (by kernel_rfl) (by kernel_rfl) (fun _ _ _ h => h) (Or.inl ⟨by rfl, ?_⟩) (by assumption) ?_
      rotate_left
      · intro w hSw; (try dsimp only at hSw); go_simp; (try with_reducible rfl)
      try simp only [Act.put, List.setIfInBounds_toArray, List.set_cons_zero, List.set_cons_succ]
      refine wpAnyH_take (i := 1) (oi := ⟨some 14, _, _, _, _, _⟩) (v := ?_) rfl (by kernel_rfl) (by kernel_rfl) (by kernel_rfl) (fun _ _ _ h => h) (Or.inl ⟨by rfl, ?_⟩) (by assumption) ?_
      rotate_left
      · intro w hSw; (try dsimp only at hSw); go_simp; (try with_reducible rfl)
      try simp only [Act.put, List.setIfInBounds_toArray, List.set_cons_zero, List.set_cons_succ]
      refine wpAnyH_take (i := 2) (oi := ⟨some 15, _, _, _, _, _⟩) (v := ?_) rfl (by kernel_rfl) (by kernel_rfl) (by kernel_rfl) (fun _ _ _ h => h) (Or.inl ⟨by rfl, ?_⟩) (by assumption) ?_
      rotate_left
      · intro w hSw; (try dsimp only at hSw); go_simp; (try with_reducible rfl)
      try simp only [Act.put, List.setIfInBounds_toArray, List.set_cons_zero, List.set_cons_succ]
      refine wpAnyH_take (i := 3) (oi := ⟨some 16, _, _, _, _, _⟩) (v := .slice A bs.length c) rfl (by kernel_rfl) (by kernel_rfl) (by kernel_rfl) (fun _ _ _ h => h) (Or.inl ⟨by rfl, ?_⟩) (by assumption) ?_
      · intro v hSv; subst hSv; go_simp
      try simp only [Act.put, List.setIfInBounds_toArray, List.set_cons_zero, List.set_cons_succ]
      refine wpAnyH_take (i := 4) (oi := ⟨some 17, _, _, _, _, _⟩) (v := ?_) rfl (by kernel_rfl) (by kernel_rfl) (by kernel_rfl) (fun _ _ _ h => h) (Or.inl ⟨by rfl, ?_⟩) (by assumption) ?_
      rotate_left
      · intro w hSw; (try dsimp only at hSw); go_simp; (try with_reducible rfl)
      try simp only [Act.put, List.setIfInBounds_toArray, List.set_cons_zero, List.set_cons_succ]
      refine wpAnyH_take (i := 5) (oi := ⟨some 18, _, _, _, _, _⟩) (v := ?_) rfl (by kernel_rfl) (by kernel_rfl) (by kernel_rfl) (fun _ _ _ h => h) (Or.inl ⟨by rfl, ?_⟩) (by assumption) ?_
      rotate_left
      · intro w hSw; (try dsimp only at hSw); go_simp; (try with_reducible rfl)
      try simp only [Act.put, List.setIfInBounds_toArray, List.set_cons_zero, List.set_cons_succ]
      refine wpAnyH_take (i := 6) (oi := ⟨some 19, _, _, _, _, _⟩) (v := ?_) rfl (by kernel_rfl) (by kernel_rfl) (by kernel_rfl) (fun _ _ _ h => h) (Or.inl ⟨by rfl, ?_⟩) (by assumption) ?_
      rotate_left
      · intro w hSw; (try dsimp only at hSw); go_simp; (try with_reducible rfl)
      try simp only [Act.put, List.setIfInBounds_toArray, List.set_cons_zero, List.set_cons_succ]
      refine wpAnyH_take (i := 7) (oi := ⟨some 20, _, _, _, _, _⟩) (v := .int .i64 at_) rfl (by kernel_rfl) (by kernel_rfl) (by kernel_rfl) (fun _ _ _ h => h) (Or.inl ⟨by rfl, ?_⟩) (by assumption) ?_
      · intro v hSv; subst hSv; go_simp
      try simp only [Act.put, List.setIfInBounds_toArray, List.set_cons_zero, List.set_cons_succ]
      refine wpAnyH_ready (rs := [8]) (by kernel_rfl) (by simp) ?_
      refine AllReadyH.cons (o := ⟨some 21, _, _, _, _, _⟩) rfl (fun K hK => ?_) (AllReadyH.nil)
      go_simp
      go_at_call 65
      refine HU.out.mono ?_
      rintro e v1 ⟨rfl, rfl⟩
      go_wp2_with fail
      refine hK.out _ _ (by first | assumption | rfl) (fun _ => ?_)
      clear hK K
      try simp only [Act.put, List.setIfInBounds_toArray, List.set_cons_zero, List.set_cons_succ]
      refine wpAnyH_take (i := 9) (oi := ⟨some 12, _, _, _, _, _⟩) (v := ?_) rfl (by kernel_rfl) (by kernel_rfl) (by kernel_rfl) (fun _ _ _ h => h) (Or.inl ⟨by rfl, ?_⟩) (by assumption) ?_
      rotate_left
      · intro w hSw; (try dsimp only at hSw); go_simp; (try with_reducible rfl)
      try simp only [Act.put, List.setIfInBounds_toArray, List.set_cons_zero, List.set_cons_succ]
      refine wpAnyH_take (i := 10) (oi := ⟨some 22, _, _, _, _, _⟩) (v := ?_) rfl (by kernel_rfl) (by kernel_rfl) (by kernel_rfl) (fun _ _ _ h => h) (Or.inl ⟨by rfl, ?_⟩) (by assumption) ?_
      rotate_left
      · intro w hSw; (try dsimp only at hSw); go_simp; (try with_reducible rfl)
      try simp only [Act.put, List.setIfInBounds_toArray, List.set_cons_zero, List.set_cons_succ]
      refine wpAnyH_take (i := 11) (oi := ⟨some 23, _, _, _, _, _⟩) (v := ?_) rfl (by kernel_rfl) (by kernel_rfl) (by kernel_rfl) (fun _ _ _ h => h) (Or.inl ⟨by rfl, ?_⟩) (by assumption) ?_
      rotate_left
      · intro w hSw; (try dsimp only at hSw); go_simp; (try with_reducible rfl)
      try simp only [Act.put, List.setIfInBounds_toArray, List.set_cons_zero, List.set_cons_succ]
      refine wpAnyH_take (i := 12) (oi := ⟨some 24, _, _, _, _, _⟩) (v := ?_) rfl (by kernel_rfl) (by kernel_rfl) (by kernel_rfl) (fun _ _ _ h => h) (Or.inl ⟨by rfl, ?_⟩) (by assumption) ?_
      rotate_left
      · intro w hSw; (try dsimp only at hSw); go_simp; (try with_reducible rfl)
      try simp only [Act.put, List.setIfInBounds_toArray, List.set_cons_zero, List.set_cons_succ]
      refine wpAnyH_take (i := 13) (oi := ⟨some 5, _, _, _, _, _⟩) (v := ?_) rfl (by kernel_rfl) (by kernel_rfl) (by kernel_rfl) (fun _ _ _ h => h) (Or.inl ⟨by rfl, ?_⟩) (by assumption) ?_
      rotate_left
      · intro w hSw; (try dsimp only at hSw); go_simp; (try with_reducible rfl)
      try simp only [Act.put, List.setIfInBounds_toArray, List.set_cons_zero, List.set_cons_succ]
      refine wpAnyH_take (i := 14) (oi := ⟨some 6, _, _, _, _, _⟩) (v := ?_) rfl (by kernel_rfl) (by kernel_rfl) (by kernel_rfl) (fun _ _ _ h => h) (Or.inl ⟨by rfl, ?_⟩) (by assumption) ?_
      rotate_left
      · intro w hSw; (try dsimp only at hSw); go_simp; (try with_reducible rfl)
      try simp only [Act.put, List.setIfInBounds_toArray, List.set_cons_zero, List.set_cons_succ]
      refine wpAnyH_take (i := 15) (oi := ⟨some 7, _, _, _, _, _⟩) (v := ?_) rfl (by kernel_rfl) (by kernel_rfl) (by kernel_rfl) (fun _ _ _ h => h) (Or.inl ⟨by rfl, ?_⟩) (by assumption) ?_
      rotate_left
      · intro w hSw; (try dsimp only at hSw); go_simp; (try with_reducible rfl)
      try simp only [Act.put, List.setIfInBounds_toArray, List.set_cons_zero, List.set_cons_succ]
      refine wpAnyH_done (by kernel_rfl) ?_ _
      try simp only [Act.put]
      go_wp2_with fail
      go_ret
      exact ⟨rfl, ⟨at_, true, HB.out.set 2 _, rfl⟩, HG.out.setCell 2 _⟩
    · have d0 : (er != 0) = true := by rw [bne_iff_ne]; exact he
      have d1 : (er == 0) = false := by rw [beq_eq_false_iff_ne]; exact he
      clear hok hgood htop he
      go_enter Tryd.func74, Tryd.ntmps74
      go_upto_region 3 with fail
      refine wp_region_held_drew (S := fun v => v = w.drew) (by kernel_rfl) rfl (fun _ => ?_)
      have x0 : w.drew.cell? ⟨b, 0, none⟩ = some (.slice A bs.length c) := x0
      have x1 : w.drew.cell? ⟨b, 1, none⟩ = some (.int .i64 at_) := x1
      have y2 : w.drew.frozen? ⟨b, 2, none⟩ = false := y2
      have x2 : w.drew.cell? ⟨b, 2, none⟩ = some (.bool false) := x2
      have HB : Hid (Blk w.drew b #[.slice A bs.length c, .int .i64 at_, .bool false] 104) := HB.out.drew
      generalize w.drew = v0 at *
      refine wpAnyH_take (i := 0) (oi := ⟨some 13, _, _, _, _, _⟩) (v := ?_) rfl (by kernel_rfl) (by kernel_rfl) (by kernel_rfl) (fun _ _ _ h => h) (Or.inl ⟨by rfl, ?_⟩) (by assumption) ?_
      rotate_left
      · intro w hSw; (try dsimp only at hSw); go_simp; (try with_reducible rfl)
      try simp only [Act.put, List.setIfInBounds_toArray, List.set_cons_zero, List.set_cons_succ]
      refine wpAnyH_take (i := 1) (oi := ⟨some 14, _, _, _, _, _⟩) (v := ?_) rfl (by kernel_rfl) (by kernel_rfl) (by kernel_rfl) (fun _ _ _ h => h) (Or.inl ⟨by rfl, ?_⟩) (by assumption) ?_
      rotate_left
      · intro w hSw; (try dsimp only at hSw); go_simp; (try with_reducible rfl)
      try simp only [Act.put, List.setIfInBounds_toArray, List.set_cons_zero, List.set_cons_succ]
      refine wpAnyH_take (i := 2) (oi := ⟨some 15, _, _, _, _, _⟩) (v := ?_) rfl (by kernel_rfl) (by kernel_rfl) (by kernel_rfl) (fun _ _ _ h => h) (Or.inl ⟨by rfl, ?_⟩) (by assumption) ?_
      rotate_left
      · intro w hSw; (try dsimp only at hSw); go_simp; (try with_reducible rfl)
      try simp only [Act.put, List.setIfInBounds_toArray, List.set_cons_zero, List.set_cons_succ]
      refine wpAnyH_take (i := 3) (oi := ⟨some 16, _, _, _, _, _⟩) (v := .slice A bs.length c) rfl (by kernel_rfl) (by kernel_rfl) (by kernel_rfl) (fun _ _ _ h => h) (Or.inl ⟨by rfl, ?_⟩) (by assumption) ?_
      · intro v hSv; subst hSv; go_simp
      try simp only [Act.put, List.setIfInBounds_toArray, List.set_cons_zero, List.set_cons_succ]
      refine wpAnyH_take (i := 4) (oi := ⟨some 17, _, _, _, _, _⟩) (v := ?_) rfl (by kernel_rfl) (by kernel_rfl) (by kernel_rfl) (fun _ _ _ h => h) (Or.inl ⟨by rfl, ?_⟩) (by assumption) ?_
      rotate_left
      · intro w hSw; (try dsimp only at hSw); go_simp; (try with_reducible rfl)
      try simp only [Act.put, List.setIfInBounds_toArray, List.set_cons_zero, List.set_cons_succ]
      refine wpAnyH_take (i := 5) (oi := ⟨some 18, _, _, _, _, _⟩) (v := ?_) rfl (by kernel_rfl) (by kernel_rfl) (by kernel_rfl) (fun _ _ _ h => h) (Or.inl ⟨by rfl, ?_⟩) (by assumption) ?_
      rotate_left
      · intro w hSw; (try dsimp only at hSw); go_simp; (try with_reducible rfl)
      try simp only [Act.put, List.setIfInBounds_toArray, List.set_cons_zero, List.set_cons_succ]
      refine wpAnyH_take (i := 6) (oi := ⟨some 19, _, _, _, _, _⟩) (v := ?_) rfl (by kernel_rfl) (by kernel_rfl) (by kernel_rfl) (fun _ _ _ h => h) (Or.inl ⟨by rfl, ?_⟩) (by assumption) ?_
      rotate_left
      · intro w hSw; (try dsimp only at hSw); go_simp; (try with_reducible rfl)
      try simp only [Act.put, List.setIfInBounds_toArray, List.set_cons_zero, List.set_cons_succ]
      refine wpAnyH_take (i := 7) (oi := ⟨some 20, _, _, _, _, _⟩) (v := .int .i64 at_) rfl (by kernel_rfl) (by kernel_rfl) (by kernel_rfl) (fun _ _ _ h => h) (Or.inl ⟨by rfl, ?_⟩) (by assumption) ?_
      · intro v hSv; subst hSv; go_simp
      try simp only [Act.put, List.setIfInBounds_toArray, List.set_cons_zero, List.set_cons_succ]
      refine wpAnyH_ready (rs := [8]) (by kernel_rfl) (by simp) ?_
      refine AllReadyH.cons (o := ⟨some 21, _, _, _, _, _⟩) rfl (fun K hK => ?_) (AllReadyH.nil)
      go_simp
      go_at_call 65
      refine HU.out.mono ?_
      rintro e v1 ⟨rfl, rfl⟩
      go_wp2_with fail
      refine hK.out _ _ (by first | assumption | rfl) (fun _ => ?_)
      clear hK K
      try simp only [Act.put, List.setIfInBounds_toArray, List.set_cons_zero, List.set_cons_succ]
      refine wpAnyH_take (i := 9) (oi := ⟨some 12, _, _, _, _, _⟩) (v := ?_) rfl (by kernel_rfl) (by kernel_rfl) (by kernel_rfl) (fun _ _ _ h => h) (Or.inl ⟨by rfl, ?_⟩) (by assumption) ?_
      rotate_left
      · intro w hSw; (try dsimp only at hSw); go_simp; (try with_reducible rfl)
      try simp only [Act.put, List.setIfInBounds_toArray, List.set_cons_zero, List.set_cons_succ]
      refine wpAnyH_take (i := 10) (oi := ⟨some 22, _, _, _, _, _⟩) (v := ?_) rfl (by kernel_rfl) (by kernel_rfl) (by kernel_rfl) (fun _ _ _ h => h) (Or.inl ⟨by rfl, ?_⟩) (by assumption) ?_
      rotate_left
      · intro w hSw; (try dsimp only at hSw); go_simp; (try with_reducible rfl)
      try simp only [Act.put, List.setIfInBounds_toArray, List.set_cons_zero, List.set_cons_succ]
      refine wpAnyH_take (i := 11) (oi := ⟨some 23, _, _, _, _, _⟩) (v := ?_) rfl (by kernel_rfl) (by kernel_rfl) (by kernel_rfl) (fun _ _ _ h => h) (Or.inl ⟨by rfl, ?_⟩) (by assumption) ?_
      rotate_left
      · intro w hSw; (try dsimp only at hSw); go_simp; (try with_reducible rfl)
      try simp only [Act.put, List.setIfInBounds_toArray, List.set_cons_zero, List.set_cons_succ]
      refine wpAnyH_take (i := 12) (oi := ⟨some 24, _, _, _, _, _⟩) (v := ?_) rfl (by kernel_rfl) (by kernel_rfl) (by kernel_rfl) (fun _ _ _ h => h) (Or.inl ⟨by rfl, ?_⟩) (by assumption) ?_
      rotate_left
      · intro w hSw; (try dsimp only at hSw); go_simp; (try with_reducible rfl)
      try simp only [Act.put, List.setIfInBounds_toArray, List.set_cons_zero, List.set_cons_succ]
      refine wpAnyH_take (i := 13) (oi := ⟨some 5, _, _, _, _, _⟩) (v := ?_) rfl (by kernel_rfl) (by kernel_rfl) (by kernel_rfl) (fun _ _ _ h => h) (Or.inl ⟨by rfl, ?_⟩) (by assumption) ?_
      rotate_left
      · intro w hSw; (try dsimp only at hSw); go_simp; (try with_reducible rfl)
      try simp only [Act.put, List.setIfInBounds_toArray, List.set_cons_zero, List.set_cons_succ]
      refine wpAnyH_take (i := 14) (oi := ⟨some 6, _, _, _, _, _⟩) (v := ?_) rfl (by kernel_rfl) (by kernel_rfl) (by kernel_rfl) (fun _ _ _ h => h) (Or.inl ⟨by rfl, ?_⟩) (by assumption) ?_
      rotate_left
      · intro w hSw; (try dsimp only at hSw); go_simp; (try with_reducible rfl)
      try simp only [Act.put, List.setIfInBounds_toArray, List.set_cons_zero, List.set_cons_succ]
      refine wpAnyH_take (i := 15) (oi := ⟨some 7, _, _, _, _, _⟩) (v := ?_) rfl (by kernel_rfl) (by kernel_rfl) (by kernel_rfl) (fun _ _ _ h => h) (Or.inl ⟨by rfl, ?_⟩) (by assumption) ?_
      rotate_left
      · intro w hSw; (try dsimp only at hSw); go_simp; (try with_reducible rfl)
      try simp only [Act.put, List.setIfInBounds_toArray, List.set_cons_zero, List.set_cons_succ]
      refine wpAnyH_done (by kernel_rfl) ?_ _
      try simp only [Act.put]
      go_wp2_with fail
      go_ret
      exact ⟨rfl, ⟨at_, true, HB.out.set 2 _, rfl⟩, HG.out.setCell 2 _⟩

set_option maxHeartbeats 8000000 in
set_option maxRecDepth 100000 in
theorem text_rd (b B : Nat) (A : Option Addr) (bs : List UInt8) (c : Nat) (s : Option Nat) (w : World) (hs : RdAt w b A bs c s) (hr : Reads w B 1 A bs.length (byteVals bs)) (hB : B ≤ w.heap.size)
    (hcap : bs.length ≤ c) (hl : bs.length ≤ 1000000) :
    Calls Tryd.prog 101 #[.pointer (some ⟨b, 0, none⟩)] w fun e w' => e = .returned (.string ⟨(txtS bs s).1.toArray⟩) ∧ RdAt w' b A bs c (txtS bs s).2 ∧ Chg (some b) w w' := by
  obtain ⟨at_, wr, hb, rfl⟩ := hs
  have x0 : w.cell? ⟨b, 0, none⟩ = some (.slice A bs.length c) := hb.cell 0
  have x1 : w.cell? ⟨b, 1, none⟩ = some (.int .i64 at_) := hb.cell 1
  have x2 : w.cell? ⟨b, 2, none⟩ = some (.bool wr) := hb.cell 2
  have HB := Lib.hid hb
  cases wr
  rotate_left
  · clear hb
    rw [if_pos rfl]
    go_enter Tryd.func101, Tryd.ntmps101
    go_wp2_with fail
    go_ret
    exact ⟨rfl, ⟨at_, true, HB.out, rfl⟩, Chg.refl _ _⟩
  rw [if_neg (by decide)]
  have HU := Lib.hid (bytes_any A bs c at_ 40 w.drew (hr.more hB).drew hcap hl (by decide))
  obtain ⟨l, nx, er, hq⟩ : ∃ l nx er, readB bs at_ 40 = (l, nx, er) := ⟨_, _, _, rfl⟩
  have hnn := readB_place bs at_ 40
  rw [hq] at HU hnn
  dsimp only at hnn
  have HQ := Lib.hid hq
  have HG : Hid (Chg (some b) w w.drew) := (Chg.refl _ _).drew
  have hblt : b < w.drew.heap.size := hb.lt
  clear hb hq hr
  by_cases he : er = 0
  · subst he
    have hres := txtS_ok HQ.out
    rw [hres]
    have hnx := (hnn rfl)
    obtain ⟨N2, hN2⟩ : ∃ N2 : Nat, nx = N2 := ⟨nx.toNat, by omega⟩
    subst hN2
    clear hres hnx hnn
    go_enter Tryd.func101, Tryd.ntmps101
    go_upto_region 3 with fail
    refine wp_region_held_drew (S := fun v => v.cell? ⟨b, 0, none⟩ = some (.slice A bs.length c) ∧ v.cell? ⟨b, 1, none⟩ = some (.int .i64 at_)) (by kernel_rfl) ⟨x0, x1⟩ (fun _ => ?_)
    have x0 : w.drew.cell? ⟨b, 0, none⟩ = some (.slice A bs.length c) := x0
    have x1 : w.drew.cell? ⟨b, 1, none⟩ = some (.int .i64 at_) := x1
    have HB : Hid (Blk w.drew b #[.slice A bs.length c, .int .i64 at_, .bool false] 104) := HB.out.drew
    generalize w.drew = v0 at *
    refine wpAnyH_take (i := 0) (oi := ⟨some 11, _, _, _, _, _⟩) (v := ?_) rfl (by kernel_rfl) (by kernel_rfl) (by kernel_rfl) (fun _ _ _ h => h) (Or.inl ⟨by rfl, ?_⟩) (by assumption) ?_
    rotate_left
    · intro w hSw; (try dsimp only at hSw); go_simp; (try with_reducible rfl)
    try simp only [Act.put, List.setIfInBounds_toArray, List.set_cons_zero, List.set_cons_succ]
    refine wpAnyH_take (i := 1) (oi := ⟨some 12, _, _, _, _, _⟩) (v := ?_) rfl (by kernel_rfl) (by kernel_rfl) (by kernel_rfl) (fun _ _ _ h => h) (Or.inl ⟨by rfl, ?_⟩) (by assumption) ?_
    rotate_left
    · intro w hSw; (try dsimp only at hSw); go_simp; (try with_reducible rfl)
    try simp only [Act.put, List.setIfInBounds_toArray, List.set_cons_zero, List.set_cons_succ]
    refine wpAnyH_take (i := 2) (oi := ⟨some 13, _, _, _, _, _⟩) (v := ?_) rfl (by kernel_rfl) (by kernel_rfl) (by kernel_rfl) (fun _ _ _ h => h) (Or.inl ⟨by rfl, ?_⟩) (by assumption) ?_
    rotate_left
    · intro w hSw; (try dsimp only at hSw); go_simp; (try with_reducible rfl)
    try simp only [Act.put, List.setIfInBounds_toArray, List.set_cons_zero, List.set_cons_succ]
    refine wpAnyH_take (i := 3) (oi := ⟨some 14, _, _, _, _, _⟩) (v := .slice A bs.length c) rfl (by kernel_rfl) (by kernel_rfl) (by kernel_rfl) (fun _ _ _ h => h) (Or.inl ⟨by rfl, ?_⟩) (by assumption) ?_
    · intro v hSv; obtain ⟨q0, q1⟩ := hSv; go_simp
    try simp only [Act.put, List.setIfInBounds_toArray, List.set_cons_zero, List.set_cons_succ]
    refine wpAnyH_take (i := 4) (oi := ⟨some 15, _, _, _, _, _⟩) (v := ?_) rfl (by kernel_rfl) (by kernel_rfl) (by kernel_rfl) (fun _ _ _ h => h) (Or.inl ⟨by rfl, ?_⟩) (by assumption) ?_
    rotate_left
    · intro w hSw; (try dsimp only at hSw); go_simp; (try with_reducible rfl)
    try simp only [Act.put, List.setIfInBounds_toArray, List.set_cons_zero, List.set_cons_succ]
    refine wpAnyH_take (i := 5) (oi := ⟨some 16, _, _, _, _, _⟩) (v := ?_) rfl (by kernel_rfl) (by kernel_rfl) (by kernel_rfl) (fun _ _ _ h => h) (Or.inl ⟨by rfl, ?_⟩) (by assumption) ?_
    rotate_left
    · intro w hSw; (try dsimp only at hSw); go_simp; (try with_reducible rfl)
    try simp only [Act.put, List.setIfInBounds_toArray, List.set_cons_zero, List.set_cons_succ]
    refine wpAnyH_take (i := 6) (oi := ⟨some 17, _, _, _, _, _⟩) (v := ?_) rfl (by kernel_rfl) (by kernel_rfl) (by kernel_rfl) (fun _ _ _ h => h) (Or.inl ⟨by rfl, ?_⟩) (by assumption) ?_
    rotate_left
    · intro w hSw; (try dsimp only at hSw); go_simp; (try with_reducible rfl)
    try simp only [Act.put, List.setIfInBounds_toArray, List.set_cons_zero, List.set_cons_succ]
    refine wpAnyH_take (i := 7) (oi := ⟨some 18, _, _, _, _, _⟩) (v := .int .i64 at_) rfl (by kernel_rfl) (by kernel_rfl) (by kernel_rfl) (fun _ _ _ h => h) (Or.inl ⟨by rfl, ?_⟩) (by assumption) ?_
    · intro v hSv; obtain ⟨q0, q1⟩ := hSv; go_simp
    try simp only [Act.put, List.setIfInBounds_toArray, List.set_cons_zero, List.set_cons_succ]
    refine wpAnyH_ready (rs := [8]) (by kernel_rfl) (by simp) ?_
    refine AllReadyH.cons (o := ⟨some 19, _, _, _, _, _⟩) rfl (fun K hK => ?_) (AllReadyH.nil)
    go_simp
    go_at_call 66
    refine HU.out.mono ?_
    rintro e v1 ⟨A1, n1, c1, rfl, hn1, hown1, hb1⟩
    have HB1 := Lib.hid (HB.out.chg (c := none) ⟨hb1.os, hb1.tape, hb1.output, hb1.size, fun k hk _ => hb1.block k hk⟩ (by simp))
    have HG1 : Hid (Chg (some b) w v1) := HG.out.trans (Chg.weaken ⟨hb1.os, hb1.tape, hb1.output, hb1.size, fun k hk _ => hb1.block k hk⟩)
    have hcv := conv_own v1 hown1
    have z1 : v1.frozen? ⟨b, 1, none⟩ = false := HB1.out.frozen 1
    have z2 : v1.frozen? ⟨b, 2, none⟩ = false := HB1.out.frozen 2
    have w1 : v1.cell? ⟨b, 1, none⟩ = some (.int .i64 at_) := HB1.out.cell 1
    have w2 : v1.cell? ⟨b, 2, none⟩ = some (.bool false) := HB1.out.cell 2
    dsimp only at hcv
    have HCV : Hid (∀ u, (Reads u u.heap.size 1 A1 n1 (byteVals l)) → (convert 22 9 (.slice A1 n1 c1)).run Tryd.prog u = .ok (.string ⟨l.toArray⟩) u) := fun u hu => conv_reads u hu
    have HOW := Lib.hid hown1
    clear hown1 hb1 hn1 hcv
    go_wp2_with fail
    refine hK.out _ _ ⟨HB1.out.cell 0, HB1.out.cell 1⟩ (fun _ => ?_)
    clear hK K
    try simp only [Act.put, List.setIfInBounds_toArray, List.set_cons_zero, List.set_cons_succ]
    refine wpAnyH_take (i := 9) (oi := ⟨some 10, _, _, _, _, _⟩) (v := ?_) rfl (by kernel_rfl) (by kernel_rfl) (by kernel_rfl) (fun _ _ _ h => h) (Or.inl ⟨by rfl, ?_⟩) (by assumption) ?_
    rotate_left
    · intro w hSw; (try dsimp only at hSw); go_simp; (try with_reducible rfl)
    try simp only [Act.put, List.setIfInBounds_toArray, List.set_cons_zero, List.set_cons_succ]
    refine wpAnyH_take (i := 10) (oi := ⟨some 20, _, _, _, _, _⟩) (v := ?_) rfl (by kernel_rfl) (by kernel_rfl) (by kernel_rfl) (fun _ _ _ h => h) (Or.inl ⟨by rfl, ?_⟩) (by assumption) ?_
    rotate_left
    · intro w hSw; (try dsimp only at hSw); go_simp; (try with_reducible rfl)
    try simp only [Act.put, List.setIfInBounds_toArray, List.set_cons_zero, List.set_cons_succ]
    refine wpAnyH_take (i := 11) (oi := ⟨some 21, _, _, _, _, _⟩) (v := ?_) rfl (by kernel_rfl) (by kernel_rfl) (by kernel_rfl) (fun _ _ _ h => h) (Or.inl ⟨by rfl, ?_⟩) (by assumption) ?_
    rotate_left
    · intro w hSw; (try dsimp only at hSw); go_simp; (try with_reducible rfl)
    try simp only [Act.put, List.setIfInBounds_toArray, List.set_cons_zero, List.set_cons_succ]
    refine wpAnyH_take (i := 12) (oi := ⟨some 22, _, _, _, _, _⟩) (v := ?_) rfl (by kernel_rfl) (by kernel_rfl) (by kernel_rfl) (fun _ _ _ h => h) (Or.inl ⟨by rfl, ?_⟩) (by assumption) ?_
    rotate_left
    · intro w hSw; (try dsimp only at hSw); go_simp; (try with_reducible rfl)
    try simp only [Act.put, List.setIfInBounds_toArray, List.set_cons_zero, List.set_cons_succ]
    refine wpAnyH_take (i := 13) (oi := ⟨some 3, _, _, _, _, _⟩) (v := ?_) rfl (by kernel_rfl) (by kernel_rfl) (by kernel_rfl) (fun _ _ _ h => h) (Or.inl ⟨by rfl, ?_⟩) (by assumption) ?_
    rotate_left
    · intro w hSw; (try dsimp only at hSw); go_simp; (try with_reducible rfl)
    try simp only [Act.put, List.setIfInBounds_toArray, List.set_cons_zero, List.set_cons_succ]
    refine wpAnyH_take (i := 14) (oi := ⟨some 4, _, _, _, _, _⟩) (v := ?_) rfl (by kernel_rfl) (by kernel_rfl) (by kernel_rfl) (fun _ _ _ h => h) (Or.inl ⟨by rfl, ?_⟩) (by assumption) ?_
    rotate_left
    · intro w hSw; (try dsimp only at hSw); go_simp; (try with_reducible rfl)
    try simp only [Act.put, List.setIfInBounds_toArray, List.set_cons_zero, List.set_cons_succ]
    refine wpAnyH_take (i := 15) (oi := ⟨some 5, _, _, _, _, _⟩) (v := ?_) rfl (by kernel_rfl) (by kernel_rfl) (by kernel_rfl) (fun _ _ _ h => h) (Or.inl ⟨by rfl, ?_⟩) (by assumption) ?_
    rotate_left
    · intro w hSw; (try dsimp only at hSw); go_simp; (try with_reducible rfl)
    try simp only [Act.put, List.setIfInBounds_toArray, List.set_cons_zero, List.set_cons_succ]
    refine wpAnyH_done (by kernel_rfl) ?_ _
    try simp only [Act.put]
    have hgs : Chg (some b) v1 (v1.setCell ⟨b, 1, none⟩ (.int .i64 N2)) := (Chg.refl _ _).setCell 1 _
    have hkp := World.ownsRow.kept HOW.out hgs (.inr (by intro hh; have h1 := (HOW.out.lt b hh).1; omega))
    have hcx := conv_own _ hkp
    clear hgs hkp
    go_wp2_with fail
    go_ret
    exact ⟨rfl, ⟨N2, false, HB1.out.set 1 _, rfl⟩, HG1.out.setCell 1 _⟩
  · have hres := txtS_no HQ.out he
    rw [hres]
    have d0 : (er != 0) = true := by rw [bne_iff_ne]; exact he
    have d1 : (er == 0) = false := by rw [beq_eq_false_iff_ne]; exact he
    clear hres he hnn
    go_enter Tryd.func101, Tryd.ntmps101
    go_upto_region 3 with fail
    refine wp_region_held_drew (S := fun v => v.cell? ⟨b, 0, none⟩ = some (.slice A bs.length c) ∧ v.cell? ⟨b, 1, none⟩ = some (.int .i64 at_)) (by kernel_rfl) ⟨x0, x1⟩ (fun _ => ?_)
    have x0 : w.drew.cell? ⟨b, 0, none⟩ = some (.slice A bs.length c) := x0
    have x1 : w.drew.cell? ⟨b, 1, none⟩ = some (.int .i64 at_) := x1
    have HB : Hid (Blk w.drew b #[.slice A bs.length c, .int .i64 at_, .bool false] 104) := HB.out.drew
    generalize w.drew = v0 at *
    refine wpAnyH_take (i := 0) (oi := ⟨some 11, _, _, _, _, _⟩) (v := ?_) rfl (by kernel_rfl) (by kernel_rfl) (by kernel_rfl) (fun _ _ _ h => h) (Or.inl ⟨by rfl, ?_⟩) (by assumption) ?_
    rotate_left
    · intro w hSw; (try dsimp only at hSw); go_simp; (try with_reducible rfl)
    try simp only [Act.put, List.setIfInBounds_toArray, List.set_cons_zero, List.set_cons_succ]
    refine wpAnyH_take (i := 1) (oi := ⟨some 12, _, _, _, _, _⟩) (v := ?_) rfl (by kernel_rfl) (by kernel_rfl) (by kernel_rfl) (fun _ _ _ h => h) (Or.inl ⟨by rfl, ?_⟩) (by assumption) ?_
    rotate_left
    · intro w hSw; (try dsimp only at hSw); go_simp; (try with_reducible rfl)
    try simp only [Act.put, List.setIfInBounds_toArray, List.set_cons_zero, List.set_cons_succ]
    refine wpAnyH_take (i := 2) (oi := ⟨some 13, _, _, _, _, _⟩) (v := ?_) rfl (by kernel_rfl) (by kernel_rfl) (by kernel_rfl) (fun _ _ _ h => h) (Or.inl ⟨by rfl, ?_⟩) (by assumption) ?_
    rotate_left
    · intro w hSw; (try dsimp only at hSw); go_simp; (try with_reducible rfl)
    try simp only [Act.put, List.setIfInBounds_toArray, List.set_cons_zero, List.set_cons_succ]
    refine wpAnyH_take (i := 3) (oi := ⟨some 14, _, _, _, _, _⟩) (v := .slice A bs.length c) rfl (by kernel_rfl) (by kernel_rfl) (by kernel_rfl) (fun _ _ _ h => h) (Or.inl ⟨by rfl, ?_⟩) (by assumption) ?_
    · intro v hSv; obtain ⟨q0, q1⟩ := hSv; go_simp
    try simp only [Act.put, List.setIfInBounds_toArray, List.set_cons_zero, List.set_cons_succ]
    refine wpAnyH_take (i := 4) (oi := ⟨some 15, _, _, _, _, _⟩) (v := ?_) rfl (by kernel_rfl) (by kernel_rfl) (by kernel_rfl) (fun _ _ _ h => h) (Or.inl ⟨by rfl, ?_⟩) (by assumption) ?_
    rotate_left
    · intro w hSw; (try dsimp only at hSw); go_simp; (try with_reducible rfl)
    try simp only [Act.put, List.setIfInBounds_toArray, List.set_cons_zero, List.set_cons_succ]
    refine wpAnyH_take (i := 5) (oi := ⟨some 16, _, _, _, _, _⟩) (v := ?_) rfl (by kernel_rfl) (by kernel_rfl) (by kernel_rfl) (fun _ _ _ h => h) (Or.inl ⟨by rfl, ?_⟩) (by assumption) ?_
    rotate_left
    · intro w hSw; (try dsimp only at hSw); go_simp; (try with_reducible rfl)
    try simp only [Act.put, List.setIfInBounds_toArray, List.set_cons_zero, List.set_cons_succ]
    refine wpAnyH_take (i := 6) (oi := ⟨some 17, _, _, _, _, _⟩) (v := ?_) rfl (by kernel_rfl) (by kernel_rfl) (by kernel_rfl) (fun _ _ _ h => h) (Or.inl ⟨by rfl, ?_⟩) (by assumption) ?_
    rotate_left
    · intro w hSw; (try dsimp only at hSw); go_simp; (try with_reducible rfl)
    try simp only [Act.put, List.setIfInBounds_toArray, List.set_cons_zero, List.set_cons_succ]
    refine wpAnyH_take (i := 7) (oi := ⟨some 18, _, _, _, _, _⟩) (v := .int .i64 at_) rfl (by kernel_rfl) (by kernel_rfl) (by kernel_rfl) (fun _ _ _ h => h) (Or.inl ⟨by rfl, ?_⟩) (by assumption) ?_
    · intro v hSv; obtain ⟨q0, q1⟩ := hSv; go_simp
    try simp only [Act.put, List.setIfInBounds_toArray, List.set_cons_zero, List.set_cons_succ]
    refine wpAnyH_ready (rs := [8]) (by kernel_rfl) (by simp) ?_
    refine AllReadyH.cons (o := ⟨some 19, _, _, _, _, _⟩) rfl (fun K hK => ?_) (AllReadyH.nil)
    go_simp
    go_at_call 66
    refine HU.out.mono ?_
    rintro e v1 ⟨A1, n1, c1, rfl, hn1, hown1, hb1⟩
    have HB1 := Lib.hid (HB.out.chg (c := none) ⟨hb1.os, hb1.tape, hb1.output, hb1.size, fun k hk _ => hb1.block k hk⟩ (by simp))
    have HG1 : Hid (Chg (some b) w v1) := HG.out.trans (Chg.weaken ⟨hb1.os, hb1.tape, hb1.output, hb1.size, fun k hk _ => hb1.block k hk⟩)
    have hcv := conv_own v1 hown1
    have z1 : v1.frozen? ⟨b, 1, none⟩ = false := HB1.out.frozen 1
    have z2 : v1.frozen? ⟨b, 2, none⟩ = false := HB1.out.frozen 2
    have w1 : v1.cell? ⟨b, 1, none⟩ = some (.int .i64 at_) := HB1.out.cell 1
    have w2 : v1.cell? ⟨b, 2, none⟩ = some (.bool false) := HB1.out.cell 2
    dsimp only at hcv
    have HCV : Hid (∀ u, (Reads u u.heap.size 1 A1 n1 (byteVals l)) → (convert 22 9 (.slice A1 n1 c1)).run Tryd.prog u = .ok (.string ⟨l.toArray⟩) u) := fun u hu => conv_reads u hu
    have HOW := Lib.hid hown1
    clear hown1 hb1 hn1 hcv
    go_wp2_with fail
    refine hK.out _ _ ⟨HB1.out.cell 0, HB1.out.cell 1⟩ (fun _ => ?_)
    clear hK K
    try simp only [Act.put, List.setIfInBounds_toArray, List.set_cons_zero, List.set_cons_succ]
    refine wpAnyH_take (i := 9) (oi := ⟨some 10, _, _, _, _, _⟩) (v := ?_) rfl (by kernel_rfl) (by kernel_rfl) (by kernel_rfl) (fun _ _ _ h => h) (Or.inl ⟨by rfl, ?_⟩) (by assumption) ?_
    rotate_left
    · intro w hSw; (try dsimp only at hSw); go_simp; (try with_reducible rfl)
    try simp only [Act.put, List.setIfInBounds_toArray, List.set_cons_zero, List.set_cons_succ]
    refine wpAnyH_take (i := 10) (oi := ⟨some 20, _, _, _, _, _⟩) (v := ?_) rfl (by kernel_rfl) (by kernel_rfl) (by kernel_rfl) (fun _ _ _ h => h) (Or.inl ⟨by rfl, ?_⟩) (by assumption) ?_
    rotate_left
    · intro w hSw; (try dsimp only at hSw); go_simp; (try with_reducible rfl)
    try simp only [Act.put, List.setIfInBounds_toArray, List.set_cons_zero, List.set_cons_succ]
    refine wpAnyH_take (i := 11) (oi := ⟨some 21, _, _, _, _, _⟩) (v := ?_) rfl (by kernel_rfl) (by kernel_rfl) (by kernel_rfl) (fun _ _ _ h => h) (Or.inl ⟨by rfl, ?_⟩) (by assumption) ?_
    rotate_left
    · intro w hSw; (try dsimp only at hSw); go_simp; (try with_reducible rfl)
    try simp only [Act.put, List.setIfInBounds_toArray, List.set_cons_zero, List.set_cons_succ]
    refine wpAnyH_take (i := 12) (oi := ⟨some 22, _, _, _, _, _⟩) (v := ?_) rfl (by kernel_rfl) (by kernel_rfl) (by kernel_rfl) (fun _ _ _ h => h) (Or.inl ⟨by rfl, ?_⟩) (by assumption) ?_
    rotate_left
    · intro w hSw; (try dsimp only at hSw); go_simp; (try with_reducible rfl)
    try simp only [Act.put, List.setIfInBounds_toArray, List.set_cons_zero, List.set_cons_succ]
    refine wpAnyH_take (i := 13) (oi := ⟨some 3, _, _, _, _, _⟩) (v := ?_) rfl (by kernel_rfl) (by kernel_rfl) (by kernel_rfl) (fun _ _ _ h => h) (Or.inl ⟨by rfl, ?_⟩) (by assumption) ?_
    rotate_left
    · intro w hSw; (try dsimp only at hSw); go_simp; (try with_reducible rfl)
    try simp only [Act.put, List.setIfInBounds_toArray, List.set_cons_zero, List.set_cons_succ]
    refine wpAnyH_take (i := 14) (oi := ⟨some 4, _, _, _, _, _⟩) (v := ?_) rfl (by kernel_rfl) (by kernel_rfl) (by kernel_rfl) (fun _ _ _ h => h) (Or.inl ⟨by rfl, ?_⟩) (by assumption) ?_
    rotate_left
    · intro w hSw; (try dsimp only at hSw); go_simp; (try with_reducible rfl)
    try simp only [Act.put, List.setIfInBounds_toArray, List.set_cons_zero, List.set_cons_succ]
    refine wpAnyH_take (i := 15) (oi := ⟨some 5, _, _, _, _, _⟩) (v := ?_) rfl (by kernel_rfl) (by kernel_rfl) (by kernel_rfl) (fun _ _ _ h => h) (Or.inl ⟨by rfl, ?_⟩) (by assumption) ?_
    rotate_left
    · intro w hSw; (try dsimp only at hSw); go_simp; (try with_reducible rfl)
    try simp only [Act.put, List.setIfInBounds_toArray, List.set_cons_zero, List.set_cons_succ]
    refine wpAnyH_done (by kernel_rfl) ?_ _
    try simp only [Act.put]
    go_wp2_with fail
    go_ret
    exact ⟨rfl, ⟨at_, true, HB1.out.set 2 _, rfl⟩, HG1.out.setCell 2 _⟩

theorem RdAt.chg {w w' : World} {b : Nat} {d : Option Nat} {A : Option Addr} {bs : List UInt8} {c : Nat} {s : Option Nat} (h : RdAt w b A bs c s) (g : Chg d w w') (hd : some b ≠ d) : RdAt w' b A bs c s := by
  obtain ⟨a, r, h1, h2⟩ := h
  exact ⟨a, r, h1.chg g hd, h2⟩
theorem Tryd.results75 : Tryd.f75.results = #[.cell 2 61] := by kernel_rfl

set_option maxHeartbeats 8000000 in
set_option maxRecDepth 100000 in
theorem instr_any (b B : Nat) (A : Option Addr) (bs : List UInt8) (c : Nat) (s : Option Nat) (w : World) (hs : RdAt w b A bs c s) (hr : Reads w B 1 A bs.length (byteVals bs)) (hB : B ≤ b) (hbw : b < w.heap.size)
    (hcap : bs.length ≤ c) (hl : bs.length ≤ 1000000) :
    Calls Tryd.prog 75 #[.pointer (some ⟨b, 0, none⟩)] w fun e w' => e = .returned (.agg (insCells (insS bs s).1).toArray) ∧ RdAt w' b A bs c (insS bs s).2 ∧ Chg (some b) w w' := by
  have HR : Hid (∀ v, Chg (some b) w v → Reads v B 1 A bs.length (byteVals bs)) := fun v g => hr.grown g (by omega) (fun g hg => by injection hg with hg; omega)
  have HN : Hid (∀ (t : Option Nat) (m : Nat) (v : World), m ≤ 9223372036854775807 → RdAt v b A bs c t → Chg (some b) w v → Calls Tryd.prog 74 #[.pointer (some ⟨b, 0, none⟩), .int .u64 m] v fun e w' => e = .returned (.int .i64 (numS bs m t).1) ∧ RdAt w' b A bs c (numS bs m t).2 ∧ Chg (some b) v w') :=
    fun t m v hm h g => number_any b B A bs c t m v h (HR.out v g) (by have := g.size; omega) hcap hl hm
  have HT : Hid (∀ (t : Option Nat) (v : World), RdAt v b A bs c t → Chg (some b) w v → Calls Tryd.prog 101 #[.pointer (some ⟨b, 0, none⟩)] v fun e w' => e = .returned (.string ⟨(txtS bs t).1.toArray⟩) ∧ RdAt w' b A bs c (txtS bs t).2 ∧ Chg (some b) v w') :=
    fun t v h g => text_rd b B A bs c t v h (HR.out v g) (by have := g.size; omega) hcap hl
  have HI : Hid (insS bs s = (⟨(numS bs 255 s).1, (txtS bs (numS bs 255 s).2).1, (txtS bs (txtS bs (numS bs 255 s).2).2).1, (txtS bs (txtS bs (txtS bs (numS bs 255 s).2).2).2).1, (numS bs 2000 (txtS bs (txtS bs (txtS bs (numS bs 255 s).2).2).2).2).1, (numS bs 2000 (numS bs 2000 (txtS bs (txtS bs (txtS bs (numS bs 255 s).2).2).2).2).2).1⟩, (numS bs 2000 (numS bs 2000 (txtS bs (txtS bs (txtS bs (numS bs 255 s).2).2).2).2).2).2)) := rfl
  have HS := Lib.hid hs
  have hlo := numS_le bs 255 s
  generalize insS bs s = R at *
  obtain ⟨c1, s1, e1⟩ : ∃ x y, numS bs 255 s = (x, y) := ⟨_, _, rfl⟩
  rw [e1] at HI hlo
  dsimp only at HI hlo
  obtain ⟨c2, s2, e2⟩ : ∃ x y, txtS bs s1 = (x, y) := ⟨_, _, rfl⟩
  rw [e2] at HI
  dsimp only at HI
  obtain ⟨c3, s3, e3⟩ : ∃ x y, txtS bs s2 = (x, y) := ⟨_, _, rfl⟩
  rw [e3] at HI
  dsimp only at HI
  obtain ⟨c4, s4, e4⟩ : ∃ x y, txtS bs s3 = (x, y) := ⟨_, _, rfl⟩
  rw [e4] at HI
  dsimp only at HI
  obtain ⟨c5, s5, e5⟩ : ∃ x y, numS bs 2000 s4 = (x, y) := ⟨_, _, rfl⟩
  rw [e5] at HI
  dsimp only at HI
  obtain ⟨c6, s6, e6⟩ : ∃ x y, numS bs 2000 s5 = (x, y) := ⟨_, _, rfl⟩
  rw [e6] at HI
  dsimp only at HI
  have HN1 := Lib.hid (fun v => HN.out s 255 v (by decide))
  have HT2 := Lib.hid (fun v => HT.out s1 v)
  have HT3 := Lib.hid (fun v => HT.out s2 v)
  have HT4 := Lib.hid (fun v => HT.out s3 v)
  have HN5 := Lib.hid (fun v => HN.out s4 2000 v (by decide))
  have HN6 := Lib.hid (fun v => HN.out s5 2000 v (by decide))
  rw [e1] at HN1
  rw [e2] at HT2
  rw [e3] at HT3
  rw [e4] at HT4
  rw [e5] at HN5
  rw [e6] at HN6
  dsimp only at HN1 HT2 HT3 HT4 HN5 HN6
  rw [HI.out]
  unfold insCells
  dsimp only
  clear HI e1 e2 e3 e4 e5 e6 hs hr HN HT HR
  have hw8 : IntKind.u8.wrap (c1 : Int) = (c1 : Int) := by rw [IntKind.wrap_u8]; omega
  have hbne : b ≠ w.heap.size := by omega
  clear hlo
  go_enter Tryd.func75, Tryd.ntmps75
  go_upto_region 1 with fail
  obtain ⟨zc, hzc⟩ : ∃ zc : Array Value, zc = #[.int .u8 0, .string ⟨#[]⟩, .string ⟨#[]⟩, .string ⟨#[]⟩, .int .i64 0, .int .i64 0] := ⟨_, rfl⟩
  rw [← hzc]
  have HG0 := Lib.hid ((Chg.refl (some b) w).alloc (.cells zc 61 (0, 0)))
  have HS0 := Lib.hid (HS.out.chg ((Chg.refl none w).alloc (.cells zc 61 (0, 0))) (by simp))
  have HZ0 := Lib.hid (blk_newAt w zc 61 rfl)
  have HW0 : Hid (w.heap.size < (w.alloc (.cells zc 61 (0, 0))).heap.size) := by show _ < _; simp
  generalize w.alloc (.cells zc 61 (0, 0)) = v0 at *
  have HBN := Lib.hid hbne
  have HZS : Hid (zc.size = 6) := by rw [hzc]; rfl
  clear hbne hzc HS hbw
  generalize hP : w.heap.size = P0 at *
  go_wp2_with fail
  refine (HN1.out _ HS0.out HG0.out).mono ?_
  rintro e v1 ⟨rfl, hs1, hg1⟩
  have HS1 := Lib.hid hs1
  have HG1 := Lib.hid (HG0.out.trans hg1)
  have HZ1 := Lib.hid (HZ0.out.chg hg1 (by simp; exact fun h => HBN.out h.symm))
  clear hs1 hg1
  go_wp2_with fail
  refine (HT2.out _ HS1.out HG1.out).mono ?_
  rintro e v2 ⟨rfl, hs2, hg2⟩
  have HS2 := Lib.hid hs2
  have HG2 := Lib.hid (HG1.out.trans hg2)
  have HZ2 := Lib.hid (HZ1.out.chg hg2 (by simp; exact fun h => HBN.out h.symm))
  clear hs2 hg2
  go_wp2_with fail
  refine (HT3.out _ HS2.out HG2.out).mono ?_
  rintro e v3 ⟨rfl, hs3, hg3⟩
  have HS3 := Lib.hid hs3
  have HG3 := Lib.hid (HG2.out.trans hg3)
  have HZ3 := Lib.hid (HZ2.out.chg hg3 (by simp; exact fun h => HBN.out h.symm))
  clear hs3 hg3
  go_wp2_with fail
  refine (HT4.out _ HS3.out HG3.out).mono ?_
  rintro e v4 ⟨rfl, hs4, hg4⟩
  have HS4 := Lib.hid hs4
  have HG4 := Lib.hid (HG3.out.trans hg4)
  have HZ4 := Lib.hid (HZ3.out.chg hg4 (by simp; exact fun h => HBN.out h.symm))
  clear hs4 hg4
  go_wp2_with fail
  refine (HN5.out _ HS4.out HG4.out).mono ?_
  rintro e v5 ⟨rfl, hs5, hg5⟩
  have HS5 := Lib.hid hs5
  have HG5 := Lib.hid (HG4.out.trans hg5)
  have HZ5 := Lib.hid (HZ4.out.chg hg5 (by simp; exact fun h => HBN.out h.symm))
  clear hs5 hg5
  go_wp2_with fail
  refine (HN6.out _ HS5.out HG5.out).mono ?_
  rintro e v6 ⟨rfl, hs6, hg6⟩
  have HS6 := Lib.hid hs6
  have HG6 := Lib.hid (HG5.out.trans hg6)
  have HZ6 := Lib.hid (HZ5.out.chg hg6 (by simp; exact fun h => HBN.out h.symm))
  clear hs6 hg6
  have HONE : Hid ((#[.int .u8 c1, .string ⟨c2.toArray⟩, .string ⟨c3.toArray⟩, .string ⟨c4.toArray⟩, .int .i64 c5, .int .i64 c6] : Array Value).all (·.oneCell') = true) := by show _ = _; simp [Value.oneCell']
  have HINF : Hid ((Tryd.prog.info? 61).map (·.size) = some 6) := by show _ = _; kernel_rfl
  have hgr : Chg (some P0) v6 (v6.setRow P0 #[.int .u8 c1, .string ⟨c2.toArray⟩, .string ⟨c3.toArray⟩, .string ⟨c4.toArray⟩, .int .i64 c5, .int .i64 c6]) := ⟨rfl, rfl, rfl, by simp [World.setRow], fun i _ hn => setRow_other _ _ i _ (by simpa using hn)⟩
  have HGR := Lib.hid hgr
  have HPW : Hid (w.heap.size ≤ P0) := Nat.le_of_eq hP
  clear hgr hP
  go_wp2_with (refine wpList_store_row rfl 61 _ _ rfl P0 #[.int .u8 c1, .string ⟨c2.toArray⟩, .string ⟨c3.toArray⟩, .string ⟨c4.toArray⟩, .int .i64 c5, .int .i64 c6] rfl rfl 61 zc HZ6.out HINF.out HZS.out HONE.out ?_)
  refine bodyPost_ret (results_cell_row (p := 2) (ty := 61) Tryd.results75 _ _ P0 61 #[.int .u8 c1, .string ⟨c2.toArray⟩, .string ⟨c3.toArray⟩, .string ⟨c4.toArray⟩, .int .i64 c5, .int .i64 c6] (0, 0) _ rfl (setRow_heap _ _ _ _ _ _ HZ6.out) Tryd.underlying61 rfl HINF.out) rfl ⟨rfl, ?_, ?_⟩
  · exact HS6.out.chg HGR.out (by simp; exact HBN.out)
  · exact Chg.own (b := P0) HG6.out HGR.out HPW.out

end Go.Proofs.YtglfakglcoffkaaDoor
