/-
  Package adverts: Below.
-/
import Derived.Test.YtkcammaccgkflaaDoorSX
import Derived.Maps.AppendAt
namespace Go.Proofs.YtkcammaccgkflaaDoor
open Go.RowKit Go.Shelf

theorem ownFrom_chg {β : Type} {w : World} {B : Nat} (hB : w.heap.size ≤ B) : OwnFrom B (fun (_ : β) W => Chg none w W) := fun _ _X _Y _row hs hg hr => Chg.ownRow hs hg fun y e => Nat.le_trans hB (hr y e).1
theorem ownFrom_range {β : Type} {B b o : Nat} {cs : List Value} : OwnFrom B (fun (_ : β) W => W.rangeAt b o cs) := fun _ X Y row hs hg hr j v hj => by
  have h := hs j v hj
  refine World.grownBy.cell hg h fun e => ?_
  obtain ⟨-, ob, ho, hc⟩ := hr b e.symm
  unfold World.cell? at h
  rw [ho] at h
  cases ob <;> first | (simp [Obj.isCells] at hc; done) | (simp at h)
theorem kept_grown {n g : Nat} {W w1 : World} {tmp : Obj} {row : Option Nat} (_hn : n ≤ W.heap.size) (hg : (W.alloc tmp).grownBy w1 row) (hr : ∀ j, row = some j → n ≤ j) : KeptBut n g W w1 :=
  ((Kept.refl _ W).alloc tmp).trans ((Kept.of_chg hg).mono fun k e => .inr (hr k e))
theorem own_far {w : World} {base e size n : Nat} {v : Value} {xs : List Value} (h : w.ownsRow base e size v n xs) (a : Addr) (u : Value) (ha : a.block < base) : (w.setCell a u).ownsRow base e size v n xs := by
  refine ⟨h.1, ?_⟩
  rcases h.2 with h1 | ⟨g, cap, cur, h1, h2, h3, h4⟩
  · exact .inl h1
  · exact .inr ⟨g, cap, cur, h1, h2, (Below.heap_setCell w a u g (by omega)).trans h3, h4⟩
set_option maxHeartbeats 2000000 in
theorem range79_any (q : Option Addr) (A : Option Addr) (l c : Nat) (w : World) :
    Calls Tryd.prog 79 #[.pointer q, .slice A l c] w fun e w' => e = .returned (.func (.func 92) #[] #[.pointer (some ⟨w.heap.size, 0, none⟩), .pointer (some ⟨w.heap.size + 1, 0, none⟩)]) ∧ w' = (w.alloc (.cells #[.pointer q] 67)).alloc (.cells #[.slice A l c] 22) := by
  have HE := Lib.hid (show ((w.alloc (.cells #[.pointer q] 67)).alloc (.cells #[.slice A l c] 22)) = ((w.alloc (.cells #[.pointer q] 67)).alloc (.cells #[.slice A l c] 22)) from rfl)
  go_enter Tryd.func79, Tryd.ntmps79
  go_wp2_with fail
  go_ret
  exact ⟨rfl, rfl⟩
/-- The world in which the loop begins. -/
def belW (w : World) (q : Option Addr) (A : Option Addr) (l c : Nat) : World := ((w.alloc (.cells #[.slice none 0 0] 64)).alloc (.cells #[.pointer q] 67)).alloc (.cells #[.slice A l c] 22)

attribute [local go_sem] Oper.semAt_some
/-- Below's own, between two rounds. -/
def BelI (w : World) (pre : List MA) (W : World) : Prop :=
  (∃ v, Boxed W w.heap.size 64 v ∧ W.ownsRow (w.heap.size + 3) 46 97 v pre.length ((pre.map (·.1)).flatMap attCells) ∧ True) ∧ Chg none w W ∧ w.heap.size + 3 ≤ W.heap.size
/-- What a round begins with. -/
def BelA (q A : Option Addr) (l c n : Nat) (x : MA) (a' : Act) (W : World) : Prop :=
  ∃ ga, a' = { tmps := #[.pointer q, .slice A l c, undef, undef, .slice none 0 0, .pointer (some ⟨n, 0, none⟩), .pointer (some ⟨ga, 0, none⟩), .pointer q, .slice A l c, .func (.func 92) #[] #[.pointer (some ⟨n + 1, 0, none⟩), .pointer (some ⟨n + 1 + 1, 0, none⟩)], .agg (attCells x.1).toArray, undef, undef, undef, undef, undef], defers := [] } ∧ W.rangeAt ga 0 (attCells x.1)

def BelowTold (w : World) (M : List Att) (e : Ending) (w' : World) : Prop :=
  ∃ (A : Option Addr) (c : Nat), e = .returned (.slice A M.length c) ∧ w'.ownsRow w.heap.size 46 97 (.slice A M.length c) M.length (M.flatMap attCells) ∧ Chg none w w'

set_option maxRecDepth 100000 in
set_option maxHeartbeats 16000000 in
theorem below_core (q A : Option Addr) (l c : Nat) (w : World) (M : List Att) (N : Nat) (hN : N ≤ 1001)
    (hH : Hands Tryd.prog 92 #[.pointer (some ⟨w.heap.size + 1, 0, none⟩), .pointer (some ⟨w.heap.size + 1 + 1, 0, none⟩)] encA (KeptBut (belW w q A l c).heap.size w.heap.size) (fun xs _ => xs.map (·.1) = M) N (belW w q A l c)) :
    Calls Tryd.prog 48 #[.pointer q, .slice A l c] w (BelowTold w M) := by
  obtain ⟨i0, hi0, hz0, hz1, hz2⟩ := zinfo46
  have HH := Lib.hid hH
  have HZ : Hid ((Value.agg (attCells attZero).toArray).cells.size = 97) := Lib.hid (by show (attCells attZero).toArray.size = 97; rw [List.size_toArray, attCells_len])
  clear hH
  refine (callsIn_wide (n := 3)).1 ?_
  refine callsIn_of_wp_marks Tryd.func48 rfl trivial ?_ rfl
  simp only [Tryd.ntmps48, List.size_toArray, List.length_cons, List.length_nil, Nat.reduceAdd, Nat.reduceSub, Array.replicate_succ, Array.replicate_zero, List.push_toArray, List.append_toArray, List.nil_append, List.cons_append]
  gi_wp2_with fail
  refine ⟨trivial, ?_⟩
  gi_at_call 79
  refine (callsIn_wide.2 (range79_any q A l c _)).mono ?_
  rintro e w' ⟨rfl, rfl⟩
  have b0 := Boxed.new w 64 (.slice none 0 0)
  obtain ⟨W0, hW0⟩ : ∃ W0, W0 = belW w q A l c := ⟨_, rfl⟩
  have hs0 : W0.heap.size = w.heap.size + 3 := by rw [hW0]; simp [belW]
  have g0 : Chg none w W0 := by rw [hW0]; exact (((Chg.refl _ _).alloc _).alloc _).alloc _
  have hI0 : BelI w [] W0 := ⟨⟨_, by rw [hW0]; exact (b0.alloc _).alloc _, World.ownsRow_nil _ _ _ _, trivial⟩, g0, by rw [hs0]; exact Nat.le_refl _⟩
  rw [← hW0] at HH
  unfold belW at hW0
  gi_wp2_with fail
  try simp only [World.size_alloc]
  rw [← hW0]
  clear hW0 b0 g0
  have HS0 := Lib.hid hs0
  rw [hs0] at HH
  clear hs0
  refine range_over2 (gf := 92) (lb := #[.pointer (some ⟨w.heap.size + 1, 0, none⟩), .pointer (some ⟨w.heap.size + 1 + 1, 0, none⟩)]) rfl (enters_of Tryd.func92 (by kernel_rfl) rfl) HH.out (fun h k => h.trans k) (by rw [HS0.out]; exact KeptBut.putObj) (fun _ => rfl)
    (BelI w) ?hI ?hS hI0 (BelA q A l c w.heap.size) ?hA ?assign ?body ?done
  case hI =>
    exact OwnFrom.and (Own.from (holdsRow_own (w.heap.size + 3) w.heap.size 64 46 97 _ _ _) _) (OwnFrom.and (ownFrom_chg (by rw [HS0.out]; omega)) (fun _ _ _ _ hs hg _ => Nat.le_trans hs hg.size))
  case hS => exact fun _ _ _ _ hs _ _ => hs
  case hA =>
    intro x a' s W W' row hs hg hr
    obtain ⟨ga, e, h⟩ := hs
    exact ⟨ga, e, ownFrom_range () W W' row h hg hr⟩
  case assign =>
    rintro l' pre x W K ⟨⟨v, hv, hrow, -⟩, hB, hsz⟩ hK
    have HK := Lib.hid hK
    obtain ⟨WA, hWA⟩ : ∃ WA, WA = (W.alloc (.cells Tryd.zeroCells46 46)).setRow W.heap.size (attCells x.1).toArray := ⟨_, rfl⟩
    have hzb : (W.alloc (.cells Tryd.zeroCells46 46)).heap[W.heap.size]? = some (.cells Tryd.zeroCells46 46 (0, 0)) := heap_alloc_new W _
    have hbx : BlkL WA W.heap.size (attCells x.1) 46 := by rw [hWA]; exact setRow_heap _ _ _ _ 46 _ hzb
    have hga : Chg none W WA := by rw [hWA]; exact Chg.own ((Chg.refl none W).alloc _) (chg_setRow _ _ _) (Nat.le_refl _)
    have HZB := Lib.hid hzb
    have HZS : Hid (Tryd.zeroCells46.size = (attCells x.1).toArray.size) := Lib.hid (by
      have h97 : (attCells x.1).toArray.size = 97 := by rw [List.size_toArray, attCells_len]
      rw [h97]; show _ = _; kernel_rfl)
    have HI46 := Lib.hid (info46a x.1)
    have HO1 := Lib.hid (attCells_one x.1)
    have HWA := Lib.hid hWA
    have HKF : Hid (KeepsFrom W0.heap.size W WA) := Lib.hid (KeepsFrom.of_grownBy hga (fun j e => by cases e))
    have HKP : Hid (KeptBut (w.heap.size + 3) w.heap.size W WA) := Lib.hid ((Kept.of_chg hga).mono fun k e => by cases e)
    have HIN : Hid (BelI w pre WA) := Lib.hid ⟨⟨v, hv.kept hga (by simp), World.ownsRow.kept hrow hga (by cases v.ownBlock <;> simp), trivial⟩, hB.trans hga, Nat.le_trans hsz hga.size⟩
    have HRA := Lib.hid (Blk.range hbx)
    clear hv hrow hB hsz hWA hzb hbx hga hK
    dsimp only [encA]
    gi_wp2_with (first
      | (refine wpListIn_store_row rfl 46 _ _ rfl W.heap.size (attCells x.1).toArray rfl rfl 46 _ HZB.out HI46.out HZS.out HO1.out ?_; rw [← HWA.out]))
    refine HK.out _ _ HKF.out ?_ HIN.out ⟨_, rfl, HRA.out⟩
    exact HKP.out
  case body =>
    rintro l' pre x a' W ⟨⟨v, hv, hrow, -⟩, hB, hsz⟩ ⟨ga, rfl, hra⟩ hlen
    have hc := hv.cell
    have hn : pre.length + 1 ≤ 1001 := by omega
    have HSZ := Lib.hid hsz
    have HB := Lib.hid hB
    have HRA := Lib.hid hra
    have HIX := Lib.hid (info46 x.1)
    have HFI := Lib.hid (fill46 x.1 i0 hz1)
    obtain ⟨WB, hWB⟩ : ∃ WB, WB = W.alloc (.cells (attCells x.1).toArray 46) := ⟨_, rfl⟩
    have HOWB : Hid (WB.ownsRow (w.heap.size + 3) 46 97 v pre.length ((pre.map (·.1)).flatMap attCells)) := Lib.hid (by rw [hWB]; exact hrow.alloc _)
    have HNW : Hid (∀ j u, (attCells x.1)[j]? = some u → WB.cell? ((⟨W.heap.size, 0, none⟩ : Addr).add j) = some u) := Lib.hid fun j u hj => by
      rw [Go.WideShapes.add_plain, Nat.zero_add, hWB, BlkL.cell (show BlkL (W.alloc (.cells (attCells x.1).toArray 46)) W.heap.size (attCells x.1) 46 from Blk.new _ _ _)]
      exact hj
    have HNL : Hid ((attCells x.1).length = 1 * 97) := Lib.hid (by rw [attCells_len])
    have HONE := Lib.hid (ones_att x.1)
    have hs1 : pre.length + 1 ≤ maxLen := by unfold maxLen; omega
    have hs2 : (pre.length + 1) * 104 ≤ 140737488355328 := by omega
    have HS3 : Hid (w.heap.size + 3 ≤ WB.heap.size) := Lib.hid (by rw [hWB]; simp; omega)
    have HWB := Lib.hid hWB
    clear hB hsz hra hWB
    gi_wp2_with (first
      | (refine wpListIn_load_mid rfl 46 _ rfl ga 0 rfl (attCells x.1) _ HRA.out Tryd.underlying46 rfl HIX.out ?_)
      | (refine wpListIn_buildSlice rfl 64 46 1 _ rfl (attCells x.1).toArray i0 (.agg (attCells attZero).toArray) Tryd.underlying64 hi0 hz0 (by rw [hz1]; decide) (by rw [hz1]; decide) (by simp only [List.map_toArray, List.map_cons, List.map_nil]; exact HFI.out) ?_; rw [← HWB.out])
      | (refine wpListIn_append_own _ rfl (.tmp 11) (.tmp 13) 64 rfl (w.heap.size + 3) 46 i0 (.agg (attCells attZero).toArray) 97 104 Tryd.underlying64 hi0 hz0 hz1 hz2 HZ.out (by decide) v pre.length _ rfl HOWB.out ⟨W.heap.size, 0, none⟩ 1 1 (attCells x.1) rfl HNL.out HNW.out HONE.out hs1 hs2 HS3.out ?_
         intro v' w1 hown' hgrow _
         obtain ⟨g', cap', rfl⟩ := ownsRow_succ hown'
         rw [HWB.out] at hgrow
         obtain ⟨hv1, hv2, -, hk2, -⟩ := hv.appended (by decide) (own_base hrow (by omega : w.heap.size ≤ w.heap.size + 3)) (Nat.le_trans (Nat.le_add_right _ 3) HSZ.out) (Nat.le_refl _) (own_base hown' (by omega : w.heap.size ≤ w.heap.size + 3)) hgrow
         have hc1 := hv1.cell
         have hf1 := hv1.frozen))
    have kp : KeptBut (w.heap.size + 3) w.heap.size W (w1.setCell ⟨w.heap.size, 0, none⟩ (Value.slice (some ⟨g', 0, none⟩) (pre.length + 1) cap')) := (kept_grown HSZ.out hgrow fun j ej => (hrow.lt j ej).1).setCell _ _ (.inl (.inl rfl))
    refine ⟨hk2.from _, kp, ⟨⟨_, hv2, ?_, trivial⟩, Kept.fresh HB.out kp (fun i hi => by rcases hi with rfl | hi <;> omega), Nat.le_trans HSZ.out kp.size⟩⟩
    rw [List.length_append, List.length_singleton, List.map_append, List.flatMap_append]
    have h9 := own_far hown' ⟨w.heap.size, 0, none⟩ (Value.slice (some ⟨g', 0, none⟩) (pre.length + 1) cap') (by show w.heap.size < w.heap.size + 3; omega)
    simpa using h9
  case done =>
    rintro D xs W hD rfl ⟨⟨v, hv, hrow, -⟩, hB, hsz⟩ hK
    obtain ⟨A', c', rfl⟩ := own_slice hrow
    have hc := hv.cell
    have HB := Lib.hid hB
    clear hB
    gi_wp2_with fail
    have hs0 := HS0.out
    refine ⟨by simp, .inl ⟨_, _, rfl, run_takeDeferred hK, ?_⟩⟩
    refine ⟨.slice A' xs.length c', by simp [results, Tryd.f48, go_sem], A', c', by rw [List.length_map], by rw [List.length_map]; exact own_base (ownsRow_putObj hrow _ hK rfl) (by omega), ?_⟩
    exact Chg.ownRow HB.out (grownBy_putObj' W D (.deferred none)) (fun y e => by injection e with e; omega)

end Go.Proofs.YtkcammaccgkflaaDoor
