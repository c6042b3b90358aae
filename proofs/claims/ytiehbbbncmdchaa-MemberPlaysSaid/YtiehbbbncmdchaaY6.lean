/-
  The law's own look: is all that is told the document's?
-/
import Derived.Test.YtiehbbbncmdchaaY2
import Derived.Deep.RegionHeld3
import Derived.Deep.DeepCutAuto
namespace Go.Proofs.Ytiehbbbncmdchaa
open Go.RowKit

theorem own_blk {w : World} {base size g n c : Nat} {e : TypeId} {xs : List Value} (h : w.ownsRow base e size (.slice (some ⟨g, 0, none⟩) n c) n xs) :
    (∃ tail : List Value, BlkL w g (xs ++ tail) e) ∧ n ≤ c ∧ base ≤ g := by
  obtain ⟨_, h⟩ := h
  rcases h with ⟨h, _⟩ | ⟨g', cap, cur, hv, hb, hg, hnc, _, _, ht⟩
  · cases h
  · injection hv with e1 e2 e3
    injection e1 with e1
    injection e1 with e1
    subst e1 e3
    refine ⟨⟨cur.toList.drop (n * size), ?_⟩, hnc, hb⟩
    rw [← ht, List.take_append_drop]
    exact hg

/-- The second look's state: of two rows, what stands from the k-th on. -/
def Look2 (w0 : World) (g : Nat) (xs : List Int) (k : Nat) (wr : World) : Prop :=
  ∃ cs : List Value, BlkL wr g cs 3 ∧ w0.heap.size ≤ g ∧ ∀ i u, k ≤ i → xs[i]? = some u → cs[i]? = some (.int .i64 u)

theorem Look2.step {w0 wr : World} {g : Nat} {xs : List Int} {k : Nat} (h : Look2 w0 g xs k wr) (v : Value) : Look2 w0 g xs (k + 1) (wr.setCell ⟨g, k, none⟩ v) := by
  obtain ⟨cs, hb, hg, hc⟩ := h
  refine ⟨cs.set k v, BlkL.set hb k v, hg, fun i u hi hu => ?_⟩
  rw [List.getElem?_set_ne (by omega)]
  exact hc i u (by omega) hu

theorem Look2.chg {w0 wr w' : World} {g : Nat} {xs : List Int} {k : Nat} (h : Look2 w0 g xs k wr) (hc : Chg none wr w') : Look2 w0 g xs k w' := by
  obtain ⟨cs, hb, hg, h⟩ := h
  exact ⟨cs, Blk.chg hb hc (by simp), hg, h⟩

theorem own_look {w0 wr w : World} {base n c : Nat} {A : Option Addr} {xs : List Int} (h : w.ownsRow base 3 1 (.slice A n c) n (xs.map (Value.int .i64))) (hb : w0.heap.size ≤ base) (hc : Chg none w wr) (hn : 0 < n) :
    ∃ g, A = some ⟨g, 0, none⟩ ∧ Look2 w0 g xs 0 wr ∧ n ≤ c := by
  obtain ⟨g, cap, hv, _, _⟩ := h.form hn
  injection hv with e1 e2 e3
  subst e1
  obtain ⟨⟨t, ht⟩, hnc, hbg⟩ := own_blk h
  refine ⟨g, rfl, ⟨_, Blk.chg ht hc (by simp), by omega, fun i u _ hu => ?_⟩, hnc⟩
  have hl : i < xs.length := (List.getElem?_eq_some_iff.1 hu).1
  rw [List.getElem?_append_left (by simpa using hl), List.getElem?_map, hu]
  rfl

def SamePost (w : World) (e : Ending) (w' : World) : Prop := e = .returned (.bool true) ∧ Chg none w w'

set_option maxRecDepth 100000 in
set_option maxHeartbeats 4000000 in
theorem same_any (b B G cap : Nat) (m : M) (w : World) (hm : MemAt w b m) (hr : RefAt w B G cap m) (ho : m.ok) :
    Calls Try.prog 22 #[.pointer (some ⟨b, 0, none⟩), .pointer (some ⟨B, 0, none⟩)] w (SamePost w) := by
  have htop := ho.top
  have hown := ho.own
  have hle := hr.le
  have HM := Lib.hid (fun W (g : Chg none w W) => hm.chg g (by simp))
  have HR := Lib.hid (fun W (g : Chg none w W) => hr.chg g (by simp) (by simp))
  have HO := Lib.hid ho
  have n31 := neq31
  have gd31 := Try.guard31
  obtain ⟨us, hus⟩ := ho.get hown
  have HUS := Lib.hid hus
  go_enter Try.func22, Try.ntmps22
  go_wp2_with fail
  refine (all_row b m m.count _ hm ho rfl).mono ?_
  rintro e w1 ⟨rfl, hA1, g1⟩
  go_wp2_with fail
  refine (alive_made b m _ (HM.out _ g1) ho).mono ?_
  rintro e w2 ⟨v2, rfl, hA2, g2'⟩
  have g2 := g1.trans g2'
  go_wp2_with fail
  refine (ralive B G cap m _ (HR.out _ g2) ho).mono ?_
  rintro e w3 ⟨v3, rfl, hA3, g3'⟩
  have g3 := g2.trans g3'
  obtain ⟨A2, c2, rfl⟩ := own_slice hA2
  obtain ⟨A3, c3, rfl⟩ := own_slice hA3
  have hLA : (aliveOf (m.stand.take m.count)).length ≤ m.count := Nat.le_trans (aliveOf_len _) (List.length_take_le _ _)
  generalize hxs : aliveOf (m.stand.take m.count) = xs at *
  have HB2 := Lib.hid (show 0 < xs.length → ∀ g, A2 = some ⟨g, 0, none⟩ → w1.heap.size ≤ g ∧ g < w2.heap.size from fun _ g e => by subst e; exact hA2.lt g rfl)
  have HRL := Lib.hid (M.row_len ho)
  have hA1' := Blk.chg hA1 (g2'.trans g3') (by simp)
  clear hm hr ho hus hxs
  obtain ⟨p0, p1⟩ := (HR.out _ g3).head
  obtain ⟨q0, q1, q2⟩ := (HR.out _ g3).at (M.row_at hown HUS.out)
  obtain ⟨l1, l2⟩ := (HR.out _ g3).lt
  have hsc : m.self < m.count := hown
  go_wp2_with fail
  have HSF := Lib.hid (fun W (g : Chg none w W) => (show (fun w' => w'.cell? ⟨B, 0, none⟩ = some (.int .i64 m.self) ∧ w'.cell? ⟨B, 1, none⟩ = some (.slice (some ⟨G, 0, none⟩) m.count cap) ∧ w'.cell? ⟨G, m.self * 3, none⟩ = some (.int .i64 us.node) ∧ w'.cell? ⟨G, m.self * 3 + 1, none⟩ = some (.int .u8 us.st) ∧ w'.cell? ⟨G, m.self * 3 + 2, none⟩ = some (.int .u64 us.inc)) W from ⟨(HR.out _ g).head.1, (HR.out _ g).head.2, ((HR.out _ g).at (M.row_at hown HUS.out)).1, ((HR.out _ g).at (M.row_at hown HUS.out)).2.1, ((HR.out _ g).at (M.row_at hown HUS.out)).2.2⟩))
  have hS1 := HSF.out _ g3
  have HS := Lib.hid (fun W (g : Chg none w W) => self_made b m us W (HM.out _ g) HO.out HUS.out)
  refine wp_region_held_drew (S := fun w' => w'.cell? ⟨B, 0, none⟩ = some (.int .i64 m.self) ∧ w'.cell? ⟨B, 1, none⟩ = some (.slice (some ⟨G, 0, none⟩) m.count cap) ∧ w'.cell? ⟨G, m.self * 3, none⟩ = some (.int .i64 us.node) ∧ w'.cell? ⟨G, m.self * 3 + 1, none⟩ = some (.int .u8 us.st) ∧ w'.cell? ⟨G, m.self * 3 + 2, none⟩ = some (.int .u64 us.inc)) (by kernel_rfl) hS1 (fun _ => ?_)
  refine wpAnyH_take (i := 0) (oi := ⟨some 20, _, _, _, _, _⟩) (v := ?_) rfl (by kernel_rfl) (by kernel_rfl) (by kernel_rfl) (fun _ _ _ h => h) (Or.inl ⟨by rfl, ?_⟩) (by assumption) ?_
  rotate_left
  · intro w hSw; (try dsimp only at hSw); go_simp; (try with_reducible rfl)
  try simp only [Act.put, List.setIfInBounds_toArray, List.set_cons_zero, List.set_cons_succ]
  refine wpAnyH_take (i := 1) (oi := ⟨some 21, _, _, _, _, _⟩) (v := ?_) rfl (by kernel_rfl) (by kernel_rfl) (by kernel_rfl) (fun _ _ _ h => h) (Or.inl ⟨by rfl, ?_⟩) (by assumption) ?_
  rotate_left
  · intro w hSw; (try dsimp only at hSw); go_simp; (try with_reducible rfl)
  try simp only [Act.put, List.setIfInBounds_toArray, List.set_cons_zero, List.set_cons_succ]
  refine wpAnyH_take (i := 2) (oi := ⟨some 22, _, _, _, _, _⟩) (v := ?_) rfl (by kernel_rfl) (by kernel_rfl) (by kernel_rfl) (fun _ _ _ h => h) (Or.inl ⟨by rfl, ?_⟩) (by assumption) ?_
  rotate_left
  · intro w hSw; (try dsimp only at hSw); go_simp; (try with_reducible rfl)
  try simp only [Act.put, List.setIfInBounds_toArray, List.set_cons_zero, List.set_cons_succ]
  refine wpAnyH_take (i := 3) (oi := ⟨some 23, _, _, _, _, _⟩) (v := ?_) rfl (by kernel_rfl) (by kernel_rfl) (by kernel_rfl) (fun _ _ _ h => h) (Or.inl ⟨by rfl, ?_⟩) (by assumption) ?_
  rotate_left
  · intro w hSw; (try dsimp only at hSw); go_simp; (try with_reducible rfl)
  try simp only [Act.put, List.setIfInBounds_toArray, List.set_cons_zero, List.set_cons_succ]
  refine wpAnyH_take (i := 4) (oi := ⟨some 24, _, _, _, _, _⟩) (v := ?_) rfl (by kernel_rfl) (by kernel_rfl) (by kernel_rfl) (fun _ _ _ h => h) (Or.inl ⟨by rfl, ?_⟩) (by assumption) ?_
  rotate_left
  · intro w hSw; (try dsimp only at hSw); go_simp; (try with_reducible rfl)
  try simp only [Act.put, List.setIfInBounds_toArray, List.set_cons_zero, List.set_cons_succ]
  refine wpAnyH_take (i := 5) (oi := ⟨some 25, _, _, _, _, _⟩) (v := ?_) rfl (by kernel_rfl) (by kernel_rfl) (by kernel_rfl) (fun _ _ _ h => h) (Or.inl ⟨by rfl, ?_⟩) (by assumption) ?_
  rotate_left
  · intro w hSw; (try dsimp only at hSw); go_simp; (try with_reducible rfl)
  try simp only [Act.put, List.setIfInBounds_toArray, List.set_cons_zero, List.set_cons_succ]
  refine wpAnyH_take (i := 6) (oi := ⟨some 26, _, _, _, _, _⟩) (v := ?_) rfl (by kernel_rfl) (by kernel_rfl) (by kernel_rfl) (fun _ _ _ h => h) (Or.inl ⟨by rfl, ?_⟩) (by assumption) ?_
  rotate_left
  · intro w hSw; (try dsimp only at hSw); go_simp; (try with_reducible rfl)
  try simp only [Act.put, List.setIfInBounds_toArray, List.set_cons_zero, List.set_cons_succ]
  refine wpAnyH_take (i := 7) (oi := ⟨some 27, _, _, _, _, _⟩) (v := ?_) rfl (by kernel_rfl) (by kernel_rfl) (by kernel_rfl) (fun _ _ _ h => h) (Or.inl ⟨by rfl, ?_⟩) (by assumption) ?_
  rotate_left
  · intro w hSw; (try dsimp only at hSw); go_simp; (try with_reducible rfl)
  try simp only [Act.put, List.setIfInBounds_toArray, List.set_cons_zero, List.set_cons_succ]
  refine wpAnyH_take (i := 8) (oi := ⟨some 28, _, _, _, _, _⟩) (v := ?_) rfl (by kernel_rfl) (by kernel_rfl) (by kernel_rfl) (fun _ _ _ h => h) (Or.inl ⟨by rfl, ?_⟩) (by assumption) ?_
  rotate_left
  · intro w hSw; (try dsimp only at hSw); go_simp; (try with_reducible rfl)
  try simp only [Act.put, List.setIfInBounds_toArray, List.set_cons_zero, List.set_cons_succ]
  refine wpAnyH_take (i := 9) (oi := ⟨some 29, _, _, _, _, _⟩) (v := ?_) rfl (by kernel_rfl) (by kernel_rfl) (by kernel_rfl) (fun _ _ _ h => h) (Or.inl ⟨by rfl, ?_⟩) (by assumption) ?_
  rotate_left
  · intro w hSw; (try dsimp only at hSw); go_simp; (try with_reducible rfl)
  try simp only [Act.put, List.setIfInBounds_toArray, List.set_cons_zero, List.set_cons_succ]
  refine wpAnyH_take (i := 10) (oi := ⟨some 30, _, _, _, _, _⟩) (v := ?_) rfl (by kernel_rfl) (by kernel_rfl) (by kernel_rfl) (fun _ _ _ h => h) (Or.inl ⟨by rfl, ?_⟩) (by assumption) ?_
  rotate_left
  · intro w hSw; (try dsimp only at hSw); go_simp; (try with_reducible rfl)
  try simp only [Act.put, List.setIfInBounds_toArray, List.set_cons_zero, List.set_cons_succ]
  refine wpAnyH_take (i := 11) (oi := ⟨some 31, _, _, _, _, _⟩) (v := ?_) rfl (by kernel_rfl) (by kernel_rfl) (by kernel_rfl) (fun _ _ _ h => h) (Or.inl ⟨by rfl, ?_⟩) (by assumption) ?_
  rotate_left
  · intro w hSw; (try dsimp only at hSw); go_simp; (try with_reducible rfl)
  try simp only [Act.put, List.setIfInBounds_toArray, List.set_cons_zero, List.set_cons_succ]
  refine wpAnyH_take (i := 12) (oi := ⟨some 32, _, _, _, _, _⟩) (v := ?_) rfl (by kernel_rfl) (by kernel_rfl) (by kernel_rfl) (fun _ _ _ h => h) (Or.inl ⟨by rfl, ?_⟩) (by assumption) ?_
  rotate_left
  · intro w hSw; (try dsimp only at hSw); go_simp; (try with_reducible rfl)
  try simp only [Act.put, List.setIfInBounds_toArray, List.set_cons_zero, List.set_cons_succ]
  refine wpAnyH_take (i := 13) (oi := ⟨some 33, _, _, _, _, _⟩) (v := ?_) rfl (by kernel_rfl) (by kernel_rfl) (by kernel_rfl) (fun _ _ _ h => h) (Or.inl ⟨by rfl, ?_⟩) (by assumption) ?_
  rotate_left
  · intro w hSw; (try dsimp only at hSw); go_simp; (try with_reducible rfl)
  try simp only [Act.put, List.setIfInBounds_toArray, List.set_cons_zero, List.set_cons_succ]
  refine wpAnyH_take (i := 14) (oi := ⟨some 34, _, _, _, _, _⟩) (v := ?_) rfl (by kernel_rfl) (by kernel_rfl) (by kernel_rfl) (fun _ _ _ h => h) (Or.inl ⟨by rfl, ?_⟩) (by assumption) ?_
  rotate_left
  · intro w hSw; (try dsimp only at hSw); go_simp; (try with_reducible rfl)
  try simp only [Act.put, List.setIfInBounds_toArray, List.set_cons_zero, List.set_cons_succ]
  refine wpAnyH_take (i := 15) (oi := ⟨some 35, _, _, _, _, _⟩) (v := ?_) rfl (by kernel_rfl) (by kernel_rfl) (by kernel_rfl) (fun _ _ _ h => h) (Or.inl ⟨by rfl, ?_⟩) (by assumption) ?_
  rotate_left
  · intro w hSw; (try dsimp only at hSw); go_simp; (try with_reducible rfl)
  try simp only [Act.put, List.setIfInBounds_toArray, List.set_cons_zero, List.set_cons_succ]
  refine wpAnyH_take (i := 16) (oi := ⟨some 36, _, _, _, _, _⟩) (v := ?_) rfl (by kernel_rfl) (by kernel_rfl) (by kernel_rfl) (fun _ _ _ h => h) (Or.inl ⟨by rfl, ?_⟩) (by assumption) ?_
  rotate_left
  · intro w hSw; (try dsimp only at hSw); go_simp; (try with_reducible rfl)
  try simp only [Act.put, List.setIfInBounds_toArray, List.set_cons_zero, List.set_cons_succ]
  refine wpAnyH_take (i := 18) (oi := ⟨some 38, _, _, _, _, _⟩) (v := ?_) rfl (by kernel_rfl) (by kernel_rfl) (by kernel_rfl) (fun _ _ _ h => h) (Or.inl ⟨by rfl, ?_⟩) (by assumption) ?_
  rotate_left
  · intro w hSw; (try dsimp only at hSw); go_simp; (try with_reducible rfl)
  try simp only [Act.put, List.setIfInBounds_toArray, List.set_cons_zero, List.set_cons_succ]
  refine wpAnyH_take (i := 19) (oi := ⟨some 39, _, _, _, _, _⟩) (v := ?_) rfl (by kernel_rfl) (by kernel_rfl) (by kernel_rfl) (fun _ _ _ h => h) (Or.inl ⟨by rfl, ?_⟩) (by assumption) ?_
  rotate_left
  · intro w hSw; (try dsimp only at hSw); go_simp; (try with_reducible rfl)
  try simp only [Act.put, List.setIfInBounds_toArray, List.set_cons_zero, List.set_cons_succ]
  refine wpAnyH_take (i := 20) (oi := ⟨some 40, _, _, _, _, _⟩) (v := ?_) rfl (by kernel_rfl) (by kernel_rfl) (by kernel_rfl) (fun _ _ _ h => h) (Or.inl ⟨by rfl, ?_⟩) (by assumption) ?_
  rotate_left
  · intro w hSw; (try dsimp only at hSw); go_simp; (try with_reducible rfl)
  try simp only [Act.put, List.setIfInBounds_toArray, List.set_cons_zero, List.set_cons_succ]
  refine wpAnyH_take (i := 21) (oi := ⟨some 41, _, _, _, _, _⟩) (v := ?_) rfl (by kernel_rfl) (by kernel_rfl) (by kernel_rfl) (fun _ _ _ h => h) (Or.inl ⟨by rfl, ?_⟩) (by assumption) ?_
  rotate_left
  · intro w hSw; (try dsimp only at hSw); go_simp; (try with_reducible rfl)
  try simp only [Act.put, List.setIfInBounds_toArray, List.set_cons_zero, List.set_cons_succ]
  refine wpAnyH_take (i := 22) (oi := ⟨some 42, _, _, _, _, _⟩) (v := ?_) rfl (by kernel_rfl) (by kernel_rfl) (by kernel_rfl) (fun _ _ _ h => h) (Or.inl ⟨by rfl, ?_⟩) (by assumption) ?_
  rotate_left
  · intro w hSw; (try dsimp only at hSw); go_simp; (try with_reducible rfl)
  try simp only [Act.put, List.setIfInBounds_toArray, List.set_cons_zero, List.set_cons_succ]
  refine wpAnyH_take (i := 23) (oi := ⟨some 43, _, _, _, _, _⟩) (v := ?_) rfl (by kernel_rfl) (by kernel_rfl) (by kernel_rfl) (fun _ _ _ h => h) (Or.inl ⟨by rfl, ?_⟩) (by assumption) ?_
  rotate_left
  · intro w hSw; (try dsimp only at hSw); go_simp; (try with_reducible rfl)
  try simp only [Act.put, List.setIfInBounds_toArray, List.set_cons_zero, List.set_cons_succ]
  refine wpAnyH_take (i := 24) (oi := ⟨some 44, _, _, _, _, _⟩) (v := ?_) rfl (by kernel_rfl) (by kernel_rfl) (by kernel_rfl) (fun _ _ _ h => h) (Or.inl ⟨by rfl, ?_⟩) (by assumption) ?_
  rotate_left
  · intro w hSw; (try dsimp only at hSw); go_simp; (try with_reducible rfl)
  try simp only [Act.put, List.setIfInBounds_toArray, List.set_cons_zero, List.set_cons_succ]
  refine wpAnyH_take (i := 25) (oi := ⟨some 45, _, _, _, _, _⟩) (v := ?_) rfl (by kernel_rfl) (by kernel_rfl) (by kernel_rfl) (fun _ _ _ h => h) (Or.inl ⟨by rfl, ?_⟩) (by assumption) ?_
  rotate_left
  · intro w hSw; (try dsimp only at hSw); go_simp; (try with_reducible rfl)
  try simp only [Act.put, List.setIfInBounds_toArray, List.set_cons_zero, List.set_cons_succ]
  refine wpAnyH_take (i := 26) (oi := ⟨some 46, _, _, _, _, _⟩) (v := ?_) rfl (by kernel_rfl) (by kernel_rfl) (by kernel_rfl) (fun _ _ _ h => h) (Or.inl ⟨by rfl, ?_⟩) (by assumption) ?_
  rotate_left
  · intro w hSw; (try dsimp only at hSw); go_simp; (try with_reducible rfl)
  try simp only [Act.put, List.setIfInBounds_toArray, List.set_cons_zero, List.set_cons_succ]
  refine wpAnyH_take (i := 27) (oi := ⟨some 47, _, _, _, _, _⟩) (v := ?_) rfl (by kernel_rfl) (by kernel_rfl) (by kernel_rfl) (fun _ _ _ h => h) (Or.inl ⟨by rfl, ?_⟩) (by assumption) ?_
  rotate_left
  · intro w hSw; (try dsimp only at hSw); go_simp; (try with_reducible rfl)
  try simp only [Act.put, List.setIfInBounds_toArray, List.set_cons_zero, List.set_cons_succ]
  refine wpAnyH_ready (rs := [17]) (by kernel_rfl) (by simp) ?_
  refine AllReadyH.cons (o := ⟨some 37, _, _, _, _, _⟩) rfl (fun K hK => ?_) ?_
  rotate_left
  · exact AllReadyH.nil
  go_simp
  go_at_call 24
  refine (HS.out _ g3.drew).mono ?_
  rintro e w4 ⟨rfl, g4'⟩
  have g4 := g3.drew.trans g4'
  go_wp2_with fail
  refine hK.out _ _ (HSF.out _ g4) (fun _ => ?_)
  clear hK K
  try simp only [Act.put, List.setIfInBounds_toArray, List.set_cons_zero, List.set_cons_succ]
  refine wpAnyH_take (i := 28) (oi := ⟨some 48, _, _, _, _, _⟩) (v := ?_) rfl (by kernel_rfl) (by kernel_rfl) (by kernel_rfl) (fun _ _ _ h => h) (Or.inl ⟨by rfl, ?_⟩) (by assumption) ?_
  rotate_left
  · intro w hSw; (try dsimp only at hSw); go_simp; (try with_reducible rfl)
  try simp only [Act.put, List.setIfInBounds_toArray, List.set_cons_zero, List.set_cons_succ]
  refine wpAnyH_take (i := 29) (oi := ⟨some 49, _, _, _, _, _⟩) (v := ?_) rfl (by kernel_rfl) (by kernel_rfl) (by kernel_rfl) (fun _ _ _ h => h) (Or.inl ⟨by rfl, ?_⟩) (by assumption) ?_
  rotate_left
  · intro w hSw; (try dsimp only at hSw); go_simp; (try with_reducible rfl)
  try simp only [Act.put, List.setIfInBounds_toArray, List.set_cons_zero, List.set_cons_succ]
  refine wpAnyH_done (by kernel_rfl) ?_ _
  clear hS1 HSF HS p0 p1 q0 q1 q2
  go_wp2_with fail
  have g34 : Chg none w3 w4 := ((Chg.refl none w3).drew).trans g4'
  have hA4 := Blk.chg hA1' g34 (by simp)
  have hA2' : w4.ownsRow w1.heap.size 3 1 (.slice A2 xs.length c2) xs.length (xs.map (Value.int .i64)) := hA2.kept (g3'.trans g34) (by cases A2 <;> simp [Value.ownBlock])
  have hA3' : w4.ownsRow w2.heap.size 3 1 (.slice A3 xs.length c3) xs.length (xs.map (Value.int .i64)) := hA3.kept g34 (by cases A3 <;> simp [Value.ownBlock])
  have hwz := Blk.lt hA1
  clear hA1' hA2 hA3 hA1
  go_loopw [8] (fun s8 wr => ∃ k : Nat, k ≤ m.count + 2 ∧ s8 = .int .i64 ((k : Int) - 1) ∧ Chg none w4 wr) (fun s8 _ => m.count + 2 - (intOf s8 + 1).toNat)
  case atStart => exact ⟨0, by omega, rfl, Chg.refl _ _⟩
  case round =>
    obtain ⟨k, hk, rfl, hg⟩ := hrel
    obtain ⟨p0, p1⟩ := (HR.out _ (g4.trans hg)).head
    obtain ⟨l1, l2⟩ := (HR.out _ (g4.trans hg)).lt
    by_cases hend : k = m.count + 2
    · subst hend
      have ej : ((m.count + 2 : Nat) : Int) - 1 = (m.count : Int) + 1 := by omega
      rw [ej]
      have hcond : decide ((m.count : Int) + 1 ≤ (m.count : Int)) = false := by simp; omega
      have gg := g4.trans hg
      obtain ⟨ga, hga⟩ : ∃ ga, 0 < xs.length → A2 = some ⟨ga, 0, none⟩ ∧ Look2 w ga xs 0 wr ∧ xs.length ≤ c2 ∧ w1.heap.size ≤ ga ∧ ga < w2.heap.size := by
        rcases Nat.eq_zero_or_pos xs.length with h0 | h0
        · exact ⟨0, fun h => absurd h (by omega)⟩
        · obtain ⟨g, e1, e2, e3⟩ := own_look (w0 := w) hA2' g1.size hg h0
          exact ⟨g, fun _ => ⟨e1, e2, e3, HB2.out h0 g e1⟩⟩
      obtain ⟨gb, hgb⟩ : ∃ gb, 0 < xs.length → A3 = some ⟨gb, 0, none⟩ ∧ Look2 w gb xs 0 wr ∧ xs.length ≤ c3 ∧ w2.heap.size ≤ gb := by
        rcases Nat.eq_zero_or_pos xs.length with h0 | h0
        · exact ⟨0, fun h => absurd h (by omega)⟩
        · obtain ⟨g, e1, e2, e3⟩ := own_look (w0 := w) hA3' g2.size hg h0
          refine ⟨g, fun _ => ⟨e1, e2, e3, ?_⟩⟩
          subst e1
          exact (own_blk hA3').2.2
      have hA5 := Blk.chg hA4 hg (by simp)
      clear hA4 hA2' hA3' HB2
      go_wp2_with fail
      go_loopw [112] (fun s112 wq => ∃ k : Nat, k ≤ xs.length ∧ s112 = .int .i64 k ∧ Chg none w wq ∧ (0 < xs.length → Look2 w ga xs k wq ∧ Look2 w gb xs 0 wq) ∧ BlkL wq w.heap.size (m.row.flatMap U.cells) 31) (fun s112 _ => xs.length - (intOf s112).toNat)
      case atStart => exact ⟨0, by omega, rfl, gg, fun h => ⟨(hga h).2.1, (hgb h).2.1⟩, hA5⟩
      case round =>
        obtain ⟨k, hk, rfl, hgq, hlook, hAq⟩ := hrel
        by_cases hlt : k < xs.length
        · obtain ⟨rfl, _, hca, ha1, ha2⟩ := hga (by omega)
          obtain ⟨rfl, _, hcb, hb1⟩ := hgb (by omega)
          obtain ⟨hla, hlb⟩ := hlook (by omega)
          obtain ⟨cs, hbl, _, hcs⟩ := id hla
          obtain ⟨cs', hbl', _, hcs'⟩ := id hlb
          have hx : xs[k]? = some (xs[k]'hlt) := List.getElem?_eq_getElem _
          generalize xs[k]'hlt = x at *
          have ca : wr.cell? ⟨ga, k, none⟩ = some (.int .i64 x) := by rw [BlkL.cell hbl]; exact hcs k x (Nat.le_refl _) hx
          have cb : wr.cell? ⟨gb, k, none⟩ = some (.int .i64 x) := by rw [BlkL.cell hbl']; exact hcs' k x (Nat.zero_le _) hx
          have fa := Blk.frozen hbl k
          have hstep := hla.step (.int .i64 99)
          have hother : Look2 w gb xs 0 (wr.setCell ⟨ga, k, none⟩ (.int .i64 99)) := ⟨cs', Blk.setOther hbl' _ _ (by show gb ≠ ga; omega), by omega, hcs'⟩
          have hAn : BlkL (wr.setCell ⟨ga, k, none⟩ (.int .i64 99)) w.heap.size (m.row.flatMap U.cells) 31 := Blk.setOther hAq _ _ (by show w.heap.size ≠ ga; omega)
          have hgn := hgq.setNew ⟨ga, k, none⟩ (by show w.heap.size ≤ ga; omega) (.int .i64 99)
          clear hcs hcs' hx hla hlb hlook hbl hbl' hga hgb hAq
          go_wp2_with fail
          go_region
          all_goals
            go_wp2_with fail
            go_roundw
            case rel => exact ⟨k + 1, by omega, by go_num, by repeat (first | (with_reducible exact hgn) | (with_reducible refine Chg.drew ?_)), fun _ => ⟨hstep, hother⟩, hAn⟩
            case measure => first | (simp [intOf]; done) | (simp [intOf]; omega)
        · obtain rfl : k = xs.length := by omega
          clear hlook hga hgb
          go_wp2_with fail
          go_loopw [130] (fun s130 wz => ∃ k : Nat, k ≤ m.count ∧ s130 = .int .i64 k ∧ Chg none w wz ∧ ∃ cs : List Value, BlkL wz w.heap.size cs 31 ∧ cs.length = m.count * 3) (fun s130 _ => m.count - (intOf s130).toNat)
          case atStart => exact ⟨0, by omega, rfl, hgq, _, hAq, by rw [flat_len U.cells 3 U.cells_len, HRL.out]⟩
          case round =>
            obtain ⟨k, hk, rfl, hgz, cs, hbz, hcl⟩ := hrel
            by_cases hlt : k < m.count
            · have hkl : k * 3 + 2 < cs.length := by omega
              have hy : cs[k * 3 + 2]? = some (cs[k * 3 + 2]'hkl) := List.getElem?_eq_getElem _
              generalize cs[k * 3 + 2]'hkl = y at *
              have cy : wr.cell? ⟨w.heap.size, k * 3 + 2, none⟩ = some y := by rw [BlkL.cell hbz]; exact hy
              have fy := Blk.frozen hbz (k * 3 + 2)
              have hbn := BlkL.set hbz (k * 3 + 2) (.int .u64 7)
              have hgn := hgz.setNew ⟨w.heap.size, k * 3 + 2, none⟩ (Nat.le_refl _) (.int .u64 7)
              clear hy
              go_wp2_with fail
              go_roundw
              case rel => exact ⟨k + 1, by omega, by go_num, hgn, _, hbn, by rw [List.length_set]; exact hcl⟩
              case measure => first | (simp [intOf]; done) | (simp [intOf]; omega)
            · obtain rfl : k = m.count := by omega
              go_wp2_with fail
              go_ret
              exact ⟨rfl, hgz⟩
    · by_cases hin : 1 ≤ k ∧ k ≤ m.count
      · obtain ⟨j, rfl⟩ : ∃ j, k = j + 1 := ⟨k - 1, by omega⟩
        have ej : ((j + 1 : Nat) : Int) - 1 = (j : Int) := by omega
        rw [ej]
        have hjc : j < m.count := by omega
        have hjc2 : (j : Int) < (m.count : Int) := by omega
        obtain ⟨u, hu⟩ := HO.out.get hjc
        have HGG := Lib.hid (get_made b m j u wr (HM.out _ (g4.trans hg)) HO.out hjc hu)
        have hur := M.row_at hjc hu
        have HUR := Lib.hid hur
        clear hu hur
        go_wp2_with fail
        refine HGG.out.mono ?_
        rintro e w5 ⟨rfl, g5⟩
        have gg := (g4.trans hg).trans g5
        obtain ⟨p0, p1⟩ := (HR.out _ gg).head
        obtain ⟨l1, l2⟩ := (HR.out _ gg).lt
        obtain ⟨c0, c1, c2⟩ := (HR.out _ gg).at HUR.out
        have hA5 := Blk.chg hA4 (hg.trans g5) (by simp)
        obtain ⟨d0, d1, d2⟩ := at_cells hA5 HUR.out
        have l3 := Blk.lt hA5
        clear hA5 HGG
        obtain ⟨un, ux, ui⟩ := u
        dsimp only at c0 c1 c2 d0 d1 d2
        go_wp2_with fail
        go_region
        all_goals
          go_wp2_with fail
          go_roundw
          case rel => exact ⟨j + 2, by omega, by rw [show ((j + 2 : Nat) : Int) - 1 = (j : Int) + 1 by omega] <;> go_num, by repeat (first | (with_reducible exact hg.trans g5) | (with_reducible refine Chg.drew ?_) | (with_reducible refine Chg.alloc ?_ _))⟩
          case measure => first | (simp [intOf]; done) | (simp [intOf]; omega)
      · rcases (show k = 0 ∨ k = m.count + 1 by omega) with rfl | rfl
        · clear hend hin
          rw [show ((0 : Nat) : Int) - 1 = -1 from rfl]
          have hH := has_some b m.count ((-1 : Int)) (wr.alloc (.cells #[.int .i64 0, .int .u8 0, .int .u64 0] 31)) ((HM.out _ (g4.trans hg)).alloc _).head.2 (by have := HO.out.one; omega)
          have hdec : decide ((0 : Int) ≤ (-1 : Int) ∧ (-1 : Int) < (m.count : Int)) = false := by simp
          rw [hdec] at hH
          have HGG := Lib.hid (get_no (some ⟨b, 0, none⟩) ((-1 : Int)) wr hH)
          clear hH hdec
          have hle1 : (-1 : Int) ≤ (m.count : Int) := by omega
          have hone : (1 : Int) ≤ m.count := by have := HO.out.one; omega
          go_wp2_with fail
          refine HGG.out.mono ?_
          rintro e w5 ⟨rfl, g5⟩
          have gg := (g4.trans hg).trans g5
          obtain ⟨p0, p1⟩ := (HR.out _ gg).head
          obtain ⟨l1, l2⟩ := (HR.out _ gg).lt
          clear HGG
          go_wp2_with fail
          go_region
          all_goals
            go_wp2_with fail
            go_roundw
            case rel => exact ⟨1, by omega, by rw [show ((1 : Nat) : Int) - 1 = 0 from rfl] <;> go_num, by repeat (first | (with_reducible exact hg.trans g5) | (with_reducible refine Chg.drew ?_) | (with_reducible refine Chg.alloc ?_ _))⟩
            case measure => first | (simp [intOf]; done) | (simp [intOf]; omega)
        · clear hend hin
          rw [show ((m.count + 1 : Nat) : Int) - 1 = (m.count : Int) by omega]
          have hH := has_some b m.count ((m.count : Int)) (wr.alloc (.cells #[.int .i64 0, .int .u8 0, .int .u64 0] 31)) ((HM.out _ (g4.trans hg)).alloc _).head.2 (by have := HO.out.one; omega)
          have hdec : decide ((0 : Int) ≤ (m.count : Int) ∧ (m.count : Int) < (m.count : Int)) = false := by simp
          rw [hdec] at hH
          have HGG := Lib.hid (get_no (some ⟨b, 0, none⟩) ((m.count : Int)) wr hH)
          clear hH hdec
          have hle1 : (m.count : Int) ≤ (m.count : Int) := by omega
          have hone : (1 : Int) ≤ m.count := by have := HO.out.one; omega
          go_wp2_with fail
          refine HGG.out.mono ?_
          rintro e w5 ⟨rfl, g5⟩
          have gg := (g4.trans hg).trans g5
          obtain ⟨p0, p1⟩ := (HR.out _ gg).head
          obtain ⟨l1, l2⟩ := (HR.out _ gg).lt
          clear HGG
          go_wp2_with fail
          go_region
          all_goals
            go_wp2_with fail
            go_roundw
            case rel => exact ⟨m.count + 2, by omega, by rw [show ((m.count + 2 : Nat) : Int) - 1 = (m.count : Int) + 1 by omega] <;> go_num, by repeat (first | (with_reducible exact hg.trans g5) | (with_reducible refine Chg.drew ?_) | (with_reducible refine Chg.alloc ?_ _))⟩
            case measure => first | (simp [intOf]; done) | (simp [intOf]; omega)

end Go.Proofs.Ytiehbbbncmdchaa
