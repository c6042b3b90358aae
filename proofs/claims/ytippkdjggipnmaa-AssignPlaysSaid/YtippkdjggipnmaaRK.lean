/-
  Walks over package assign: Copy's parts.
-/
import Derived.Test.YtippkdjggipnmaaRI
import Derived.Shelf.SlMaps.Clone
import Derived.Laws.Externs
namespace Go.Proofs.Ytippkdjggipnmaa
open Go.RowKit Go.Maps

theorem wpList_append_zero {P : Program} {w : World} {ops : Array Oper} {rest : List Oper} {o : Oper} {a : Act} {Q : Exit → Act → World → Prop} (hgd : o.guard = none) (s x : Operand) (t : TypeId)
    (ho : o.op = .call { callee := .builtin .append, args := #[s, x], argTypes := #[t, t] }) (e : TypeId) (i : TypeInfo) (ht : P.underlying t = some (.slice e)) (hi : P.info? e = some i)
    (g : Nat) (ad : Addr) (c : Nat) (hs : a.eval s = .slice (some ⟨g, 0, none⟩) 0 0) (hx : a.eval x = .slice (some ad) 0 c) (_hg : w.heap[g]? = some (.cells #[] e (0, 0)))
    (h : wpList P ops Q rest (a.put o.dst (.slice (some ⟨g, 0, none⟩) 0 0)) w) : wpList P ops Q (o :: rest) a w := by
  refine wpList_plain hgd fun K hK => ?_
  have hrun : (Builtin.append_ #[t, t] o.type #[.slice (some ⟨g, 0, none⟩) 0 0, .slice (some ad) 0 c]).run P w = .ok (.slice (some ⟨g, 0, none⟩) 0 0) w := by
    simp [Builtin.append_, run_underlying ht, sizeOf, typeInfo, hi, Builtin.lenOf, Builtin.firstCells, storeCells, loadCells, loadCellsFrom, Result.andThen]
  unfold Oper.wp execOp
  simp only [ho, resolve, invoke, builtin, Sem.run_bind, Sem.run_pure, Result.andThen_ok, List.map_toArray, List.map_cons, List.map_nil, hs, hx, hrun]
  exact hK _ _ h

theorem eq_nil40 (w : World) (a : Option Addr) (n c n' c' : Nat) : (binOp .eql 40 (.slice a n c) (.slice none n' c')).run Try.prog w = .ok (.bool a.isNone) w := Lib.run_eql_slice_nil w _ _ a n c n' c' Try.underlying40
theorem eq_nil41 (w : World) (a : Option Addr) (n c n' c' : Nat) : (binOp .eql 41 (.slice a n c) (.slice none n' c')).run Try.prog w = .ok (.bool a.isNone) w := Lib.run_eql_slice_nil w _ _ a n c n' c' Try.underlying41
theorem oneCell_ck : ∀ (L : List Ck), ∀ u ∈ L.flatMap Ck.cells, u.oneCell' = true := fun L u hu => by
  obtain ⟨x, -, hx⟩ := List.mem_flatMap.1 hu
  unfold Ck.cells at hx
  simp at hx
  rcases hx with rfl | rfl | rfl <;> rfl
theorem oneCell_pr : ∀ (L : List Pr), ∀ u ∈ L.flatMap Pr.cells, u.oneCell' = true := fun L u hu => by
  obtain ⟨x, -, hx⟩ := List.mem_flatMap.1 hu
  unfold Pr.cells at hx
  simp at hx
  rcases hx with rfl | rfl <;> rfl
theorem reads_of {w : World} {b k n T : Nat} {xs tl : List Value} (h : BlkL w b (xs ++ tl) T) (hl : xs.length = n * k) (B : Nat) (hB : b < B) : Reads w B k (some ⟨b, 0, none⟩) n xs := by
  refine ⟨hl, fun _ => ⟨_, rfl, hB, fun j u hu => ?_⟩⟩
  rw [Go.WideShapes.add_plain, Nat.zero_add, BlkL.cell h]
  have hj := (List.getElem?_eq_some_iff.1 hu).1
  rw [List.getElem?_append_left hj]
  exact hu
theorem own_blk {w : World} {B e k : Nat} {v : Value} {n : Nat} {xs : List Value} (h : w.ownsRow B e k v (n + 1) xs) : ∃ g c tl, v = .slice (some ⟨g, 0, none⟩) (n + 1) c ∧ B ≤ g ∧ BlkL w g (xs ++ tl) e := by
  rcases h.2 with ⟨-, h0⟩ | ⟨g, cap, cur, rfl, hb, hg, -, -, -, ht⟩
  · cases h0
  · refine ⟨g, cap, cur.toList.drop ((n + 1) * k), rfl, hb, ?_⟩
    rw [← ht, List.take_append_drop]
    unfold BlkL Blk
    rw [Array.toArray_toList]
    exact hg

def ClP {α : Type} (cells : α → List Value) (T : Nat) (L : List α) (v : World) (e : Ending) (w' : World) : Prop := ∃ g c tl, e = .returned (.slice (some ⟨g, 0, none⟩) L.length c) ∧ v.heap.size ≤ g ∧ BlkL w' g (L.flatMap cells ++ tl) T ∧ Chg none v w'

set_option maxHeartbeats 4000000 in
theorem clone36 (L : List Ck) (b c : Nat) (tl : List Value) (v : World) (hb : BlkL v b (L.flatMap Ck.cells ++ tl) 59) (hl : L.length ≤ 100) :
    Calls Try.prog 36 #[.slice (some ⟨b, 0, none⟩) L.length c] v (ClP Ck.cells 59 L v) := by
  obtain ⟨i0, hi0, hz0, hz1, hz2⟩ := info_parts Try.info59
  have hq := fun w n => eq_nil40 w (some ⟨b, 0, none⟩) n c 0 0
  have hbl : b < v.heap.size := Blk.lt hb
  have hfl : (L.flatMap Ck.cells).length = L.length * 3 := flat_len Ck.cells 3 Ck.cells_len L
  cases L with
  | nil =>
    have HE : Hid (ClP Ck.cells 59 [] v (.returned (.slice (some ⟨v.heap.size, 0, none⟩) 0 0)) (v.alloc (.cells #[] 59))) := Lib.hid ⟨_, 0, [], rfl, Nat.le_refl _, Blk.new _ _ _, (Chg.refl _ _).alloc _⟩
    have hnew : (v.alloc (.cells #[] 59 (0, 0))).heap[v.heap.size]? = some (.cells #[] 59 (0, 0)) := heap_alloc_new v _
    clear hb hfl
    go_enter Try.func36, Try.ntmps36
    go_wp2_with (first
      | (refine wpList_append_zero rfl (.tmp 5) (.tmp 6) 40 rfl 59 i0 Try.underlying40 hi0 v.heap.size ⟨b, 0, none⟩ c rfl rfl hnew ?_))
    go_ret
    exact HE.out
  | cons x L =>
    have HR : Hid (Reads (v.alloc (.cells #[] 59)) (v.heap.size + 1) 3 (some ⟨b, 0, none⟩) (x :: L).length ((x :: L).flatMap Ck.cells)) := Lib.hid (reads_of (Blk.alloc hb _) hfl _ (by omega))
    have HO := Lib.hid (oneCell_ck (x :: L))
    have HW : Hid ((v.alloc (.cells #[] 59)).ownsRow v.heap.size 59 3 (.slice (some ⟨v.heap.size, 0, none⟩) 0 0) 0 []) := Lib.hid (World.ownsRow_made v #[] 0 (Nat.le_refl _) (Nat.zero_le _) rfl)
    have HEND : Hid (∀ v' w', w'.ownsRow v.heap.size 59 3 v' (0 + (x :: L).length) ([] ++ (x :: L).flatMap Ck.cells) → (v.alloc (.cells #[] 59)).grownBy w' (some v.heap.size) → ClP Ck.cells 59 (x :: L) v (.returned v') w') := Lib.hid fun v' w' h g => by
      rw [Nat.zero_add, List.nil_append] at h
      obtain ⟨g', c', tl', rfl, hB, hbk⟩ := own_blk (n := L.length) h
      exact ⟨g', c', tl', rfl, hB, hbk, Chg.ownRow ((Chg.refl _ _).alloc _) g (fun y hy => by injection hy with hy; omega)⟩
    have hs1 : 0 + (x :: L).length ≤ maxLen := by unfold maxLen; omega
    have hs2 : (0 + (x :: L).length) * 24 ≤ 140737488355328 := by omega
    have hs3 : v.heap.size ≤ (v.alloc (.cells #[] 59)).heap.size := by simp
    generalize (x :: L).flatMap Ck.cells = fl at *
    generalize (x :: L).length = n at *
    clear hb hfl
    go_enter Try.func36, Try.ntmps36
    go_wp2_with (first
      | (refine wpList_append_any _ rfl (.tmp 5) (.tmp 6) 40 rfl v.heap.size 59 i0 (.agg #[.int .i64 0, .int .i64 0, .int .i64 0]) 3 24 Try.underlying40 hi0 hz0 hz1 hz2 rfl (by decide) (.slice (some ⟨v.heap.size, 0, none⟩) 0 0) 0 [] rfl HW.out (v.heap.size + 1) (some ⟨b, 0, none⟩) n c fl rfl HR.out HO.out hs1 hs2 hs3 ?_
         intro v' w' hown hgr _
         have HX := Lib.hid (HEND.out v' w' hown hgr)
         clear hown hgr))
    go_ret
    exact HX.out

set_option maxHeartbeats 4000000 in
theorem clone37 (L : List Pr) (b c : Nat) (tl : List Value) (v : World) (hb : BlkL v b (L.flatMap Pr.cells ++ tl) 68) (hl : L.length ≤ 100) :
    Calls Try.prog 37 #[.slice (some ⟨b, 0, none⟩) L.length c] v (ClP Pr.cells 68 L v) := by
  obtain ⟨i0, hi0, hz0, hz1, hz2⟩ := info_parts Try.info68
  have hq := fun w n => eq_nil41 w (some ⟨b, 0, none⟩) n c 0 0
  have hbl : b < v.heap.size := Blk.lt hb
  have hfl : (L.flatMap Pr.cells).length = L.length * 2 := flat_len Pr.cells 2 Pr.cells_len L
  cases L with
  | nil =>
    have HE : Hid (ClP Pr.cells 68 [] v (.returned (.slice (some ⟨v.heap.size, 0, none⟩) 0 0)) (v.alloc (.cells #[] 68))) := Lib.hid ⟨_, 0, [], rfl, Nat.le_refl _, Blk.new _ _ _, (Chg.refl _ _).alloc _⟩
    have hnew : (v.alloc (.cells #[] 68 (0, 0))).heap[v.heap.size]? = some (.cells #[] 68 (0, 0)) := heap_alloc_new v _
    clear hb hfl
    go_enter Try.func37, Try.ntmps37
    go_wp2_with (first
      | (refine wpList_append_zero rfl (.tmp 5) (.tmp 6) 41 rfl 68 i0 Try.underlying41 hi0 v.heap.size ⟨b, 0, none⟩ c rfl rfl hnew ?_))
    go_ret
    exact HE.out
  | cons x L =>
    have HR : Hid (Reads (v.alloc (.cells #[] 68)) (v.heap.size + 1) 2 (some ⟨b, 0, none⟩) (x :: L).length ((x :: L).flatMap Pr.cells)) := Lib.hid (reads_of (Blk.alloc hb _) hfl _ (by omega))
    have HO := Lib.hid (oneCell_pr (x :: L))
    have HW : Hid ((v.alloc (.cells #[] 68)).ownsRow v.heap.size 68 2 (.slice (some ⟨v.heap.size, 0, none⟩) 0 0) 0 []) := Lib.hid (World.ownsRow_made v #[] 0 (Nat.le_refl _) (Nat.zero_le _) rfl)
    have HEND : Hid (∀ v' w', w'.ownsRow v.heap.size 68 2 v' (0 + (x :: L).length) ([] ++ (x :: L).flatMap Pr.cells) → (v.alloc (.cells #[] 68)).grownBy w' (some v.heap.size) → ClP Pr.cells 68 (x :: L) v (.returned v') w') := Lib.hid fun v' w' h g => by
      rw [Nat.zero_add, List.nil_append] at h
      obtain ⟨g', c', tl', rfl, hB, hbk⟩ := own_blk (n := L.length) h
      exact ⟨g', c', tl', rfl, hB, hbk, Chg.ownRow ((Chg.refl _ _).alloc _) g (fun y hy => by injection hy with hy; omega)⟩
    have hs1 : 0 + (x :: L).length ≤ maxLen := by unfold maxLen; omega
    have hs2 : (0 + (x :: L).length) * 16 ≤ 140737488355328 := by omega
    have hs3 : v.heap.size ≤ (v.alloc (.cells #[] 68)).heap.size := by simp
    generalize (x :: L).flatMap Pr.cells = fl at *
    generalize (x :: L).length = n at *
    clear hb hfl
    go_enter Try.func37, Try.ntmps37
    go_wp2_with (first
      | (refine wpList_append_any _ rfl (.tmp 5) (.tmp 6) 41 rfl v.heap.size 68 i0 (.agg #[.int .i64 0, .int .i64 0]) 2 16 Try.underlying41 hi0 hz0 hz1 hz2 rfl (by decide) (.slice (some ⟨v.heap.size, 0, none⟩) 0 0) 0 [] rfl HW.out (v.heap.size + 1) (some ⟨b, 0, none⟩) n c fl rfl HR.out HO.out hs1 hs2 hs3 ?_
         intro v' w' hown hgr _
         have HX := Lib.hid (HEND.out v' w' hown hgr)
         clear hown hgr))
    go_ret
    exact HX.out

theorem MapT.copy {w w' : World} {b g n : Nat} {f : Int → Int → Int} {es : Array MapEntry} {cl : Nat} (h : MapT w b n f) (hb : w.heap[b]? = some (.map es cl)) (hg : w'.heap[g]? = some (.map es cl)) : MapT w' g n f := by
  obtain ⟨D, ⟨es', cl', hb', F, hs, hD⟩, hf⟩ := h
  rw [hb] at hb'
  simp only [Option.some.injEq, Obj.map.injEq] at hb'
  obtain ⟨rfl, rfl⟩ := hb'
  exact ⟨D, ⟨_, _, hg, F, hs, hD⟩, hf⟩
set_option maxHeartbeats 4000000 in
theorem clone38 (b n : Nat) (f : Int → Int → Int) (w : World) (h : MapT w b n f) :
    Calls Try.prog 38 #[.map (some b)] w fun e w' => e = .returned (.map (some w.heap.size)) ∧ MapT w' w.heap.size n f ∧ Chg none w w' := by
  obtain ⟨es, cl, hb⟩ := h.cellNone
  have HE : Hid (MapT (w.alloc (.map es cl)) w.heap.size n f ∧ Chg none w (w.alloc (.map es cl))) := Lib.hid ⟨h.copy hb (heap_alloc_new w _), (Chg.refl _ _).alloc _⟩
  have hq := fun w => run_eql_map_nil_sl (P := Try.prog) w 42 _ _ (some b) Try.underlying42
  clear h
  go_enter Try.func38, Try.ntmps38
  go_wp2
  rw [run_callFunc_extern Try.func45 (by kernel_rfl) (by kernel_rfl) (by kernel_rfl) (e := Extern.MapsClone.clone) (by kernel_rfl), run_maps_clone_sl w 42 hb]
  simp only [Result.andThen]
  rw [Oper.upon_value]
  go_wp2
  rw [run_typeAssert_map_sl _ 42 20 _ _ _ Try.underlying42]
  simp only [Result.andThen]
  rw [Oper.upon_value]
  go_wp2
  go_ret
  exact ⟨rfl, HE.out⟩

end Go.Proofs.Ytippkdjggipnmaa
