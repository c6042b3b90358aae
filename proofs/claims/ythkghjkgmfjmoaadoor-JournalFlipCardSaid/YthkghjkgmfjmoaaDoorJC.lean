/-
  Package journal: Read.
-/
import Derived.Test.YthkghjkgmfjmoaaDoorJB
import Derived.Maps.AppendAt
namespace Go.Proofs.YthkghjkgmfjmoaaDoor
open Go.RowKit Go.Shelf

theorem Tryd.info22 : (Tryd.prog.info? 22).map (fun i => (i.zero, i.size, i.bytes)) = some (some (.slice none 0 0), 1, 24) := by kernel_rfl

theorem Keep.append {n0 B b k : Nat} {W w1 : World} {v : Value} {xs : List Value} {tmp : Obj} (hrow : W.ownsRow b 22 1 v k xs) (hbB : B < b) (hg : (W.alloc tmp).grownBy w1 v.ownBlock) (hb : Below n0 W w1) : Keep n0 B W w1 := by
  have old : ∀ (i : Nat) (o : Obj), W.heap[i]? = some o → some i ≠ v.ownBlock → w1.heap[i]? = some o := fun i o hi hne => by
    have hlt := (Array.getElem?_eq_some_iff.1 hi).1
    exact (hg.block i (by simp; omega) hne).trans ((Below.heap_alloc W tmp i hlt).trans hi)
  refine ⟨hb, fun i cs fl hi => old i _ hi (fun e => ?_), fun o ho => old B o ho (fun e => ?_)⟩
  · rcases hrow.2 with ⟨rfl, _⟩ | ⟨g, cap, cur, rfl, _, hgb, _⟩
    · simp [Value.ownBlock] at e
    · obtain rfl : i = g := by simpa [Value.ownBlock] using e
      rw [hi] at hgb
      injection hgb with hgb
      injection hgb with _ h2 _
      cases h2
  · have := (hrow.lt B e.symm).1
    omega
theorem Keep.setBox {n0 B b : Nat} {W : World} {t : TypeId} {v : Value} (hb : Boxed W b t v) (h0 : n0 ≤ b) (ht : t ≠ 5) (hne : b ≠ B) (u : Value) : Keep n0 B W (W.setCell ⟨b, 0, none⟩ u) :=
  ⟨(Below.refl n0 W).setCell (p := ⟨b, 0, none⟩) h0 u, fun i cs fl hi => by
    by_cases e : i = b
    · subst e
      have hb : W.heap[i]? = _ := hb
      rw [hi] at hb
      injection hb with hb
      injection hb with _ h2 _
      exact absurd h2.symm ht
    · exact (Below.heap_setCell W ⟨b, 0, none⟩ u i (fun e' => e (by rw [e']))).trans hi,
   fun o ho => (Below.heap_setCell W ⟨b, 0, none⟩ u B (fun e' => hne (by rw [e']))).trans ho⟩

theorem own_far {w : World} {base e size n : Nat} {v : Value} {xs : List Value} (h : w.ownsRow base e size v n xs) (a : Addr) (u : Value) (ha : a.block < base) : (w.setCell a u).ownsRow base e size v n xs := by
  refine ⟨h.1, ?_⟩
  rcases h.2 with h1 | ⟨g, cap, cur, h1, h2, h3, h4⟩
  · exact .inl h1
  · exact .inr ⟨g, cap, cur, h1, h2, (Below.heap_setCell w a u g (by omega)).trans h3, h4⟩

set_option maxHeartbeats 2000000 in
theorem forms_any (A : Option Addr) (l c : Nat) (w : World) :
    Calls Tryd.prog 34 #[.slice A l c] w fun e w' => e = .returned (.func (.func 44) #[] #[.pointer (some ⟨w.heap.size, 0, none⟩)]) ∧ w' = w.alloc (.cells #[.slice A l c] 22) := by
  go_enter Tryd.func34, Tryd.ntmps34
  go_wp2_with fail
  go_ret
  exact ⟨rfl, rfl⟩

attribute [local go_sem] Oper.semAt_some

/-- Read's own, between two rounds. -/
def ReadI (w : World) (pre : List RecE) (W : World) : Prop :=
  ((∃ v, Boxed W w.heap.size 34 v ∧ W.ownsRow (w.heap.size + 3) 22 1 v pre.length (pre.map RecE.val) ∧ True) ∧ Boxed W (w.heap.size + 1) 3 (.int .i64 (lastQ pre))) ∧ Below w.heap.size w W ∧ w.heap.size + 3 ≤ W.heap.size

def ReadTold (w : World) (bs : List UInt8) (e : Ending) (w' : World) : Prop :=
  ∃ (xs : List RecE) (A : Option Addr) (c : Nat), e = .returned (.tuple #[.slice A xs.length c, .int .i64 (readJ bs 0).2]) ∧ w'.ownsRow w.heap.size 22 1 (.slice A xs.length c) xs.length (xs.map RecE.val) ∧ Got w.heap.size bs xs w' ∧ Chg none w w'

set_option maxRecDepth 100000 in
set_option maxHeartbeats 8000000 in
theorem readj_any (p : Prt) (w : World) (hp : p.ok w) (hl : p.x.length ≤ 400000) (hT : Tabs w) :
    Calls Tryd.prog 21 #[.slice p.A p.x.length p.c] w (ReadTold w p.x) := by
  obtain ⟨i0, hi, hz0, hz1, hz2⟩ := info_parts Tryd.info22
  have HP := Lib.hid hp
  have HT := Lib.hid hT
  clear hp hT
  refine (callsIn_wide (n := 3)).1 ?_
  refine callsIn_of_wp_marks Tryd.func21 rfl trivial ?_ rfl
  simp only [Tryd.ntmps21, List.size_toArray, List.length_cons, List.length_nil, Nat.reduceAdd, Nat.reduceSub, Array.replicate_succ, Array.replicate_zero, List.push_toArray, List.append_toArray, List.nil_append, List.cons_append]
  gi_wp2_with fail
  refine ⟨trivial, ?_⟩
  gi_at_call 34
  refine (callsIn_wide.2 (forms_any p.A p.x.length p.c _)).mono ?_
  rintro e w' ⟨rfl, rfl⟩
  have b0 := Boxed.new w 34 (.slice none 0 0)
  have b1 := Boxed.new (w.alloc (.cells #[.slice none 0 0] 34)) 3 (.int .i64 0)
  have b2 := Boxed.new ((w.alloc (.cells #[.slice none 0 0] 34)).alloc (.cells #[.int .i64 0] 3)) 22 (.slice p.A p.x.length p.c)
  simp only [World.size_alloc] at b1 b2
  have hB0 : Below w.heap.size w (((w.alloc (.cells #[.slice none 0 0] 34)).alloc (.cells #[.int .i64 0] 3)).alloc (.cells #[.slice p.A p.x.length p.c] 22)) := (((Below.refl _ w).alloc (Nat.le_refl _) _).alloc (by simp) _).alloc (by simp; omega) _
  have hI0 : ReadI w [] (((w.alloc (.cells #[.slice none 0 0] 34)).alloc (.cells #[.int .i64 0] 3)).alloc (.cells #[.slice p.A p.x.length p.c] 22)) := ⟨⟨⟨_, (b0.alloc _).alloc _, World.ownsRow_nil _ _ _ _, trivial⟩, b1.alloc _⟩, hB0, by simp⟩
  obtain ⟨W0, hW0⟩ : ∃ W0, W0 = ((w.alloc (.cells #[.slice none 0 0] 34)).alloc (.cells #[.int .i64 0] 3)).alloc (.cells #[.slice p.A p.x.length p.c] 22) := ⟨_, rfl⟩
  have hs0 : W0.heap.size = w.heap.size + 3 := by rw [hW0]; simp
  gi_wp2_with fail
  try simp only [World.size_alloc]
  rw [← hW0] at hI0 hB0 b2 ⊢
  clear hW0 b0 b1
  have HH := Lib.hid (forms1_hands p (w.heap.size + 1 + 1) w W0 HP.out HT.out hl hB0 b2)
  have HS0 := Lib.hid hs0
  clear hs0 hB0 b2
  refine range_over (gf := 44) (lb := #[.pointer (some ⟨w.heap.size + 1 + 1, 0, none⟩)]) rfl (enters_of Tryd.func44 (by kernel_rfl) rfl) HH.out (fun h k => h.trans k) (Keep.putObj (by rw [HS0.out]; omega) (by rw [HS0.out]; omega)) (fun _ => rfl)
    (ReadI w) ?hI ?hS hI0 (fun r => { tmps := #[.slice p.A p.x.length p.c, undef, .pointer (some ⟨w.heap.size, 0, none⟩), .pointer (some ⟨w.heap.size + 1, 0, none⟩), .slice r.A r.x.length r.c, .int .i64 r.q, .slice p.A p.x.length p.c, .func (.func 44) #[] #[.pointer (some ⟨w.heap.size + 1 + 1, 0, none⟩)], .slice r.A r.x.length r.c, .int .i64 r.q, undef, undef, undef, undef, undef, undef, undef], defers := [] }) ?assign ?body ?done
  case hI =>
    exact OwnFrom.and (OwnFrom.and (Own.from (holdsRow_own (w.heap.size + 3) w.heap.size 34 22 1 _ _ _) _) (Own.from (boxed_own _ _ _) _)) (OwnFrom.and (ownFrom_below (Nat.le_refl _) (by rw [HS0.out]; omega)) (fun _ _ _ _ hs hg _ => Nat.le_trans hs hg.size))
  case hS =>
    intro xs A B row hs hg hr
    refine ⟨fun r hm => (hs.own r hm).kept hg ?_, hs.all, hs.last, hs.rise⟩
    rcases (hs.own r hm).2 with ⟨e, _⟩ | ⟨g, cap, cur, e, _, hgb, _⟩
    · rw [e]; exact .inl rfl
    · rw [e]
      refine .inr fun e' => ?_
      obtain ⟨_, o, ho, hc⟩ := hr g (by simpa [Value.ownBlock] using e'.symm)
      rw [hgb] at ho; cases ho; cases hc
  case assign =>
    intro l x W K hK
    dsimp only [encR]
    gi_wp2
    exact hK
  case body =>
    rintro l pre x W ⟨⟨⟨v, hv, hrow, -⟩, hq⟩, hB, hsz⟩ hlen
    have hc := hv.cell
    have hn : pre.length + 1 ≤ 400001 := by omega
    have HSZ := Lib.hid hsz
    have HQ := Lib.hid hq
    have HB := Lib.hid hB
    clear hq hB hsz
    gi_wp2_with (gi_at_builtin; refine wpListIn_append_own _ rfl _ _ 34 rfl (w.heap.size + 3) 22 i0 (.slice none 0 0) 1 24 Tryd.underlying34 hi hz0 hz1 hz2 rfl (by decide) _ _ _ rfl (hrow.alloc _) ⟨W.heap.size, 0, none⟩ 1 1 [RecE.val x] rfl rfl (cell_one_new _ _ _) (by simp [RecE.val, Value.oneCell']) (by unfold maxLen; omega) (by omega) (by have := HSZ.out; simp; omega) ?_; intro v' w1 hown' hgrow _; obtain ⟨g', cap', rfl⟩ := ownsRow_succ hown'; obtain ⟨hv1, hv2, -, hk2, -⟩ := hv.appended (by decide) (World.ownsRow.mono hrow (by omega : w.heap.size ≤ w.heap.size + 3)) (Nat.le_trans HB.out.size (Nat.le_refl _)) (Nat.le_refl _) (World.ownsRow.mono hown' (by omega : w.heap.size ≤ w.heap.size + 3)) hgrow; have hq1 := (HQ.out.alloc (.cells #[RecE.val x] 22)).kept hgrow (Boxed.not_row HQ.out (by decide) hrow); have hq2 := hq1.other (by omega : w.heap.size + 1 ≠ w.heap.size) (Value.slice (some ⟨g', 0, none⟩) (pre.length + 1) cap'); have hc1 := hv1.cell; have hf1 := hv1.frozen; have hcq := hq1.cell; have hfq := hq1.frozen; have hcq2 := hq2.cell; have hfq2 := hq2.frozen)
    have hs1 : 0 ≤ W.heap.size := Nat.zero_le _
    have hsz := HSZ.out
    have hb1 : Below w.heap.size W w1 := ((Below.refl _ W).alloc HB.out.size _).grown hgrow (by simp; omega) (fun j ej => by have := ((hrow.alloc (.cells #[RecE.val x] 22)).lt j ej).1; omega)
    have hv3 := hv2.other (by omega : w.heap.size ≠ w.heap.size + 1) (Value.int IntKind.i64 x.q)
    have hq3 := hq2.set (Value.int IntKind.i64 x.q)
    have kp := (Keep.append (n0 := w.heap.size) (B := w.heap.size + 1 + 1) hrow (by omega) hgrow hb1).trans ((Keep.setBox hv1 (Nat.le_refl _) (by decide) (by omega) (Value.slice (some ⟨g', 0, none⟩) (pre.length + 1) cap')).trans (Keep.setBox hq2 (Nat.le_succ _) (by decide) (by omega) (Value.int IntKind.i64 x.q)))
    refine ⟨(hk2.trans (KeepsOthers.setCell _ _ _)).from _, kp, ⟨⟨⟨_, hv3, ?_, trivial⟩, ?_⟩, HB.out.trans kp.below, ?_⟩⟩
    · rw [List.length_append, List.length_singleton, List.map_append]
      exact own_far (own_far hown' _ _ (by show w.heap.size < w.heap.size + 3; omega)) _ _ (by show w.heap.size + 1 < w.heap.size + 3; omega)
    · rw [lastQ_snoc]; exact hq3
    · exact Nat.le_trans hsz kp.below.size
  case done =>
    rintro D xs W hD hgot ⟨⟨⟨v, hv, hrow, -⟩, hq⟩, hB, hsz⟩ hK
    obtain ⟨A, c, rfl⟩ := own_slice hrow
    have hc := hv.cell
    have hf := hv.frozen
    have hcq := hq.cell
    have hfq := hq.frozen
    have HSZ := Lib.hid hsz
    have HB := Lib.hid hB
    clear hB hsz
    gi_wp2_with fail
    refine wpIn_wide.2 ?_
    go_region
    have hs0 := HS0.out
    have kp := (Keep.setBox (n0 := w.heap.size) (B := w.heap.size + 1 + 1) hv (Nat.le_refl _) (by decide) (by omega) (Value.slice A xs.length c)).trans (Keep.setBox (hq.other (by omega : w.heap.size + 1 ≠ w.heap.size) (Value.slice A xs.length c)) (Nat.le_succ _) (by decide) (by omega) (Value.int IntKind.i64 (lastQ xs)))
    have ko := (KeepsOthers.setCell W ⟨w.heap.size, 0, none⟩ (Value.slice A xs.length c)).trans (KeepsOthers.setCell (W.setCell ⟨w.heap.size, 0, none⟩ (Value.slice A xs.length c)) ⟨w.heap.size + 1, 0, none⟩ (Value.int IntKind.i64 (lastQ xs)))
    have hv2 := (hv.set (Value.slice A xs.length c)).other (by omega : w.heap.size ≠ w.heap.size + 1) (Value.int IntKind.i64 (lastQ xs))
    have hq2 := (hq.other (by omega : w.heap.size + 1 ≠ w.heap.size) (Value.slice A xs.length c)).set (Value.int IntKind.i64 (lastQ xs))
    have own2 := own_far (own_far hrow ⟨w.heap.size, 0, none⟩ (Value.slice A xs.length c) (by show w.heap.size < w.heap.size + 3; omega)) ⟨w.heap.size + 1, 0, none⟩ (Value.int IntKind.i64 (lastQ xs)) (by show w.heap.size + 1 < w.heap.size + 3; omega)
    have hK2 := ko.same D _ hK rfl
    obtain ⟨W2, hW2⟩ : ∃ W2, W2 = (W.setCell ⟨w.heap.size, 0, none⟩ (Value.slice A xs.length c)).setCell ⟨w.heap.size + 1, 0, none⟩ (Value.int IntKind.i64 (lastQ xs)) := ⟨_, rfl⟩
    rw [← hW2] at kp hv2 hq2 own2 hK2 ⊢
    clear hW2 ko hc hf hcq hfq
    have hK3 : W2.drew.heap[D]? = some (.deferred (some [])) := hK2
    have hv3 : Boxed W2.drew w.heap.size 34 (Value.slice A xs.length c) := hv2
    have hq3 : Boxed W2.drew (w.heap.size + 1) 3 (Value.int IntKind.i64 (lastQ xs)) := hq2
    have own3 : W2.drew.ownsRow (w.heap.size + 3) 22 1 (Value.slice A xs.length c) xs.length (xs.map RecE.val) := own2
    have got3 : ∀ r ∈ xs, W2.drew.ownsRow w.heap.size 5 1 r.val r.x.length (byteVals r.x) := fun r hr => kp.own (hgot.own r hr)
    have bl3 : Below w.heap.size w W2.drew := (HB.out.trans kp.below).drew
    generalize W2.drew = W3 at *
    have hv4 := hv3.kept (grownBy_putObj' W3 D (.deferred none)) (fun e => by injection e with e; omega)
    have hq4 := hq3.kept (grownBy_putObj' W3 D (.deferred none)) (fun e => by injection e with e; omega)
    have hc4 := hv4.cell
    have hcq4 := hq4.cell
    gi_wp2_with fail
    refine ⟨by simp, .inl ⟨_, _, rfl, run_takeDeferred hK3, ?_⟩⟩
    refine ⟨.tuple #[.slice A xs.length c, .int .i64 (lastQ xs)], by simp [results, Tryd.f21, go_sem, hc4, hcq4], xs, A, c, by rw [hgot.last], ?_, ⟨fun r hr => ownsRow_putObj (got3 r hr) _ hK3 rfl, hgot.all, hgot.last, hgot.rise⟩, ?_⟩
    · exact World.ownsRow.mono (ownsRow_putObj own3 _ hK3 rfl) (by omega)
    · exact below_chg (bl3.trans ((Below.refl w.heap.size W3).grown (grownBy_putObj' W3 D (.deferred none)) bl3.size (fun k e => by injection e with e; omega)))

end Go.Proofs.YthkghjkgmfjmoaaDoor
