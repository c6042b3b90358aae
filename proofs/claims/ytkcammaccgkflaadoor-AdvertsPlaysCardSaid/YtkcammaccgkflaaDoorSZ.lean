/-
  Package adverts: Sum.
-/
import Derived.Test.YtkcammaccgkflaaDoorSY
namespace Go.Proofs.YtkcammaccgkflaaDoor
open Go.RowKit Go.Shelf

theorem info22 : (Tryd.prog.info? 22).map (fun i => (i.zero, i.size, i.bytes)) = some (some (.slice none 0 0), 1, 24) := by kernel_rfl
theorem built30n : Tryd.prog.built 30 [] = some zero32 := by kernel_rfl
def zeroD : List UInt8 := zeros 32
theorem zeroD_cells : zero32 = (byteVals zeroD).toArray := by kernel_rfl
theorem wpList_build_is {P : Program} {ops : Array Oper} {rest : List Oper} {o : Oper} {a : Act} {w : World} {Q : Exit → Act → World → Prop} (hg : o.guard = none) (t : TypeId) (parts : Array (Nat × Operand)) (ho : o.op = .build t parts) (cs : Array Value)
    (hf : P.built t (parts.map fun (i, x) => (i, a.eval x)).toList = some cs) (h : wpList P ops Q rest (a.put o.dst (.agg cs)) w) : wpList P ops Q (o :: rest) a w :=
  wpList_build hg t parts ho (by rw [hf]; rfl) (by rw [hf]; exact h)
theorem results_cell_tmp {P : Program} {fn : Func} {p q : Tmp} {ty : TypeId} (h : fn.results = #[.cell p ty, .tmp q]) (tmps : Array Value) (w : World) (g : Nat) (t : TypeId) (cs : Array Value) (fr : Nat × Nat) (d : TypeDesc)
    (hp : tmps.getD p undef = .pointer (some ⟨g, 0, none⟩)) (hg : w.heap[g]? = some (.cells cs t fr))
    (hu : P.underlying ty = some d) (hd : (match d with | .struct _ | .array _ _ => true | _ => false) = true) (hi : (P.info? ty).map (·.size) = some cs.size) :
    (results fn tmps).run P w = .ok (.tuple #[.agg cs, tmps.getD q undef]) w := by
  have hp' : tmps[p]?.getD undef = .pointer (some ⟨g, 0, none⟩) := by simpa using hp
  simp [results, h, hp', asAddr, run_loadVar_row w g t ty cs fr d hg hu hd hi]

set_option maxRecDepth 100000 in
set_option maxHeartbeats 4000000 in
/-- No set, or no prefix. -/
theorem sum_no (q : Option Addr) (pr : List UInt8) (A : Option Addr) (c : Nat) (w : World) (hT : Txt w A pr) (hpl : pr.length < 9223372036854775808) (hn : q = none ∨ prefB pr = false) :
    Calls Tryd.prog 49 #[.pointer q, .slice A pr.length c] w fun e w' => e = .returned (.tuple #[.agg (byteVals zeroD).toArray, .int .i64 0]) ∧ Chg none w w' := by
  obtain ⟨W, hW⟩ : ∃ W, W = w.alloc (.cells zero32 30) := ⟨_, rfl⟩
  have g0 : Chg none w W := by rw [hW]; exact (Chg.refl _ _).alloc _
  have hbz : Blk W w.heap.size zero32 30 := by rw [hW]; exact Blk.new _ _ _
  have HP := Lib.hid (isprefix_any pr A c W (hT.chg g0) hpl)
  have HI30 : Hid ((Tryd.prog.info? 30).map (·.size) = some zero32.size) := by show _ = _; kernel_rfl
  have HO : Hid (zero32.all (·.oneCell') = true) := by show _ = _; kernel_rfl
  have HBZ := Lib.hid hbz
  have HBN := Lib.hid built30n
  obtain ⟨WS, hWS⟩ : ∃ WS, WS = W.setRow w.heap.size zero32 := ⟨_, rfl⟩
  have HGS : Hid (Chg none w WS) := Lib.hid (by rw [hWS]; exact Chg.own g0 (chg_setRow _ _ _) (Nat.le_refl _))
  have HBS : Hid (Blk WS w.heap.size zero32 30) := Lib.hid (by rw [hWS]; exact setRow_heap _ _ _ _ 30 _ hbz)
  have HW : Hid (w.alloc (.cells zero32 30) = W) := hW.symm
  have HWS := Lib.hid hWS
  have HZD := Lib.hid zeroD_cells
  clear hW hWS g0 hbz hT hpl
  unfold zero32 at HW
  cases q with
  | none =>
    clear hn HP
    go_enter Tryd.func49, Tryd.ntmps49
    go_upto_region 1 with fail
    rw [HW.out]
    go_wp2_with (first
      | (refine wpList_build_is rfl 30 _ rfl zero32 (by simp only [List.map_toArray, List.map_nil]; exact HBN.out) ?_)
      | (refine wpList_store_row rfl 30 _ _ rfl w.heap.size zero32 rfl rfl 30 _ HBZ.out HI30.out rfl HO.out ?_; rw [← HWS.out]))
    refine bodyPost_ret (results_cell_tmp (p := 4) (q := 5) (ty := 30) Tryd.results49 _ _ w.heap.size 30 zero32 (0, 0) _ rfl HBS.out Tryd.underlying30 rfl HI30.out) rfl ⟨?_, HGS.out⟩
    rw [← HZD.out]; rfl
  | some b =>
    have hp : prefB pr = false := hn.resolve_left (by simp)
    rw [hp] at HP
    go_enter Tryd.func49, Tryd.ntmps49
    go_upto_region 1 with fail
    rw [HW.out]
    go_wp2_with fail
    refine HP.out.mono ?_
    rintro e w1 ⟨rfl, rfl⟩
    go_wp2_with (first
      | (refine wpList_build_is rfl 30 _ rfl zero32 (by simp only [List.map_toArray, List.map_nil]; exact HBN.out) ?_)
      | (refine wpList_store_row rfl 30 _ _ rfl w.heap.size zero32 rfl rfl 30 _ HBZ.out HI30.out rfl HO.out ?_; rw [← HWS.out]))
    refine bodyPost_ret (results_cell_tmp (p := 4) (q := 5) (ty := 30) Tryd.results49 _ _ w.heap.size 30 zero32 (0, 0) _ rfl HBS.out Tryd.underlying30 rfl HI30.out) rfl ⟨?_, HGS.out⟩
    rw [← HZD.out]; rfl

def bytA (x : Att) : List UInt8 := attBytes x (u64n x.n)
/-- Sum's own, between two rounds. -/
def SumI (w : World) (pre : List MA) (W : World) : Prop :=
  ∃ pts : List Prt, pts.map (·.x) = pre.map (fun x => bytA x.1) ∧ (∃ v, Boxed W (w.heap.size + 1) 34 v ∧ W.ownsRow (w.heap.size + 4) 22 1 v pts.length (pts.map Prt.val)) ∧ (∀ p ∈ pts, W.ownsRow (w.heap.size + 4) 5 1 p.val p.x.length (byteVals p.x)) ∧
    Blk W w.heap.size zero32 30 ∧ Chg none w W ∧ w.heap.size + 4 ≤ W.heap.size
theorem cells_kept {X Y : World} {row : Option Nat} {B b : Nat} {cs : Array Value} {t : TypeId} {f : Nat × Nat} (h : X.heap[b]? = some (.cells cs t f)) (hg : X.grownBy Y row) (hr : ∀ r, row = some r → B ≤ r ∧ ∃ o : Obj, X.heap[r]? = some o ∧ o.isCells = false) : Y.heap[b]? = some (.cells cs t f) :=
  (hg.block b (Array.getElem?_eq_some_iff.1 h).1 fun e => by obtain ⟨-, o, ho, hc⟩ := hr b e.symm; rw [h] at ho; cases ho; cases hc).trans h
theorem row_kept {X Y : World} {row : Option Nat} {B b e s n : Nat} {v : Value} {xs : List Value} (h : X.ownsRow b e s v n xs) (hg : X.grownBy Y row) (hr : ∀ r, row = some r → B ≤ r ∧ ∃ o : Obj, X.heap[r]? = some o ∧ o.isCells = false) : Y.ownsRow b e s v n xs := by
  refine ⟨h.1, ?_⟩
  rcases h.2 with h1 | ⟨g, cap, cur, h1, h2, h3, h4⟩
  · exact .inl h1
  · exact .inr ⟨g, cap, cur, h1, h2, cells_kept h3 hg hr, h4⟩
theorem sumI_own (w : World) (B : Nat) (hB : w.heap.size ≤ B) : OwnFrom B (SumI w) := by
  rintro pre X Y row ⟨pts, h1, ⟨v, hv, hr⟩, h3, h4, h5, h6⟩ hg hw
  exact ⟨pts, h1, ⟨v, cells_kept hv hg hw, row_kept hr hg hw⟩, fun p hp => row_kept (h3 p hp) hg hw, cells_kept h4 hg hw, ownFrom_chg (β := Unit) hB () X Y row h5 hg hw, Nat.le_trans h6 hg.size⟩
/-- What a round begins with. -/
def SumA (q A : Option Addr) (l c n : Nat) (x : MA) (a' : Act) (W : World) : Prop :=
  ∃ ga, a' = { tmps := #[.pointer q, .slice A l c, undef, undef, .pointer (some ⟨n, 0, none⟩), .int .i64 0, .pointer (some ⟨n + 1, 0, none⟩), .pointer (some ⟨ga, 0, none⟩), undef, undef, .pointer q, .bool false, .bool false, .slice A l c, .bool true, .bool false, .bool false, undef, .pointer q, .slice A l c, .func (.func 92) #[] #[.pointer (some ⟨n + 1 + 1, 0, none⟩), .pointer (some ⟨n + 1 + 1 + 1, 0, none⟩)], .agg (attCells x.1).toArray, undef, undef, undef, undef, undef, undef, undef, undef, undef, undef, undef, undef, undef], defers := [] } ∧ W.rangeAt ga 0 (attCells x.1)
/-- The world in which the loop begins. -/
def sumW (w : World) (q : Option Addr) (A : Option Addr) (l c : Nat) : World := (((w.alloc (.cells zero32 30)).alloc (.cells #[.slice none 0 0] 34)).alloc (.cells #[.pointer q] 67)).alloc (.cells #[.slice A l c] 22)
theorem joined_pts {pts : List Prt} {M : List Att} (h : pts.map (·.x) = M.map bytA) : 32 :: joined pts = rowB M := by
  unfold joined rowB
  rw [List.flatMap_def, h, List.flatMap_def]
  rfl
/-- What is appended to the row of parts changes no block of another type. -/
theorem typ_kept {n b k i : Nat} {T : TypeId} {w1 w2 : World} {v u : Value} {xs : List Value} {tmp : Obj} {cs : Array Value} {f : Nat × Nat} (h1 : T ≠ 22) (h2 : T ≠ 34) (hrow : w1.ownsRow n 22 1 v k xs) (hgrow : (w1.alloc tmp).grownBy w2 v.ownBlock) (hbox : Boxed w1 b 34 v)
    (hi : w1.heap[i]? = some (.cells cs T f)) : (w2.setCell ⟨b, 0, none⟩ u).heap[i]? = some (.cells cs T f) := by
  have hlt := (Array.getElem?_eq_some_iff.1 hi).1
  rw [Below.heap_setCell w2 ⟨b, 0, none⟩ u i (fun e => by
    have e : i = b := e
    subst e
    have hbox : w1.heap[i]? = _ := hbox
    rw [hi] at hbox
    injection hbox with hbox
    injection hbox with _ hbox _
    exact h2 hbox)]
  refine (hgrow.block i (by simp; omega) fun e => ?_).trans ((Below.heap_alloc w1 tmp i hlt).trans hi)
  rcases hrow.2 with ⟨rfl, _⟩ | ⟨g, cap, cur, rfl, _, hgb, _⟩
  · simp [Value.ownBlock] at e
  · obtain rfl : i = g := by simpa [Value.ownBlock] using e
    rw [hi] at hgb
    injection hgb with hgb
    injection hgb with _ hgb _
    exact h1 hgb
theorem own_row5 {X Y : World} {B k : Nat} {v : Value} {xs : List Value} (h : X.ownsRow B 5 1 v k xs) (hk : ∀ (i : Nat) (cs : Array Value) (f : Nat × Nat), X.heap[i]? = some (.cells cs 5 f) → Y.heap[i]? = some (.cells cs 5 f)) : Y.ownsRow B 5 1 v k xs := by
  refine ⟨h.1, ?_⟩
  rcases h.2 with h1 | ⟨g, cap, cur, h1, h2, h3, h4⟩
  · exact .inl h1
  · exact .inr ⟨g, cap, cur, h1, h2, hk _ _ _ h3, h4⟩
theorem cell_one_newS (w : World) (v : Value) (t : TypeId) : ∀ j u, [v][j]? = some u → (w.alloc (.cells #[v] t)).cell? ((⟨w.heap.size, 0, none⟩ : Addr).add j) = some u := fun j u hj => by
  rw [Go.WideShapes.add_plain, Nat.zero_add, Blk.cell (Blk.new w #[v] t)]
  simpa using hj
attribute [local go_sem] Oper.semAt_some

set_option maxRecDepth 100000 in
set_option maxHeartbeats 16000000 in
theorem sum_core (b : Addr) (pr : List UInt8) (A : Option Addr) (c : Nat) (w : World) (M : List Att) (NN : Nat) (hN : NN ≤ 1001) (hM : M.length ≤ 1000) (hTb : Tabs w) (hT : Txt w A pr) (hpl : pr.length < 9223372036854775808) (hp : prefB pr = true)
    (hH : Hands Tryd.prog 92 #[.pointer (some ⟨w.heap.size + 1 + 1, 0, none⟩), .pointer (some ⟨w.heap.size + 1 + 1 + 1, 0, none⟩)] encA (KeptBut (sumW w (some b) A pr.length c).heap.size (w.heap.size + 1)) (fun xs _ => xs.map (·.1) = M) NN (sumW w (some b) A pr.length c)) :
    Calls Tryd.prog 49 #[.pointer (some b), .slice A pr.length c] w fun e w' => e = .returned (.tuple #[.agg (byteVals (dig (rowB M))).toArray, .int .i64 M.length]) ∧ Chg none w w' := by
  obtain ⟨i0, hi, hz0, hz1, hz2⟩ := info_parts info22
  have HH := Lib.hid hH
  have HP : Hid (∀ v, Chg none w v → Calls Tryd.prog 54 #[.slice A pr.length c] v fun e w' => e = .returned (.bool true) ∧ v = w') := Lib.hid fun v g => by
    have := isprefix_any pr A c v (hT.chg g) hpl
    rwa [hp] at this
  have HTB := Lib.hid hTb
  have HN := Lib.hid hN
  have HML := Lib.hid hM
  clear hH hT hpl hp hTb hM hN
  refine (callsIn_wide (n := 3)).1 ?_
  refine callsIn_of_wp_marks Tryd.func49 rfl trivial ?_ rfl
  simp only [Tryd.ntmps49, List.size_toArray, List.length_cons, List.length_nil, Nat.reduceAdd, Nat.reduceSub, Array.replicate_succ, Array.replicate_zero, List.push_toArray, List.append_toArray, List.nil_append, List.cons_append]
  gi_wp2_with fail
  refine ⟨trivial, ?_⟩
  gi_at_call 54
  refine (callsIn_wide.2 (HP.out _ ((Chg.refl _ _).alloc _))).mono ?_
  rintro e w1 ⟨rfl, rfl⟩
  gi_wp2_with fail
  refine ⟨trivial, ?_⟩
  gi_at_call 79
  refine (callsIn_wide.2 (range79_any (some b) A pr.length c _)).mono ?_
  rintro e w' ⟨rfl, rfl⟩
  obtain ⟨n, hn⟩ : ∃ n, n = w.heap.size := ⟨_, rfl⟩
  obtain ⟨W0, hW0⟩ : ∃ W0, W0 = sumW w (some b) A pr.length c := ⟨_, rfl⟩
  have hs0 : W0.heap.size = w.heap.size + 4 := by rw [hW0]; simp [sumW]
  have g0 : Chg none w W0 := by rw [hW0]; exact ((((Chg.refl _ _).alloc _).alloc _).alloc _).alloc _
  have b0 : Blk W0 w.heap.size zero32 30 := by rw [hW0]; exact (((Blk.new w zero32 30).alloc _).alloc _).alloc _
  have b1 : Boxed W0 (w.heap.size + 1) 34 (.slice none 0 0) := by
    have := Boxed.new (w.alloc (.cells zero32 30)) 34 (.slice none 0 0)
    rw [World.size_alloc] at this
    rw [hW0]; exact (this.alloc _).alloc _
  have hI0 : SumI w [] W0 := ⟨[], rfl, ⟨_, b1, World.ownsRow_nil _ _ _ _⟩, fun p hp => (by cases hp), b0, g0, by rw [hs0]; exact Nat.le_refl _⟩
  rw [← hW0] at HH
  unfold sumW zero32 at hW0
  gi_wp2_with fail
  try simp only [World.size_alloc]
  rw [← hW0]
  clear hW0 b0 b1 g0
  have HS0 := Lib.hid hs0
  rw [hs0] at HH
  clear hs0
  refine range_over2 (gf := 92) (lb := #[.pointer (some ⟨w.heap.size + 1 + 1, 0, none⟩), .pointer (some ⟨w.heap.size + 1 + 1 + 1, 0, none⟩)]) rfl (enters_of Tryd.func92 (by kernel_rfl) rfl) HH.out (fun h k => h.trans k) (by rw [HS0.out]; exact KeptBut.putObj) (fun _ => rfl)
    (SumI w) ?hI ?hS hI0 (SumA (some b) A pr.length c w.heap.size) ?hA ?assign ?body ?done
  case hI => exact sumI_own w _ (by rw [HS0.out]; omega)
  case hS => exact fun _ _ _ _ hs _ _ => hs
  case hA =>
    intro x a' s W W' row hs hg hr
    obtain ⟨ga, e, h⟩ := hs
    exact ⟨ga, e, ownFrom_range () W W' row h hg hr⟩
  case assign =>
    rintro l' pre x W K ⟨pts, h1, ⟨v, hv, hrow⟩, h3, h4, hB, hsz⟩ hK
    have HK := Lib.hid hK
    obtain ⟨WA, hWA⟩ : ∃ WA, WA = (W.alloc (.cells Tryd.zeroCells46 46)).setRow W.heap.size (attCells x.1).toArray := ⟨_, rfl⟩
    have hzb : (W.alloc (.cells Tryd.zeroCells46 46)).heap[W.heap.size]? = some (.cells Tryd.zeroCells46 46 (0, 0)) := heap_alloc_new W _
    have hbx : BlkL WA W.heap.size (attCells x.1) 46 := by rw [hWA]; exact setRow_heap _ _ _ _ 46 _ hzb
    have hga : Chg none W WA := by rw [hWA]; exact Chg.own ((Chg.refl none W).alloc _) (chg_setRow _ _ _) (Nat.le_refl _)
    have HZB := Lib.hid hzb
    have HZS : Hid (Tryd.zeroCells46.size = (attCells x.1).toArray.size) := Lib.hid (by
      have h97 : (attCells x.1).toArray.size = 97 := by rw [List.size_toArray, attCells_len]
      rw [h97]; show _ = _; kernel_rfl)
    have HI46 := Lib.hid (info46a x.1)
    have HO1 := Lib.hid (attCells_one x.1)
    have HWA := Lib.hid hWA
    have HKF : Hid (KeepsFrom W0.heap.size W WA) := Lib.hid (KeepsFrom.of_grownBy hga (fun j e => by cases e))
    have HKP : Hid (KeptBut (w.heap.size + 4) (w.heap.size + 1) W WA) := Lib.hid ((Kept.of_chg hga).mono fun k e => by cases e)
    have HIN : Hid (SumI w pre WA) := Lib.hid ⟨pts, h1, ⟨v, hv.kept hga (by simp), World.ownsRow.kept hrow hga (by cases v.ownBlock <;> simp)⟩, fun p hp => World.ownsRow.kept (h3 p hp) hga (by cases p.val.ownBlock <;> simp), Blk.chg h4 hga (by simp), hB.trans hga, Nat.le_trans hsz hga.size⟩
    have HRA := Lib.hid (Blk.range hbx)
    clear hv hrow hB hsz hWA hzb hbx hga hK h1 h3 h4
    dsimp only [encA]
    gi_wp2_with (first
      | (refine wpListIn_store_row rfl 46 _ _ rfl W.heap.size (attCells x.1).toArray rfl rfl 46 _ HZB.out HI46.out HZS.out HO1.out ?_; rw [← HWA.out]))
    exact HK.out _ _ HKF.out HKP.out HIN.out ⟨_, rfl, HRA.out⟩
  case body =>
    rintro l' pre x a' W ⟨pts, h1, ⟨v, hv, hrow⟩, h3, h4, hB, hsz⟩ ⟨ga, rfl, hra⟩ hlen
    have hlp : pts.length = pre.length := by have := congrArg List.length h1; rwa [List.length_map, List.length_map] at this
    have hn1 : pts.length + 1 ≤ 1001 := by have := HN.out; omega
    have HSZ := Lib.hid hsz
    have HB := Lib.hid hB
    have HRA := Lib.hid hra
    have HIX := Lib.hid (info46 x.1)
    have HBY := Lib.hid (bytes_any x.1 W x.2)
    have H1 := Lib.hid h1
    have H3 := Lib.hid h3
    have H4 := Lib.hid h4
    have HV := Lib.hid hv
    have HROW := Lib.hid hrow
    clear hB hsz hra h1 h3 h4 hlp hv hrow
    gi_wp2_with (first
      | (refine wpListIn_load_mid rfl 46 _ rfl ga 0 rfl (attCells x.1) _ HRA.out Tryd.underlying46 rfl HIX.out ?_))
    refine ⟨trivial, ?_⟩
    gi_at_call 35
    refine CallsIn.mono (F := Fence.wide) (callsIn_wide.2 HBY.out) ?_
    rintro e w1 ⟨A1, c1, rfl, hown, g1⟩
    have hv1 := HV.out.kept g1 (by simp)
    have hrow1 := World.ownsRow.kept HROW.out g1 (by cases v.ownBlock <;> simp)
    have hc := hv1.cell
    have HOWN := Lib.hid hown
    have HG1 := Lib.hid g1
    have HS1 : Hid (w.heap.size + 4 ≤ w1.heap.size) := Lib.hid (Nat.le_trans HSZ.out g1.size)
    clear hown g1
    gi_wp2_with (gi_at_builtin; refine wpListIn_append_own _ rfl _ _ 34 rfl (w.heap.size + 4) 22 i0 (.slice none 0 0) 1 24 Tryd.underlying34 hi hz0 hz1 hz2 rfl (by decide) _ _ _ rfl (hrow1.alloc _) ⟨w1.heap.size, 0, none⟩ 1 1 [.slice A1 104 c1] rfl rfl (cell_one_newS _ _ _) (by simp [Value.oneCell']) (by unfold maxLen; omega) (by omega) (by have := HS1.out; simp; omega) ?_; intro v' w2 hown' hgrow _; obtain ⟨g', cap', rfl⟩ := ownsRow_succ hown'; obtain ⟨hv2, hv3, -, hk2, -⟩ := hv1.appended (by decide) (own_base hrow1 (by omega : w.heap.size + 1 ≤ w.heap.size + 4)) (Nat.le_trans (by omega : w.heap.size + 1 ≤ w.heap.size + 4) HS1.out) (Nat.le_refl _) (own_base hown' (by omega : w.heap.size + 1 ≤ w.heap.size + 4)) hgrow; have hc1 := hv2.cell; have hf1 := hv2.frozen)
    have kp1 : KeptBut (w.heap.size + 4) (w.heap.size + 1) W w1 := (Kept.of_chg HG1.out).mono fun k e => by cases e
    have kp2 : KeptBut (w.heap.size + 4) (w.heap.size + 1) w1 (w2.setCell ⟨w.heap.size + 1, 0, none⟩ (Value.slice (some ⟨g', 0, none⟩) (pts.length + 1) cap')) := (kept_grown HS1.out hgrow fun j ej => (hrow1.lt j ej).1).setCell _ _ (.inl (.inl rfl))
    have kp := kp1.trans kp2
    have hko : KeepsFrom W0.heap.size W (w2.setCell ⟨w.heap.size + 1, 0, none⟩ (Value.slice (some ⟨g', 0, none⟩) (pts.length + 1) cap')) := (KeepsFrom.of_grownBy HG1.out (fun j e => by cases e)).trans (hk2.from _)
    refine ⟨hko, kp, ⟨pts ++ [⟨A1, bytA x.1, c1⟩], ?_, ⟨_, hv3, ?_⟩, fun p hp => ?_, ?_, Kept.fresh HB.out kp (fun i hi => by rcases hi with rfl | hi <;> omega), Nat.le_trans HSZ.out kp.size⟩⟩
    · rw [List.map_append, List.map_append, H1.out]; rfl
    · rw [List.length_append, List.length_singleton, List.map_append]
      have h9 := own_far hown' ⟨w.heap.size + 1, 0, none⟩ (Value.slice (some ⟨g', 0, none⟩) (pts.length + 1) cap') (by show w.heap.size + 1 < w.heap.size + 4; omega)
      have e9 : Prt.val ⟨A1, bytA x.1, c1⟩ = .slice A1 104 c1 := by unfold Prt.val; simp only [bytA, attBytes_len]
      rw [List.map_singleton, e9]; exact h9
    · rcases List.mem_append.1 hp with hp | hp
      · exact own_row5 (World.ownsRow.kept (H3.out p hp) HG1.out (by cases p.val.ownBlock <;> simp)) fun i cs f hi => typ_kept (by decide) (by decide) hrow1 hgrow hv1 hi
      · rw [List.mem_singleton] at hp
        subst hp
        have h8 := own_base HOWN.out HSZ.out
        have h7 : w1.ownsRow (w.heap.size + 4) 5 1 (Prt.val ⟨A1, bytA x.1, c1⟩) (bytA x.1).length (byteVals (bytA x.1)) := by
          unfold Prt.val; simp only [bytA, attBytes_len]; exact h8
        exact own_row5 h7 fun i cs f hi => typ_kept (by decide) (by decide) hrow1 hgrow hv1 hi
    · exact typ_kept (by decide) (by decide) hrow1 hgrow hv1 (Blk.chg H4.out HG1.out (by simp))
  case done =>
    rintro D xs W hD rfl ⟨pts, h1, ⟨v, hv, hrow⟩, h3, h4, hB, hsz⟩ hK
    have hlp : pts.length = xs.length := by have := congrArg List.length h1; rwa [List.length_map, List.length_map] at this
    obtain ⟨A', c', rfl⟩ := own_slice hrow
    have hjp : 32 :: joined pts = rowB (xs.map (·.1)) := joined_pts (by rw [h1, List.map_map]; rfl)
    have HML2 : Hid (pts.length ≤ 1000) := Lib.hid (by have := HML.out; rw [List.length_map] at this; omega)
    have hpa : PartsAt W A' pts := by
      refine ⟨fun h0 => ?_, fun p hp => ?_⟩
      · rcases hrow.2 with ⟨e, h9⟩ | ⟨g, cap, cur, e, hb, hgg, -⟩
        · omega
        · injection e with e1 _ _
          subst e1
          refine ⟨g, 0, rfl, (Array.getElem?_eq_some_iff.1 hgg).1, fun i p hi => ?_⟩
          have := hrow.cells rfl i p.val (by rw [List.getElem?_map, hi]; rfl)
          rwa [Go.WideShapes.add_plain] at this
      · obtain ⟨t1, -, t3⟩ := own_txt (h3 p hp)
        exact ⟨t1, t3⟩
    have hjl : (joined pts).length < 1000000000 := by
      have h9 := congrArg List.length hjp
      rw [List.length_cons, rowB_len, List.length_map] at h9
      have := HML2.out; omega
    obtain ⟨CC, hCC⟩ : ∃ CC, CC = (byteVals (dig (rowB (xs.map (·.1))))).toArray := ⟨_, rfl⟩
    have HPT : Hid (∀ v, Chg none W v → Calls Tryd.prog 25 #[.int .u8 32, .slice A' pts.length c'] v fun e w' => e = .returned (.agg CC) ∧ Chg none v w') := Lib.hid fun v g => by
      have := parts_any 32 A' pts c' v (hpa.chg g) hjl (by have := HML2.out; omega) (HTB.out.chg (hB.trans g) (by simp))
      rw [hjp, ← hCC] at this
      exact this
    have hlc : CC.size = 32 := by rw [hCC, List.size_toArray, byteVals_len, dig_len]
    have HI30 : Hid ((Tryd.prog.info? 30).map (·.size) = some CC.size) := by rw [hlc]; show _ = _; kernel_rfl
    have HZS : Hid (zero32.size = CC.size) := Lib.hid (by rw [hlc]; rfl)
    have HO30 : Hid (CC.all (·.oneCell') = true) := Lib.hid (by rw [hCC]; exact Array.all_eq_true_iff_forall_mem.2 (fun v hv => byteVals_one _ v (by simpa using hv)))
    have HBZ := Lib.hid h4
    have HB := Lib.hid hB
    have HD := Lib.hid hK
    have HDN : Hid (w.heap.size + 4 ≤ D) := Lib.hid (by rw [← HS0.out]; exact hD)
    have HCC := Lib.hid hCC
    have HCP : Hid (∀ v, Chg (some w.heap.size) W v → v.cell? ⟨w.heap.size + 1, 0, none⟩ = some (.slice A' pts.length c')) := Lib.hid fun v g => (show Boxed v _ _ _ from Blk.chg hv g (by simp)).cell
    have HLP := Lib.hid hlp
    clear hv hrow h3 h4 hB hsz hpa hjl hlc hCC hjp h1 hlp hK hD
    generalize hnn : w.heap.size = n at *
    have HNN := Lib.hid hnn
    clear hnn
    gi_wp2_with fail
    rename_i K0 hK0
    refine wpIn_mono (Q := Exit.then K0 (fun _ _ _ => False)) ?_ (fun e a w h => by cases e <;> first | exact h | exact h.elim)
    refine wpIn_wide.2 ?_
    refine wp_region_held_drew (S := fun v => Chg (some n) W v) (by kernel_rfl) (Chg.refl _ _).drew (fun _ => ?_)
    have hC0 : Chg none W W.drew := (Chg.refl _ _).drew
    have hS0 : Chg (some n) W W.drew := (Chg.refl _ _).drew
    generalize W.drew = v0 at *
    refine wpAnyH_take (i := 0) (oi := ⟨some 31, _, _, _, _, _⟩) (v := ?_) rfl (by kernel_rfl) (by kernel_rfl) (by kernel_rfl) (fun _ _ _ h => h) (Or.inl ⟨by rfl, ?_⟩) (by assumption) ?_
    rotate_left
    · intro v hSv; (try dsimp only at hSv); have hz := HCP.out _ hSv; go_simp; (try with_reducible rfl)
    try simp only [Act.put, List.setIfInBounds_toArray, List.set_cons_zero, List.set_cons_succ]
    refine wpAnyH_take (i := 2) (oi := ⟨some 33, _, _, _, _, _⟩) (v := ?_) rfl (by kernel_rfl) (by kernel_rfl) (by kernel_rfl) (fun _ _ _ h => h) (Or.inl ⟨by rfl, ?_⟩) (by assumption) ?_
    rotate_left
    · intro v hSv; (try dsimp only at hSv); have hz := HCP.out _ hSv; go_simp; (try with_reducible rfl)
    try simp only [Act.put, List.setIfInBounds_toArray, List.set_cons_zero, List.set_cons_succ]
    refine wpAnyH_take (i := 3) (oi := ⟨some 34, _, _, _, _, _⟩) (v := ?_) rfl (by kernel_rfl) (by kernel_rfl) (by kernel_rfl) (fun _ _ _ h => h) (Or.inl ⟨by rfl, ?_⟩) (by assumption) ?_
    rotate_left
    · intro v hSv; (try dsimp only at hSv); skip; go_simp; (try with_reducible rfl)
    try simp only [Act.put, List.setIfInBounds_toArray, List.set_cons_zero, List.set_cons_succ]
    refine wpAnyH_ready (rs := [1]) (by kernel_rfl) (by simp) ?_
    refine AllReadyH.cons (o := ⟨some 32, _, _, _, _, _⟩) rfl (fun K hK => ?_) (AllReadyH.nil)
    go_simp
    go_at_call 25
    refine (HPT.out _ hC0).mono ?_
    rintro e v1 ⟨rfl, g1⟩
    have hC1 := hC0.trans g1
    clear hC0
    have hS1 : Chg (some n) W v1 := Chg.weaken hC1
    go_wp2_with fail
    refine hK.out _ _ hS1 (fun _ => ?_)
    clear hK K
    try simp only [Act.put, List.setIfInBounds_toArray, List.set_cons_zero, List.set_cons_succ]
    refine wpAnyH_ready (rs := [4]) (by kernel_rfl) (by simp) ?_
    refine AllReadyH.cons (o := ⟨none, _, _, _, _, _⟩) rfl (fun K hK => ?_) (AllReadyH.nil)
    have hbz := Blk.chg HBZ.out hC1 (by simp)
    refine wp_store_row 30 _ _ rfl n CC rfl rfl 30 _ hbz HI30.out HZS.out HO30.out ?_
    obtain ⟨W9, hW9⟩ : ∃ W9, W9 = v1.setRow n CC := ⟨_, rfl⟩
    rw [← hW9]
    have hbr : Blk W9 n CC 30 := by rw [hW9, HCC.out]; exact setRow_heap _ _ _ _ 30 _ hbz
    have hcg : Chg (some n) v1 W9 := by rw [hW9]; exact chg_setRow _ _ _
    have hS9 : Chg (some n) W W9 := (Chg.weaken hC1).trans hcg
    have hgw9 : Chg none w W9 := Chg.own (HB.out.trans hC1) hcg (Nat.le_of_eq HNN.out)
    have hK9 : W9.heap[D]? = some (.deferred (some [])) := (hS9.block D (Array.getElem?_eq_some_iff.1 HD.out).1 (by simp; have := HDN.out; omega)).trans HD.out
    refine hK.out _ _ hS9 (fun _ => ?_)
    clear hK K
    refine wpAnyH_take (i := 5) (oi := ⟨some 5, _, _, _, _, _⟩) (v := ?_) rfl (by kernel_rfl) (by kernel_rfl) (by kernel_rfl) (fun _ _ _ h => h) (Or.inl ⟨by rfl, ?_⟩) (by assumption) ?_
    rotate_left
    · intro v hSv; (try dsimp only at hSv); skip; go_simp; (try with_reducible rfl)
    try simp only [Act.put, List.setIfInBounds_toArray, List.set_cons_zero, List.set_cons_succ]
    refine wpAnyH_done (by kernel_rfl) ?_ _
    gi_wp2_with fail
    refine ⟨by simp, .inl ⟨_, _, rfl, run_takeDeferred hK9, ?_⟩⟩
    have hbr2 : (W9.putObj D (.deferred none)).heap[n]? = some (.cells CC 30 (0, 0)) := (World.putObj_heap_other (by have := HDN.out; omega)).trans hbr
    refine ⟨_, results_cell_tmp (p := 4) (q := 5) (ty := 30) Tryd.results49 _ _ n 30 CC (0, 0) _ rfl hbr2 Tryd.underlying30 rfl HI30.out, ?_, ?_⟩
    · rw [HCC.out, List.length_map, ← HLP.out]; rfl
    · exact Chg.ownRow hgw9 (grownBy_putObj' W9 D (.deferred none)) (fun y e => by injection e with e; have := HDN.out; have := HNN.out; omega)
end Go.Proofs.YtkcammaccgkflaaDoor
