/-
  The law ClaimsPlays: walked.
-/
import Derived.Test.YtnpmfigcfikdgaaCI
import Derived.Test.YtnpmfigcfikdgaaAG
namespace Go.Proofs.Ytnpmfigcfikdgaa
open Go.RowKit Go.Maps

/-- A row is loaded under a guard. -/
theorem wpList_load_guarded {P : Program} {ops : Array Oper} {rest : List Oper} {op : Oper} {a : Act} {w : World} {Q : Exit → Act → World → Prop} (hw : Region.wanted op (yielded ops a.tmps) = true) (ty : TypeId) (x : Operand) (ho : op.op = .load ty x)
    (b o : Nat) (hx : a.eval x = .pointer (some ⟨b, o, none⟩)) (cs : List Value) (d : TypeDesc) (hc : w.rangeAt b o cs)
    (hu : P.underlying ty = some d) (hd : d.isRow = true) (hi : (P.info? ty).map (·.size) = some cs.length)
    (h : wpList P ops Q rest (a.put op.dst (.agg cs.toArray)) w) : wpList P ops Q (op :: rest) a w :=
  wpList_step fun K hK => by
    rw [if_pos hw]
    exact wp_load_mid ty x ho b o hx cs d hc hu hd hi (hK _ _ h)
/-- What stands at each round's head. -/
structure PlaysAt (w2 : World) (q : Qk) (p : Nat) (k : Nat) (now : Int) (n : Nat) (B : Bk) (r : Rk) (v5 v6 : Value) (wr : World) : Prop where
  a : BookAt wr q n B
  d : RkAt wr p r v5 v6
  ok : B.ok n
  sim : Sim B r now
  n : n ≤ 4 * k
  ow : r.ow.length ≤ k
  ot : r.ot.length ≤ k
  lo : 0 ≤ now
  hi : now ≤ 1000000 * k
  kept : Kept (fun g => q.has g ∨ p ≤ g) w2 wr
/-- The document's facts that its calls want. -/
structure RkOk (r : Rk) (now : Int) : Prop where
  ow : r.ow.length ≤ 1000
  ot : r.ot.length ≤ 1000
  count : 0 ≤ r.count ∧ r.count ≤ 1000000
  now : 0 ≤ now ∧ now ≤ 1000000000000
  wait : 0 ≤ r.wait ∧ r.wait ≤ 1000000
  ttl : 0 ≤ r.ttl ∧ r.ttl ≤ 1000000
  t : ∀ o ∈ r.ow, 0 ≤ o.t ∧ o.t ≤ 1000000000000
theorem rk_ok {B : Bk} {r : Rk} {n : Nat} {now nw : Int} (h : B.ok n) (s : Sim B r now) (hn : n ≤ 1000000) (h1 : r.ow.length ≤ 1000) (h2 : r.ot.length ≤ 1000) (h3 : 0 ≤ nw ∧ nw ≤ 1000000000000) (h4 : now ≤ 1000000000000) : RkOk r nw :=
  ⟨h1, h2, by rw [s.count]; have := h.count; omega, h3, by rw [s.wait]; exact h.wait, by rw [s.ttl]; exact h.ttl, fun o ho => by have := (s.own o ho).2.2.2; omega⟩
theorem rtry_len (r : Rk) (d : Dig) (now : Int) : (rTry r d now).1.ow.length ≤ r.ow.length + 1 ∧ (rTry r d now).1.ot.length ≤ r.ot.length := by
  unfold rTry
  split
  · exact ⟨Nat.le_succ _, Nat.le_refl _⟩
  · split
    · exact ⟨Nat.le_succ _, Nat.le_refl _⟩
    · exact ⟨by simp, Nat.le_refl _⟩
theorem rdrop_len (r : Rk) (d : Dig) : (rDrop r d).1.ow.length ≤ r.ow.length ∧ (rDrop r d).1.ot.length ≤ r.ot.length := by
  unfold rDrop
  split
  · exact ⟨Nat.le_refl _, Nat.le_refl _⟩
  · refine ⟨?_, Nat.le_refl _⟩
    simp only [List.length_append, List.length_take, List.length_drop]
    omega
theorem rput_len (r : Rk) (c : Cl) (now : Int) : (rPut r c now).length ≤ r.ot.length + 1 := by
  unfold rPut
  split <;> simp
theorem rhear_len (r : Rk) (c : Cl) (now : Int) : (rHear r c now).1.ow.length ≤ r.ow.length ∧ (rHear r c now).1.ot.length ≤ r.ot.length + 1 := by
  unfold rHear
  split
  · exact ⟨Nat.le_refl _, Nat.le_succ _⟩
  · split
    · exact ⟨Nat.le_refl _, Nat.le_succ _⟩
    · split
      · exact ⟨Nat.le_refl _, rput_len r c now⟩
      · split
        · have := rdrop_len { r with ot := rPut r c now } c.d
          exact ⟨this.1, Nat.le_trans this.2 (rput_len r c now)⟩
        · exact ⟨Nat.le_refl _, rput_len r c now⟩
theorem PlaysAt.far {w2 : World} {q : Qk} {p k n : Nat} {now : Int} {B : Bk} {r : Rk} {v5 v6 : Value} {wr : World} (h : PlaysAt w2 q p k now n B r v5 v6 wr) {wx : World} (hk : Kept (fun g => q.has g ∨ rkS p v5 v6 g) wr wx) : Kept (fun g => q.has g ∨ p ≤ g) w2 wx :=
  h.kept.then hk (fun g hg => by
    rcases hg with hg | hg
    · exact .inl (.inl hg)
    · exact .inl (.inr (h.d.low hg)))
theorem PlaysAt.chg {w2 : World} {q : Qk} {p k n : Nat} {now : Int} {B : Bk} {r : Rk} {v5 v6 : Value} {wr wx : World} (h : PlaysAt w2 q p k now n B r v5 v6 wr) (g : Chg none wr wx) : PlaysAt w2 q p k now n B r v5 v6 wx :=
  ⟨h.a.chg g, h.d.chg g, h.ok, h.sim, h.n, h.ow, h.ot, h.lo, h.hi, h.kept.chg g⟩
theorem mine_any_list {r : Rk} {B : Bk} {now : Int} (h : Sim B r now) (d : Dig) : mineB B d = r.ow.any (isKey d) := by
  unfold mineB
  rw [h.mine]
  cases e : r.ow.find? (isKey d) with
  | none =>
    symm
    show r.ow.any (isKey d) = false
    rw [List.any_eq_false]
    exact fun x hx hp => List.find?_eq_none.1 e x hx hp
  | some o =>
    symm
    show r.ow.any (isKey d) = true
    rw [List.any_eq_true]
    exact ⟨o, List.mem_of_find?_eq_some e, List.find?_some e⟩
theorem any_take_step {L : List Ent} {p : Ent → Bool} {k : Nat} {o : Ent} (h : L[k]? = some o) : (L.take (k + 1)).any p = ((L.take k).any p || p o) := by
  rw [List.take_add_one, h, List.any_append]
  simp
theorem rk_dig {w : World} {p : Nat} {r : Rk} {v5 v6 : Value} (h : RkAt w p r v5 v6) : ∃ A c, v5 = .slice A r.ow.length c ∧ ∀ v, Chg none w v → v.cell? ⟨p, 5, none⟩ = some (.slice A r.ow.length c) ∧ ∀ (k : Nat) o, r.ow[k]? = some o → ∃ b, A = some ⟨b, 0, none⟩ ∧ v.rangeAt b (k * 37) o.c.d.cells := by
  obtain ⟨A, c, hv, -, -⟩ := rows_form h.ow
  refine ⟨A, c, hv, fun v hc => ⟨by rw [← hv]; exact (h.chg hc).cells.2.2.2.2.2.1, fun k o hk => ?_⟩⟩
  obtain ⟨b, c', hv2, -, -, hr⟩ := rows_at (h.chg hc).ow hk
  rw [hv] at hv2
  injection hv2 with e _ _
  exact ⟨b, e, ent_dig hr⟩

set_option maxRecDepth 100000 in
set_option maxHeartbeats 32000000 in
theorem plays_any (id inc wait ttl : Int) (A : Option Addr) (L : List Opn) (cap : Nat) (w : World) (hinc : U64 inc) (hLw : ∀ o ∈ L, o.wide) (hrow : RowsAt w 39 A Opn.cells L) :
    Calls Try.prog 3 #[.int .i64 id, .int .u64 inc, .int .i64 wait, .int .i64 ttl, .slice A L.length cap] w fun e w' => e = .returned (.bool true) ∧ Chg none w w' := by
  have HRN := Lib.hid (fun w => refnew_any id inc wait ttl w)
  cases hnew : newOk id inc wait ttl with
  | false =>
    have HN := Lib.hid (fun w => new_bad id inc wait ttl w hnew)
    rw [hnew] at HRN
    clear hnew hrow hLw hinc
    by_cases hlen : 200 < L.length
    · have hlen' : (200 : Int) < (L.length : Int) := by omega
      have hd1 : decide ((200 : Int) < (L.length : Int)) = true := decide_eq_true hlen'
      go_enter Try.func3, Try.ntmps3
      go_wp2_with fail
      refine (HN.out _).mono ?_
      rintro e w' ⟨rfl, rfl⟩
      go_wp2_with fail
      refine (HRN.out _).mono ?_
      rintro e w2 ⟨rfl, -, g2⟩
      have G2 := Lib.hid g2
      clear g2
      go_wp2_with fail
      refine (known_any _).mono ?_
      rintro e w' ⟨rfl, g⟩
      have G := Lib.hid (G2.out.trans g)
      clear g
      go_wp2_with fail
      go_ret
      exact ⟨rfl, G.out⟩
    · have hlen' : ¬ (200 : Int) < (L.length : Int) := by omega
      have hd1 : decide ((200 : Int) < (L.length : Int)) = false := decide_eq_false hlen'
      go_enter Try.func3, Try.ntmps3
      go_wp2_with fail
      refine (HN.out _).mono ?_
      rintro e w' ⟨rfl, rfl⟩
      go_wp2_with fail
      refine (HRN.out _).mono ?_
      rintro e w2 ⟨rfl, -, g2⟩
      have G2 := Lib.hid g2
      clear g2
      go_wp2_with fail
      refine (known_any _).mono ?_
      rintro e w' ⟨rfl, g⟩
      have G := Lib.hid (G2.out.trans g)
      clear g
      go_wp2_with fail
      go_ret
      exact ⟨rfl, G.out⟩
  | true =>
    have HN := Lib.hid (fun w => new_good id inc wait ttl w hnew)
    have HOK := Lib.hid (bk0_ok hnew hinc)
    rw [hnew] at HRN
    have HROW := Lib.hid hrow
    have HLW := Lib.hid hLw
    clear hnew hrow hLw hinc
    by_cases hlen : 200 < L.length
    · have hlen' : (200 : Int) < (L.length : Int) := by omega
      have hd1 : decide ((200 : Int) < (L.length : Int)) = true := decide_eq_true hlen'
      go_enter Try.func3, Try.ntmps3
      go_wp2_with fail
      refine (HN.out _).mono ?_
      rintro e w1 ⟨q1, rfl, -, -, g1⟩
      have G1 := Lib.hid g1
      clear g1
      go_wp2_with fail
      refine (HRN.out _).mono ?_
      rintro e w2 ⟨rfl, -, g2⟩
      have G2 := Lib.hid (G1.out.trans g2)
      clear g2
      go_wp2_with fail
      refine (known_any _).mono ?_
      rintro e w' ⟨rfl, g⟩
      have G := Lib.hid (G2.out.trans g)
      clear g
      go_wp2_with fail
      go_ret
      exact ⟨rfl, G.out⟩
    · have hlen' : ¬ (200 : Int) < (L.length : Int) := by omega
      have hd1 : decide ((200 : Int) < (L.length : Int)) = false := decide_eq_false hlen'
      go_enter Try.func3, Try.ntmps3
      go_wp2_with fail
      refine (HN.out _).mono ?_
      rintro e w1 ⟨q, rfl, ha1, hqa, g1⟩
      have HA1 := Lib.hid ha1
      have HQA := Lib.hid hqa
      have G1 := Lib.hid g1
      clear g1 ha1 hqa
      go_wp2_with fail
      refine (HRN.out _).mono ?_
      rintro e w2 ⟨rfl, hr2, g2⟩
      obtain ⟨p, hp⟩ : ∃ p, p = w1.heap.size := ⟨_, rfl⟩
      rw [← hp] at hr2 ⊢
      have HP2 : Hid (p < w2.heap.size) := Lib.hid (Blk.lt hr2.hd)
      have HAG : Hid (PlaysAt w2 q p 0 0 0 (bk0 id inc wait ttl) (rk0 id inc wait ttl) (.slice none 0 0) (.slice none 0 0) w2) := Lib.hid ⟨HA1.out.chg g2, hr2, HOK.out, rk0_sim _ _ _ _ _, by omega, Nat.le_refl _, Nat.le_refl _, by omega, by omega, Kept.refl _ _⟩
      have HAP : Hid (∀ g, q.has g → g < p) := Lib.hid fun g ha => by rw [hp]; exact HA1.out.lt ha
      have HNEW : Hid (∀ g, (q.has g ∨ p ≤ g) → w.heap.size ≤ g) := Lib.hid fun g hg => by
        rcases hg with h | h
        · exact HQA.out g h
        · rw [hp] at h; exact Nat.le_trans G1.out.size h
      have HG2 := Lib.hid (G1.out.trans g2)
      clear g2 hr2 HA1 HQA HN HRN HOK G1 hp
      have hpp : p < w2.heap.size := HP2.out
      go_wp2_with fail
      go_loopw [68, 14] (fun s68 s14 wr => ∃ (k : Nat) (now : Int) (n : Nat) (B : Bk) (r : Rk) (v5 v6 : Value), k ≤ L.length ∧ s68 = .int .i64 k ∧ s14 = .int .i64 now ∧ Hid (PlaysAt w2 q p k now n B r v5 v6 wr)) (fun i _ _ => L.length - (intOf i).toNat)
      case atStart => exact ⟨0, 0, 0, _, _, _, _, by omega, rfl, rfl, HAG⟩
      case round =>
        obtain ⟨k, now, n, B, r, v5, v6, hk, rfl, rfl, HR⟩ := hrel
        by_cases hlt : k < L.length
        · have hlt' : (k : Int) < (L.length : Int) := by omega
          obtain ⟨ba, oa, rfl, hba, hcell⟩ := HROW.out (by intro e; rw [e] at hlt; simp at hlt)
          obtain ⟨o, ho⟩ : ∃ o, L[k]? = some o := ⟨_, List.getElem?_eq_getElem hlt⟩
          have hw := HLW.out o (List.mem_of_getElem? ho)
          have hrg : wr.rangeAt ba (oa + k * 39) o.cells := fun j v hv => by
            have hj : j < 39 := by have := (List.getElem?_eq_some_iff.1 hv).1; rw [o.len] at this; exact this
            have h1 := hcell k o ho j hj
            rw [hv, ← Nat.add_assoc] at h1
            exact (Kept.fresh HG2.out HR.out.kept HNEW.out).cell h1 (by simp)
          have HRG := Lib.hid hrg
          have HOW := Lib.hid hw
          have hlast : ∀ g, (q.has g ∨ rkS p v5 v6 g) → g < wr.heap.size := fun g hg => hg.elim (fun h => HR.out.a.lt h) (fun h => HR.out.d.lt h)
          obtain ⟨wa, hwa⟩ : ∃ v, v = (wr.alloc (.cells #[.int .i64 0, .int .i64 0, .int .u8 0, .int .u8 0, .int .u8 0, .int .u8 0, .int .u8 0, .int .u8 0, .int .u8 0, .int .u8 0, .int .u8 0, .int .u8 0, .int .u8 0, .int .u8 0, .int .u8 0, .int .u8 0, .int .u8 0, .int .u8 0, .int .u8 0, .int .u8 0, .int .u8 0, .int .u8 0, .int .u8 0, .int .u8 0, .int .u8 0, .int .u8 0, .int .u8 0, .int .u8 0, .int .u8 0, .int .u8 0, .int .u8 0, .int .u8 0, .int .u8 0, .int .u8 0, .int .u8 0, .int .i64 0, .int .u64 0, .int .u64 0, .bool false] 35)).setRow wr.heap.size o.cells.toArray := ⟨_, rfl⟩
          have hz := Blk.new wr #[.int .i64 0, .int .i64 0, .int .u8 0, .int .u8 0, .int .u8 0, .int .u8 0, .int .u8 0, .int .u8 0, .int .u8 0, .int .u8 0, .int .u8 0, .int .u8 0, .int .u8 0, .int .u8 0, .int .u8 0, .int .u8 0, .int .u8 0, .int .u8 0, .int .u8 0, .int .u8 0, .int .u8 0, .int .u8 0, .int .u8 0, .int .u8 0, .int .u8 0, .int .u8 0, .int .u8 0, .int .u8 0, .int .u8 0, .int .u8 0, .int .u8 0, .int .u8 0, .int .u8 0, .int .u8 0, .int .u8 0, .int .i64 0, .int .u64 0, .int .u64 0, .bool false] 35
          have ga : Chg none wr wa := by rw [hwa]; exact Chg.own ((Chg.refl _ _).alloc _) (chg_setRow _ _ _) (Nat.le_refl _)
          have hbo : Blk wa wr.heap.size o.cells.toArray 35 := by rw [hwa]; exact setRow_heap _ _ _ _ _ _ hz
          have hno : ¬ (q.has wr.heap.size ∨ rkS p v5 v6 wr.heap.size) := fun h => by have := hlast _ h; omega
          have HOB : Hid (∀ v, Kept (fun g => q.has g ∨ rkS p v5 v6 g) wa v → Blk v wr.heap.size o.cells.toArray 35) := Lib.hid fun v hv => (hv.block _ (Blk.lt hbo) hno).trans hbo
          have c0 : wa.cell? ⟨wr.heap.size, 0, none⟩ = some (.int .i64 o.kind) := by rw [hbo.cell 0]; rfl
          have c1 : wa.cell? ⟨wr.heap.size, 1, none⟩ = some (.int .i64 o.by_) := by rw [hbo.cell 1]; rfl
          have c2 : wa.cell? ⟨wr.heap.size, 2, none⟩ = some (.int .u8 o.key) := by rw [hbo.cell 2]; rfl
          have hcs : o.cells.toArray.size = 39 := by rw [List.size_toArray, o.len]
          have HI35 : Hid ((Try.prog.info? 35).map (·.size) = some o.cells.length) := Lib.hid (by rw [o.len]; kernel_rfl)
          have HI35a : Hid ((Try.prog.info? 35).map (·.size) = some o.cells.toArray.size) := Lib.hid (by rw [hcs]; kernel_rfl)
          have HZ35 : Hid ((#[.int .i64 0, .int .i64 0, .int .u8 0, .int .u8 0, .int .u8 0, .int .u8 0, .int .u8 0, .int .u8 0, .int .u8 0, .int .u8 0, .int .u8 0, .int .u8 0, .int .u8 0, .int .u8 0, .int .u8 0, .int .u8 0, .int .u8 0, .int .u8 0, .int .u8 0, .int .u8 0, .int .u8 0, .int .u8 0, .int .u8 0, .int .u8 0, .int .u8 0, .int .u8 0, .int .u8 0, .int .u8 0, .int .u8 0, .int .u8 0, .int .u8 0, .int .u8 0, .int .u8 0, .int .u8 0, .int .u8 0, .int .i64 0, .int .u64 0, .int .u64 0, .bool false] : Array Value).size = o.cells.toArray.size) := Lib.hid (by rw [hcs]; rfl)
          have HO35 := Lib.hid (opn_one o)
          have HZB := Lib.hid hz
          have HWA := Lib.hid hwa
          have HGA := Lib.hid ga
          have HLAST := Lib.hid hlast
          have hnow0 := HR.out.lo
          have hnow1 := HR.out.hi
          clear hcell ho hw hrg hwa hz ga hbo hno hcs hlast hba
          go_upto_region 12 with (first
            | (refine wpList_load_mid rfl 35 _ rfl ba (oa + k * 39) rfl o.cells _ HRG.out Try.underlying35 rfl HI35.out ?_)
            | (refine wpList_store_row rfl 35 _ _ rfl wr.heap.size o.cells.toArray rfl rfl 35 _ HZB.out HI35a.out HZ35.out HO35.out ?_; rw [← HWA.out]))
          (try go_frame)
          go_cut [14] (fun s14 wx => (∃ z : Int, 0 ≤ z ∧ z ≤ 1000000 ∧ s14 = .int .i64 (now + z)) ∧ wx = wa)
          case first =>
            generalize o.by_ = x at *
            by_cases hx0 : x < 0
            · have r1 : decide (x < 0) = true := by simpa using hx0
              go_wp2_with fail
              go_meet
              exact ⟨⟨0, by omega, by omega, by simp⟩, rfl⟩
            · have r1 : decide (x < 0) = false := by simpa using hx0
              by_cases hx1 : 1000000 < x
              · have r2 : decide (1000000 < x) = true := by simpa using hx1
                go_wp2_with fail
                go_meet
                exact ⟨⟨1000000, by omega, by omega, by simp⟩, rfl⟩
              · have r2 : decide (1000000 < x) = false := by simpa using hx1
                go_wp2_with fail
                go_meet
                exact ⟨⟨x, by omega, by omega, by simp⟩, rfl⟩
          obtain ⟨⟨z, hz0, hz1, rfl⟩, rfl⟩ := hcut
          obtain ⟨va, rfl⟩ : ∃ v, v = wc := ⟨_, rfl⟩
          obtain ⟨nw, hnw⟩ : ∃ nw, nw = now + z := ⟨_, rfl⟩
          rw [← hnw]
          have hnI : I64 nw := ⟨by omega, by omega⟩
          have HNW : Hid (0 ≤ nw ∧ nw ≤ 1000000 * ((k + 1 : Nat) : Int)) := Lib.hid ⟨by omega, by omega⟩
          have HN4 : Hid (n < 1000000 ∧ L.length ≤ 200) := Lib.hid ⟨by have := HR.out.n; omega, by omega⟩
          have HSIM : Hid (Sim B r nw) := Lib.hid (HR.out.sim.later (by omega))
          have HRK : Hid (RkOk r nw) := Lib.hid (rk_ok HR.out.ok HR.out.sim (by have := HR.out.n; omega) (by have := HR.out.ow; omega) (by have := HR.out.ot; omega) ⟨by omega, by omega⟩ (by omega))
          clear hnw hz0 hz1 hnow0 hnow1
          have hzd := Blk.new va #[.int .u8 0, .int .u8 0, .int .u8 0, .int .u8 0, .int .u8 0, .int .u8 0, .int .u8 0, .int .u8 0, .int .u8 0, .int .u8 0, .int .u8 0, .int .u8 0, .int .u8 0, .int .u8 0, .int .u8 0, .int .u8 0, .int .u8 0, .int .u8 0, .int .u8 0, .int .u8 0, .int .u8 0, .int .u8 0, .int .u8 0, .int .u8 0, .int .u8 0, .int .u8 0, .int .u8 0, .int .u8 0, .int .u8 0, .int .u8 0, .int .u8 0, .int .u8 0] 31
          obtain ⟨wb, hwb⟩ : ∃ v, v = (va.alloc (.cells #[.int .u8 0, .int .u8 0, .int .u8 0, .int .u8 0, .int .u8 0, .int .u8 0, .int .u8 0, .int .u8 0, .int .u8 0, .int .u8 0, .int .u8 0, .int .u8 0, .int .u8 0, .int .u8 0, .int .u8 0, .int .u8 0, .int .u8 0, .int .u8 0, .int .u8 0, .int .u8 0, .int .u8 0, .int .u8 0, .int .u8 0, .int .u8 0, .int .u8 0, .int .u8 0, .int .u8 0, .int .u8 0, .int .u8 0, .int .u8 0, .int .u8 0, .int .u8 0] 31)).setRow va.heap.size o.dig.cells.toArray := ⟨_, rfl⟩
          have gb : Chg none va wb := by rw [hwb]; exact Chg.own ((Chg.refl _ _).alloc _) (chg_setRow _ _ _) (Nat.le_refl _)
          have hbd : Blk wb va.heap.size o.dig.cells.toArray 31 := by rw [hwb]; exact setRow_heap _ _ _ _ _ _ hzd
          have hnd : ¬ (q.has va.heap.size ∨ rkS p v5 v6 va.heap.size) := fun h => by have := HLAST.out _ h; have := HGA.out.size; omega
          have HDG : Hid (∀ v, Kept (fun g => q.has g ∨ rkS p v5 v6 g) wb v → v.rangeAt va.heap.size 0 o.dig.cells) := Lib.hid fun v hv => hv.range (rangeAt_blk hbd) hnd
          have HBD := Lib.hid (built31 (o.key.tmod 3) (mod3 o.hk))
          have HI31 := Lib.hid (info31 o.dig)
          have HI31' := Lib.hid (info31' o.dig)
          have HZ31 := Lib.hid (size31 o.dig)
          have HO31 := Lib.hid (dig_all o.dig)
          have HZD := Lib.hid hzd
          have HWB := Lib.hid hwb
          have HGB := Lib.hid gb
          have d0 : wb.cell? ⟨wr.heap.size, 0, none⟩ = some (.int .i64 o.kind) := gb.cell c0 (by simp)
          clear hzd hwb gb hbd hnd
          go_upto_region 14 with (first
            | (refine wpList_build_is rfl 31 _ rfl o.dig.cells.toArray (by simp only [List.map_toArray, List.map_cons, List.map_nil]; exact HBD.out) ?_)
            | (refine wpList_store_row rfl 31 _ _ rfl va.heap.size o.dig.cells.toArray rfl rfl 31 _ HZD.out HI31'.out HZ31.out HO31.out ?_; rw [← HWB.out]))
          go_upto_block 2 with fail
          have HRB : Hid (BookAt wb q n B ∧ RkAt wb p r v5 v6) := Lib.hid ⟨HR.out.a.chg (HGA.out.trans HGB.out), HR.out.d.chg (HGA.out.trans HGB.out)⟩
          have HKB : Hid (Kept (fun g => q.has g ∨ rkS p v5 v6 g) wr wb) := Lib.hid (((Kept.refl _ _).chg HGA.out).chg HGB.out)
          have HAP2 : Hid (∀ g, q.has g → ¬ rkS p v5 v6 g) := Lib.hid fun g h1 h2 => by have := HAP.out g h1; have := HR.out.d.low h2; omega
          have HRLT : Hid (∀ g, rkS p v5 v6 g → g < wb.heap.size) := Lib.hid fun g h => HRB.out.2.lt h
          have HNI := Lib.hid hnI
          clear hnI
          go_cut [] (fun wx => ∃ B' r' v5' v6', Hid (PlaysAt w2 q p (k + 1) nw (n + 4) B' r' v5' v6' wx))
          case first =>
            by_cases h1 : o.kind = 1
            · have r1 : (o.kind == 1) = true := by simpa using h1
              clear h1
              have HT := Lib.hid (try_any o.dig nw wb q n B HRB.out.1 HR.out.ok HNI.out HN4.out.1)
              go_wp2_with (refine wpList_load_mid rfl 31 _ rfl va.heap.size 0 rfl o.dig.cells _ (HDG.out _ (Kept.refl _ _)) Try.underlying31 rfl HI31.out ?_)
              refine HT.out.mono ?_
              rintro e wc1 ⟨x1, rfl, hs1, hb1, hk1⟩
              have HS1 := Lib.hid hs1
              have HB1 := Lib.hid hb1
              have HK1 := Lib.hid (hk1.mono (T := (fun g => q.has g ∨ rkS p v5 v6 g)) (fun g h => .inl h))
              have HBB : Hid (RkAt wc1 p r v5 v6) := Lib.hid (HRB.out.2.kept hk1 (fun g h h' => HAP2.out g h' h))
              have HT2 := Lib.hid (rtry_any o.dig nw wc1 p r v5 v6 HBB.out HRK.out.ow HRK.out.ot HRK.out.count HRK.out.now HRK.out.wait HRK.out.t)
              have HS2 := Lib.hid (HSIM.out.tryS HR.out.ok.ttl.1 HR.out.ok.wait.1 HNW.out.1 o.dig)
              clear hs1 hb1 hk1 HT
              go_wp2_with (refine wpList_load_mid rfl 31 _ rfl va.heap.size 0 rfl o.dig.cells _ (HDG.out _ HK1.out) Try.underlying31 rfl HI31.out ?_)
              refine HT2.out.mono ?_
              rintro e wc2 ⟨x2, y5, rfl, hs2, hb2, hk2⟩
              rw [← HS2.out.2] at hs2 ⊢
              have HSM := Lib.hid (same_any _ x1 x2 wc2 (HS1.out.apart hk2 (fun g h => HRLT.out g h)) hs2.at_)
              have HB1' : Hid (BookAt wc2 q (n + 1) (tryM B o.dig nw).1) := Lib.hid (HB1.out.kept hk2 (fun g h h' => HAP2.out g h h'))
              have HB2 := Lib.hid hb2
              have HK2 := Lib.hid (hk2.mono (T := (fun g => q.has g ∨ rkS p v5 v6 g)) (fun g h => .inr h))
              clear hs2 hb2 hk2
              go_wp2_with fail
              refine HSM.out.mono ?_
              rintro e wc3 ⟨rfl, g3⟩
              have HEND : Hid (∃ B' r' v5' v6', Hid (PlaysAt w2 q p (k + 1) nw (n + 4) B' r' v5' v6' wc3)) := Lib.hid ⟨_, _, _, _, Lib.hid ⟨((HB1'.out.chg g3).mono (by omega)), HB2.out.chg g3, ((tryM_ok o.dig HR.out.ok HNI.out).mono (by omega)), HS2.out.1, by have := HR.out.n; omega, by have := HR.out.ow; have := rtry_len r o.dig nw; omega, by have := HR.out.ot; have := rtry_len r o.dig nw; omega, HNW.out.1, HNW.out.2, HR.out.far (((HKB.out.trans HK1.out).trans HK2.out).chg g3)⟩⟩
              clear g3
              generalize (tryM B o.dig nw).2.2 = bb at *
              cases bb
              · go_wp2_with fail
                go_meet
                exact HEND.out
              · go_wp2_with fail
                go_meet
                exact HEND.out
            · have r1 : (o.kind == 1) = false := by simpa using h1
              by_cases h2 : o.kind = 2
              · have r2 : (o.kind == 2) = true := by simpa using h2
                clear h1 h2
                have HS2 := Lib.hid (HSIM.out.dropS o.dig)
                go_wp2_with fail
                have hS0 : Kept (fun g => q.has g ∨ rkS p v5 v6 g) wb wb.drew := (Kept.refl _ _).drew
                refine wp_region_held_drew (S := fun v => Kept (fun g => q.has g ∨ rkS p v5 v6 g) wb v) (by kernel_rfl) hS0 (fun _ => ?_)
                refine wpAnyH_take (i := 0) (oi := ⟨some 139, _, _, _, _, _⟩) (v := ?_) rfl (by kernel_rfl) (by kernel_rfl) (by kernel_rfl) (fun _ _ _ h => h) (Or.inl ⟨by rfl, ?_⟩) (by assumption) ?_
                rotate_left
                · intro v hSv; (try dsimp only at hSv); skip; go_simp; (try with_reducible rfl)
                try simp only [Act.put, List.setIfInBounds_toArray, List.set_cons_zero, List.set_cons_succ]
                refine wpAnyH_take (i := 1) (oi := ⟨some 140, _, _, _, _, _⟩) (v := .agg (o.dig.cells).toArray) rfl (by kernel_rfl) (by kernel_rfl) (by kernel_rfl) (fun _ _ _ h => h) (yieldsIf_load_mid (by rfl) 31 _ rfl va.heap.size 0 rfl (o.dig.cells) _ (fun v h => HDG.out v h) Try.underlying31 rfl HI31.out) (by assumption) ?_
                try simp only [Act.put, List.setIfInBounds_toArray, List.set_cons_zero, List.set_cons_succ]
                refine wpAnyH_take (i := 3) (oi := ⟨some 142, _, _, _, _, _⟩) (v := ?_) rfl (by kernel_rfl) (by kernel_rfl) (by kernel_rfl) (fun _ _ _ h => h) (Or.inl ⟨by rfl, ?_⟩) (by assumption) ?_
                rotate_left
                · intro v hSv; (try dsimp only at hSv); skip; go_simp; (try with_reducible rfl)
                try simp only [Act.put, List.setIfInBounds_toArray, List.set_cons_zero, List.set_cons_succ]
                refine wpAnyH_take (i := 4) (oi := ⟨some 143, _, _, _, _, _⟩) (v := .agg (o.dig.cells).toArray) rfl (by kernel_rfl) (by kernel_rfl) (by kernel_rfl) (fun _ _ _ h => h) (yieldsIf_load_mid (by rfl) 31 _ rfl va.heap.size 0 rfl (o.dig.cells) _ (fun v h => HDG.out v h) Try.underlying31 rfl HI31.out) (by assumption) ?_
                try simp only [Act.put, List.setIfInBounds_toArray, List.set_cons_zero, List.set_cons_succ]
                refine wpAnyH_ready (rs := [2]) (by kernel_rfl) (by simp) ?_
                refine AllReadyH.cons (o := ⟨some 141, _, _, _, _, _⟩) rfl (fun K hK => ?_) (AllReadyH.nil)
                go_simp
                go_at_call 13
                refine (drop_any o.dig _ q n B (HRB.out.1.chg (Chg.refl _ _).drew)).mono ?_
                rintro e wd1 ⟨x1, rfl, hs1, hb1, hk1⟩
                have hS1 : Kept (fun g => q.has g ∨ rkS p v5 v6 g) wb wd1 := hS0.trans (hk1.mono (fun g h => .inl (.inr (.inl h))))
                have HS1 := Lib.hid hs1
                have HB1 := Lib.hid hb1
                have HBB : Hid (RkAt wd1 p r v5 v6) := Lib.hid ((HRB.out.2.chg (Chg.refl _ _).drew).kept hk1 (fun g h h' => HAP2.out g (.inr (.inl h')) h))
                clear hs1 hb1 hk1
                go_wp2_with fail
                refine hK.out _ _ hS1 (fun _ => ?_)
                clear hK K
                try simp only [Act.put, List.setIfInBounds_toArray, List.set_cons_zero, List.set_cons_succ]
                refine wpAnyH_ready (rs := [5]) (by kernel_rfl) (by simp) ?_
                refine AllReadyH.cons (o := ⟨some 144, _, _, _, _, _⟩) rfl (fun K hK => ?_) (AllReadyH.nil)
                go_simp
                go_at_call 14
                refine (rdrop_any o.dig _ p r v5 v6 HBB.out HRK.out.ow).mono ?_
                rintro e wd2 ⟨x2, y5, rfl, hs2, hb2, hk2⟩
                rw [← HS2.out.2] at hs2
                have hS2 : Kept (fun g => q.has g ∨ rkS p v5 v6 g) wb wd2 := hS1.trans (hk2.mono (fun g h => .inr h))
                have HSM := Lib.hid (same_any _ x1 x2 wd2 (HS1.out.apart hk2 (fun g h => HRLT.out g h)) hs2.at_)
                have HB1' : Hid (BookAt wd2 q n (dropM B o.dig).1) := Lib.hid (HB1.out.kept hk2 (fun g h h' => HAP2.out g h h'))
                have HB2 := Lib.hid hb2
                clear hs2 hb2 hk2
                go_wp2_with fail
                refine hK.out _ _ hS2 (fun _ => ?_)
                clear hK K
                try simp only [Act.put, List.setIfInBounds_toArray, List.set_cons_zero, List.set_cons_succ]
                refine wpAnyH_ready (rs := [6]) (by kernel_rfl) (by simp) ?_
                refine AllReadyH.cons (o := ⟨some 145, _, _, _, _, _⟩) rfl (fun K hK => ?_) (AllReadyH.nil)
                go_simp
                go_at_call 12
                refine HSM.out.mono ?_
                rintro e wd3 ⟨rfl, g3⟩
                have hS3 : Kept (fun g => q.has g ∨ rkS p v5 v6 g) wb wd3 := hS2.chg g3
                have HEND : Hid (∃ B' r' v5' v6', Hid (PlaysAt w2 q p (k + 1) nw (n + 4) B' r' v5' v6' wd3)) := Lib.hid ⟨_, _, _, _, Lib.hid ⟨((HB1'.out.chg g3).mono (by omega)), HB2.out.chg g3, ((dropM_ok o.dig HR.out.ok).mono (by omega)), HS2.out.1, by have := HR.out.n; omega, by have := HR.out.ow; have := rdrop_len r o.dig; omega, by have := HR.out.ot; have := rdrop_len r o.dig; omega, HNW.out.1, HNW.out.2, HR.out.far (HKB.out.trans hS3)⟩⟩
                clear g3
                go_wp2_with fail
                refine hK.out _ _ hS3 (fun _ => ?_)
                clear hK K
                try simp only [Act.put, List.setIfInBounds_toArray, List.set_cons_zero, List.set_cons_succ]
                refine wpAnyH_take (i := 7) (oi := ⟨some 146, _, _, _, _, _⟩) (v := ?_) rfl (by kernel_rfl) (by kernel_rfl) (by kernel_rfl) (fun _ _ _ h => h) (Or.inl ⟨by rfl, ?_⟩) (by assumption) ?_
                rotate_left
                · intro v hSv; (try dsimp only at hSv); skip; go_simp; (try with_reducible rfl)
                try simp only [Act.put, List.setIfInBounds_toArray, List.set_cons_zero, List.set_cons_succ]
                refine wpAnyH_done (by kernel_rfl) ?_ _
                go_wp2_with fail
                go_meet
                exact HEND.out
              · have r2 : (o.kind == 2) = false := by simpa using h2
                by_cases h3 : o.kind = 3
                · have r3 : (o.kind == 3) = true := by simpa using h3
                  clear h1 h2 h3
                  have HEND : Hid (∃ B' r' v5' v6', Hid (PlaysAt w2 q p (k + 1) nw (n + 4) B' r' v5' v6' wb)) := Lib.hid ⟨B, r, v5, v6, Lib.hid ⟨HRB.out.1.mono (by omega), HRB.out.2, HR.out.ok.mono (by omega), HSIM.out, by have := HR.out.n; omega, by have := HR.out.ow; omega, by have := HR.out.ot; omega, HNW.out.1, HNW.out.2, HR.out.far HKB.out⟩⟩
                  go_wp2_with fail
                  go_meet
                  exact HEND.out
                · have r3 : (o.kind == 3) = false := by simpa using h3
                  clear h1 h2 h3
                  have HKV : Hid (Kept (fun g => q.has g ∨ rkS p v5 v6 g) va wb) := Lib.hid ((Kept.refl _ _).chg HGB.out)
                  have HCI : Hid (I64 o.cl.node) := Lib.hid HOW.out.2.2.1
                  have HS2 := Lib.hid (HSIM.out.hearS HR.out.ok.ttl.1 HR.out.ok.wait.1 HNW.out.1 o.cl)
                  go_wp2_with (refine wpList_load_mid rfl 35 _ rfl wr.heap.size 0 rfl o.cells _ (rangeAt_blk (HOB.out _ (HKV.out))) Try.underlying35 rfl HI35.out ?_)
                  refine (opclaim_any o _).mono ?_
                  rintro e wh1 ⟨rfl, g1⟩
                  have HT := Lib.hid (hear_any o.cl nw wh1 q n B (HRB.out.1.chg g1) HR.out.ok HNI.out HN4.out.1 HCI.out)
                  have HG1 := Lib.hid g1
                  clear g1
                  go_wp2_with fail
                  refine HT.out.mono ?_
                  rintro e wh2 ⟨x1, rfl, hs1, hb1, hk1⟩
                  have HS1 := Lib.hid hs1
                  have HB1 := Lib.hid hb1
                  have HK1 : Hid (Kept (fun g => q.has g ∨ rkS p v5 v6 g) wb wh2) := Lib.hid (((Kept.refl _ _).chg HG1.out).trans (hk1.mono (fun g h => .inl h)))
                  have HBB : Hid (RkAt wh2 p r v5 v6) := Lib.hid ((HRB.out.2.chg HG1.out).kept hk1 (fun g h h' => HAP2.out g h' h))
                  clear hs1 hb1 hk1 HT
                  go_wp2_with (refine wpList_load_mid rfl 35 _ rfl wr.heap.size 0 rfl o.cells _ (rangeAt_blk (HOB.out _ (HKV.out.trans HK1.out))) Try.underlying35 rfl HI35.out ?_)
                  refine (opclaim_any o _).mono ?_
                  rintro e wh3 ⟨rfl, g3⟩
                  have HT := Lib.hid (rhear_any o.cl nw wh3 p r v5 v6 (HBB.out.chg g3) HRK.out.ow HRK.out.ot HRK.out.now HRK.out.wait HRK.out.ttl HRK.out.t HSIM.out.tdis)
                  have HG3 := Lib.hid g3
                  clear g3
                  go_wp2_with fail
                  refine HT.out.mono ?_
                  rintro e wh4 ⟨x2, y5, y6, rfl, hs2, hb2, hk2⟩
                  rw [← HS2.out.2] at hs2 ⊢
                  have HK3 : Hid (Kept (fun g => q.has g ∨ rkS p v5 v6 g) wb wh4) := Lib.hid ((HK1.out.chg HG3.out).trans (hk2.mono (fun g h => .inr h)))
                  have hx1 : SentAt wh4 x1 (hearM B o.cl nw).2.1 := (HS1.out.at_.chg HG3.out).kept hk2 (fun b hb hS => by
                    have hlt := HRLT.out b hS
                    have hsz := HG1.out.size
                    cases ho : (hearM B o.cl nw).2.1 with
                    | none => have h := HS1.out; rw [ho] at h; have e : x1 = .slice none 0 0 := h; rw [e] at hb; cases hb
                    | some c =>
                      have h := HS1.out
                      rw [ho] at h
                      obtain ⟨b', e, _, hle⟩ := h
                      rw [e] at hb
                      injection hb with hb1
                      injection hb1 with hb2
                      injection hb2 with hb3
                      omega)
                  have HSM := Lib.hid (same_any _ x1 x2 wh4 hx1 hs2.at_)
                  have HB1' : Hid (BookAt wh4 q (n + 2) (hearM B o.cl nw).1) := Lib.hid ((HB1.out.chg HG3.out).kept hk2 (fun g h h' => HAP2.out g h h'))
                  have HB2 := Lib.hid hb2
                  clear hs2 hb2 hk2 HT hx1
                  go_wp2_with fail
                  refine HSM.out.mono ?_
                  rintro e wh7 ⟨rfl, g7⟩
                  have HEND : Hid (∃ B' r' v5' v6', Hid (PlaysAt w2 q p (k + 1) nw (n + 4) B' r' v5' v6' wh7)) := Lib.hid ⟨_, _, _, _, Lib.hid ⟨((HB1'.out.chg g7).mono (by omega)), HB2.out.chg g7, ((hearM_ok o.cl HR.out.ok HNI.out).mono (by omega)), HS2.out.1, by have := HR.out.n; omega, by have := HR.out.ow; have := rhear_len r o.cl nw; omega, by have := HR.out.ot; have := rhear_len r o.cl nw; omega, HNW.out.1, HNW.out.2, HR.out.far ((HKB.out.trans HK3.out).chg g7)⟩⟩
                  clear g7
                  generalize (hearM B o.cl nw).2.2 = ee at *
                  have hee : (ee != ee) = false := by simp
                  go_wp2_with fail
                  go_meet
                  exact HEND.out
          case rest =>
            obtain ⟨B1, r1, u5, u6, HX⟩ := hcut
            obtain ⟨w5, rfl⟩ : ∃ v, v = wc := ⟨_, rfl⟩
            obtain ⟨wo, rfl⟩ : ∃ v, v = wr := ⟨_, rfl⟩
            have HNI2 := HNI
            have HTTL : Hid (0 ≤ B1.ttl) := Lib.hid HX.out.ok.ttl.1
            have HOWL : Hid (r1.ow.length ≤ 1000 ∧ r1.ot.length ≤ 1000) := Lib.hid ⟨by have := HX.out.ow; have := HN4.out; omega, by have := HX.out.ot; have := HN4.out; omega⟩
            clear HRG HOW HWA HGA HLAST HDG HBD HI31 HI31' HZ31 HO31 HZD HWB HGB HRB HKB HOB HI35 HI35a HZ35 HO35 HZB HSIM HRK HAP2 HRLT
            clear c0 c1 c2 d0
            go_wp2_with fail
            go_loopw [26] (fun s26 wr => ∃ m : Nat, m ≤ 3 ∧ s26 = .int .u8 m ∧ Hid (PlaysAt w2 q p (k + 1) nw (n + 4) B1 r1 u5 u6 wr)) (fun i _ => 3 - (intOf i).toNat)
            case atStart => exact ⟨0, by omega, rfl, HX⟩
            case round =>
              obtain ⟨m, hm, rfl, HR2⟩ := hrel
              obtain ⟨wi, rfl⟩ : ∃ v, v = wr := ⟨_, rfl⟩
              by_cases hlt2 : m < 3
              · obtain ⟨kd, hkd⟩ : ∃ d : Dig, Try.prog.built 31 [(0, .int .u8 m)] = some d.cells.toArray := ⟨_, built31 m (by omega)⟩
                have hlt2' : decide (m < 3) = true := by simpa using hlt2
                have HBD := Lib.hid hkd
                have HI31k := Lib.hid (info31 kd)
                have HI31' := Lib.hid (info31' kd)
                have HZ31 := Lib.hid (size31 kd)
                have HO31 := Lib.hid (dig_all kd)
                have hzd := Blk.new wi #[.int .u8 0, .int .u8 0, .int .u8 0, .int .u8 0, .int .u8 0, .int .u8 0, .int .u8 0, .int .u8 0, .int .u8 0, .int .u8 0, .int .u8 0, .int .u8 0, .int .u8 0, .int .u8 0, .int .u8 0, .int .u8 0, .int .u8 0, .int .u8 0, .int .u8 0, .int .u8 0, .int .u8 0, .int .u8 0, .int .u8 0, .int .u8 0, .int .u8 0, .int .u8 0, .int .u8 0, .int .u8 0, .int .u8 0, .int .u8 0, .int .u8 0, .int .u8 0] 31
                obtain ⟨wk, hwk⟩ : ∃ v, v = (wi.alloc (.cells #[.int .u8 0, .int .u8 0, .int .u8 0, .int .u8 0, .int .u8 0, .int .u8 0, .int .u8 0, .int .u8 0, .int .u8 0, .int .u8 0, .int .u8 0, .int .u8 0, .int .u8 0, .int .u8 0, .int .u8 0, .int .u8 0, .int .u8 0, .int .u8 0, .int .u8 0, .int .u8 0, .int .u8 0, .int .u8 0, .int .u8 0, .int .u8 0, .int .u8 0, .int .u8 0, .int .u8 0, .int .u8 0, .int .u8 0, .int .u8 0, .int .u8 0, .int .u8 0] 31)).setRow wi.heap.size kd.cells.toArray := ⟨_, rfl⟩
                have gk : Chg none wi wk := by rw [hwk]; exact Chg.own ((Chg.refl _ _).alloc _) (chg_setRow _ _ _) (Nat.le_refl _)
                have hbd : Blk wk wi.heap.size kd.cells.toArray 31 := by rw [hwk]; exact setRow_heap _ _ _ _ _ _ hzd
                have HKD0 : Hid (∀ v, Chg none wk v → v.rangeAt wi.heap.size 0 kd.cells) := Lib.hid fun v hv => rangeAt_chg (rangeAt_blk hbd) hv (by simp)
                have HZD := Lib.hid hzd
                have HWK := Lib.hid hwk
                have HGK := Lib.hid gk
                have HLA := Lib.hid (live_any kd nw wk q (n + 4) B1 (HR2.out.a.chg gk) HR2.out.ok HNI2.out)
                clear hkd hzd hwk gk hbd
                go_wp2_with (first
                  | (refine wpList_build_is rfl 31 _ rfl kd.cells.toArray (by simp only [List.map_toArray, List.map_cons, List.map_nil]; exact HBD.out) ?_)
                  | (refine wpList_store_row rfl 31 _ _ rfl wi.heap.size kd.cells.toArray rfl rfl 31 _ HZD.out HI31'.out HZ31.out HO31.out ?_; rw [← HWK.out])
                  | (refine wpList_load_mid rfl 31 _ rfl wi.heap.size 0 rfl kd.cells _ (HKD0.out _ (Chg.refl _ _)) Try.underlying31 rfl HI31k.out ?_))
                refine HLA.out.mono ?_
                rintro e wl1 ⟨rfl, gl1⟩
                have HL1 := Lib.hid gl1
                have HLB := Lib.hid (rlive_any kd nw wl1 p r1 u5 u6 (HR2.out.d.chg (HGK.out.trans gl1)) HOWL.out.2)
                rw [HR2.out.sim.live HTTL.out kd] at HLB
                clear gl1 HLA
                generalize liveM B1 kd nw = lv at *
                obtain ⟨ln, lb, hlv⟩ : ∃ (ln : Int) (lb : Bool), optPair lv = .tuple #[.int .i64 ln, .bool lb] := by
                  cases lv with
                  | none => exact ⟨_, _, rfl⟩
                  | some c => exact ⟨_, _, rfl⟩
                rw [hlv] at HLB ⊢
                clear hlv
                go_wp2_with (refine wpList_load_mid rfl 31 _ rfl wi.heap.size 0 rfl kd.cells _ (HKD0.out _ HL1.out) Try.underlying31 rfl HI31k.out ?_)
                refine HLB.out.mono ?_
                rintro e w7 ⟨rfl, gl2⟩
                have HGI : Hid (Chg none wi w7) := Lib.hid (HGK.out.trans (HL1.out.trans gl2))
                have HKD : Hid (∀ v, Chg none w7 v → v.rangeAt wi.heap.size 0 kd.cells) := Lib.hid fun v hv => HKD0.out v (HL1.out.trans (gl2.trans hv))
                clear gl2 HLB
                have hln : (ln != ln) = false := by simp
                have hlb : (lb != lb) = false := by simp
                obtain ⟨OA, oc, hu5, hrw⟩ := rk_dig (HR2.out.d.chg HGI.out)
                have HRW0 := Lib.hid hrw
                have o5 := (hrw w7 (Chg.refl _ _)).1
                have howl := HOWL.out.1
                clear hrw hu5
                go_upto_region 36 with fail
                go_loopw [32, 174] (fun s32 s174 wr => ∃ e : Nat, e ≤ r1.ow.length ∧ s174 = .int .i64 e ∧ s32 = .bool ((r1.ow.take e).any (isKey kd)) ∧ Hid (Chg none w7 wr)) (fun _ i _ => r1.ow.length - (intOf i).toNat)
                case atStart => exact ⟨0, Nat.zero_le _, rfl, rfl, Lib.hid (Chg.refl _ _)⟩
                case round =>
                  obtain ⟨e, he, rfl, rfl, HG5⟩ := hrel
                  by_cases hle : e < r1.ow.length
                  · have hle' : (e : Int) < (r1.ow.length : Int) := by omega
                    have hde : decide ((e : Int) < (r1.ow.length : Int)) = true := decide_eq_true hle'
                    obtain ⟨oe, hoe⟩ : ∃ o, r1.ow[e]? = some o := ⟨_, List.getElem?_eq_getElem hle⟩
                    obtain ⟨ob, rfl, -⟩ := (HRW0.out wr HG5.out).2 e oe hoe
                    have HOE : Hid (∀ v, Chg none w7 v → v.rangeAt ob (e * 37) oe.c.d.cells) := Lib.hid fun v hv => by
                      obtain ⟨b, eb, hr⟩ := (HRW0.out v hv).2 e oe hoe
                      injection eb with eb
                      injection eb with eb _ _
                      subst eb
                      exact hr
                    have HRW := HRW0
                    have HIOE := Lib.hid (info31 oe.c.d)
                    have HSTP : Hid ((r1.ow.take (e + 1)).any (isKey kd) = ((r1.ow.take e).any (isKey kd) || isKey kd oe)) := Lib.hid (any_take_step hoe)
                    have HLE := Lib.hid hle
                    have hS5 : Chg none w7 wr.drew := HG5.out.drew
                    have hel : (e : Int) ≤ 1000 := by omega
                    clear hoe hle
                    generalize (r1.ow.take e).any (isKey kd) = hd at *
                    cases hd with
                    | true =>
                      go_wp2_with fail
                      refine wp_region_held_drew (S := fun v => Chg none w7 v) (by kernel_rfl) hS5 (fun _ => ?_)
                      refine wpAnyH_take (i := 0) (oi := ⟨some 177, _, _, _, _, _⟩) (v := ?_) rfl (by kernel_rfl) (by kernel_rfl) (by kernel_rfl) (fun _ _ _ h => h) (Or.inl ⟨by rfl, ?_⟩) (by assumption) ?_
                      rotate_left
                      · intro v hSv; (try dsimp only at hSv); skip; go_simp; (try with_reducible rfl)
                      try simp only [Act.put, List.setIfInBounds_toArray, List.set_cons_zero, List.set_cons_succ]
                      refine wpAnyH_take (i := 1) (oi := ⟨some 178, _, _, _, _, _⟩) (v := ?_) rfl (by kernel_rfl) (by kernel_rfl) (by kernel_rfl) (fun _ _ _ h => h) (Or.inl ⟨by rfl, ?_⟩) (by assumption) ?_
                      rotate_left
                      · intro v hSv; (try dsimp only at hSv); skip; go_simp; (try with_reducible rfl)
                      try simp only [Act.put, List.setIfInBounds_toArray, List.set_cons_zero, List.set_cons_succ]
                      refine wpAnyH_take (i := 2) (oi := ⟨some 179, _, _, _, _, _⟩) (v := undef) rfl (by kernel_rfl) (by kernel_rfl) (by kernel_rfl) (fun _ _ _ h => h) (Or.inr ⟨by rfl, by rfl⟩) (by assumption) ?_
                      try simp only [Act.put, List.setIfInBounds_toArray, List.set_cons_zero, List.set_cons_succ]
                      refine wpAnyH_take (i := 3) (oi := ⟨some 180, _, _, _, _, _⟩) (v := undef) rfl (by kernel_rfl) (by kernel_rfl) (by kernel_rfl) (fun _ _ _ h => h) (Or.inr ⟨by rfl, by rfl⟩) (by assumption) ?_
                      try simp only [Act.put, List.setIfInBounds_toArray, List.set_cons_zero, List.set_cons_succ]
                      refine wpAnyH_take (i := 4) (oi := ⟨some 181, _, _, _, _, _⟩) (v := undef) rfl (by kernel_rfl) (by kernel_rfl) (by kernel_rfl) (fun _ _ _ h => h) (Or.inr ⟨by rfl, by rfl⟩) (by assumption) ?_
                      try simp only [Act.put, List.setIfInBounds_toArray, List.set_cons_zero, List.set_cons_succ]
                      refine wpAnyH_take (i := 5) (oi := ⟨some 182, _, _, _, _, _⟩) (v := undef) rfl (by kernel_rfl) (by kernel_rfl) (by kernel_rfl) (fun _ _ _ h => h) (Or.inr ⟨by rfl, by rfl⟩) (by assumption) ?_
                      try simp only [Act.put, List.setIfInBounds_toArray, List.set_cons_zero, List.set_cons_succ]
                      refine wpAnyH_take (i := 6) (oi := ⟨some 183, _, _, _, _, _⟩) (v := undef) rfl (by kernel_rfl) (by kernel_rfl) (by kernel_rfl) (fun _ _ _ h => h) (Or.inr ⟨by rfl, by rfl⟩) (by assumption) ?_
                      try simp only [Act.put, List.setIfInBounds_toArray, List.set_cons_zero, List.set_cons_succ]
                      refine wpAnyH_take (i := 7) (oi := ⟨some 184, _, _, _, _, _⟩) (v := undef) rfl (by kernel_rfl) (by kernel_rfl) (by kernel_rfl) (fun _ _ _ h => h) (Or.inr ⟨by rfl, by rfl⟩) (by assumption) ?_
                      try simp only [Act.put, List.setIfInBounds_toArray, List.set_cons_zero, List.set_cons_succ]
                      refine wpAnyH_take (i := 8) (oi := ⟨some 185, _, _, _, _, _⟩) (v := undef) rfl (by kernel_rfl) (by kernel_rfl) (by kernel_rfl) (fun _ _ _ h => h) (Or.inr ⟨by rfl, by rfl⟩) (by assumption) ?_
                      try simp only [Act.put, List.setIfInBounds_toArray, List.set_cons_zero, List.set_cons_succ]
                      refine wpAnyH_take (i := 9) (oi := ⟨some 186, _, _, _, _, _⟩) (v := undef) rfl (by kernel_rfl) (by kernel_rfl) (by kernel_rfl) (fun _ _ _ h => h) (Or.inr ⟨by rfl, by rfl⟩) (by assumption) ?_
                      try simp only [Act.put, List.setIfInBounds_toArray, List.set_cons_zero, List.set_cons_succ]
                      refine wpAnyH_take (i := 10) (oi := ⟨some 187, _, _, _, _, _⟩) (v := undef) rfl (by kernel_rfl) (by kernel_rfl) (by kernel_rfl) (fun _ _ _ h => h) (Or.inr ⟨by rfl, by rfl⟩) (by assumption) ?_
                      try simp only [Act.put, List.setIfInBounds_toArray, List.set_cons_zero, List.set_cons_succ]
                      refine wpAnyH_take (i := 11) (oi := ⟨some 188, _, _, _, _, _⟩) (v := undef) rfl (by kernel_rfl) (by kernel_rfl) (by kernel_rfl) (fun _ _ _ h => h) (Or.inr ⟨by rfl, by rfl⟩) (by assumption) ?_
                      try simp only [Act.put, List.setIfInBounds_toArray, List.set_cons_zero, List.set_cons_succ]
                      refine wpAnyH_take (i := 12) (oi := ⟨some 189, _, _, _, _, _⟩) (v := undef) rfl (by kernel_rfl) (by kernel_rfl) (by kernel_rfl) (fun _ _ _ h => h) (Or.inr ⟨by rfl, by rfl⟩) (by assumption) ?_
                      try simp only [Act.put, List.setIfInBounds_toArray, List.set_cons_zero, List.set_cons_succ]
                      refine wpAnyH_take (i := 13) (oi := ⟨some 190, _, _, _, _, _⟩) (v := ?_) rfl (by kernel_rfl) (by kernel_rfl) (by kernel_rfl) (fun _ _ _ h => h) (Or.inl ⟨by rfl, ?_⟩) (by assumption) ?_
                      rotate_left
                      · intro v hSv; (try dsimp only at hSv); skip; go_simp; (try with_reducible rfl)
                      try simp only [Act.put, List.setIfInBounds_toArray, List.set_cons_zero, List.set_cons_succ]
                      refine wpAnyH_take (i := 14) (oi := ⟨some 32, _, _, _, _, _⟩) (v := ?_) rfl (by kernel_rfl) (by kernel_rfl) (by kernel_rfl) (fun _ _ _ h => h) (Or.inl ⟨by rfl, ?_⟩) (by assumption) ?_
                      rotate_left
                      · intro v hSv; (try dsimp only at hSv); skip; go_simp; (try with_reducible rfl)
                      try simp only [Act.put, List.setIfInBounds_toArray, List.set_cons_zero, List.set_cons_succ]
                      refine wpAnyH_done (by kernel_rfl) ?_ _
                      go_wp2_with fail
                      go_roundw
                      case rel => exact ⟨e + 1, by have := HLE.out; omega, by first | rfl | go_num, by rw [HSTP.out]; rfl, Lib.hid hS5⟩
                      case measure => have := HLE.out; first | omega | (simp only [intOf]; omega) | (simp [intOf]; omega)
                    | false =>
                      cases hq : dEq oe.c.d kd with
                      | true =>
                        have HEQ : Hid (dEq oe.c.d kd = true) := Lib.hid hq
                        have HKY : Hid (isKey kd oe = true) := Lib.hid hq
                        clear hq
                        go_wp2_with fail
                        refine wp_region_held_drew (S := fun v => Chg none w7 v) (by kernel_rfl) hS5 (fun _ => ?_)
                        refine wpAnyH_take (i := 0) (oi := ⟨some 177, _, _, _, _, _⟩) (v := ?_) rfl (by kernel_rfl) (by kernel_rfl) (by kernel_rfl) (fun _ _ _ h => h) (Or.inl ⟨by rfl, ?_⟩) (by assumption) ?_
                        rotate_left
                        · intro v hSv; (try dsimp only at hSv); skip; go_simp; (try with_reducible rfl)
                        try simp only [Act.put, List.setIfInBounds_toArray, List.set_cons_zero, List.set_cons_succ]
                        refine wpAnyH_take (i := 1) (oi := ⟨some 178, _, _, _, _, _⟩) (v := ?_) rfl (by kernel_rfl) (by kernel_rfl) (by kernel_rfl) (fun _ _ _ h => h) (Or.inl ⟨by rfl, ?_⟩) (by assumption) ?_
                        rotate_left
                        · intro v hSv; (try dsimp only at hSv); skip; go_simp; (try with_reducible rfl)
                        try simp only [Act.put, List.setIfInBounds_toArray, List.set_cons_zero, List.set_cons_succ]
                        refine wpAnyH_take (i := 2) (oi := ⟨some 179, _, _, _, _, _⟩) (v := ?_) rfl (by kernel_rfl) (by kernel_rfl) (by kernel_rfl) (fun _ _ _ h => h) (Or.inl ⟨by rfl, ?_⟩) (by assumption) ?_
                        rotate_left
                        · intro v hSv; (try dsimp only at hSv); skip; go_simp; (try with_reducible rfl)
                        try simp only [Act.put, List.setIfInBounds_toArray, List.set_cons_zero, List.set_cons_succ]
                        refine wpAnyH_take (i := 3) (oi := ⟨some 180, _, _, _, _, _⟩) (v := ?_) rfl (by kernel_rfl) (by kernel_rfl) (by kernel_rfl) (fun _ _ _ h => h) (Or.inl ⟨by rfl, ?_⟩) (by assumption) ?_
                        rotate_left
                        · intro v hSv; (try dsimp only at hSv); skip; go_simp; (try with_reducible rfl)
                        try simp only [Act.put, List.setIfInBounds_toArray, List.set_cons_zero, List.set_cons_succ]
                        refine wpAnyH_take (i := 4) (oi := ⟨some 181, _, _, _, _, _⟩) (v := ?_) rfl (by kernel_rfl) (by kernel_rfl) (by kernel_rfl) (fun _ _ _ h => h) (Or.inl ⟨by rfl, ?_⟩) (by assumption) ?_
                        rotate_left
                        · intro v hSv; (try dsimp only at hSv); skip; go_simp; (try with_reducible rfl)
                        try simp only [Act.put, List.setIfInBounds_toArray, List.set_cons_zero, List.set_cons_succ]
                        refine wpAnyH_take (i := 5) (oi := ⟨some 182, _, _, _, _, _⟩) (v := .slice (some ⟨ob, 0, none⟩) r1.ow.length oc) rfl (by kernel_rfl) (by kernel_rfl) (by kernel_rfl) (fun _ _ _ h => h) (Or.inl ⟨by rfl, ?_⟩) (by assumption) ?_
                        · intro v hSv; have z := (HRW.out v hSv).1; go_simp
                        try simp only [Act.put, List.setIfInBounds_toArray, List.set_cons_zero, List.set_cons_succ]
                        refine wpAnyH_take (i := 6) (oi := ⟨some 183, _, _, _, _, _⟩) (v := ?_) rfl (by kernel_rfl) (by kernel_rfl) (by kernel_rfl) (fun _ _ _ h => h) (Or.inl ⟨by rfl, ?_⟩) (by assumption) ?_
                        rotate_left
                        · intro v hSv; (try dsimp only at hSv); skip; go_simp; (try with_reducible rfl)
                        try simp only [Act.put, List.setIfInBounds_toArray, List.set_cons_zero, List.set_cons_succ]
                        refine wpAnyH_take (i := 7) (oi := ⟨some 184, _, _, _, _, _⟩) (v := ?_) rfl (by kernel_rfl) (by kernel_rfl) (by kernel_rfl) (fun _ _ _ h => h) (Or.inl ⟨by rfl, ?_⟩) (by assumption) ?_
                        rotate_left
                        · intro v hSv; (try dsimp only at hSv); skip; go_simp; (try with_reducible rfl)
                        try simp only [Act.put, List.setIfInBounds_toArray, List.set_cons_zero, List.set_cons_succ]
                        refine wpAnyH_take (i := 8) (oi := ⟨some 185, _, _, _, _, _⟩) (v := ?_) rfl (by kernel_rfl) (by kernel_rfl) (by kernel_rfl) (fun _ _ _ h => h) (Or.inl ⟨by rfl, ?_⟩) (by assumption) ?_
                        rotate_left
                        · intro v hSv; (try dsimp only at hSv); skip; go_simp; (try with_reducible rfl)
                        try simp only [Act.put, List.setIfInBounds_toArray, List.set_cons_zero, List.set_cons_succ]
                        refine wpAnyH_take (i := 9) (oi := ⟨some 186, _, _, _, _, _⟩) (v := ?_) rfl (by kernel_rfl) (by kernel_rfl) (by kernel_rfl) (fun _ _ _ h => h) (Or.inl ⟨by rfl, ?_⟩) (by assumption) ?_
                        rotate_left
                        · intro v hSv; (try dsimp only at hSv); skip; go_simp; (try with_reducible rfl)
                        try simp only [Act.put, List.setIfInBounds_toArray, List.set_cons_zero, List.set_cons_succ]
                        refine wpAnyH_take (i := 10) (oi := ⟨some 187, _, _, _, _, _⟩) (v := .agg (oe.c.d.cells).toArray) rfl (by kernel_rfl) (by kernel_rfl) (by kernel_rfl) (fun _ _ _ h => h) (yieldsIf_load_mid (by rfl) 31 _ rfl ob (e * 37) rfl (oe.c.d.cells) _ (fun v h => HOE.out v h) Try.underlying31 rfl HIOE.out) (by assumption) ?_
                        try simp only [Act.put, List.setIfInBounds_toArray, List.set_cons_zero, List.set_cons_succ]
                        refine wpAnyH_take (i := 11) (oi := ⟨some 188, _, _, _, _, _⟩) (v := .agg (kd.cells).toArray) rfl (by kernel_rfl) (by kernel_rfl) (by kernel_rfl) (fun _ _ _ h => h) (yieldsIf_load_mid (by rfl) 31 _ rfl wi.heap.size 0 rfl (kd.cells) _ (fun v h => HKD.out v h) Try.underlying31 rfl HI31k.out) (by assumption) ?_
                        try simp only [Act.put, List.setIfInBounds_toArray, List.set_cons_zero, List.set_cons_succ]
                        refine wpAnyH_take (i := 12) (oi := ⟨some 189, _, _, _, _, _⟩) (v := .bool true) rfl (by kernel_rfl) (by kernel_rfl) (by kernel_rfl) (fun _ _ _ h => h) (Or.inl ⟨by rfl, ?_⟩) (by assumption) ?_
                        · intro v hSv
                          exact eql_yield oe.c.d kd v _ HEQ.out _ _ _ _ _ rfl rfl rfl
                        try simp only [Act.put, List.setIfInBounds_toArray, List.set_cons_zero, List.set_cons_succ]
                        refine wpAnyH_take (i := 13) (oi := ⟨some 190, _, _, _, _, _⟩) (v := ?_) rfl (by kernel_rfl) (by kernel_rfl) (by kernel_rfl) (fun _ _ _ h => h) (Or.inl ⟨by rfl, ?_⟩) (by assumption) ?_
                        rotate_left
                        · intro v hSv; (try dsimp only at hSv); skip; go_simp; (try with_reducible rfl)
                        try simp only [Act.put, List.setIfInBounds_toArray, List.set_cons_zero, List.set_cons_succ]
                        refine wpAnyH_take (i := 14) (oi := ⟨some 32, _, _, _, _, _⟩) (v := ?_) rfl (by kernel_rfl) (by kernel_rfl) (by kernel_rfl) (fun _ _ _ h => h) (Or.inl ⟨by rfl, ?_⟩) (by assumption) ?_
                        rotate_left
                        · intro v hSv; (try dsimp only at hSv); skip; go_simp; (try with_reducible rfl)
                        try simp only [Act.put, List.setIfInBounds_toArray, List.set_cons_zero, List.set_cons_succ]
                        refine wpAnyH_done (by kernel_rfl) ?_ _
                        go_wp2_with fail
                        go_roundw
                        case rel => exact ⟨e + 1, by have := HLE.out; omega, by first | rfl | go_num, by rw [HSTP.out, HKY.out]; rfl, Lib.hid hS5⟩
                        case measure => have := HLE.out; first | omega | (simp only [intOf]; omega) | (simp [intOf]; omega)
                      | false =>
                        have HEQ : Hid (dEq oe.c.d kd = false) := Lib.hid hq
                        have HKY : Hid (isKey kd oe = false) := Lib.hid hq
                        clear hq
                        go_wp2_with fail
                        refine wp_region_held_drew (S := fun v => Chg none w7 v) (by kernel_rfl) hS5 (fun _ => ?_)
                        refine wpAnyH_take (i := 0) (oi := ⟨some 177, _, _, _, _, _⟩) (v := ?_) rfl (by kernel_rfl) (by kernel_rfl) (by kernel_rfl) (fun _ _ _ h => h) (Or.inl ⟨by rfl, ?_⟩) (by assumption) ?_
                        rotate_left
                        · intro v hSv; (try dsimp only at hSv); skip; go_simp; (try with_reducible rfl)
                        try simp only [Act.put, List.setIfInBounds_toArray, List.set_cons_zero, List.set_cons_succ]
                        refine wpAnyH_take (i := 1) (oi := ⟨some 178, _, _, _, _, _⟩) (v := ?_) rfl (by kernel_rfl) (by kernel_rfl) (by kernel_rfl) (fun _ _ _ h => h) (Or.inl ⟨by rfl, ?_⟩) (by assumption) ?_
                        rotate_left
                        · intro v hSv; (try dsimp only at hSv); skip; go_simp; (try with_reducible rfl)
                        try simp only [Act.put, List.setIfInBounds_toArray, List.set_cons_zero, List.set_cons_succ]
                        refine wpAnyH_take (i := 2) (oi := ⟨some 179, _, _, _, _, _⟩) (v := ?_) rfl (by kernel_rfl) (by kernel_rfl) (by kernel_rfl) (fun _ _ _ h => h) (Or.inl ⟨by rfl, ?_⟩) (by assumption) ?_
                        rotate_left
                        · intro v hSv; (try dsimp only at hSv); skip; go_simp; (try with_reducible rfl)
                        try simp only [Act.put, List.setIfInBounds_toArray, List.set_cons_zero, List.set_cons_succ]
                        refine wpAnyH_take (i := 3) (oi := ⟨some 180, _, _, _, _, _⟩) (v := ?_) rfl (by kernel_rfl) (by kernel_rfl) (by kernel_rfl) (fun _ _ _ h => h) (Or.inl ⟨by rfl, ?_⟩) (by assumption) ?_
                        rotate_left
                        · intro v hSv; (try dsimp only at hSv); skip; go_simp; (try with_reducible rfl)
                        try simp only [Act.put, List.setIfInBounds_toArray, List.set_cons_zero, List.set_cons_succ]
                        refine wpAnyH_take (i := 4) (oi := ⟨some 181, _, _, _, _, _⟩) (v := ?_) rfl (by kernel_rfl) (by kernel_rfl) (by kernel_rfl) (fun _ _ _ h => h) (Or.inl ⟨by rfl, ?_⟩) (by assumption) ?_
                        rotate_left
                        · intro v hSv; (try dsimp only at hSv); skip; go_simp; (try with_reducible rfl)
                        try simp only [Act.put, List.setIfInBounds_toArray, List.set_cons_zero, List.set_cons_succ]
                        refine wpAnyH_take (i := 5) (oi := ⟨some 182, _, _, _, _, _⟩) (v := .slice (some ⟨ob, 0, none⟩) r1.ow.length oc) rfl (by kernel_rfl) (by kernel_rfl) (by kernel_rfl) (fun _ _ _ h => h) (Or.inl ⟨by rfl, ?_⟩) (by assumption) ?_
                        · intro v hSv; have z := (HRW.out v hSv).1; go_simp
                        try simp only [Act.put, List.setIfInBounds_toArray, List.set_cons_zero, List.set_cons_succ]
                        refine wpAnyH_take (i := 6) (oi := ⟨some 183, _, _, _, _, _⟩) (v := ?_) rfl (by kernel_rfl) (by kernel_rfl) (by kernel_rfl) (fun _ _ _ h => h) (Or.inl ⟨by rfl, ?_⟩) (by assumption) ?_
                        rotate_left
                        · intro v hSv; (try dsimp only at hSv); skip; go_simp; (try with_reducible rfl)
                        try simp only [Act.put, List.setIfInBounds_toArray, List.set_cons_zero, List.set_cons_succ]
                        refine wpAnyH_take (i := 7) (oi := ⟨some 184, _, _, _, _, _⟩) (v := ?_) rfl (by kernel_rfl) (by kernel_rfl) (by kernel_rfl) (fun _ _ _ h => h) (Or.inl ⟨by rfl, ?_⟩) (by assumption) ?_
                        rotate_left
                        · intro v hSv; (try dsimp only at hSv); skip; go_simp; (try with_reducible rfl)
                        try simp only [Act.put, List.setIfInBounds_toArray, List.set_cons_zero, List.set_cons_succ]
                        refine wpAnyH_take (i := 8) (oi := ⟨some 185, _, _, _, _, _⟩) (v := ?_) rfl (by kernel_rfl) (by kernel_rfl) (by kernel_rfl) (fun _ _ _ h => h) (Or.inl ⟨by rfl, ?_⟩) (by assumption) ?_
                        rotate_left
                        · intro v hSv; (try dsimp only at hSv); skip; go_simp; (try with_reducible rfl)
                        try simp only [Act.put, List.setIfInBounds_toArray, List.set_cons_zero, List.set_cons_succ]
                        refine wpAnyH_take (i := 9) (oi := ⟨some 186, _, _, _, _, _⟩) (v := ?_) rfl (by kernel_rfl) (by kernel_rfl) (by kernel_rfl) (fun _ _ _ h => h) (Or.inl ⟨by rfl, ?_⟩) (by assumption) ?_
                        rotate_left
                        · intro v hSv; (try dsimp only at hSv); skip; go_simp; (try with_reducible rfl)
                        try simp only [Act.put, List.setIfInBounds_toArray, List.set_cons_zero, List.set_cons_succ]
                        refine wpAnyH_take (i := 10) (oi := ⟨some 187, _, _, _, _, _⟩) (v := .agg (oe.c.d.cells).toArray) rfl (by kernel_rfl) (by kernel_rfl) (by kernel_rfl) (fun _ _ _ h => h) (yieldsIf_load_mid (by rfl) 31 _ rfl ob (e * 37) rfl (oe.c.d.cells) _ (fun v h => HOE.out v h) Try.underlying31 rfl HIOE.out) (by assumption) ?_
                        try simp only [Act.put, List.setIfInBounds_toArray, List.set_cons_zero, List.set_cons_succ]
                        refine wpAnyH_take (i := 11) (oi := ⟨some 188, _, _, _, _, _⟩) (v := .agg (kd.cells).toArray) rfl (by kernel_rfl) (by kernel_rfl) (by kernel_rfl) (fun _ _ _ h => h) (yieldsIf_load_mid (by rfl) 31 _ rfl wi.heap.size 0 rfl (kd.cells) _ (fun v h => HKD.out v h) Try.underlying31 rfl HI31k.out) (by assumption) ?_
                        try simp only [Act.put, List.setIfInBounds_toArray, List.set_cons_zero, List.set_cons_succ]
                        refine wpAnyH_take (i := 12) (oi := ⟨some 189, _, _, _, _, _⟩) (v := .bool false) rfl (by kernel_rfl) (by kernel_rfl) (by kernel_rfl) (fun _ _ _ h => h) (Or.inl ⟨by rfl, ?_⟩) (by assumption) ?_
                        · intro v hSv
                          exact eql_yield oe.c.d kd v _ HEQ.out _ _ _ _ _ rfl rfl rfl
                        try simp only [Act.put, List.setIfInBounds_toArray, List.set_cons_zero, List.set_cons_succ]
                        refine wpAnyH_take (i := 13) (oi := ⟨some 190, _, _, _, _, _⟩) (v := ?_) rfl (by kernel_rfl) (by kernel_rfl) (by kernel_rfl) (fun _ _ _ h => h) (Or.inl ⟨by rfl, ?_⟩) (by assumption) ?_
                        rotate_left
                        · intro v hSv; (try dsimp only at hSv); skip; go_simp; (try with_reducible rfl)
                        try simp only [Act.put, List.setIfInBounds_toArray, List.set_cons_zero, List.set_cons_succ]
                        refine wpAnyH_take (i := 14) (oi := ⟨some 32, _, _, _, _, _⟩) (v := ?_) rfl (by kernel_rfl) (by kernel_rfl) (by kernel_rfl) (fun _ _ _ h => h) (Or.inl ⟨by rfl, ?_⟩) (by assumption) ?_
                        rotate_left
                        · intro v hSv; (try dsimp only at hSv); skip; go_simp; (try with_reducible rfl)
                        try simp only [Act.put, List.setIfInBounds_toArray, List.set_cons_zero, List.set_cons_succ]
                        refine wpAnyH_done (by kernel_rfl) ?_ _
                        go_wp2_with fail
                        go_roundw
                        case rel => exact ⟨e + 1, by have := HLE.out; omega, by first | rfl | go_num, by rw [HSTP.out, HKY.out]; rfl, Lib.hid hS5⟩
                        case measure => have := HLE.out; first | omega | (simp only [intOf]; omega) | (simp [intOf]; omega)
                  · have hel : e = r1.ow.length := by omega
                    subst hel
                    have hde : decide ((r1.ow.length : Int) < (r1.ow.length : Int)) = false := by rw [decide_eq_false_iff_not]; omega
                    have hdn : ¬ (r1.ow.length : Int) < (r1.ow.length : Int) := by omega
                    rw [List.take_of_length_le (Nat.le_refl _), ← mine_any_list HR2.out.sim kd]
                    obtain ⟨w9, hw9⟩ : ∃ x : World, x = wr := ⟨_, rfl⟩
                    subst hw9
                    have HKD9 : Hid (w9.rangeAt wi.heap.size 0 kd.cells) := Lib.hid (HKD.out _ HG5.out)
                    have HMN := Lib.hid (mine_any kd w9 q (n + 4) B1 (HR2.out.a.chg (HGI.out.trans HG5.out)))
                    generalize mineB B1 kd = mb at *
                    have hmm : (mb != mb) = false := by simp
                    clear hle he
                    go_wp2_with (refine wpList_load_guarded rfl 31 _ rfl wi.heap.size 0 rfl kd.cells _ HKD9.out Try.underlying31 rfl HI31k.out ?_)
                    refine HMN.out.mono ?_
                    rintro e w10 ⟨rfl, g10⟩
                    have HG10 := Lib.hid g10
                    clear g10
                    go_wp2_with fail
                    go_roundw
                    case rel => exact ⟨m + 1, by omega, by go_num, Lib.hid (HR2.out.chg (HGI.out.trans (HG5.out.trans HG10.out)))⟩
                    case measure => simp [intOf]; omega
              · have hlt2' : decide (m < 3) = false := by simpa using hlt2
                go_wp2_with fail
                go_roundw
                case rel => exact ⟨k + 1, nw, n + 4, B1, r1, u5, u6, by omega, by go_num, rfl, HR2⟩
                case measure => simp [intOf]; omega
        · have hlt' : ¬ (k : Int) < (L.length : Int) := by omega
          go_wp2_with fail
          refine (known_any _).mono ?_
          rintro e w' ⟨rfl, g⟩
          have G := Lib.hid (Kept.fresh HG2.out (HR.out.kept.chg g) HNEW.out)
          clear g
          go_wp2_with fail
          go_ret
          exact ⟨rfl, G.out⟩
end Go.Proofs.Ytnpmfigcfikdgaa
