/-
  Walks over package claims: the law ClaimsAgain.
-/
import Derived.Test.YtnpmfigcfikdgaaU
import Derived.Deep.Cut
import Derived.Deep.CutBlock
import Derived.Deep.DeepCutAuto
namespace Go.Proofs.Ytnpmfigcfikdgaa
open Go.RowKit Go.Maps

theorem opn_one (o : Opn) : o.cells.toArray.all (·.oneCell') = true := by
  rw [Array.all_eq_true_iff_forall_mem]
  intro v hv
  rw [List.mem_toArray] at hv
  unfold Opn.cells at hv
  rcases List.mem_append.1 hv with h | h
  · simp at h; rcases h with rfl | rfl | rfl <;> rfl
  · exact (Array.all_eq_true_iff_forall_mem.1 (cl_one o.c.d o.c.node o.c.inc o.c.count o.c.gone)) v (by simpa [Cl.cells] using h)

/-- What stands at each round's head. -/
structure AgainAt (w2 : World) (qa qb : Qk) (k : Nat) (now : Int) (n : Nat) (B : Bk) (wr : World) : Prop where
  a : BookAt wr qa n B
  b : BookAt wr qb n B
  ok : B.ok n
  n : n ≤ 4 * k
  lo : 0 ≤ now
  hi : now ≤ 1000 * k
  kept : Kept (fun g => qa.has g ∨ qb.has g) w2 wr

theorem AgainAt.next {w2 : World} {qa qb : Qk} {k : Nat} {now nw : Int} {n : Nat} {B B' : Bk} {wr wx : World} (h : AgainAt w2 qa qb k now n B wr) (hk : Kept (fun g => qa.has g ∨ qb.has g) wr wx) (ha : BookAt wx qa (n + 4) B') (hb : BookAt wx qb (n + 4) B') (ok : B'.ok (n + 4)) (hi : 0 ≤ nw ∧ nw ≤ 1000 * ((k + 1 : Nat) : Int)) : AgainAt w2 qa qb (k + 1) nw (n + 4) B' wx :=
  ⟨ha, hb, ok, by have := h.n; omega, hi.1, hi.2, h.kept.trans hk⟩
theorem AgainAt.chg {w2 : World} {qa qb : Qk} {k : Nat} {now : Int} {n : Nat} {B : Bk} {wr wx : World} (h : AgainAt w2 qa qb k now n B wr) (g : Chg none wr wx) : AgainAt w2 qa qb k now n B wx :=
  ⟨h.a.chg g, h.b.chg g, h.ok, h.n, h.lo, h.hi, h.kept.chg g⟩
theorem Sent.apart {S : Nat → Prop} {w w1 w2 : World} {v : Value} {o : Option Cl} (h : Sent w w1 v o) (hk : Kept S w1 w2) (hs : ∀ g, S g → g < w.heap.size) : SentAt w2 v o :=
  h.at_.kept hk fun b hb hS => by
    cases o with
    | none => have e : v = .slice none 0 0 := h; rw [e] at hb; cases hb
    | some c =>
      obtain ⟨b', e, _, hle⟩ := h
      rw [e] at hb
      injection hb with hb1
      injection hb1 with hb2
      injection hb2 with hb3
      have := hs b hS
      omega

set_option maxRecDepth 100000 in
set_option maxHeartbeats 8000000 in
theorem again_any (id inc wait ttl : Int) (A : Option Addr) (L : List Opn) (cap : Nat) (w : World) (hinc : U64 inc) (hLw : ∀ o ∈ L, o.wide) (hrow : RowsAt w 39 A Opn.cells L) :
    Calls Try.prog 4 #[.int .i64 id, .int .u64 inc, .int .i64 wait, .int .i64 ttl, .slice A L.length cap] w fun e w' => e = .returned (.bool true) ∧ Chg none w w' := by
  cases hnew : newOk id inc wait ttl with
  | false =>
    have HN := Lib.hid (fun w => new_bad id inc wait ttl w hnew)
    clear hnew hrow hLw hinc
    go_enter Try.func4, Try.ntmps4
    go_wp2_with fail
    refine (HN.out _).mono ?_
    rintro e w' ⟨rfl, rfl⟩
    go_wp2_with fail
    refine (HN.out _).mono ?_
    rintro e w' ⟨rfl, rfl⟩
    go_wp2_with fail
    refine (known_any _).mono ?_
    rintro e w' ⟨rfl, g⟩
    have G := Lib.hid g
    clear g
    go_wp2_with fail
    go_ret
    exact ⟨rfl, G.out⟩
  | true =>
    have HN := Lib.hid (fun w => new_good id inc wait ttl w hnew)
    have HOK := Lib.hid (bk0_ok hnew hinc)
    have HROW := Lib.hid hrow
    have HLW := Lib.hid hLw
    clear hnew hrow hLw hinc
    by_cases hlen : 80 < L.length
    · have hlen' : (80 : Int) < (L.length : Int) := by omega
      go_enter Try.func4, Try.ntmps4
      go_wp2_with fail
      refine (HN.out _).mono ?_
      rintro e w1 ⟨q1, rfl, -, -, g1⟩
      have G1 := Lib.hid g1
      clear g1
      go_wp2_with fail
      refine (HN.out _).mono ?_
      rintro e w2 ⟨q2, rfl, -, -, g2⟩
      have G2 := Lib.hid g2
      clear g2
      go_wp2_with fail
      refine (known_any _).mono ?_
      rintro e w' ⟨rfl, g⟩
      have G := Lib.hid (G1.out.trans (G2.out.trans g))
      clear g
      go_wp2_with fail
      go_ret
      exact ⟨rfl, G.out⟩
    · have hlen' : ¬ (80 : Int) < (L.length : Int) := by omega
      go_enter Try.func4, Try.ntmps4
      go_wp2_with fail
      refine (HN.out _).mono ?_
      rintro e w1 ⟨qa, rfl, ha1, hqa, g1⟩
      have HA1 := Lib.hid ha1
      have HQA := Lib.hid hqa
      have G1 := Lib.hid g1
      clear g1 ha1 hqa
      go_wp2_with fail
      refine (HN.out _).mono ?_
      rintro e w2 ⟨qb, rfl, hb2, hqb, g2⟩
      have G2 := Lib.hid g2
      have HAG : Hid (AgainAt w2 qa qb 0 0 0 (bk0 id inc wait ttl) w2) := Lib.hid ⟨HA1.out.chg g2, hb2, HOK.out, by omega, by omega, by omega, Kept.refl _ _⟩
      have HAP : Hid (∀ g, qa.has g → ¬ qb.has g) := Lib.hid fun g ha hb => by have := HA1.out.lt ha; have := hqb g hb; omega
      have HNEW : Hid (∀ g, (qa.has g ∨ qb.has g) → w.heap.size ≤ g) := Lib.hid fun g hg => by
        rcases hg with h | h
        · exact HQA.out g h
        · exact Nat.le_trans G1.out.size (hqb g h)
      have HG2 := Lib.hid (G1.out.trans g2)
      clear g2 hb2 hqb HA1 HQA HN HOK G1 G2
      go_wp2_with fail
      go_loopw [57, 13] (fun s57 s13 wr => ∃ (k : Nat) (now : Int) (n : Nat) (B : Bk), k ≤ L.length ∧ s57 = .int .i64 k ∧ s13 = .int .i64 now ∧ Hid (AgainAt w2 qa qb k now n B wr)) (fun i _ _ => L.length - (intOf i).toNat)
      case atStart => exact ⟨0, 0, 0, _, by omega, rfl, rfl, HAG⟩
      case round =>
        obtain ⟨k, now, n, B, hk, rfl, rfl, HR⟩ := hrel
        by_cases hlt : k < L.length
        · have hlt' : (k : Int) < (L.length : Int) := by omega
          obtain ⟨ba, oa, rfl, hba, hcell⟩ := HROW.out (by intro e; rw [e] at hlt; simp at hlt)
          obtain ⟨o, ho⟩ : ∃ o, L[k]? = some o := ⟨_, List.getElem?_eq_getElem hlt⟩
          have hw := HLW.out o (List.mem_of_getElem? ho)
          have hrg : wr.rangeAt ba (oa + k * 39) o.cells := fun j v hv => by
            have hj : j < 39 := by have := (List.getElem?_eq_some_iff.1 hv).1; rw [o.len] at this; exact this
            have h1 := hcell k o ho j hj
            rw [hv, ← Nat.add_assoc] at h1
            exact (Kept.fresh HG2.out HR.out.kept HNEW.out).cell h1 (by simp)
          have HRG := Lib.hid hrg
          have HOW := Lib.hid hw
          have hlast : ∀ g, (qa.has g ∨ qb.has g) → g < wr.heap.size := fun g hg => hg.elim (fun h => HR.out.a.lt h) (fun h => HR.out.b.lt h)
          obtain ⟨wa, hwa⟩ : ∃ v, v = (wr.alloc (.cells #[.int .i64 0, .int .i64 0, .int .u8 0, .int .u8 0, .int .u8 0, .int .u8 0, .int .u8 0, .int .u8 0, .int .u8 0, .int .u8 0, .int .u8 0, .int .u8 0, .int .u8 0, .int .u8 0, .int .u8 0, .int .u8 0, .int .u8 0, .int .u8 0, .int .u8 0, .int .u8 0, .int .u8 0, .int .u8 0, .int .u8 0, .int .u8 0, .int .u8 0, .int .u8 0, .int .u8 0, .int .u8 0, .int .u8 0, .int .u8 0, .int .u8 0, .int .u8 0, .int .u8 0, .int .u8 0, .int .u8 0, .int .i64 0, .int .u64 0, .int .u64 0, .bool false] 35)).setRow wr.heap.size o.cells.toArray := ⟨_, rfl⟩
          have hz := Blk.new wr #[.int .i64 0, .int .i64 0, .int .u8 0, .int .u8 0, .int .u8 0, .int .u8 0, .int .u8 0, .int .u8 0, .int .u8 0, .int .u8 0, .int .u8 0, .int .u8 0, .int .u8 0, .int .u8 0, .int .u8 0, .int .u8 0, .int .u8 0, .int .u8 0, .int .u8 0, .int .u8 0, .int .u8 0, .int .u8 0, .int .u8 0, .int .u8 0, .int .u8 0, .int .u8 0, .int .u8 0, .int .u8 0, .int .u8 0, .int .u8 0, .int .u8 0, .int .u8 0, .int .u8 0, .int .u8 0, .int .u8 0, .int .i64 0, .int .u64 0, .int .u64 0, .bool false] 35
          have ga : Chg none wr wa := by rw [hwa]; exact Chg.own ((Chg.refl _ _).alloc _) (chg_setRow _ _ _) (Nat.le_refl _)
          have hbo : Blk wa wr.heap.size o.cells.toArray 35 := by rw [hwa]; exact setRow_heap _ _ _ _ _ _ hz
          have hno : ¬ (qa.has wr.heap.size ∨ qb.has wr.heap.size) := fun h => by have := hlast _ h; omega
          have HOB : Hid (∀ v, Kept (fun g => qa.has g ∨ qb.has g) wa v → Blk v wr.heap.size o.cells.toArray 35) := Lib.hid fun v hv => (hv.block _ (Blk.lt hbo) hno).trans hbo
          have c0 : wa.cell? ⟨wr.heap.size, 0, none⟩ = some (.int .i64 o.kind) := by rw [hbo.cell 0]; rfl
          have c1 : wa.cell? ⟨wr.heap.size, 1, none⟩ = some (.int .i64 o.by_) := by rw [hbo.cell 1]; rfl
          have c2 : wa.cell? ⟨wr.heap.size, 2, none⟩ = some (.int .u8 o.key) := by rw [hbo.cell 2]; rfl
          have hcs : o.cells.toArray.size = 39 := by rw [List.size_toArray, o.len]
          have HI35 : Hid ((Try.prog.info? 35).map (·.size) = some o.cells.length) := Lib.hid (by rw [o.len]; kernel_rfl)
          have HI35a : Hid ((Try.prog.info? 35).map (·.size) = some o.cells.toArray.size) := Lib.hid (by rw [hcs]; kernel_rfl)
          have HZ35 : Hid ((#[.int .i64 0, .int .i64 0, .int .u8 0, .int .u8 0, .int .u8 0, .int .u8 0, .int .u8 0, .int .u8 0, .int .u8 0, .int .u8 0, .int .u8 0, .int .u8 0, .int .u8 0, .int .u8 0, .int .u8 0, .int .u8 0, .int .u8 0, .int .u8 0, .int .u8 0, .int .u8 0, .int .u8 0, .int .u8 0, .int .u8 0, .int .u8 0, .int .u8 0, .int .u8 0, .int .u8 0, .int .u8 0, .int .u8 0, .int .u8 0, .int .u8 0, .int .u8 0, .int .u8 0, .int .u8 0, .int .u8 0, .int .i64 0, .int .u64 0, .int .u64 0, .bool false] : Array Value).size = o.cells.toArray.size) := Lib.hid (by rw [hcs]; rfl)
          have HO35 := Lib.hid (opn_one o)
          have HZB := Lib.hid hz
          have HWA := Lib.hid hwa
          have HGA := Lib.hid ga
          have HLAST := Lib.hid hlast
          have hnow0 := HR.out.lo
          have hnow1 := HR.out.hi
          clear hcell ho hw hrg hwa hz ga hbo hno hcs hlast hba
          go_upto_region 9 with (first
            | (refine wpList_load_mid rfl 35 _ rfl ba (oa + k * 39) rfl o.cells _ HRG.out Try.underlying35 rfl HI35.out ?_)
            | (refine wpList_store_row rfl 35 _ _ rfl wr.heap.size o.cells.toArray rfl rfl 35 _ HZB.out HI35a.out HZ35.out HO35.out ?_; rw [← HWA.out]))
          (try go_frame)
          go_cut [13] (fun s13 wx => (∃ z : Int, 0 ≤ z ∧ z ≤ 1000 ∧ s13 = .int .i64 (now + z)) ∧ wx = wa)
          case first =>
            generalize o.by_ = x at *
            by_cases hx0 : x < 0
            · have r1 : decide (x < 0) = true := by simpa using hx0
              go_wp2_with fail
              go_meet
              exact ⟨⟨0, by omega, by omega, by simp⟩, rfl⟩
            · have r1 : decide (x < 0) = false := by simpa using hx0
              by_cases hx1 : 1000 < x
              · have r2 : decide (1000 < x) = true := by simpa using hx1
                go_wp2_with fail
                go_meet
                exact ⟨⟨1000, by omega, by omega, by simp⟩, rfl⟩
              · have r2 : decide (1000 < x) = false := by simpa using hx1
                go_wp2_with fail
                go_meet
                exact ⟨⟨x, by omega, by omega, by simp⟩, rfl⟩
          obtain ⟨⟨z, hz0, hz1, rfl⟩, rfl⟩ := hcut
          obtain ⟨va, rfl⟩ : ∃ v, v = wc := ⟨_, rfl⟩
          obtain ⟨nw, hnw⟩ : ∃ nw, nw = now + z := ⟨_, rfl⟩
          rw [← hnw]
          have hnI : I64 nw := ⟨by omega, by omega⟩
          have HNW : Hid (0 ≤ nw ∧ nw ≤ 1000 * ((k + 1 : Nat) : Int)) := Lib.hid ⟨by omega, by omega⟩
          have HN4 : Hid (n < 1000000 ∧ L.length ≤ 80) := Lib.hid ⟨by have := HR.out.n; omega, by omega⟩
          clear hnw hz0 hz1 hnow0 hnow1
          have hzd := Blk.new va #[.int .u8 0, .int .u8 0, .int .u8 0, .int .u8 0, .int .u8 0, .int .u8 0, .int .u8 0, .int .u8 0, .int .u8 0, .int .u8 0, .int .u8 0, .int .u8 0, .int .u8 0, .int .u8 0, .int .u8 0, .int .u8 0, .int .u8 0, .int .u8 0, .int .u8 0, .int .u8 0, .int .u8 0, .int .u8 0, .int .u8 0, .int .u8 0, .int .u8 0, .int .u8 0, .int .u8 0, .int .u8 0, .int .u8 0, .int .u8 0, .int .u8 0, .int .u8 0] 31
          obtain ⟨wb, hwb⟩ : ∃ v, v = (va.alloc (.cells #[.int .u8 0, .int .u8 0, .int .u8 0, .int .u8 0, .int .u8 0, .int .u8 0, .int .u8 0, .int .u8 0, .int .u8 0, .int .u8 0, .int .u8 0, .int .u8 0, .int .u8 0, .int .u8 0, .int .u8 0, .int .u8 0, .int .u8 0, .int .u8 0, .int .u8 0, .int .u8 0, .int .u8 0, .int .u8 0, .int .u8 0, .int .u8 0, .int .u8 0, .int .u8 0, .int .u8 0, .int .u8 0, .int .u8 0, .int .u8 0, .int .u8 0, .int .u8 0] 31)).setRow va.heap.size o.dig.cells.toArray := ⟨_, rfl⟩
          have gb : Chg none va wb := by rw [hwb]; exact Chg.own ((Chg.refl _ _).alloc _) (chg_setRow _ _ _) (Nat.le_refl _)
          have hbd : Blk wb va.heap.size o.dig.cells.toArray 31 := by rw [hwb]; exact setRow_heap _ _ _ _ _ _ hzd
          have hnd : ¬ (qa.has va.heap.size ∨ qb.has va.heap.size) := fun h => by have := HLAST.out _ h; have := HGA.out.size; omega
          have HDG : Hid (∀ v, Kept (fun g => qa.has g ∨ qb.has g) wb v → v.rangeAt va.heap.size 0 o.dig.cells) := Lib.hid fun v hv => hv.range (rangeAt_blk hbd) hnd
          have HBD := Lib.hid (built31 (o.key.tmod 3) (mod3 o.hk))
          have HI31 := Lib.hid (info31 o.dig)
          have HI31' := Lib.hid (info31' o.dig)
          have HZ31 := Lib.hid (size31 o.dig)
          have HO31 := Lib.hid (dig_all o.dig)
          have HZD := Lib.hid hzd
          have HWB := Lib.hid hwb
          have HGB := Lib.hid gb
          have d0 : wb.cell? ⟨wr.heap.size, 0, none⟩ = some (.int .i64 o.kind) := gb.cell c0 (by simp)
          clear hzd hwb gb hbd hnd
          go_upto_region 11 with (first
            | (refine wpList_build_is rfl 31 _ rfl o.dig.cells.toArray (by simp only [List.map_toArray, List.map_cons, List.map_nil]; exact HBD.out) ?_)
            | (refine wpList_store_row rfl 31 _ _ rfl va.heap.size o.dig.cells.toArray rfl rfl 31 _ HZD.out HI31'.out HZ31.out HO31.out ?_; rw [← HWB.out]))
          go_upto_block 2 with fail
          have HRB : Hid (BookAt wb qa n B ∧ BookAt wb qb n B) := Lib.hid ⟨HR.out.a.chg (HGA.out.trans HGB.out), HR.out.b.chg (HGA.out.trans HGB.out)⟩
          have HKB : Hid (Kept (fun g => qa.has g ∨ qb.has g) wr wb) := Lib.hid (((Kept.refl _ _).chg HGA.out).chg HGB.out)
          have HNI := Lib.hid hnI
          clear hnI
          go_cut [] (fun wx => ∃ B', Hid (AgainAt w2 qa qb (k + 1) nw (n + 4) B' wx))
          case first =>
            by_cases h1 : o.kind = 1
            · have r1 : (o.kind == 1) = true := by simpa using h1
              clear h1
              have HT := Lib.hid (try_any o.dig nw wb qa n B HRB.out.1 HR.out.ok HNI.out HN4.out.1)
              go_wp2_with (refine wpList_load_mid rfl 31 _ rfl va.heap.size 0 rfl o.dig.cells _ (HDG.out _ (Kept.refl _ _)) Try.underlying31 rfl HI31.out ?_)
              refine HT.out.mono ?_
              rintro e wc1 ⟨x1, rfl, hs1, hb1, hk1⟩
              have HS1 := Lib.hid hs1
              have HB1 := Lib.hid hb1
              have HK1 := Lib.hid (hk1.mono (T := fun g => qa.has g ∨ qb.has g) (fun g h => .inl h))
              have HBB : Hid (BookAt wc1 qb n B) := Lib.hid (HRB.out.2.kept hk1 (fun g h h' => HAP.out g h' h))
              have HT2 := Lib.hid (try_any o.dig nw wc1 qb n B HBB.out HR.out.ok HNI.out HN4.out.1)
              clear hs1 hb1 hk1 HT
              go_wp2_with (refine wpList_load_mid rfl 31 _ rfl va.heap.size 0 rfl o.dig.cells _ (HDG.out _ HK1.out) Try.underlying31 rfl HI31.out ?_)
              refine HT2.out.mono ?_
              rintro e wc2 ⟨x2, rfl, hs2, hb2, hk2⟩
              have HSM := Lib.hid (same_any _ x1 x2 wc2 (HS1.out.apart hk2 (fun g h => HRB.out.2.lt h)) hs2.at_)
              have HB1' : Hid (BookAt wc2 qa (n + 1) (tryM B o.dig nw).1) := Lib.hid (HB1.out.kept hk2 (fun g h h' => HAP.out g h h'))
              have HB2 := Lib.hid hb2
              have HK2 := Lib.hid (hk2.mono (T := fun g => qa.has g ∨ qb.has g) (fun g h => .inr h))
              clear hs2 hb2 hk2
              go_wp2_with fail
              refine HSM.out.mono ?_
              rintro e wc3 ⟨rfl, g3⟩
              have HEND : Hid (∃ B', Hid (AgainAt w2 qa qb (k + 1) nw (n + 4) B' wc3)) := Lib.hid ⟨_, Lib.hid (HR.out.next (((HKB.out.trans HK1.out).trans HK2.out).chg g3) ((HB1'.out.chg g3).mono (by omega)) ((HB2.out.chg g3).mono (by omega)) ((tryM_ok o.dig HR.out.ok HNI.out).mono (by omega)) HNW.out)⟩
              clear g3
              generalize (tryM B o.dig nw).2.2 = bb at *
              cases bb
              · go_wp2_with fail
                go_meet
                exact HEND.out
              · go_wp2_with fail
                go_meet
                exact HEND.out
            · have r1 : (o.kind == 1) = false := by simpa using h1
              by_cases h2 : o.kind = 2
              · have r2 : (o.kind == 2) = true := by simpa using h2
                clear h1 h2
                go_wp2_with fail
                have hS0 : Kept (fun g => qa.has g ∨ qb.has g) wb wb.drew := (Kept.refl _ _).drew
                refine wp_region_held_drew (S := fun v => Kept (fun g => qa.has g ∨ qb.has g) wb v) (by kernel_rfl) hS0 (fun _ => ?_)
                refine wpAnyH_take (i := 0) (oi := ⟨some 164, _, _, _, _, _⟩) (v := ?_) rfl (by kernel_rfl) (by kernel_rfl) (by kernel_rfl) (fun _ _ _ h => h) (Or.inl ⟨by rfl, ?_⟩) (by assumption) ?_
                rotate_left
                · intro v hSv; (try dsimp only at hSv); skip; go_simp; (try with_reducible rfl)
                try simp only [Act.put, List.setIfInBounds_toArray, List.set_cons_zero, List.set_cons_succ]
                refine wpAnyH_take (i := 1) (oi := ⟨some 165, _, _, _, _, _⟩) (v := .agg (o.dig.cells).toArray) rfl (by kernel_rfl) (by kernel_rfl) (by kernel_rfl) (fun _ _ _ h => h) (yieldsIf_load_mid (by rfl) 31 _ rfl va.heap.size 0 rfl (o.dig.cells) _ (fun v h => HDG.out v h) Try.underlying31 rfl HI31.out) (by assumption) ?_
                try simp only [Act.put, List.setIfInBounds_toArray, List.set_cons_zero, List.set_cons_succ]
                refine wpAnyH_take (i := 3) (oi := ⟨some 167, _, _, _, _, _⟩) (v := ?_) rfl (by kernel_rfl) (by kernel_rfl) (by kernel_rfl) (fun _ _ _ h => h) (Or.inl ⟨by rfl, ?_⟩) (by assumption) ?_
                rotate_left
                · intro v hSv; (try dsimp only at hSv); skip; go_simp; (try with_reducible rfl)
                try simp only [Act.put, List.setIfInBounds_toArray, List.set_cons_zero, List.set_cons_succ]
                refine wpAnyH_take (i := 4) (oi := ⟨some 168, _, _, _, _, _⟩) (v := .agg (o.dig.cells).toArray) rfl (by kernel_rfl) (by kernel_rfl) (by kernel_rfl) (fun _ _ _ h => h) (yieldsIf_load_mid (by rfl) 31 _ rfl va.heap.size 0 rfl (o.dig.cells) _ (fun v h => HDG.out v h) Try.underlying31 rfl HI31.out) (by assumption) ?_
                try simp only [Act.put, List.setIfInBounds_toArray, List.set_cons_zero, List.set_cons_succ]
                refine wpAnyH_ready (rs := [2]) (by kernel_rfl) (by simp) ?_
                refine AllReadyH.cons (o := ⟨some 166, _, _, _, _, _⟩) rfl (fun K hK => ?_) (AllReadyH.nil)
                go_simp
                go_at_call 13
                refine (drop_any o.dig _ qa n B (HRB.out.1.chg (Chg.refl _ _).drew)).mono ?_
                rintro e wd1 ⟨x1, rfl, hs1, hb1, hk1⟩
                have hS1 : Kept (fun g => qa.has g ∨ qb.has g) wb wd1 := hS0.trans (hk1.mono (fun g h => .inl (.inr (.inl h))))
                have HS1 := Lib.hid hs1
                have HB1 := Lib.hid hb1
                have HBB : Hid (BookAt wd1 qb n B) := Lib.hid ((HRB.out.2.chg (Chg.refl _ _).drew).kept hk1 (fun g h h' => HAP.out g (.inr (.inl h')) h))
                have HBBl : Hid (∀ g, qb.has g → g < wb.heap.size) := Lib.hid fun g h => HRB.out.2.lt h
                clear hs1 hb1 hk1
                go_wp2_with fail
                refine hK.out _ _ hS1 (fun _ => ?_)
                clear hK K
                try simp only [Act.put, List.setIfInBounds_toArray, List.set_cons_zero, List.set_cons_succ]
                refine wpAnyH_ready (rs := [5]) (by kernel_rfl) (by simp) ?_
                refine AllReadyH.cons (o := ⟨some 169, _, _, _, _, _⟩) rfl (fun K hK => ?_) (AllReadyH.nil)
                go_simp
                go_at_call 13
                refine (drop_any o.dig _ qb n B HBB.out).mono ?_
                rintro e wd2 ⟨x2, rfl, hs2, hb2, hk2⟩
                have hS2 : Kept (fun g => qa.has g ∨ qb.has g) wb wd2 := hS1.trans (hk2.mono (fun g h => .inr (.inr (.inl h))))
                have HSM := Lib.hid (same_any _ x1 x2 wd2 (HS1.out.apart hk2 (fun g h => HBBl.out g (.inr (.inl h)))) hs2.at_)
                have HB1' : Hid (BookAt wd2 qa n (dropM B o.dig).1) := Lib.hid (HB1.out.kept hk2 (fun g h h' => HAP.out g h (.inr (.inl h'))))
                have HB2 := Lib.hid hb2
                clear hs2 hb2 hk2
                go_wp2_with fail
                refine hK.out _ _ hS2 (fun _ => ?_)
                clear hK K
                try simp only [Act.put, List.setIfInBounds_toArray, List.set_cons_zero, List.set_cons_succ]
                refine wpAnyH_ready (rs := [6]) (by kernel_rfl) (by simp) ?_
                refine AllReadyH.cons (o := ⟨some 170, _, _, _, _, _⟩) rfl (fun K hK => ?_) (AllReadyH.nil)
                go_simp
                go_at_call 12
                refine HSM.out.mono ?_
                rintro e wd3 ⟨rfl, g3⟩
                have hS3 : Kept (fun g => qa.has g ∨ qb.has g) wb wd3 := hS2.chg g3
                have HEND : Hid (∃ B', Hid (AgainAt w2 qa qb (k + 1) nw (n + 4) B' wd3)) := Lib.hid ⟨_, Lib.hid (HR.out.next (HKB.out.trans hS3) ((HB1'.out.chg g3).mono (by omega)) ((HB2.out.chg g3).mono (by omega)) ((dropM_ok o.dig HR.out.ok).mono (by omega)) HNW.out)⟩
                clear g3
                go_wp2_with fail
                refine hK.out _ _ hS3 (fun _ => ?_)
                clear hK K
                try simp only [Act.put, List.setIfInBounds_toArray, List.set_cons_zero, List.set_cons_succ]
                refine wpAnyH_take (i := 7) (oi := ⟨some 171, _, _, _, _, _⟩) (v := ?_) rfl (by kernel_rfl) (by kernel_rfl) (by kernel_rfl) (fun _ _ _ h => h) (Or.inl ⟨by rfl, ?_⟩) (by assumption) ?_
                rotate_left
                · intro v hSv; (try dsimp only at hSv); skip; go_simp; (try with_reducible rfl)
                try simp only [Act.put, List.setIfInBounds_toArray, List.set_cons_zero, List.set_cons_succ]
                refine wpAnyH_done (by kernel_rfl) ?_ _
                go_wp2_with fail
                go_meet
                exact HEND.out
              · have r2 : (o.kind == 2) = false := by simpa using h2
                clear h1 h2
                have HKV : Hid (Kept (fun g => qa.has g ∨ qb.has g) va wb) := Lib.hid ((Kept.refl _ _).chg HGB.out)
                have HCI : Hid (I64 o.cl.node) := Lib.hid HOW.out.2.2.1
                have HC38 : Hid (∀ v, Kept (fun g => qa.has g ∨ qb.has g) va v → v.cell? ⟨wr.heap.size, 38, none⟩ = some (.bool o.cl.gone)) := Lib.hid fun v hv => by
                  rw [(HOB.out v hv).cell 38]
                  show (o.cells.toArray)[38]? = _
                  unfold Opn.cells
                  rw [List.getElem?_toArray, List.getElem?_append_right (by simp), show 38 - [Value.int IntKind.i64 o.kind, Value.int IntKind.i64 o.by_, Value.int IntKind.u8 o.key].length = 35 from rfl, ← List.getElem?_toArray]
                  exact (cl_at o.c.d o.c.node o.c.inc o.c.count o.c.gone).2.2.2
                go_wp2_with (refine wpList_load_mid rfl 35 _ rfl wr.heap.size 0 rfl o.cells _ (rangeAt_blk (HOB.out _ (HKV.out))) Try.underlying35 rfl HI35.out ?_)
                refine (opclaim_any o _).mono ?_
                rintro e wh1 ⟨rfl, g1⟩
                have HT := Lib.hid (hear_any o.cl nw wh1 qa n B (HRB.out.1.chg g1) HR.out.ok HNI.out HN4.out.1 HCI.out)
                have HG1 := Lib.hid g1
                clear g1
                go_wp2_with fail
                refine HT.out.mono ?_
                rintro e wh2 ⟨x1, rfl, hs1, hb1, hk1⟩
                have HS1 := Lib.hid hs1
                have HB1 := Lib.hid hb1
                have HK1 : Hid (Kept (fun g => qa.has g ∨ qb.has g) wb wh2) := Lib.hid (((Kept.refl _ _).chg HG1.out).trans (hk1.mono (fun g h => .inl h)))
                have HBB : Hid (BookAt wh2 qb n B) := Lib.hid ((HRB.out.2.chg HG1.out).kept hk1 (fun g h h' => HAP.out g h' h))
                clear hs1 hb1 hk1 HT
                go_wp2_with (refine wpList_load_mid rfl 35 _ rfl wr.heap.size 0 rfl o.cells _ (rangeAt_blk (HOB.out _ (HKV.out.trans HK1.out))) Try.underlying35 rfl HI35.out ?_)
                refine (opclaim_any o _).mono ?_
                rintro e wh3 ⟨rfl, g3⟩
                have HT := Lib.hid (hear_any o.cl nw wh3 qb n B (HBB.out.chg g3) HR.out.ok HNI.out HN4.out.1 HCI.out)
                have HG3 := Lib.hid g3
                clear g3
                go_wp2_with fail
                refine HT.out.mono ?_
                rintro e wh4 ⟨x2, rfl, hs2, hb2, hk2⟩
                have hx1 : SentAt wh4 x1 (hearM B o.cl nw).2.1 := (HS1.out.at_.chg HG3.out).kept hk2 (fun b hb hS => by
                  have hlt := HBB.out.lt hS
                  have hlt1 := (HRB.out.2.chg HG1.out).lt hS
                  cases ho : (hearM B o.cl nw).2.1 with
                  | none => have h := HS1.out; rw [ho] at h; have e : x1 = .slice none 0 0 := h; rw [e] at hb; cases hb
                  | some c =>
                    have h := HS1.out
                    rw [ho] at h
                    obtain ⟨b', e, _, hle⟩ := h
                    rw [e] at hb
                    injection hb with hb1
                    injection hb1 with hb2
                    injection hb2 with hb3
                    omega)
                have HX1 := Lib.hid hx1
                have HX2 := Lib.hid hs2
                have HB1' : Hid (BookAt wh4 qa (n + 2) (hearM B o.cl nw).1) := Lib.hid ((HB1.out.chg HG3.out).kept hk2 (fun g h h' => HAP.out g h h'))
                have HB2 := Lib.hid hb2
                have HK2 : Hid (Kept (fun g => qa.has g ∨ qb.has g) wb wh4) := Lib.hid ((HK1.out.chg HG3.out).trans (hk2.mono (fun g h => .inr h)))
                clear hs2 hb2 hk2 HT hx1
                go_wp2_with (refine wpList_load_mid rfl 35 _ rfl wr.heap.size 0 rfl o.cells _ (rangeAt_blk (HOB.out _ (HKV.out.trans HK2.out))) Try.underlying35 rfl HI35.out ?_)
                refine (opclaim_any o _).mono ?_
                rintro e wh5 ⟨rfl, g5⟩
                have HT := Lib.hid (hear_any o.cl nw wh5 qb (n + 2) (hearM B o.cl nw).1 (HB2.out.chg g5) (hearM_ok o.cl HR.out.ok HNI.out) HNI.out (by have := HN4.out; have := HR.out.n; omega) HCI.out)
                have HG5 := Lib.hid g5
                clear g5
                go_wp2_with fail
                refine HT.out.mono ?_
                rintro e wh6 ⟨x3, rfl, hs3, hb3, hk3⟩
                obtain ⟨r', hag, hcs⟩ := hear_again B o.cl nw
                rw [hag] at hs3 hb3 ⊢
                have hx3 : x3 = .slice none 0 0 := hs3
                subst hx3
                have hx1 : SentAt wh6 x1 (hearM B o.cl nw).2.1 := (HX1.out.chg HG5.out).kept hk3 (fun b hb hS => by
                  have hlt := HBB.out.lt hS
                  have hlt1 := (HRB.out.2.chg HG1.out).lt hS
                  cases ho : (hearM B o.cl nw).2.1 with
                  | none => have h := HS1.out; rw [ho] at h; have e : x1 = .slice none 0 0 := h; rw [e] at hb; cases hb
                  | some c =>
                    have h := HS1.out
                    rw [ho] at h
                    obtain ⟨b', e, _, hle⟩ := h
                    rw [e] at hb
                    injection hb with hb1
                    injection hb1 with hb2
                    injection hb2 with hb3
                    omega)
                have hx2 : SentAt wh6 x2 (hearM B o.cl nw).2.1 := (HX2.out.at_.chg HG5.out).kept hk3 (fun b hb hS => by
                  have hlt := HBB.out.lt hS
                  have hlt1 := (HBB.out.chg HG3.out).lt hS
                  cases ho : (hearM B o.cl nw).2.1 with
                  | none => have h := HX2.out; rw [ho] at h; have e : x2 = .slice none 0 0 := h; rw [e] at hb; cases hb
                  | some c =>
                    have h := HX2.out
                    rw [ho] at h
                    obtain ⟨b', e, _, hle⟩ := h
                    rw [e] at hb
                    injection hb with hb1
                    injection hb1 with hb2
                    injection hb2 with hb3
                    have := HG3.out.size
                    omega)
                have HSM := Lib.hid (same_any _ x1 x2 wh6 hx1 hx2)
                have HB1f : Hid (BookAt wh6 qa (n + 2) (hearM B o.cl nw).1) := Lib.hid ((HB1'.out.chg HG5.out).kept hk3 (fun g h h' => HAP.out g h h'))
                have HB3 := Lib.hid hb3
                have HK3 : Hid (Kept (fun g => qa.has g ∨ qb.has g) wb wh6) := Lib.hid ((HK2.out.chg HG5.out).trans (hk3.mono (fun g h => .inr h)))
                have HCS := Lib.hid hcs
                clear hs3 hb3 hk3 HT hx1 hx2 hag hcs
                go_wp2_with fail
                refine HSM.out.mono ?_
                rintro e wh7 ⟨rfl, g7⟩
                have HEND : Hid (∃ B', Hid (AgainAt w2 qa qb (k + 1) nw (n + 4) B' wh7)) := Lib.hid ⟨_, Lib.hid (HR.out.next ((HKB.out.trans HK3.out).chg g7) ((HB1f.out.chg g7).mono (by omega)) (HB3.out.chg g7) ((hearM_ok o.cl HR.out.ok HNI.out).mono (by omega)) HNW.out)⟩
                have c38 := HC38.out wh7 ((HKV.out.trans HK3.out).chg g7)
                clear g7
                have hcs := HCS.out
                clear HCS
                generalize (hearM B o.cl nw).2.2 = ee at *
                generalize o.cl.gone = gg at *
                rcases hcs with ⟨rfl, rfl⟩ | ⟨rfl, rfl⟩ | ⟨rfl, rfl, rfl⟩ | ⟨rfl, rfl, rfl⟩
                all_goals
                  go_wp2_with fail
                  go_meet
                  exact HEND.out
          obtain ⟨B', HX⟩ := hcut
          obtain ⟨w5, rfl⟩ : ∃ v, v = wc := ⟨_, rfl⟩
          obtain ⟨wo, rfl⟩ : ∃ v, v = wr := ⟨_, rfl⟩
          have HNI2 := HNI
          clear HRG HOW HWA HGA HLAST HDG HBD HI31 HI31' HZ31 HO31 HZD HWB HGB HRB HKB HOB HI35 HI35a HZ35 HO35 HZB
          clear c0 c1 c2 d0
          go_wp2_with fail
          go_loopw [27] (fun s27 wr => ∃ m : Nat, m ≤ 3 ∧ s27 = .int .u8 m ∧ Hid (AgainAt w2 qa qb (k + 1) nw (n + 4) B' wr)) (fun i _ => 3 - (intOf i).toNat)
          case atStart => exact ⟨0, by omega, rfl, HX⟩
          case round =>
            obtain ⟨m, hm, rfl, HR2⟩ := hrel
            obtain ⟨wi, rfl⟩ : ∃ v, v = wr := ⟨_, rfl⟩
            by_cases hlt2 : m < 3
            · obtain ⟨kd, hkd⟩ : ∃ d : Dig, Try.prog.built 31 [(0, .int .u8 m)] = some d.cells.toArray := ⟨_, built31 m (by omega)⟩
              have hlt2' : decide (m < 3) = true := by simpa using hlt2
              have HBD := Lib.hid hkd
              have HI31k := Lib.hid (info31 kd)
              have HI31' := Lib.hid (info31' kd)
              have HZ31 := Lib.hid (size31 kd)
              have HO31 := Lib.hid (dig_all kd)
              have hzd := Blk.new wi #[.int .u8 0, .int .u8 0, .int .u8 0, .int .u8 0, .int .u8 0, .int .u8 0, .int .u8 0, .int .u8 0, .int .u8 0, .int .u8 0, .int .u8 0, .int .u8 0, .int .u8 0, .int .u8 0, .int .u8 0, .int .u8 0, .int .u8 0, .int .u8 0, .int .u8 0, .int .u8 0, .int .u8 0, .int .u8 0, .int .u8 0, .int .u8 0, .int .u8 0, .int .u8 0, .int .u8 0, .int .u8 0, .int .u8 0, .int .u8 0, .int .u8 0, .int .u8 0] 31
              obtain ⟨wk, hwk⟩ : ∃ v, v = (wi.alloc (.cells #[.int .u8 0, .int .u8 0, .int .u8 0, .int .u8 0, .int .u8 0, .int .u8 0, .int .u8 0, .int .u8 0, .int .u8 0, .int .u8 0, .int .u8 0, .int .u8 0, .int .u8 0, .int .u8 0, .int .u8 0, .int .u8 0, .int .u8 0, .int .u8 0, .int .u8 0, .int .u8 0, .int .u8 0, .int .u8 0, .int .u8 0, .int .u8 0, .int .u8 0, .int .u8 0, .int .u8 0, .int .u8 0, .int .u8 0, .int .u8 0, .int .u8 0, .int .u8 0] 31)).setRow wi.heap.size kd.cells.toArray := ⟨_, rfl⟩
              have gk : Chg none wi wk := by rw [hwk]; exact Chg.own ((Chg.refl _ _).alloc _) (chg_setRow _ _ _) (Nat.le_refl _)
              have hbd : Blk wk wi.heap.size kd.cells.toArray 31 := by rw [hwk]; exact setRow_heap _ _ _ _ _ _ hzd
              have HKD0 : Hid (∀ v, Chg none wk v → v.rangeAt wi.heap.size 0 kd.cells) := Lib.hid fun v hv => rangeAt_chg (rangeAt_blk hbd) hv (by simp)
              have HZD := Lib.hid hzd
              have HWK := Lib.hid hwk
              have HGK := Lib.hid gk
              have HLA := Lib.hid (live_any kd nw wk qa (n + 4) B' (HR2.out.a.chg gk) HR2.out.ok HNI2.out)
              clear hkd hzd hwk gk hbd
              go_wp2_with (first
                | (refine wpList_build_is rfl 31 _ rfl kd.cells.toArray (by simp only [List.map_toArray, List.map_cons, List.map_nil]; exact HBD.out) ?_)
                | (refine wpList_store_row rfl 31 _ _ rfl wi.heap.size kd.cells.toArray rfl rfl 31 _ HZD.out HI31'.out HZ31.out HO31.out ?_; rw [← HWK.out])
                | (refine wpList_load_mid rfl 31 _ rfl wi.heap.size 0 rfl kd.cells _ (HKD0.out _ (Chg.refl _ _)) Try.underlying31 rfl HI31k.out ?_))
              refine HLA.out.mono ?_
              rintro e wl1 ⟨rfl, gl1⟩
              have HL1 := Lib.hid gl1
              have HLB := Lib.hid (live_any kd nw wl1 qb (n + 4) B' (HR2.out.b.chg (HGK.out.trans gl1)) HR2.out.ok HNI2.out)
              clear gl1 HLA
              generalize liveM B' kd nw = lv at *
              obtain ⟨ln, lb, hlv⟩ : ∃ (ln : Int) (lb : Bool), optPair lv = .tuple #[.int .i64 ln, .bool lb] := by
                cases lv with
                | none => exact ⟨_, _, rfl⟩
                | some c => exact ⟨_, _, rfl⟩
              rw [hlv] at HLB ⊢
              clear hlv
              go_wp2_with (refine wpList_load_mid rfl 31 _ rfl wi.heap.size 0 rfl kd.cells _ (HKD0.out _ HL1.out) Try.underlying31 rfl HI31k.out ?_)
              refine HLB.out.mono ?_
              rintro e wj ⟨rfl, gl2⟩
              have HGI : Hid (Chg none wi wj) := Lib.hid (HGK.out.trans (HL1.out.trans gl2))
              have HKD : Hid (∀ v, Chg none wj v → v.rangeAt wi.heap.size 0 kd.cells) := Lib.hid fun v hv => HKD0.out v (HL1.out.trans (gl2.trans hv))
              clear gl2 HLB
              have hln : (ln != ln) = false := by simp
              have hlb : (lb != lb) = false := by simp
              obtain ⟨mb, hmb⟩ : ∃ b, b = mineB B' kd := ⟨_, rfl⟩
              have hmm : (mb != mb) = false := by simp
              go_wp2_with fail
              have hS0 : Chg none wj wj.drew := (Chg.refl _ _).drew
              refine wp_region_held_drew (S := fun v => Chg none wj v) (by kernel_rfl) hS0 (fun _ => ?_)
              refine wpAnyH_take (i := 0) (oi := ⟨some 192, _, _, _, _, _⟩) (v := ?_) rfl (by kernel_rfl) (by kernel_rfl) (by kernel_rfl) (fun _ _ _ h => h) (Or.inl ⟨by rfl, ?_⟩) (by assumption) ?_
              rotate_left
              · intro v hSv; (try dsimp only at hSv); skip; go_simp; (try with_reducible rfl)
              try simp only [Act.put, List.setIfInBounds_toArray, List.set_cons_zero, List.set_cons_succ]
              refine wpAnyH_take (i := 1) (oi := ⟨some 193, _, _, _, _, _⟩) (v := ?_) rfl (by kernel_rfl) (by kernel_rfl) (by kernel_rfl) (fun _ _ _ h => h) (Or.inl ⟨by rfl, ?_⟩) (by assumption) ?_
              rotate_left
              · intro v hSv; (try dsimp only at hSv); skip; go_simp; (try with_reducible rfl)
              try simp only [Act.put, List.setIfInBounds_toArray, List.set_cons_zero, List.set_cons_succ]
              refine wpAnyH_take (i := 2) (oi := ⟨some 194, _, _, _, _, _⟩) (v := ?_) rfl (by kernel_rfl) (by kernel_rfl) (by kernel_rfl) (fun _ _ _ h => h) (Or.inl ⟨by rfl, ?_⟩) (by assumption) ?_
              rotate_left
              · intro v hSv; (try dsimp only at hSv); skip; go_simp; (try with_reducible rfl)
              try simp only [Act.put, List.setIfInBounds_toArray, List.set_cons_zero, List.set_cons_succ]
              refine wpAnyH_take (i := 3) (oi := ⟨some 195, _, _, _, _, _⟩) (v := ?_) rfl (by kernel_rfl) (by kernel_rfl) (by kernel_rfl) (fun _ _ _ h => h) (Or.inl ⟨by rfl, ?_⟩) (by assumption) ?_
              rotate_left
              · intro v hSv; (try dsimp only at hSv); skip; go_simp; (try with_reducible rfl)
              try simp only [Act.put, List.setIfInBounds_toArray, List.set_cons_zero, List.set_cons_succ]
              refine wpAnyH_take (i := 4) (oi := ⟨some 196, _, _, _, _, _⟩) (v := ?_) rfl (by kernel_rfl) (by kernel_rfl) (by kernel_rfl) (fun _ _ _ h => h) (Or.inl ⟨by rfl, ?_⟩) (by assumption) ?_
              rotate_left
              · intro v hSv; (try dsimp only at hSv); skip; go_simp; (try with_reducible rfl)
              try simp only [Act.put, List.setIfInBounds_toArray, List.set_cons_zero, List.set_cons_succ]
              refine wpAnyH_take (i := 5) (oi := ⟨some 197, _, _, _, _, _⟩) (v := ?_) rfl (by kernel_rfl) (by kernel_rfl) (by kernel_rfl) (fun _ _ _ h => h) (Or.inl ⟨by rfl, ?_⟩) (by assumption) ?_
              rotate_left
              · intro v hSv; (try dsimp only at hSv); skip; go_simp; (try with_reducible rfl)
              try simp only [Act.put, List.setIfInBounds_toArray, List.set_cons_zero, List.set_cons_succ]
              refine wpAnyH_take (i := 6) (oi := ⟨some 198, _, _, _, _, _⟩) (v := ?_) rfl (by kernel_rfl) (by kernel_rfl) (by kernel_rfl) (fun _ _ _ h => h) (Or.inl ⟨by rfl, ?_⟩) (by assumption) ?_
              rotate_left
              · intro v hSv; (try dsimp only at hSv); skip; go_simp; (try with_reducible rfl)
              try simp only [Act.put, List.setIfInBounds_toArray, List.set_cons_zero, List.set_cons_succ]
              refine wpAnyH_take (i := 7) (oi := ⟨some 199, _, _, _, _, _⟩) (v := ?_) rfl (by kernel_rfl) (by kernel_rfl) (by kernel_rfl) (fun _ _ _ h => h) (Or.inl ⟨by rfl, ?_⟩) (by assumption) ?_
              rotate_left
              · intro v hSv; (try dsimp only at hSv); skip; go_simp; (try with_reducible rfl)
              try simp only [Act.put, List.setIfInBounds_toArray, List.set_cons_zero, List.set_cons_succ]
              refine wpAnyH_take (i := 8) (oi := ⟨some 200, _, _, _, _, _⟩) (v := ?_) rfl (by kernel_rfl) (by kernel_rfl) (by kernel_rfl) (fun _ _ _ h => h) (Or.inl ⟨by rfl, ?_⟩) (by assumption) ?_
              rotate_left
              · intro v hSv; (try dsimp only at hSv); skip; go_simp; (try with_reducible rfl)
              try simp only [Act.put, List.setIfInBounds_toArray, List.set_cons_zero, List.set_cons_succ]
              refine wpAnyH_take (i := 9) (oi := ⟨some 201, _, _, _, _, _⟩) (v := ?_) rfl (by kernel_rfl) (by kernel_rfl) (by kernel_rfl) (fun _ _ _ h => h) (Or.inl ⟨by rfl, ?_⟩) (by assumption) ?_
              rotate_left
              · intro v hSv; (try dsimp only at hSv); skip; go_simp; (try with_reducible rfl)
              try simp only [Act.put, List.setIfInBounds_toArray, List.set_cons_zero, List.set_cons_succ]
              refine wpAnyH_take (i := 10) (oi := ⟨some 202, _, _, _, _, _⟩) (v := .agg (kd.cells).toArray) rfl (by kernel_rfl) (by kernel_rfl) (by kernel_rfl) (fun _ _ _ h => h) (yieldsIf_load_mid (by rfl) 31 _ rfl wi.heap.size 0 rfl (kd.cells) _ (fun v h => HKD.out v h) Try.underlying31 rfl HI31k.out) (by assumption) ?_
              try simp only [Act.put, List.setIfInBounds_toArray, List.set_cons_zero, List.set_cons_succ]
              refine wpAnyH_take (i := 12) (oi := ⟨some 204, _, _, _, _, _⟩) (v := ?_) rfl (by kernel_rfl) (by kernel_rfl) (by kernel_rfl) (fun _ _ _ h => h) (Or.inl ⟨by rfl, ?_⟩) (by assumption) ?_
              rotate_left
              · intro v hSv; (try dsimp only at hSv); skip; go_simp; (try with_reducible rfl)
              try simp only [Act.put, List.setIfInBounds_toArray, List.set_cons_zero, List.set_cons_succ]
              refine wpAnyH_take (i := 13) (oi := ⟨some 205, _, _, _, _, _⟩) (v := .agg (kd.cells).toArray) rfl (by kernel_rfl) (by kernel_rfl) (by kernel_rfl) (fun _ _ _ h => h) (yieldsIf_load_mid (by rfl) 31 _ rfl wi.heap.size 0 rfl (kd.cells) _ (fun v h => HKD.out v h) Try.underlying31 rfl HI31k.out) (by assumption) ?_
              try simp only [Act.put, List.setIfInBounds_toArray, List.set_cons_zero, List.set_cons_succ]
              refine wpAnyH_ready (rs := [11]) (by kernel_rfl) (by simp) ?_
              refine AllReadyH.cons (o := ⟨some 203, _, _, _, _, _⟩) rfl (fun K hK => ?_) (AllReadyH.nil)
              (try rw [if_pos (by rfl)])
              go_simp
              go_at_call 20
              refine (mine_any kd _ qa (n + 4) B' (HR2.out.a.chg (HGI.out.trans hS0))).mono ?_
              rintro e wm1 ⟨rfl, gm1⟩
              have hS1 : Chg none wj wm1 := hS0.trans gm1
              clear gm1
              go_wp2_with fail
              refine hK.out _ _ hS1 (fun _ => ?_)
              clear hK K
              try simp only [Act.put, List.setIfInBounds_toArray, List.set_cons_zero, List.set_cons_succ]
              refine wpAnyH_ready (rs := [14]) (by kernel_rfl) (by simp) ?_
              refine AllReadyH.cons (o := ⟨some 206, _, _, _, _, _⟩) rfl (fun K hK => ?_) (AllReadyH.nil)
              (try rw [if_pos (by rfl)])
              go_simp
              go_at_call 20
              refine (mine_any kd _ qb (n + 4) B' (HR2.out.b.chg (HGI.out.trans hS1))).mono ?_
              rintro e wm2 ⟨rfl, gm2⟩
              have hS2 : Chg none wj wm2 := hS1.trans gm2
              clear gm2
              go_wp2_with fail
              refine hK.out _ _ hS2 (fun _ => ?_)
              clear hK K
              try simp only [Act.put, List.setIfInBounds_toArray, List.set_cons_zero, List.set_cons_succ]
              refine wpAnyH_take (i := 15) (oi := ⟨some 207, _, _, _, _, _⟩) (v := ?_) rfl (by kernel_rfl) (by kernel_rfl) (by kernel_rfl) (fun _ _ _ h => h) (Or.inl ⟨by rfl, ?_⟩) (by assumption) ?_
              rotate_left
              · intro v hSv; (try dsimp only at hSv); skip; go_simp; (try with_reducible rfl)
              try simp only [Act.put, List.setIfInBounds_toArray, List.set_cons_zero, List.set_cons_succ]
              refine wpAnyH_take (i := 16) (oi := ⟨some 208, _, _, _, _, _⟩) (v := ?_) rfl (by kernel_rfl) (by kernel_rfl) (by kernel_rfl) (fun _ _ _ h => h) (Or.inl ⟨by rfl, ?_⟩) (by assumption) ?_
              rotate_left
              · intro v hSv; (try dsimp only at hSv); skip; go_simp; (try with_reducible rfl)
              try simp only [Act.put, List.setIfInBounds_toArray, List.set_cons_zero, List.set_cons_succ]
              refine wpAnyH_done (by kernel_rfl) ?_ _
              rw [← hmb]
              clear hmb
              go_wp2_with fail
              go_roundw
              case rel => exact ⟨m + 1, by omega, by go_num, Lib.hid (HR2.out.chg (HGI.out.trans hS2))⟩
              case measure => simp [intOf]; omega
            · have hlt2' : decide (m < 3) = false := by simpa using hlt2
              go_wp2_with fail
              go_roundw
              case rel => exact ⟨k + 1, nw, n + 4, B', by omega, by go_num, rfl, HR2⟩
              case measure => simp [intOf]; omega
        · have hlt' : ¬ (k : Int) < (L.length : Int) := by omega
          go_wp2_with fail
          refine (known_any _).mono ?_
          rintro e w' ⟨rfl, g⟩
          have G := Lib.hid (Kept.fresh HG2.out (HR.out.kept.chg g) HNEW.out)
          clear g
          go_wp2_with fail
          go_ret
          exact ⟨rfl, G.out⟩

end Go.Proofs.Ytnpmfigcfikdgaa
