/-
  Walks over package claims: the law ClaimsApart.
-/
import Derived.Test.YtnpmfigcfikdgaaXB
import Derived.Test.YtnpmfigcfikdgaaAG
namespace Go.Proofs.Ytnpmfigcfikdgaa
open Go.RowKit Go.Maps

/-- What stands at each round's head. -/
structure ApAt (w2 : World) (q : Qk) (pb nb : Nat) (k : Nat) (now : Int) (n : Nat) (B : Bk) (wr : World) : Prop where
  p : Blk wr pb #[.pointer (some ⟨q.b, 0, none⟩)] 24
  t : Blk wr nb #[.int .i64 now] 3
  bk : BookAt wr q n B
  ok : B.ok n
  n : n ≤ 2 * k
  lo : 0 ≤ now
  hi : now ≤ 1000 * k
  kept : Kept (fun g => q.has g ∨ g = nb) w2 wr

/-- Copies of three rows. -/
structure CopyAt (wl : World) (a b c : Nat) (f g h : Nat → Int) (v : World) : Prop where
  x : Blk v a (arr3 f) 62
  y : Blk v b (arr3 g) 62
  z : Blk v c (arr3 h) 62
  la : wl.heap.size ≤ a
  lb : wl.heap.size ≤ b
  lc : wl.heap.size ≤ c
  chg : Chg none wl v

def arr3L (f : Nat → Int) : List Value := [.int .i64 (f 0), .int .i64 (f 1), .int .i64 (f 2)]
theorem info62L (f : Nat → Int) : (Try.prog.info? 62).map (·.size) = some (arr3L f).length := by show _ = some 3; kernel_rfl
theorem info62 (f : Nat → Int) : (Try.prog.info? 62).map (·.size) = some (arr3L f).toArray.size := by show _ = some 3; kernel_rfl
theorem one3 (f : Nat → Int) : (arr3L f).toArray.all (·.oneCell') = true := by
  rw [Array.all_eq_true_iff_forall_mem]
  intro v hv
  rw [List.mem_toArray] at hv
  unfold arr3L at hv
  simp at hv
  rcases hv with rfl | rfl | rfl <;> rfl
theorem copies {wl wz : World} {a b c : Nat} {Z : Array Value} {f g h : Nat → Int} (za : Blk wz a Z 62) (zb : Blk wz b Z 62) (zc : Blk wz c Z 62) (hab : a ≠ b) (hac : a ≠ c) (hbc : b ≠ c) (la : wl.heap.size ≤ a) (lb : wl.heap.size ≤ b) (lc : wl.heap.size ≤ c) (hg : Chg none wl wz) :
    CopyAt wl a b c f g h (((wz.setRow a (arr3L f).toArray).setRow b (arr3L g).toArray).setRow c (arr3L h).toArray) :=
  ⟨(setRow_other _ _ _ _ hac).trans ((setRow_other _ _ _ _ hab).trans (setRow_heap _ _ _ _ _ _ za)),
   (setRow_other _ _ _ _ hbc).trans (setRow_heap _ _ _ _ _ _ ((setRow_other _ _ _ _ hab.symm).trans zb)),
   setRow_heap _ _ _ _ _ _ ((setRow_other _ _ _ _ hbc.symm).trans ((setRow_other _ _ _ _ hac.symm).trans zc)),
   la, lb, lc, Chg.own (Chg.own (Chg.own hg (chg_setRow _ _ _) la) (chg_setRow _ _ _) lb) (chg_setRow _ _ _) lc⟩

set_option maxRecDepth 100000 in
set_option maxHeartbeats 8000000 in
theorem apart_any (id inc wait ttl : Int) (A : Option Addr) (L : List Opn) (cap : Nat) (w : World) (hinc : U64 inc) (hLw : ∀ o ∈ L, o.wide) (hrow : RowsAt w 39 A Opn.cells L) :
    Calls Try.prog 6 #[.int .i64 id, .int .u64 inc, .int .i64 wait, .int .i64 ttl, .slice A L.length cap] w fun e w' => e = .returned (.bool true) ∧ Chg none w w' := by
  cases hnew : newOk id inc wait ttl with
  | false =>
    have HN := Lib.hid (fun w => new_bad id inc wait ttl w hnew)
    clear hnew hrow hLw hinc
    go_enter Try.func6, Try.ntmps6
    go_wp2_with fail
    refine (HN.out _).mono ?_
    rintro e w' ⟨rfl, rfl⟩
    go_wp2_with fail
    refine (known_any _).mono ?_
    rintro e w' ⟨rfl, g⟩
    have G : Hid (Chg none w w') := Lib.hid (Chg.trans ((Chg.refl _ _).alloc _) g)
    clear g
    go_wp2_with fail
    go_ret
    exact ⟨rfl, G.out⟩
  | true =>
    have HN := Lib.hid (fun w => new_good id inc wait ttl w hnew)
    have HOK := Lib.hid (bk0_ok hnew hinc)
    have HROW := Lib.hid hrow
    have HLW := Lib.hid hLw
    clear hnew hrow hLw hinc
    by_cases hlen : 200 < L.length
    · have hlen' : (200 : Int) < (L.length : Int) := by omega
      go_enter Try.func6, Try.ntmps6
      go_wp2_with fail
      refine (HN.out _).mono ?_
      rintro e w1 ⟨q1, rfl, -, -, g1⟩
      have G1 := Lib.hid g1
      clear g1
      go_wp2_with fail
      refine (known_any _).mono ?_
      rintro e w' ⟨rfl, g⟩
      have G : Hid (Chg none w w') := Lib.hid (G1.out.trans (Chg.trans ((Chg.refl _ _).alloc _) g))
      clear g
      go_wp2_with fail
      go_ret
      exact ⟨rfl, G.out⟩
    · have hlen' : ¬ (200 : Int) < (L.length : Int) := by omega
      go_enter Try.func6, Try.ntmps6
      go_wp2_with fail
      refine (HN.out _).mono ?_
      rintro e w1 ⟨q, rfl, ha1, hqa, g1⟩
      obtain ⟨w2, hw2⟩ : ∃ v, v = (w1.alloc (.cells #[.pointer (some ⟨q.b, 0, none⟩)] 24)).alloc (.cells #[.int .i64 0] 3) := ⟨_, rfl⟩
      have gw2 : Chg none w1 w2 := by rw [hw2]; exact ((Chg.refl _ _).alloc _).alloc _
      have hb24 : Blk w2 w1.heap.size #[.pointer (some ⟨q.b, 0, none⟩)] 24 := by rw [hw2]; exact (Blk.new w1 _ _).alloc _
      have hb3 : Blk w2 (w1.heap.size + 1) #[.int .i64 0] 3 := by rw [hw2]; exact new_after _ _ _ _ (by simp)
      have HW2 := Lib.hid hw2
      have HAG0 : Hid (ApAt w2 q w1.heap.size (w1.heap.size + 1) 0 0 0 (bk0 id inc wait ttl) w2) := Lib.hid ⟨hb24, hb3, ha1.chg gw2, HOK.out, by omega, by omega, by omega, Kept.refl _ _⟩
      have HNEW0 : Hid (∀ g, (q.has g ∨ g = w1.heap.size + 1) → w.heap.size ≤ g) := Lib.hid fun g hg => by
        rcases hg with h | h
        · exact hqa g h
        · have := g1.size; omega
      have HG2 := Lib.hid (g1.trans gw2)
      clear g1 ha1 hqa hw2 gw2 hb24 hb3 HN HOK
      go_wp2_with fail
      rw [← HW2.out]
      clear HW2
      obtain ⟨pb, hpb⟩ : ∃ p, p = w1.heap.size := ⟨_, rfl⟩
      rw [← hpb] at HAG0 HNEW0 ⊢
      clear hpb
      obtain ⟨nb, hnb⟩ : ∃ p, p = pb + 1 := ⟨_, rfl⟩
      rw [← hnb] at HAG0 HNEW0 ⊢
      clear hnb
      go_loopw [39] (fun s39 wr => ∃ (k : Nat) (now : Int) (n : Nat) (B : Bk), k ≤ L.length ∧ s39 = .int .i64 k ∧ Hid (ApAt w2 q pb nb k now n B wr)) (fun i _ => L.length - (intOf i).toNat)
      case atStart => exact ⟨0, 0, 0, _, by omega, rfl, HAG0⟩
      case round =>
        obtain ⟨k, now, n, B, hk, rfl, HR⟩ := hrel
        by_cases hlt : k < L.length
        · have hlt' : (k : Int) < (L.length : Int) := by omega
          obtain ⟨ba, oa, rfl, hba, hcell⟩ := HROW.out (by intro e; rw [e] at hlt; simp at hlt)
          obtain ⟨o, ho⟩ : ∃ o, L[k]? = some o := ⟨_, List.getElem?_eq_getElem hlt⟩
          have hw := HLW.out o (List.mem_of_getElem? ho)
          have hrg : wr.rangeAt ba (oa + k * 39) o.cells := fun j v hv => by
            have hj : j < 39 := by have := (List.getElem?_eq_some_iff.1 hv).1; rw [o.len] at this; exact this
            have h1 := hcell k o ho j hj
            rw [hv, ← Nat.add_assoc] at h1
            exact (Kept.fresh HG2.out HR.out.kept HNEW0.out).cell h1 (by simp)
          have HRG := Lib.hid hrg
          have HOW := Lib.hid hw
          obtain ⟨wa, hwa⟩ : ∃ v, v = (wr.alloc (.cells #[.int .i64 0, .int .i64 0, .int .u8 0, .int .u8 0, .int .u8 0, .int .u8 0, .int .u8 0, .int .u8 0, .int .u8 0, .int .u8 0, .int .u8 0, .int .u8 0, .int .u8 0, .int .u8 0, .int .u8 0, .int .u8 0, .int .u8 0, .int .u8 0, .int .u8 0, .int .u8 0, .int .u8 0, .int .u8 0, .int .u8 0, .int .u8 0, .int .u8 0, .int .u8 0, .int .u8 0, .int .u8 0, .int .u8 0, .int .u8 0, .int .u8 0, .int .u8 0, .int .u8 0, .int .u8 0, .int .u8 0, .int .i64 0, .int .u64 0, .int .u64 0, .bool false] 35)).setRow wr.heap.size o.cells.toArray := ⟨_, rfl⟩
          have hz := Blk.new wr #[.int .i64 0, .int .i64 0, .int .u8 0, .int .u8 0, .int .u8 0, .int .u8 0, .int .u8 0, .int .u8 0, .int .u8 0, .int .u8 0, .int .u8 0, .int .u8 0, .int .u8 0, .int .u8 0, .int .u8 0, .int .u8 0, .int .u8 0, .int .u8 0, .int .u8 0, .int .u8 0, .int .u8 0, .int .u8 0, .int .u8 0, .int .u8 0, .int .u8 0, .int .u8 0, .int .u8 0, .int .u8 0, .int .u8 0, .int .u8 0, .int .u8 0, .int .u8 0, .int .u8 0, .int .u8 0, .int .u8 0, .int .i64 0, .int .u64 0, .int .u64 0, .bool false] 35
          have ga : Chg none wr wa := by rw [hwa]; exact Chg.own ((Chg.refl _ _).alloc _) (chg_setRow _ _ _) (Nat.le_refl _)
          have hbo : Blk wa wr.heap.size o.cells.toArray 35 := by rw [hwa]; exact setRow_heap _ _ _ _ _ _ hz
          have hta := HR.out.t.chg ga (by simp)
          have hnbq : ¬ q.has nb := has_ne HR.out.t (by decide) HR.out.bk
          have hon : wr.heap.size ≠ nb := blk_ne hbo hta (by decide)
          have ct : wa.cell? ⟨nb, 0, none⟩ = some (.int .i64 now) := by rw [hta.cell]; rfl
          have ft := hta.frozen 0
          have c1 : wa.cell? ⟨wr.heap.size, 1, none⟩ = some (.int .i64 o.by_) := by rw [hbo.cell 1]; rfl
          have hcs : o.cells.toArray.size = 39 := by rw [List.size_toArray, o.len]
          have HI35 : Hid ((Try.prog.info? 35).map (·.size) = some o.cells.length) := Lib.hid (by rw [o.len]; kernel_rfl)
          have HI35a : Hid ((Try.prog.info? 35).map (·.size) = some o.cells.toArray.size) := Lib.hid (by rw [hcs]; kernel_rfl)
          have HZ35 : Hid ((#[.int .i64 0, .int .i64 0, .int .u8 0, .int .u8 0, .int .u8 0, .int .u8 0, .int .u8 0, .int .u8 0, .int .u8 0, .int .u8 0, .int .u8 0, .int .u8 0, .int .u8 0, .int .u8 0, .int .u8 0, .int .u8 0, .int .u8 0, .int .u8 0, .int .u8 0, .int .u8 0, .int .u8 0, .int .u8 0, .int .u8 0, .int .u8 0, .int .u8 0, .int .u8 0, .int .u8 0, .int .u8 0, .int .u8 0, .int .u8 0, .int .u8 0, .int .u8 0, .int .u8 0, .int .u8 0, .int .u8 0, .int .i64 0, .int .u64 0, .int .u64 0, .bool false] : Array Value).size = o.cells.toArray.size) := Lib.hid (by rw [hcs]; rfl)
          have HO35 := Lib.hid (opn_one o)
          have HZB := Lib.hid hz
          have HWA := Lib.hid hwa
          -- behind the tick
          have HVC : Hid (∀ (z : Int) (v : World), v = wa.setCell ⟨nb, 0, none⟩ (.int .i64 (now + z)) → Blk v pb #[.pointer (some ⟨q.b, 0, none⟩)] 24 ∧ Blk v nb #[.int .i64 (now + z)] 3 ∧ BookAt v q n B ∧ Blk v wr.heap.size o.cells.toArray 35 ∧ Kept (fun g => q.has g ∨ g = nb) wr v ∧ wr.heap.size ≤ v.heap.size) := Lib.hid fun z v hv => by
            subst hv
            have hp := HR.out.p.chg ga (by simp)
            exact ⟨hp.setOther _ _ (blk_ne hp hta (by decide)), hta.set 0 _, book_set (HR.out.bk.chg ga) hnbq, hbo.setOther _ _ hon, ((Kept.refl _ _).chg ga).setCell _ _ (.inl (.inr rfl)), by have := ga.size; simp [World.setCell]; omega⟩
          have hnow0 := HR.out.lo
          have hnow1 := HR.out.hi
          clear hcell ho hw hrg hwa hz ga hbo hcs hba hta hnbq hon
          go_upto_region 9 with (first
            | (refine wpList_load_mid rfl 35 _ rfl ba (oa + k * 39) rfl o.cells _ HRG.out Try.underlying35 rfl HI35.out ?_)
            | (refine wpList_store_row rfl 35 _ _ rfl wr.heap.size o.cells.toArray rfl rfl 35 _ HZB.out HI35a.out HZ35.out HO35.out ?_; rw [← HWA.out]))
          (try go_frame)
          go_cut [] (fun wx => ∃ z : Int, 0 ≤ z ∧ z ≤ 1000 ∧ wx = wa.setCell ⟨nb, 0, none⟩ (.int .i64 (now + z)))
          case first =>
            generalize o.by_ = x at *
            by_cases hx0 : x < 0
            · have r1 : decide (x < 0) = true := by simpa using hx0
              go_wp2_with fail
              go_meet
              exact ⟨0, by omega, by omega, by simp⟩
            · have r1 : decide (x < 0) = false := by simpa using hx0
              by_cases hx1 : 1000 < x
              · have r2 : decide (1000 < x) = true := by simpa using hx1
                go_wp2_with fail
                go_meet
                exact ⟨1000, by omega, by omega, by simp⟩
              · have r2 : decide (1000 < x) = false := by simpa using hx1
                go_wp2_with fail
                go_meet
                exact ⟨x, by omega, by omega, by simp⟩
          obtain ⟨z, hz0, hz1, hwc⟩ := hcut
          obtain ⟨va, rfl⟩ : ∃ v, v = wc := ⟨_, rfl⟩
          obtain ⟨vp, vt, vb, vo, vk, vs⟩ := HVC.out z va hwc
          obtain ⟨nw, hnw⟩ : ∃ nw, nw = now + z := ⟨_, rfl⟩
          rw [← hnw] at vt
          have hnI : I64 nw := ⟨by omega, by omega⟩
          have HNW : Hid (0 ≤ nw ∧ nw ≤ 1000 * ((k + 1 : Nat) : Int)) := Lib.hid ⟨by omega, by omega⟩
          have HN4 : Hid (n < 1000000 ∧ L.length ≤ 200) := Lib.hid ⟨by have := HR.out.n; omega, by omega⟩
          have d0 : va.cell? ⟨wr.heap.size, 0, none⟩ = some (.int .i64 o.kind) := by rw [vo.cell 0]; rfl
          have d2 : va.cell? ⟨wr.heap.size, 2, none⟩ = some (.int .u8 o.key) := by rw [vo.cell 2]; rfl
          obtain ⟨wd, hwd⟩ : ∃ v, v = ((va.alloc (.cells #[.int .i64 0, .int .i64 0, .int .i64 0] 62)).alloc (.cells #[.int .i64 0, .int .i64 0, .int .i64 0] 62)).alloc (.cells #[.int .i64 0, .int .i64 0, .int .i64 0] 62) := ⟨_, rfl⟩
          have gd : Chg none va wd := by rw [hwd]; exact (((Chg.refl _ _).alloc _).alloc _).alloc _
          have hx1 : Blk wd va.heap.size (arr3 fun _ => 0) 62 := by rw [hwd]; exact ((Blk.new va _ _).alloc _).alloc _
          have hx2 : Blk wd (va.heap.size + 1) (arr3 fun _ => 0) 62 := by rw [hwd]; exact Blk.alloc (new_after _ _ _ _ (by simp)) _
          have hx3 : Blk wd (va.heap.size + 1 + 1) (arr3 fun _ => 0) 62 := by rw [hwd]; exact new_after _ _ _ _ (by simp)
          have HLK : Hid (LookAt wd q n B nw pb nb va.heap.size (va.heap.size + 1) (va.heap.size + 1 + 1) (fun _ => 0) (fun _ => 0) (fun _ => 0) wd) := Lib.hid ⟨vp.chg gd (by simp), vt.chg gd (by simp), hx1, hx2, hx3, vb.chg gd, Kept.refl _ _⟩
          have HLF : Hid (va.heap.size ≠ va.heap.size + 1 ∧ va.heap.size ≠ va.heap.size + 1 + 1 ∧ va.heap.size + 1 ≠ va.heap.size + 1 + 1 ∧ wr.heap.size < va.heap.size ∧ wr.heap.size < va.heap.size + 1 ∧ wr.heap.size < va.heap.size + 1 + 1) := Lib.hid (by have hvl := vo.lt; exact ⟨by omega, by omega, by omega, by omega, by omega, by omega⟩)
          have HLC := Lib.hid (look_any wd q n B nw pb nb va.heap.size (va.heap.size + 1) (va.heap.size + 1 + 1) _ _ _ (by omega) (by omega) (by omega) HLK.out HR.out.ok hnI)
          have HWD := Lib.hid hwd
          have HNI := Lib.hid hnI
          have hkk := mod3 o.hk
          have hk3 : o.key.tmod 3 < 3 := Int.tmod_lt_of_pos _ (by omega)
          obtain ⟨kk, hkk'⟩ : ∃ kk, kk = o.key.tmod 3 := ⟨_, rfl⟩
          have HDIG : Hid (∃ h, o.dig = keyDig kk h) := Lib.hid ⟨by rw [hkk']; exact hkk, by subst hkk'; rfl⟩
          rw [← hkk'] at hkk hk3
          have HKK := Lib.hid hkk'
          have HBD : Hid (Try.prog.built 31 [(0, .int .u8 kk)] = some o.dig.cells.toArray) := Lib.hid (by obtain ⟨h, e⟩ := HDIG.out; rw [e]; exact built31 kk h)
          have HKP : Hid (Kept (fun g => q.has g ∨ g = nb) wr wd ∧ wr.heap.size ≤ va.heap.size ∧ Blk wd wr.heap.size o.cells.toArray 35) := Lib.hid ⟨vk.chg gd, vs, vo.chg gd (by simp)⟩
          clear HLK
          clear hnw hz0 hz1 hnow0 hnow1 hwc vp vt vb vo vk vs hwd gd hx1 hx2 hx3 hkk' hnI HVC ct ft c1
          go_upto_region 14 with fail
          rw [← HWD.out, ← HKK.out]
          clear HWD HKK
          obtain ⟨xb, hxb⟩ : ∃ x, x = va.heap.size := ⟨_, rfl⟩
          rw [← hxb] at HLC HKP HLF ⊢
          clear hxb
          obtain ⟨yb, hyb⟩ : ∃ x, x = xb + 1 := ⟨_, rfl⟩
          rw [← hyb] at HLC HLF ⊢
          clear hyb
          obtain ⟨zb, hzb⟩ : ∃ x, x = yb + 1 := ⟨_, rfl⟩
          rw [← hzb] at HLC HLF ⊢
          clear hzb
          go_wp2_with fail
          refine HLC.out.mono ?_
          rintro e wl ⟨rfl, hl⟩
          have HL := Lib.hid hl
          clear hl HLC
          go_upto_region 15 with fail
          go_cut [20, 21, 22] (fun s20 s21 s22 wx => ∃ a b c : Nat, s20 = .pointer (some ⟨a, 0, none⟩) ∧ s21 = .pointer (some ⟨b, 0, none⟩) ∧ s22 = .pointer (some ⟨c, 0, none⟩) ∧ Hid (CopyAt wl a b c (nodeV B nw) (liveV B nw) (mineV B) wx))
          case first =>
            have hS0 : Chg none wl wl.drew := (Chg.refl _ _).drew
            have z1 : Blk (((wl.drew.alloc (.cells #[.int .i64 0, .int .i64 0, .int .i64 0] 62)).alloc (.cells #[.int .i64 0, .int .i64 0, .int .i64 0] 62)).alloc (.cells #[.int .i64 0, .int .i64 0, .int .i64 0] 62)) wl.heap.size #[.int .i64 0, .int .i64 0, .int .i64 0] 62 := ((Blk.new wl.drew _ _).alloc _).alloc _
            have z2 : Blk (((wl.drew.alloc (.cells #[.int .i64 0, .int .i64 0, .int .i64 0] 62)).alloc (.cells #[.int .i64 0, .int .i64 0, .int .i64 0] 62)).alloc (.cells #[.int .i64 0, .int .i64 0, .int .i64 0] 62)) (wl.heap.size + 1) #[.int .i64 0, .int .i64 0, .int .i64 0] 62 := Blk.alloc (new_after _ _ _ _ (by simp)) _
            have z3 : Blk (((wl.drew.alloc (.cells #[.int .i64 0, .int .i64 0, .int .i64 0] 62)).alloc (.cells #[.int .i64 0, .int .i64 0, .int .i64 0] 62)).alloc (.cells #[.int .i64 0, .int .i64 0, .int .i64 0] 62)) (wl.heap.size + 1 + 1) #[.int .i64 0, .int .i64 0, .int .i64 0] 62 := new_after _ _ _ _ (by simp)
            have HGZ : Hid (Chg none wl (((wl.drew.alloc (.cells #[.int .i64 0, .int .i64 0, .int .i64 0] 62)).alloc (.cells #[.int .i64 0, .int .i64 0, .int .i64 0] 62)).alloc (.cells #[.int .i64 0, .int .i64 0, .int .i64 0] 62))) := Lib.hid (Chg.alloc (Chg.alloc (Chg.alloc hS0 _) _) _)
            have HRX : Hid (∀ v, Chg none wl v → v.rangeAt xb 0 (arr3L (nodeV B nw))) := Lib.hid fun v hv => rangeAt_chg (rangeAt_blk HL.out.x) hv (by simp)
            have HRY : Hid (∀ v, Chg none wl v → v.rangeAt yb 0 (arr3L (liveV B nw))) := Lib.hid fun v hv => rangeAt_chg (rangeAt_blk HL.out.y) hv (by simp)
            have HRZ : Hid (∀ v, Chg none wl v → v.rangeAt zb 0 (arr3L (mineV B))) := Lib.hid fun v hv => rangeAt_chg (rangeAt_blk HL.out.z) hv (by simp)
            refine wp_region_held_drew (S := fun v => Chg none wl v) (by kernel_rfl) hS0 (fun _ => ?_)
            refine wpAnyH_take (i := 0) (oi := ⟨some 58, _, _, _, _, _⟩) (v := .agg (arr3L (nodeV B nw)).toArray) rfl (by kernel_rfl) (by kernel_rfl) (by kernel_rfl) (fun _ _ _ h => h) (yieldsIf_load_mid (by rfl) 62 _ rfl xb 0 rfl (arr3L (nodeV B nw)) _ (fun v h => HRX.out v h) Try.underlying62 rfl (info62L _)) (by assumption) ?_
            try simp only [Act.put, List.setIfInBounds_toArray, List.set_cons_zero, List.set_cons_succ]
            refine wpAnyH_take (i := 1) (oi := ⟨some 59, _, _, _, _, _⟩) (v := .agg (arr3L (liveV B nw)).toArray) rfl (by kernel_rfl) (by kernel_rfl) (by kernel_rfl) (fun _ _ _ h => h) (yieldsIf_load_mid (by rfl) 62 _ rfl yb 0 rfl (arr3L (liveV B nw)) _ (fun v h => HRY.out v h) Try.underlying62 rfl (info62L _)) (by assumption) ?_
            try simp only [Act.put, List.setIfInBounds_toArray, List.set_cons_zero, List.set_cons_succ]
            refine wpAnyH_take (i := 2) (oi := ⟨some 60, _, _, _, _, _⟩) (v := .agg (arr3L (mineV B)).toArray) rfl (by kernel_rfl) (by kernel_rfl) (by kernel_rfl) (fun _ _ _ h => h) (yieldsIf_load_mid (by rfl) 62 _ rfl zb 0 rfl (arr3L (mineV B)) _ (fun v h => HRZ.out v h) Try.underlying62 rfl (info62L _)) (by assumption) ?_
            try simp only [Act.put, List.setIfInBounds_toArray, List.set_cons_zero, List.set_cons_succ]
            refine wpAnyH_ready (rs := [3, 4, 5]) (by kernel_rfl) (by simp) ?_
            refine AllReadyH.cons (o := ⟨some 20, _, _, _, _, _⟩) rfl (fun K hK => ?_) (AllReadyH.cons (o := ⟨some 21, _, _, _, _, _⟩) rfl (fun K hK => ?_) (AllReadyH.cons (o := ⟨some 22, _, _, _, _, _⟩) rfl (fun K hK => ?_) (AllReadyH.nil)))
            · go_simp
              refine hK.out _ _ (Chg.alloc hS0 _) (fun _ => ?_)
              clear hK K
              try simp only [Act.put, List.setIfInBounds_toArray, List.set_cons_zero, List.set_cons_succ]
              refine wpAnyH_ready (rs := [4, 5]) (by kernel_rfl) (by simp) ?_
              refine AllReadyH.cons (o := ⟨some 21, _, _, _, _, _⟩) rfl (fun K hK => ?_) (AllReadyH.cons (o := ⟨some 22, _, _, _, _, _⟩) rfl (fun K hK => ?_) (AllReadyH.nil))
              · go_simp
                refine hK.out _ _ (Chg.alloc (Chg.alloc hS0 _) _) (fun _ => ?_)
                clear hK K
                try simp only [Act.put, List.setIfInBounds_toArray, List.set_cons_zero, List.set_cons_succ]
                refine wpAnyH_ready (rs := [5]) (by kernel_rfl) (by simp) ?_
                refine AllReadyH.cons (o := ⟨some 22, _, _, _, _, _⟩) rfl (fun K hK => ?_) (AllReadyH.nil)
                · go_simp
                  refine hK.out _ _ (Chg.alloc (Chg.alloc (Chg.alloc hS0 _) _) _) (fun _ => ?_)
                  clear hK K
                  try simp only [Act.put, List.setIfInBounds_toArray, List.set_cons_zero, List.set_cons_succ]
                  refine wpAnyH_ready (rs := [6]) (by kernel_rfl) (by simp) ?_
                  refine AllReadyH.cons (o := ⟨none, _, _, _, _, _⟩) rfl (fun K hK => ?_) (AllReadyH.nil)
                  refine wp_store_row 62 (.tmp 20) (.tmp 58) (by rfl) wl.heap.size (arr3L (nodeV B nw)).toArray (by rfl) (by rfl) 62 _ z1 (info62 _) rfl (one3 _) ?_
                  refine hK.out _ _ (Chg.own HGZ.out (chg_setRow _ _ _) (by omega)) (fun _ => ?_)
                  clear hK K
                  refine wpAnyH_ready (rs := [7]) (by kernel_rfl) (by simp) ?_
                  refine AllReadyH.cons (o := ⟨none, _, _, _, _, _⟩) rfl (fun K hK => ?_) (AllReadyH.nil)
                  refine wp_store_row 62 (.tmp 21) (.tmp 59) (by rfl) (wl.heap.size + 1) (arr3L (liveV B nw)).toArray (by rfl) (by rfl) 62 _ ((setRow_other _ _ _ _ (by omega)).trans z2) (info62 _) rfl (one3 _) ?_
                  refine hK.out _ _ (Chg.own (Chg.own HGZ.out (chg_setRow _ _ _) (by omega)) (chg_setRow _ _ _) (by omega)) (fun _ => ?_)
                  clear hK K
                  refine wpAnyH_ready (rs := [8]) (by kernel_rfl) (by simp) ?_
                  refine AllReadyH.cons (o := ⟨none, _, _, _, _, _⟩) rfl (fun K hK => ?_) (AllReadyH.nil)
                  refine wp_store_row 62 (.tmp 22) (.tmp 60) (by rfl) (wl.heap.size + 1 + 1) (arr3L (mineV B)).toArray (by rfl) (by rfl) 62 _ ((setRow_other _ _ _ _ (by omega)).trans ((setRow_other _ _ _ _ (by omega)).trans z3)) (info62 _) rfl (one3 _) ?_
                  refine hK.out _ _ (Chg.own (Chg.own (Chg.own HGZ.out (chg_setRow _ _ _) (by omega)) (chg_setRow _ _ _) (by omega)) (chg_setRow _ _ _) (by omega)) (fun _ => ?_)
                  clear hK K
                  refine wpAnyH_done (by kernel_rfl) ?_ _
                  go_wp2_with fail
                  go_meet
                  exact ⟨_, _, _, rfl, rfl, rfl, Lib.hid (copies z1 z2 z3 (by omega) (by omega) (by omega) (by omega) (by omega) (by omega) HGZ.out)⟩
              · go_simp
                refine hK.out _ _ (Chg.alloc (Chg.alloc hS0 _) _) (fun _ => ?_)
                clear hK K
                try simp only [Act.put, List.setIfInBounds_toArray, List.set_cons_zero, List.set_cons_succ]
                refine wpAnyH_ready (rs := [4]) (by kernel_rfl) (by simp) ?_
                refine AllReadyH.cons (o := ⟨some 21, _, _, _, _, _⟩) rfl (fun K hK => ?_) (AllReadyH.nil)
                · go_simp
                  refine hK.out _ _ (Chg.alloc (Chg.alloc (Chg.alloc hS0 _) _) _) (fun _ => ?_)
                  clear hK K
                  try simp only [Act.put, List.setIfInBounds_toArray, List.set_cons_zero, List.set_cons_succ]
                  refine wpAnyH_ready (rs := [6]) (by kernel_rfl) (by simp) ?_
                  refine AllReadyH.cons (o := ⟨none, _, _, _, _, _⟩) rfl (fun K hK => ?_) (AllReadyH.nil)
                  refine wp_store_row 62 (.tmp 20) (.tmp 58) (by rfl) wl.heap.size (arr3L (nodeV B nw)).toArray (by rfl) (by rfl) 62 _ z1 (info62 _) rfl (one3 _) ?_
                  refine hK.out _ _ (Chg.own HGZ.out (chg_setRow _ _ _) (by omega)) (fun _ => ?_)
                  clear hK K
                  refine wpAnyH_ready (rs := [7]) (by kernel_rfl) (by simp) ?_
                  refine AllReadyH.cons (o := ⟨none, _, _, _, _, _⟩) rfl (fun K hK => ?_) (AllReadyH.nil)
                  refine wp_store_row 62 (.tmp 21) (.tmp 59) (by rfl) (wl.heap.size + 1 + 1) (arr3L (liveV B nw)).toArray (by rfl) (by rfl) 62 _ ((setRow_other _ _ _ _ (by omega)).trans z3) (info62 _) rfl (one3 _) ?_
                  refine hK.out _ _ (Chg.own (Chg.own HGZ.out (chg_setRow _ _ _) (by omega)) (chg_setRow _ _ _) (by omega)) (fun _ => ?_)
                  clear hK K
                  refine wpAnyH_ready (rs := [8]) (by kernel_rfl) (by simp) ?_
                  refine AllReadyH.cons (o := ⟨none, _, _, _, _, _⟩) rfl (fun K hK => ?_) (AllReadyH.nil)
                  refine wp_store_row 62 (.tmp 22) (.tmp 60) (by rfl) (wl.heap.size + 1) (arr3L (mineV B)).toArray (by rfl) (by rfl) 62 _ ((setRow_other _ _ _ _ (by omega)).trans ((setRow_other _ _ _ _ (by omega)).trans z2)) (info62 _) rfl (one3 _) ?_
                  refine hK.out _ _ (Chg.own (Chg.own (Chg.own HGZ.out (chg_setRow _ _ _) (by omega)) (chg_setRow _ _ _) (by omega)) (chg_setRow _ _ _) (by omega)) (fun _ => ?_)
                  clear hK K
                  refine wpAnyH_done (by kernel_rfl) ?_ _
                  go_wp2_with fail
                  go_meet
                  exact ⟨_, _, _, rfl, rfl, rfl, Lib.hid (copies z1 z3 z2 (by omega) (by omega) (by omega) (by omega) (by omega) (by omega) HGZ.out)⟩
            · go_simp
              refine hK.out _ _ (Chg.alloc hS0 _) (fun _ => ?_)
              clear hK K
              try simp only [Act.put, List.setIfInBounds_toArray, List.set_cons_zero, List.set_cons_succ]
              refine wpAnyH_ready (rs := [3, 5]) (by kernel_rfl) (by simp) ?_
              refine AllReadyH.cons (o := ⟨some 20, _, _, _, _, _⟩) rfl (fun K hK => ?_) (AllReadyH.cons (o := ⟨some 22, _, _, _, _, _⟩) rfl (fun K hK => ?_) (AllReadyH.nil))
              · go_simp
                refine hK.out _ _ (Chg.alloc (Chg.alloc hS0 _) _) (fun _ => ?_)
                clear hK K
                try simp only [Act.put, List.setIfInBounds_toArray, List.set_cons_zero, List.set_cons_succ]
                refine wpAnyH_ready (rs := [5]) (by kernel_rfl) (by simp) ?_
                refine AllReadyH.cons (o := ⟨some 22, _, _, _, _, _⟩) rfl (fun K hK => ?_) (AllReadyH.nil)
                · go_simp
                  refine hK.out _ _ (Chg.alloc (Chg.alloc (Chg.alloc hS0 _) _) _) (fun _ => ?_)
                  clear hK K
                  try simp only [Act.put, List.setIfInBounds_toArray, List.set_cons_zero, List.set_cons_succ]
                  refine wpAnyH_ready (rs := [6]) (by kernel_rfl) (by simp) ?_
                  refine AllReadyH.cons (o := ⟨none, _, _, _, _, _⟩) rfl (fun K hK => ?_) (AllReadyH.nil)
                  refine wp_store_row 62 (.tmp 20) (.tmp 58) (by rfl) (wl.heap.size + 1) (arr3L (nodeV B nw)).toArray (by rfl) (by rfl) 62 _ z2 (info62 _) rfl (one3 _) ?_
                  refine hK.out _ _ (Chg.own HGZ.out (chg_setRow _ _ _) (by omega)) (fun _ => ?_)
                  clear hK K
                  refine wpAnyH_ready (rs := [7]) (by kernel_rfl) (by simp) ?_
                  refine AllReadyH.cons (o := ⟨none, _, _, _, _, _⟩) rfl (fun K hK => ?_) (AllReadyH.nil)
                  refine wp_store_row 62 (.tmp 21) (.tmp 59) (by rfl) wl.heap.size (arr3L (liveV B nw)).toArray (by rfl) (by rfl) 62 _ ((setRow_other _ _ _ _ (by omega)).trans z1) (info62 _) rfl (one3 _) ?_
                  refine hK.out _ _ (Chg.own (Chg.own HGZ.out (chg_setRow _ _ _) (by omega)) (chg_setRow _ _ _) (by omega)) (fun _ => ?_)
                  clear hK K
                  refine wpAnyH_ready (rs := [8]) (by kernel_rfl) (by simp) ?_
                  refine AllReadyH.cons (o := ⟨none, _, _, _, _, _⟩) rfl (fun K hK => ?_) (AllReadyH.nil)
                  refine wp_store_row 62 (.tmp 22) (.tmp 60) (by rfl) (wl.heap.size + 1 + 1) (arr3L (mineV B)).toArray (by rfl) (by rfl) 62 _ ((setRow_other _ _ _ _ (by omega)).trans ((setRow_other _ _ _ _ (by omega)).trans z3)) (info62 _) rfl (one3 _) ?_
                  refine hK.out _ _ (Chg.own (Chg.own (Chg.own HGZ.out (chg_setRow _ _ _) (by omega)) (chg_setRow _ _ _) (by omega)) (chg_setRow _ _ _) (by omega)) (fun _ => ?_)
                  clear hK K
                  refine wpAnyH_done (by kernel_rfl) ?_ _
                  go_wp2_with fail
                  go_meet
                  exact ⟨_, _, _, rfl, rfl, rfl, Lib.hid (copies z2 z1 z3 (by omega) (by omega) (by omega) (by omega) (by omega) (by omega) HGZ.out)⟩
              · go_simp
                refine hK.out _ _ (Chg.alloc (Chg.alloc hS0 _) _) (fun _ => ?_)
                clear hK K
                try simp only [Act.put, List.setIfInBounds_toArray, List.set_cons_zero, List.set_cons_succ]
                refine wpAnyH_ready (rs := [3]) (by kernel_rfl) (by simp) ?_
                refine AllReadyH.cons (o := ⟨some 20, _, _, _, _, _⟩) rfl (fun K hK => ?_) (AllReadyH.nil)
                · go_simp
                  refine hK.out _ _ (Chg.alloc (Chg.alloc (Chg.alloc hS0 _) _) _) (fun _ => ?_)
                  clear hK K
                  try simp only [Act.put, List.setIfInBounds_toArray, List.set_cons_zero, List.set_cons_succ]
                  refine wpAnyH_ready (rs := [6]) (by kernel_rfl) (by simp) ?_
                  refine AllReadyH.cons (o := ⟨none, _, _, _, _, _⟩) rfl (fun K hK => ?_) (AllReadyH.nil)
                  refine wp_store_row 62 (.tmp 20) (.tmp 58) (by rfl) (wl.heap.size + 1 + 1) (arr3L (nodeV B nw)).toArray (by rfl) (by rfl) 62 _ z3 (info62 _) rfl (one3 _) ?_
                  refine hK.out _ _ (Chg.own HGZ.out (chg_setRow _ _ _) (by omega)) (fun _ => ?_)
                  clear hK K
                  refine wpAnyH_ready (rs := [7]) (by kernel_rfl) (by simp) ?_
                  refine AllReadyH.cons (o := ⟨none, _, _, _, _, _⟩) rfl (fun K hK => ?_) (AllReadyH.nil)
                  refine wp_store_row 62 (.tmp 21) (.tmp 59) (by rfl) wl.heap.size (arr3L (liveV B nw)).toArray (by rfl) (by rfl) 62 _ ((setRow_other _ _ _ _ (by omega)).trans z1) (info62 _) rfl (one3 _) ?_
                  refine hK.out _ _ (Chg.own (Chg.own HGZ.out (chg_setRow _ _ _) (by omega)) (chg_setRow _ _ _) (by omega)) (fun _ => ?_)
                  clear hK K
                  refine wpAnyH_ready (rs := [8]) (by kernel_rfl) (by simp) ?_
                  refine AllReadyH.cons (o := ⟨none, _, _, _, _, _⟩) rfl (fun K hK => ?_) (AllReadyH.nil)
                  refine wp_store_row 62 (.tmp 22) (.tmp 60) (by rfl) (wl.heap.size + 1) (arr3L (mineV B)).toArray (by rfl) (by rfl) 62 _ ((setRow_other _ _ _ _ (by omega)).trans ((setRow_other _ _ _ _ (by omega)).trans z2)) (info62 _) rfl (one3 _) ?_
                  refine hK.out _ _ (Chg.own (Chg.own (Chg.own HGZ.out (chg_setRow _ _ _) (by omega)) (chg_setRow _ _ _) (by omega)) (chg_setRow _ _ _) (by omega)) (fun _ => ?_)
                  clear hK K
                  refine wpAnyH_done (by kernel_rfl) ?_ _
                  go_wp2_with fail
                  go_meet
                  exact ⟨_, _, _, rfl, rfl, rfl, Lib.hid (copies z3 z1 z2 (by omega) (by omega) (by omega) (by omega) (by omega) (by omega) HGZ.out)⟩
            · go_simp
              refine hK.out _ _ (Chg.alloc hS0 _) (fun _ => ?_)
              clear hK K
              try simp only [Act.put, List.setIfInBounds_toArray, List.set_cons_zero, List.set_cons_succ]
              refine wpAnyH_ready (rs := [3, 4]) (by kernel_rfl) (by simp) ?_
              refine AllReadyH.cons (o := ⟨some 20, _, _, _, _, _⟩) rfl (fun K hK => ?_) (AllReadyH.cons (o := ⟨some 21, _, _, _, _, _⟩) rfl (fun K hK => ?_) (AllReadyH.nil))
              · go_simp
                refine hK.out _ _ (Chg.alloc (Chg.alloc hS0 _) _) (fun _ => ?_)
                clear hK K
                try simp only [Act.put, List.setIfInBounds_toArray, List.set_cons_zero, List.set_cons_succ]
                refine wpAnyH_ready (rs := [4]) (by kernel_rfl) (by simp) ?_
                refine AllReadyH.cons (o := ⟨some 21, _, _, _, _, _⟩) rfl (fun K hK => ?_) (AllReadyH.nil)
                · go_simp
                  refine hK.out _ _ (Chg.alloc (Chg.alloc (Chg.alloc hS0 _) _) _) (fun _ => ?_)
                  clear hK K
                  try simp only [Act.put, List.setIfInBounds_toArray, List.set_cons_zero, List.set_cons_succ]
                  refine wpAnyH_ready (rs := [6]) (by kernel_rfl) (by simp) ?_
                  refine AllReadyH.cons (o := ⟨none, _, _, _, _, _⟩) rfl (fun K hK => ?_) (AllReadyH.nil)
                  refine wp_store_row 62 (.tmp 20) (.tmp 58) (by rfl) (wl.heap.size + 1) (arr3L (nodeV B nw)).toArray (by rfl) (by rfl) 62 _ z2 (info62 _) rfl (one3 _) ?_
                  refine hK.out _ _ (Chg.own HGZ.out (chg_setRow _ _ _) (by omega)) (fun _ => ?_)
                  clear hK K
                  refine wpAnyH_ready (rs := [7]) (by kernel_rfl) (by simp) ?_
                  refine AllReadyH.cons (o := ⟨none, _, _, _, _, _⟩) rfl (fun K hK => ?_) (AllReadyH.nil)
                  refine wp_store_row 62 (.tmp 21) (.tmp 59) (by rfl) (wl.heap.size + 1 + 1) (arr3L (liveV B nw)).toArray (by rfl) (by rfl) 62 _ ((setRow_other _ _ _ _ (by omega)).trans z3) (info62 _) rfl (one3 _) ?_
                  refine hK.out _ _ (Chg.own (Chg.own HGZ.out (chg_setRow _ _ _) (by omega)) (chg_setRow _ _ _) (by omega)) (fun _ => ?_)
                  clear hK K
                  refine wpAnyH_ready (rs := [8]) (by kernel_rfl) (by simp) ?_
                  refine AllReadyH.cons (o := ⟨none, _, _, _, _, _⟩) rfl (fun K hK => ?_) (AllReadyH.nil)
                  refine wp_store_row 62 (.tmp 22) (.tmp 60) (by rfl) wl.heap.size (arr3L (mineV B)).toArray (by rfl) (by rfl) 62 _ ((setRow_other _ _ _ _ (by omega)).trans ((setRow_other _ _ _ _ (by omega)).trans z1)) (info62 _) rfl (one3 _) ?_
                  refine hK.out _ _ (Chg.own (Chg.own (Chg.own HGZ.out (chg_setRow _ _ _) (by omega)) (chg_setRow _ _ _) (by omega)) (chg_setRow _ _ _) (by omega)) (fun _ => ?_)
                  clear hK K
                  refine wpAnyH_done (by kernel_rfl) ?_ _
                  go_wp2_with fail
                  go_meet
                  exact ⟨_, _, _, rfl, rfl, rfl, Lib.hid (copies z2 z3 z1 (by omega) (by omega) (by omega) (by omega) (by omega) (by omega) HGZ.out)⟩
              · go_simp
                refine hK.out _ _ (Chg.alloc (Chg.alloc hS0 _) _) (fun _ => ?_)
                clear hK K
                try simp only [Act.put, List.setIfInBounds_toArray, List.set_cons_zero, List.set_cons_succ]
                refine wpAnyH_ready (rs := [3]) (by kernel_rfl) (by simp) ?_
                refine AllReadyH.cons (o := ⟨some 20, _, _, _, _, _⟩) rfl (fun K hK => ?_) (AllReadyH.nil)
                · go_simp
                  refine hK.out _ _ (Chg.alloc (Chg.alloc (Chg.alloc hS0 _) _) _) (fun _ => ?_)
                  clear hK K
                  try simp only [Act.put, List.setIfInBounds_toArray, List.set_cons_zero, List.set_cons_succ]
                  refine wpAnyH_ready (rs := [6]) (by kernel_rfl) (by simp) ?_
                  refine AllReadyH.cons (o := ⟨none, _, _, _, _, _⟩) rfl (fun K hK => ?_) (AllReadyH.nil)
                  refine wp_store_row 62 (.tmp 20) (.tmp 58) (by rfl) (wl.heap.size + 1 + 1) (arr3L (nodeV B nw)).toArray (by rfl) (by rfl) 62 _ z3 (info62 _) rfl (one3 _) ?_
                  refine hK.out _ _ (Chg.own HGZ.out (chg_setRow _ _ _) (by omega)) (fun _ => ?_)
                  clear hK K
                  refine wpAnyH_ready (rs := [7]) (by kernel_rfl) (by simp) ?_
                  refine AllReadyH.cons (o := ⟨none, _, _, _, _, _⟩) rfl (fun K hK => ?_) (AllReadyH.nil)
                  refine wp_store_row 62 (.tmp 21) (.tmp 59) (by rfl) (wl.heap.size + 1) (arr3L (liveV B nw)).toArray (by rfl) (by rfl) 62 _ ((setRow_other _ _ _ _ (by omega)).trans z2) (info62 _) rfl (one3 _) ?_
                  refine hK.out _ _ (Chg.own (Chg.own HGZ.out (chg_setRow _ _ _) (by omega)) (chg_setRow _ _ _) (by omega)) (fun _ => ?_)
                  clear hK K
                  refine wpAnyH_ready (rs := [8]) (by kernel_rfl) (by simp) ?_
                  refine AllReadyH.cons (o := ⟨none, _, _, _, _, _⟩) rfl (fun K hK => ?_) (AllReadyH.nil)
                  refine wp_store_row 62 (.tmp 22) (.tmp 60) (by rfl) wl.heap.size (arr3L (mineV B)).toArray (by rfl) (by rfl) 62 _ ((setRow_other _ _ _ _ (by omega)).trans ((setRow_other _ _ _ _ (by omega)).trans z1)) (info62 _) rfl (one3 _) ?_
                  refine hK.out _ _ (Chg.own (Chg.own (Chg.own HGZ.out (chg_setRow _ _ _) (by omega)) (chg_setRow _ _ _) (by omega)) (chg_setRow _ _ _) (by omega)) (fun _ => ?_)
                  clear hK K
                  refine wpAnyH_done (by kernel_rfl) ?_ _
                  go_wp2_with fail
                  go_meet
                  exact ⟨_, _, _, rfl, rfl, rfl, Lib.hid (copies z3 z2 z1 (by omega) (by omega) (by omega) (by omega) (by omega) (by omega) HGZ.out)⟩
          obtain ⟨ca, cb, cc, rfl, rfl, rfl, HC⟩ := hcut
          obtain ⟨we, rfl⟩ : ∃ v, v = wc := ⟨_, rfl⟩
          obtain ⟨wo, rfl⟩ : ∃ v, v = wr := ⟨_, rfl⟩
          have hl2 := HL.out.chg HC.out.chg
          have hfr : ∀ g, (g = xb ∨ g = yb ∨ g = zb) → wo.heap.size ≤ g := fun g hg => by
            obtain ⟨_, _, _, h1, h2, h3⟩ := HLF.out
            rcases hg with rfl | rfl | rfl <;> omega
          have HFR := Lib.hid hfr
          have hke : Kept (fun g => q.has g ∨ g = nb) wo we := HKP.out.1.then hl2.kept (fun g hg => .inr (hfr g hg))
          have hoe : Blk we wo.heap.size o.cells.toArray 35 := (hl2.kept.block _ HKP.out.2.2.lt (fun hg => by obtain ⟨_, _, _, h1, h2, h3⟩ := HLF.out; rcases hg with h | h | h <;> omega)).trans HKP.out.2.2
          have hnq : ∀ {b : Nat} {cs : Array Value} {T : TypeId}, Blk we b cs T → T ≠ 59 → ¬ q.has b := fun hb ht => has_ne hb ht hl2.bk
          have d0' : we.cell? ⟨wo.heap.size, 0, none⟩ = some (.int .i64 o.kind) := by rw [hoe.cell 0]; rfl
          have HKE := Lib.hid hke
          have HRO : Hid (∀ v, Kept q.has we v → v.rangeAt wo.heap.size 0 o.cells) := Lib.hid fun v hv => hv.range (rangeAt_blk hoe) (hnq hoe (by decide))
          have HCP : Hid (∀ v, Kept q.has we v → v.cell? ⟨pb, 0, none⟩ = some (.pointer (some ⟨q.b, 0, none⟩))) := Lib.hid fun v hv => hv.cell (by rw [hl2.p.cell]; rfl) (hnq hl2.p (by decide))
          have HCT : Hid (∀ v, Kept q.has we v → v.cell? ⟨nb, 0, none⟩ = some (.int .i64 nw)) := Lib.hid fun v hv => hv.cell (by rw [hl2.t.cell]; rfl) (hnq hl2.t (by decide))
          have HBE := Lib.hid hl2.bk
          have HLK2 : Hid (∀ (v : World) (n' : Nat) (B' : Bk), Kept q.has we v → BookAt v q n' B' → LookAt v q n' B' nw pb nb xb yb zb (nodeV B nw) (liveV B nw) (mineV B) v) := Lib.hid fun v n' B' hv hb =>
            ⟨(hv.block _ hl2.p.lt (hnq hl2.p (by decide))).trans hl2.p, (hv.block _ hl2.t.lt (hnq hl2.t (by decide))).trans hl2.t, (hv.block _ hl2.x.lt (hnq hl2.x (by decide))).trans hl2.x, (hv.block _ hl2.y.lt (hnq hl2.y (by decide))).trans hl2.y, (hv.block _ hl2.z.lt (hnq hl2.z (by decide))).trans hl2.z, hb, Kept.refl _ _⟩
          have HCO : Hid (∀ v, Kept q.has we v → Blk v ca (arr3 (nodeV B nw)) 62 ∧ Blk v cb (arr3 (liveV B nw)) 62 ∧ Blk v cc (arr3 (mineV B)) 62) := Lib.hid fun v hv =>
            ⟨(hv.block _ HC.out.x.lt (hnq HC.out.x (by decide))).trans HC.out.x, (hv.block _ HC.out.y.lt (hnq HC.out.y (by decide))).trans HC.out.y, (hv.block _ HC.out.z.lt (hnq HC.out.z (by decide))).trans HC.out.z⟩
          have HCA : Hid (wl.heap.size ≤ ca ∧ wl.heap.size ≤ cb ∧ wl.heap.size ≤ cc ∧ xb < wl.heap.size ∧ yb < wl.heap.size ∧ zb < wl.heap.size) := Lib.hid ⟨HC.out.la, HC.out.lb, HC.out.lc, HL.out.x.lt, HL.out.y.lt, HL.out.z.lt⟩
          clear hl2 hfr hke hoe hnq HC HL HKP d0 d2 HRG HWA HZB HI35a HZ35 HO35
          go_upto_block 2 with fail
          go_cut [] (fun wx => ∃ B', Hid (Apart B B' o.dig nw ∧ BookAt wx q (n + 2) B' ∧ B'.ok (n + 2) ∧ Kept q.has we wx))
          case first =>
            have cp := HCP.out we (Kept.refl _ _)
            have ct := HCT.out we (Kept.refl _ _)
            by_cases h1 : o.kind = 1
            · have r1 : (o.kind == 1) = true := by simpa using h1
              clear h1
              have HT := Lib.hid (try_any o.dig nw we q n B HBE.out HR.out.ok HNI.out HN4.out.1)
              go_wp2_with (refine wpList_build_is rfl 31 _ rfl o.dig.cells.toArray (by simp only [List.map_toArray, List.map_cons, List.map_nil]; exact HBD.out) ?_)
              refine HT.out.mono ?_
              rintro e wx ⟨x1, rfl, -, hb1, hk1⟩
              have HEND : Hid (∃ B', Hid (Apart B B' o.dig nw ∧ BookAt wx q (n + 2) B' ∧ B'.ok (n + 2) ∧ Kept q.has we wx)) := Lib.hid ⟨_, Lib.hid ⟨try_apart B o.dig nw, hb1.mono (by omega), (tryM_ok o.dig HR.out.ok HNI.out).mono (by omega), hk1⟩⟩
              clear hb1 hk1 HT
              go_wp2_with fail
              go_meet
              exact HEND.out
            · have r1 : (o.kind == 1) = false := by simpa using h1
              by_cases h2 : o.kind = 2
              · have r2 : (o.kind == 2) = true := by simpa using h2
                clear h1 h2
                have HT := Lib.hid (drop_any o.dig we q n B HBE.out)
                go_wp2_with (refine wpList_build_is rfl 31 _ rfl o.dig.cells.toArray (by simp only [List.map_toArray, List.map_cons, List.map_nil]; exact HBD.out) ?_)
                refine HT.out.mono ?_
                rintro e wx ⟨x1, rfl, -, hb1, hk1⟩
                have HEND : Hid (∃ B', Hid (Apart B B' o.dig nw ∧ BookAt wx q (n + 2) B' ∧ B'.ok (n + 2) ∧ Kept q.has we wx)) := Lib.hid ⟨_, Lib.hid ⟨drop_apart B o.dig nw, hb1.mono (by omega), (dropM_ok o.dig HR.out.ok).mono (by omega), hk1.mono (fun g h => .inr (.inl h))⟩⟩
                clear hb1 hk1 HT
                go_wp2_with fail
                go_meet
                exact HEND.out
              · have r2 : (o.kind == 2) = false := by simpa using h2
                clear h1 h2
                go_wp2_with fail
                have hS0 : Kept q.has we we.drew := (Kept.refl _ _).drew
                have HCI : Hid (I64 o.cl.node) := Lib.hid HOW.out.2.2.1
                refine wp_region_held_drew (S := fun v => Kept q.has we v) (by kernel_rfl) hS0 (fun _ => ?_)
                refine wpAnyH_take (i := 0) (oi := ⟨some 63, _, _, _, _, _⟩) (v := ?_) rfl (by kernel_rfl) (by kernel_rfl) (by kernel_rfl) (fun _ _ _ h => h) (Or.inl ⟨by rfl, ?_⟩) (by assumption) ?_
                rotate_left
                · intro v hSv; (try dsimp only at hSv); have z := HCP.out v hSv; go_simp; (try with_reducible rfl)
                try simp only [Act.put, List.setIfInBounds_toArray, List.set_cons_zero, List.set_cons_succ]
                refine wpAnyH_take (i := 1) (oi := ⟨some 64, _, _, _, _, _⟩) (v := .agg (o.cells).toArray) rfl (by kernel_rfl) (by kernel_rfl) (by kernel_rfl) (fun _ _ _ h => h) (yieldsIf_load_mid (by rfl) 35 _ rfl wo.heap.size 0 rfl (o.cells) _ (fun v h => HRO.out v h) Try.underlying35 rfl HI35.out) (by assumption) ?_
                try simp only [Act.put, List.setIfInBounds_toArray, List.set_cons_zero, List.set_cons_succ]
                refine wpAnyH_take (i := 3) (oi := ⟨some 66, _, _, _, _, _⟩) (v := ?_) rfl (by kernel_rfl) (by kernel_rfl) (by kernel_rfl) (fun _ _ _ h => h) (Or.inl ⟨by rfl, ?_⟩) (by assumption) ?_
                rotate_left
                · intro v hSv; (try dsimp only at hSv); have z := HCT.out v hSv; go_simp; (try with_reducible rfl)
                try simp only [Act.put, List.setIfInBounds_toArray, List.set_cons_zero, List.set_cons_succ]
                refine wpAnyH_ready (rs := [2]) (by kernel_rfl) (by simp) ?_
                refine AllReadyH.cons (o := ⟨some 65, _, _, _, _, _⟩) rfl (fun K hK => ?_) (AllReadyH.nil)
                go_simp
                go_at_call 16
                refine (opclaim_any o _).mono ?_
                rintro e wh1 ⟨rfl, g1⟩
                have hS1 : Kept q.has we wh1 := hS0.chg g1
                have HG1 : Hid (Chg none we wh1) := Lib.hid (Chg.trans (Chg.refl _ _).drew g1)
                clear g1
                go_wp2_with fail
                refine hK.out _ _ hS1 (fun _ => ?_)
                clear hK K
                try simp only [Act.put, List.setIfInBounds_toArray, List.set_cons_zero, List.set_cons_succ]
                refine wpAnyH_ready (rs := [4]) (by kernel_rfl) (by simp) ?_
                refine AllReadyH.cons (o := ⟨some 67, _, _, _, _, _⟩) rfl (fun K hK => ?_) (AllReadyH.nil)
                go_simp
                go_at_call 15
                refine (hear_any o.cl nw _ q n B (HBE.out.chg HG1.out) HR.out.ok HNI.out HN4.out.1 HCI.out).mono ?_
                rintro e wx ⟨x1, rfl, -, hb1, hk1⟩
                have hS2 : Kept q.has we wx := hS1.trans hk1
                have HEND : Hid (∃ B', Hid (Apart B B' o.dig nw ∧ BookAt wx q (n + 2) B' ∧ B'.ok (n + 2) ∧ Kept q.has we wx)) := Lib.hid ⟨_, Lib.hid ⟨hear_apart B o.cl nw, hb1, hearM_ok o.cl HR.out.ok HNI.out, hS2⟩⟩
                clear hb1 hk1
                go_wp2_with fail
                refine hK.out _ _ hS2 (fun _ => ?_)
                clear hK K
                try simp only [Act.put, List.setIfInBounds_toArray, List.set_cons_zero, List.set_cons_succ]
                refine wpAnyH_done (by kernel_rfl) ?_ _
                go_wp2_with fail
                go_meet
                exact HEND.out
          obtain ⟨B', HB⟩ := hcut
          obtain ⟨wf, rfl⟩ : ∃ v, v = wc := ⟨_, rfl⟩
          have HLC2 := Lib.hid (look_any wf q (n + 2) B' nw pb nb xb yb zb _ _ _ HLF.out.1 HLF.out.2.1 HLF.out.2.2.1 (HLK2.out wf _ _ HB.out.2.2.2 HB.out.2.1) HB.out.2.2.1 HNI.out)
          clear HRO HCP HCT HBE HLK2 HBD HOW
          clear d0'
          go_wp2_with fail
          refine HLC2.out.mono ?_
          rintro e wg ⟨rfl, hl⟩
          have hcg := HCO.out wf HB.out.2.2.2
          have hfc : ∀ {b : Nat} {cs : Array Value}, Blk wf b cs 62 → (b ≠ xb ∧ b ≠ yb ∧ b ≠ zb) → Blk wg b cs 62 := fun hb hn => (hl.kept.block _ hb.lt (fun h => by rcases h with h | h | h; exact hn.1 h; exact hn.2.1 h; exact hn.2.2 h)).trans hb
          have hc1 := hfc hcg.1 (by have := HCA.out; exact ⟨by omega, by omega, by omega⟩)
          have hc2 := hfc hcg.2.1 (by have := HCA.out; exact ⟨by omega, by omega, by omega⟩)
          have hc3 := hfc hcg.2.2 (by have := HCA.out; exact ⟨by omega, by omega, by omega⟩)
          have HF : Hid (∀ m : Nat, m < 3 → (m : Int) ≠ kk → ∃ u1 u2 u3 : Int, ∀ v, Chg none wg v → v.cell? ⟨ca, m, none⟩ = some (.int .i64 u1) ∧ v.cell? ⟨xb, m, none⟩ = some (.int .i64 u1) ∧ v.cell? ⟨cb, m, none⟩ = some (.int .i64 u2) ∧ v.cell? ⟨yb, m, none⟩ = some (.int .i64 u2) ∧ v.cell? ⟨cc, m, none⟩ = some (.int .i64 u3) ∧ v.cell? ⟨zb, m, none⟩ = some (.int .i64 u3)) := Lib.hid fun m hm hmk => by
            obtain ⟨hkd, hde⟩ := HDIG.out
            have hap := HB.out.1
            rw [hde] at hap
            obtain ⟨q1, q2, q3⟩ := hap.vals hkd m hm hmk
            refine ⟨nodeV B nw m, liveV B nw m, mineV B m, fun v hv => ⟨?_, ?_, ?_, ?_, ?_, ?_⟩⟩
            · rw [(hc1.chg hv (by simp)).cell]; exact arr3_at _ _ hm
            · rw [← q1, (hl.x.chg hv (by simp)).cell]; exact arr3_at _ _ hm
            · rw [(hc2.chg hv (by simp)).cell]; exact arr3_at _ _ hm
            · rw [← q2, (hl.y.chg hv (by simp)).cell]; exact arr3_at _ _ hm
            · rw [(hc3.chg hv (by simp)).cell]; exact arr3_at _ _ hm
            · rw [← q3, (hl.z.chg hv (by simp)).cell]; exact arr3_at _ _ hm
          have HEND : Hid (∀ v, Chg none wg v → ApAt w2 q pb nb (k + 1) nw (n + 2) B' v) := Lib.hid fun v hv =>
            ⟨hl.p.chg hv (by simp), hl.t.chg hv (by simp), hl.bk.chg hv, HB.out.2.2.1, by have := HR.out.n; omega, HNW.out.1, HNW.out.2,
             HR.out.kept.trans (((HKE.out.trans (HB.out.2.2.2.mono (fun g h => .inl h))).then hl.kept (fun g hg => .inr (HFR.out g hg))).chg hv)⟩
          clear hcg hfc hc1 hc2 hc3 hl HLC2
          go_wp2_with fail
          go_loopw [23] (fun s23 wr => ∃ m : Nat, m ≤ 3 ∧ s23 = .int .u8 m ∧ Hid (Chg none wg wr)) (fun i _ => 3 - (intOf i).toNat)
          case atStart => exact ⟨0, by omega, rfl, Lib.hid (Chg.refl _ _)⟩
          case round =>
            obtain ⟨m, hm, rfl, HRI⟩ := hrel
            obtain ⟨wi, rfl⟩ : ∃ v, v = wr := ⟨_, rfl⟩
            by_cases hlt2 : m < 3
            · have hlt2' : decide (m < 3) = true := by simpa using hlt2
              have hltI : (m : Int) < 3 := by omega
              by_cases hmk : (m : Int) = kk
              · have hne : ((m : Int) != kk) = false := by simpa using hmk
                clear hmk
                go_wp2_with fail
                have hS0 : Chg none wg wi.drew := HRI.out.drew
                refine wp_region_held_drew (S := fun v => Chg none wg v) (by kernel_rfl) hS0 (fun _ => ?_)
                refine wpAnyH_take (i := 0) (oi := ⟨some 87, _, _, _, _, _⟩) (v := ?_) rfl (by kernel_rfl) (by kernel_rfl) (by kernel_rfl) (fun _ _ _ h => h) (Or.inl ⟨by rfl, ?_⟩) (by assumption) ?_
                rotate_left
                · intro v hSv; (try dsimp only at hSv); skip; go_simp; (try with_reducible rfl)
                try simp only [Act.put, List.setIfInBounds_toArray, List.set_cons_zero, List.set_cons_succ]
                refine wpAnyH_take (i := 1) (oi := ⟨some 88, _, _, _, _, _⟩) (v := ?_) rfl (by kernel_rfl) (by kernel_rfl) (by kernel_rfl) (fun _ _ _ h => h) (Or.inl ⟨by rfl, ?_⟩) (by assumption) ?_
                rotate_left
                · intro v hSv; (try dsimp only at hSv); skip; go_simp; (try with_reducible rfl)
                try simp only [Act.put, List.setIfInBounds_toArray, List.set_cons_zero, List.set_cons_succ]
                refine wpAnyH_take (i := 2) (oi := ⟨some 89, _, _, _, _, _⟩) (v := ?_) rfl (by kernel_rfl) (by kernel_rfl) (by kernel_rfl) (fun _ _ _ h => h) (Or.inl ⟨by rfl, ?_⟩) (by assumption) ?_
                rotate_left
                · intro v hSv; (try dsimp only at hSv); skip; go_simp; (try with_reducible rfl)
                try simp only [Act.put, List.setIfInBounds_toArray, List.set_cons_zero, List.set_cons_succ]
                refine wpAnyH_take (i := 3) (oi := ⟨some 90, _, _, _, _, _⟩) (v := ?_) rfl (by kernel_rfl) (by kernel_rfl) (by kernel_rfl) (fun _ _ _ h => h) (Or.inl ⟨by rfl, ?_⟩) (by assumption) ?_
                rotate_left
                · intro v hSv; (try dsimp only at hSv); skip; go_simp; (try with_reducible rfl)
                try simp only [Act.put, List.setIfInBounds_toArray, List.set_cons_zero, List.set_cons_succ]
                refine wpAnyH_take (i := 4) (oi := ⟨some 91, _, _, _, _, _⟩) (v := undef) rfl (by kernel_rfl) (by kernel_rfl) (by kernel_rfl) (fun _ _ _ h => h) (Or.inr ⟨by rfl, by rfl⟩) (by assumption) ?_
                try simp only [Act.put, List.setIfInBounds_toArray, List.set_cons_zero, List.set_cons_succ]
                refine wpAnyH_take (i := 5) (oi := ⟨some 92, _, _, _, _, _⟩) (v := undef) rfl (by kernel_rfl) (by kernel_rfl) (by kernel_rfl) (fun _ _ _ h => h) (Or.inr ⟨by rfl, by rfl⟩) (by assumption) ?_
                try simp only [Act.put, List.setIfInBounds_toArray, List.set_cons_zero, List.set_cons_succ]
                refine wpAnyH_take (i := 6) (oi := ⟨some 93, _, _, _, _, _⟩) (v := undef) rfl (by kernel_rfl) (by kernel_rfl) (by kernel_rfl) (fun _ _ _ h => h) (Or.inr ⟨by rfl, by rfl⟩) (by assumption) ?_
                try simp only [Act.put, List.setIfInBounds_toArray, List.set_cons_zero, List.set_cons_succ]
                refine wpAnyH_take (i := 7) (oi := ⟨some 94, _, _, _, _, _⟩) (v := undef) rfl (by kernel_rfl) (by kernel_rfl) (by kernel_rfl) (fun _ _ _ h => h) (Or.inr ⟨by rfl, by rfl⟩) (by assumption) ?_
                try simp only [Act.put, List.setIfInBounds_toArray, List.set_cons_zero, List.set_cons_succ]
                refine wpAnyH_take (i := 8) (oi := ⟨some 95, _, _, _, _, _⟩) (v := undef) rfl (by kernel_rfl) (by kernel_rfl) (by kernel_rfl) (fun _ _ _ h => h) (Or.inr ⟨by rfl, by rfl⟩) (by assumption) ?_
                try simp only [Act.put, List.setIfInBounds_toArray, List.set_cons_zero, List.set_cons_succ]
                refine wpAnyH_take (i := 9) (oi := ⟨some 96, _, _, _, _, _⟩) (v := undef) rfl (by kernel_rfl) (by kernel_rfl) (by kernel_rfl) (fun _ _ _ h => h) (Or.inr ⟨by rfl, by rfl⟩) (by assumption) ?_
                try simp only [Act.put, List.setIfInBounds_toArray, List.set_cons_zero, List.set_cons_succ]
                refine wpAnyH_take (i := 10) (oi := ⟨some 97, _, _, _, _, _⟩) (v := undef) rfl (by kernel_rfl) (by kernel_rfl) (by kernel_rfl) (fun _ _ _ h => h) (Or.inr ⟨by rfl, by rfl⟩) (by assumption) ?_
                try simp only [Act.put, List.setIfInBounds_toArray, List.set_cons_zero, List.set_cons_succ]
                refine wpAnyH_take (i := 11) (oi := ⟨some 98, _, _, _, _, _⟩) (v := undef) rfl (by kernel_rfl) (by kernel_rfl) (by kernel_rfl) (fun _ _ _ h => h) (Or.inr ⟨by rfl, by rfl⟩) (by assumption) ?_
                try simp only [Act.put, List.setIfInBounds_toArray, List.set_cons_zero, List.set_cons_succ]
                refine wpAnyH_take (i := 12) (oi := ⟨some 99, _, _, _, _, _⟩) (v := undef) rfl (by kernel_rfl) (by kernel_rfl) (by kernel_rfl) (fun _ _ _ h => h) (Or.inr ⟨by rfl, by rfl⟩) (by assumption) ?_
                try simp only [Act.put, List.setIfInBounds_toArray, List.set_cons_zero, List.set_cons_succ]
                refine wpAnyH_take (i := 13) (oi := ⟨some 100, _, _, _, _, _⟩) (v := undef) rfl (by kernel_rfl) (by kernel_rfl) (by kernel_rfl) (fun _ _ _ h => h) (Or.inr ⟨by rfl, by rfl⟩) (by assumption) ?_
                try simp only [Act.put, List.setIfInBounds_toArray, List.set_cons_zero, List.set_cons_succ]
                refine wpAnyH_take (i := 14) (oi := ⟨some 101, _, _, _, _, _⟩) (v := undef) rfl (by kernel_rfl) (by kernel_rfl) (by kernel_rfl) (fun _ _ _ h => h) (Or.inr ⟨by rfl, by rfl⟩) (by assumption) ?_
                try simp only [Act.put, List.setIfInBounds_toArray, List.set_cons_zero, List.set_cons_succ]
                refine wpAnyH_take (i := 15) (oi := ⟨some 102, _, _, _, _, _⟩) (v := undef) rfl (by kernel_rfl) (by kernel_rfl) (by kernel_rfl) (fun _ _ _ h => h) (Or.inr ⟨by rfl, by rfl⟩) (by assumption) ?_
                try simp only [Act.put, List.setIfInBounds_toArray, List.set_cons_zero, List.set_cons_succ]
                refine wpAnyH_take (i := 16) (oi := ⟨some 103, _, _, _, _, _⟩) (v := undef) rfl (by kernel_rfl) (by kernel_rfl) (by kernel_rfl) (fun _ _ _ h => h) (Or.inr ⟨by rfl, by rfl⟩) (by assumption) ?_
                try simp only [Act.put, List.setIfInBounds_toArray, List.set_cons_zero, List.set_cons_succ]
                refine wpAnyH_take (i := 17) (oi := ⟨some 104, _, _, _, _, _⟩) (v := undef) rfl (by kernel_rfl) (by kernel_rfl) (by kernel_rfl) (fun _ _ _ h => h) (Or.inr ⟨by rfl, by rfl⟩) (by assumption) ?_
                try simp only [Act.put, List.setIfInBounds_toArray, List.set_cons_zero, List.set_cons_succ]
                refine wpAnyH_take (i := 18) (oi := ⟨some 105, _, _, _, _, _⟩) (v := undef) rfl (by kernel_rfl) (by kernel_rfl) (by kernel_rfl) (fun _ _ _ h => h) (Or.inr ⟨by rfl, by rfl⟩) (by assumption) ?_
                try simp only [Act.put, List.setIfInBounds_toArray, List.set_cons_zero, List.set_cons_succ]
                refine wpAnyH_take (i := 19) (oi := ⟨some 106, _, _, _, _, _⟩) (v := undef) rfl (by kernel_rfl) (by kernel_rfl) (by kernel_rfl) (fun _ _ _ h => h) (Or.inr ⟨by rfl, by rfl⟩) (by assumption) ?_
                try simp only [Act.put, List.setIfInBounds_toArray, List.set_cons_zero, List.set_cons_succ]
                refine wpAnyH_take (i := 20) (oi := ⟨some 107, _, _, _, _, _⟩) (v := undef) rfl (by kernel_rfl) (by kernel_rfl) (by kernel_rfl) (fun _ _ _ h => h) (Or.inr ⟨by rfl, by rfl⟩) (by assumption) ?_
                try simp only [Act.put, List.setIfInBounds_toArray, List.set_cons_zero, List.set_cons_succ]
                refine wpAnyH_take (i := 21) (oi := ⟨some 108, _, _, _, _, _⟩) (v := undef) rfl (by kernel_rfl) (by kernel_rfl) (by kernel_rfl) (fun _ _ _ h => h) (Or.inr ⟨by rfl, by rfl⟩) (by assumption) ?_
                try simp only [Act.put, List.setIfInBounds_toArray, List.set_cons_zero, List.set_cons_succ]
                refine wpAnyH_take (i := 22) (oi := ⟨some 109, _, _, _, _, _⟩) (v := undef) rfl (by kernel_rfl) (by kernel_rfl) (by kernel_rfl) (fun _ _ _ h => h) (Or.inr ⟨by rfl, by rfl⟩) (by assumption) ?_
                try simp only [Act.put, List.setIfInBounds_toArray, List.set_cons_zero, List.set_cons_succ]
                refine wpAnyH_take (i := 23) (oi := ⟨some 110, _, _, _, _, _⟩) (v := undef) rfl (by kernel_rfl) (by kernel_rfl) (by kernel_rfl) (fun _ _ _ h => h) (Or.inr ⟨by rfl, by rfl⟩) (by assumption) ?_
                try simp only [Act.put, List.setIfInBounds_toArray, List.set_cons_zero, List.set_cons_succ]
                refine wpAnyH_take (i := 24) (oi := ⟨some 111, _, _, _, _, _⟩) (v := undef) rfl (by kernel_rfl) (by kernel_rfl) (by kernel_rfl) (fun _ _ _ h => h) (Or.inr ⟨by rfl, by rfl⟩) (by assumption) ?_
                try simp only [Act.put, List.setIfInBounds_toArray, List.set_cons_zero, List.set_cons_succ]
                refine wpAnyH_take (i := 25) (oi := ⟨some 112, _, _, _, _, _⟩) (v := undef) rfl (by kernel_rfl) (by kernel_rfl) (by kernel_rfl) (fun _ _ _ h => h) (Or.inr ⟨by rfl, by rfl⟩) (by assumption) ?_
                try simp only [Act.put, List.setIfInBounds_toArray, List.set_cons_zero, List.set_cons_succ]
                refine wpAnyH_take (i := 26) (oi := ⟨some 113, _, _, _, _, _⟩) (v := undef) rfl (by kernel_rfl) (by kernel_rfl) (by kernel_rfl) (fun _ _ _ h => h) (Or.inr ⟨by rfl, by rfl⟩) (by assumption) ?_
                try simp only [Act.put, List.setIfInBounds_toArray, List.set_cons_zero, List.set_cons_succ]
                refine wpAnyH_take (i := 27) (oi := ⟨some 114, _, _, _, _, _⟩) (v := undef) rfl (by kernel_rfl) (by kernel_rfl) (by kernel_rfl) (fun _ _ _ h => h) (Or.inr ⟨by rfl, by rfl⟩) (by assumption) ?_
                try simp only [Act.put, List.setIfInBounds_toArray, List.set_cons_zero, List.set_cons_succ]
                refine wpAnyH_take (i := 28) (oi := ⟨some 115, _, _, _, _, _⟩) (v := undef) rfl (by kernel_rfl) (by kernel_rfl) (by kernel_rfl) (fun _ _ _ h => h) (Or.inr ⟨by rfl, by rfl⟩) (by assumption) ?_
                try simp only [Act.put, List.setIfInBounds_toArray, List.set_cons_zero, List.set_cons_succ]
                refine wpAnyH_take (i := 29) (oi := ⟨some 116, _, _, _, _, _⟩) (v := ?_) rfl (by kernel_rfl) (by kernel_rfl) (by kernel_rfl) (fun _ _ _ h => h) (Or.inl ⟨by rfl, ?_⟩) (by assumption) ?_
                rotate_left
                · intro v hSv; (try dsimp only at hSv); skip; go_simp; (try with_reducible rfl)
                try simp only [Act.put, List.setIfInBounds_toArray, List.set_cons_zero, List.set_cons_succ]
                refine wpAnyH_done (by kernel_rfl) ?_ _
                go_wp2_with fail
                go_roundw
                case rel => exact ⟨m + 1, by omega, by go_num, Lib.hid hS0⟩
                case measure => simp [intOf]; omega
              · have hne : ((m : Int) != kk) = true := by simpa using hmk
                obtain ⟨u1, u2, u3, hu⟩ := HF.out m hlt2 hmk
                have HU := Lib.hid hu
                have e1 : (u1 != u1) = false := by simp
                have e2 : (u2 != u2) = false := by simp
                have e3 : (u3 != u3) = false := by simp
                clear hmk hu
                go_wp2_with fail
                have hS0 : Chg none wg wi.drew := HRI.out.drew
                refine wp_region_held_drew (S := fun v => Chg none wg v) (by kernel_rfl) hS0 (fun _ => ?_)
                refine wpAnyH_take (i := 0) (oi := ⟨some 87, _, _, _, _, _⟩) (v := ?_) rfl (by kernel_rfl) (by kernel_rfl) (by kernel_rfl) (fun _ _ _ h => h) (Or.inl ⟨by rfl, ?_⟩) (by assumption) ?_
                rotate_left
                · intro v hSv; (try dsimp only at hSv); skip; go_simp; (try with_reducible rfl)
                try simp only [Act.put, List.setIfInBounds_toArray, List.set_cons_zero, List.set_cons_succ]
                refine wpAnyH_take (i := 1) (oi := ⟨some 88, _, _, _, _, _⟩) (v := ?_) rfl (by kernel_rfl) (by kernel_rfl) (by kernel_rfl) (fun _ _ _ h => h) (Or.inl ⟨by rfl, ?_⟩) (by assumption) ?_
                rotate_left
                · intro v hSv; (try dsimp only at hSv); skip; go_simp; (try with_reducible rfl)
                try simp only [Act.put, List.setIfInBounds_toArray, List.set_cons_zero, List.set_cons_succ]
                refine wpAnyH_take (i := 2) (oi := ⟨some 89, _, _, _, _, _⟩) (v := ?_) rfl (by kernel_rfl) (by kernel_rfl) (by kernel_rfl) (fun _ _ _ h => h) (Or.inl ⟨by rfl, ?_⟩) (by assumption) ?_
                rotate_left
                · intro v hSv; (try dsimp only at hSv); skip; go_simp; (try with_reducible rfl)
                try simp only [Act.put, List.setIfInBounds_toArray, List.set_cons_zero, List.set_cons_succ]
                refine wpAnyH_take (i := 3) (oi := ⟨some 90, _, _, _, _, _⟩) (v := ?_) rfl (by kernel_rfl) (by kernel_rfl) (by kernel_rfl) (fun _ _ _ h => h) (Or.inl ⟨by rfl, ?_⟩) (by assumption) ?_
                rotate_left
                · intro v hSv; (try dsimp only at hSv); skip; go_simp; (try with_reducible rfl)
                try simp only [Act.put, List.setIfInBounds_toArray, List.set_cons_zero, List.set_cons_succ]
                refine wpAnyH_take (i := 4) (oi := ⟨some 91, _, _, _, _, _⟩) (v := ?_) rfl (by kernel_rfl) (by kernel_rfl) (by kernel_rfl) (fun _ _ _ h => h) (Or.inl ⟨by rfl, ?_⟩) (by assumption) ?_
                rotate_left
                · intro v hSv; (try dsimp only at hSv); skip; go_simp; (try with_reducible rfl)
                try simp only [Act.put, List.setIfInBounds_toArray, List.set_cons_zero, List.set_cons_succ]
                refine wpAnyH_take (i := 5) (oi := ⟨some 92, _, _, _, _, _⟩) (v := ?_) rfl (by kernel_rfl) (by kernel_rfl) (by kernel_rfl) (fun _ _ _ h => h) (Or.inl ⟨by rfl, ?_⟩) (by assumption) ?_
                rotate_left
                · intro v hSv; (try dsimp only at hSv); skip; go_simp; (try with_reducible rfl)
                try simp only [Act.put, List.setIfInBounds_toArray, List.set_cons_zero, List.set_cons_succ]
                refine wpAnyH_take (i := 6) (oi := ⟨some 93, _, _, _, _, _⟩) (v := ?_) rfl (by kernel_rfl) (by kernel_rfl) (by kernel_rfl) (fun _ _ _ h => h) (Or.inl ⟨by rfl, ?_⟩) (by assumption) ?_
                rotate_left
                · intro v hSv; (try dsimp only at hSv); have z := (HU.out v hSv).1; go_simp; (try with_reducible rfl)
                try simp only [Act.put, List.setIfInBounds_toArray, List.set_cons_zero, List.set_cons_succ]
                refine wpAnyH_take (i := 7) (oi := ⟨some 94, _, _, _, _, _⟩) (v := ?_) rfl (by kernel_rfl) (by kernel_rfl) (by kernel_rfl) (fun _ _ _ h => h) (Or.inl ⟨by rfl, ?_⟩) (by assumption) ?_
                rotate_left
                · intro v hSv; (try dsimp only at hSv); skip; go_simp; (try with_reducible rfl)
                try simp only [Act.put, List.setIfInBounds_toArray, List.set_cons_zero, List.set_cons_succ]
                refine wpAnyH_take (i := 8) (oi := ⟨some 95, _, _, _, _, _⟩) (v := ?_) rfl (by kernel_rfl) (by kernel_rfl) (by kernel_rfl) (fun _ _ _ h => h) (Or.inl ⟨by rfl, ?_⟩) (by assumption) ?_
                rotate_left
                · intro v hSv; (try dsimp only at hSv); skip; go_simp; (try with_reducible rfl)
                try simp only [Act.put, List.setIfInBounds_toArray, List.set_cons_zero, List.set_cons_succ]
                refine wpAnyH_take (i := 9) (oi := ⟨some 96, _, _, _, _, _⟩) (v := ?_) rfl (by kernel_rfl) (by kernel_rfl) (by kernel_rfl) (fun _ _ _ h => h) (Or.inl ⟨by rfl, ?_⟩) (by assumption) ?_
                rotate_left
                · intro v hSv; (try dsimp only at hSv); have z := (HU.out v hSv).2.1; go_simp; (try with_reducible rfl)
                try simp only [Act.put, List.setIfInBounds_toArray, List.set_cons_zero, List.set_cons_succ]
                refine wpAnyH_take (i := 10) (oi := ⟨some 97, _, _, _, _, _⟩) (v := ?_) rfl (by kernel_rfl) (by kernel_rfl) (by kernel_rfl) (fun _ _ _ h => h) (Or.inl ⟨by rfl, ?_⟩) (by assumption) ?_
                rotate_left
                · intro v hSv; (try dsimp only at hSv); skip; go_simp; (try with_reducible rfl)
                try simp only [Act.put, List.setIfInBounds_toArray, List.set_cons_zero, List.set_cons_succ]
                refine wpAnyH_take (i := 11) (oi := ⟨some 98, _, _, _, _, _⟩) (v := ?_) rfl (by kernel_rfl) (by kernel_rfl) (by kernel_rfl) (fun _ _ _ h => h) (Or.inl ⟨by rfl, ?_⟩) (by assumption) ?_
                rotate_left
                · intro v hSv; (try dsimp only at hSv); skip; go_simp; (try with_reducible rfl)
                try simp only [Act.put, List.setIfInBounds_toArray, List.set_cons_zero, List.set_cons_succ]
                refine wpAnyH_take (i := 12) (oi := ⟨some 99, _, _, _, _, _⟩) (v := ?_) rfl (by kernel_rfl) (by kernel_rfl) (by kernel_rfl) (fun _ _ _ h => h) (Or.inl ⟨by rfl, ?_⟩) (by assumption) ?_
                rotate_left
                · intro v hSv; (try dsimp only at hSv); skip; go_simp; (try with_reducible rfl)
                try simp only [Act.put, List.setIfInBounds_toArray, List.set_cons_zero, List.set_cons_succ]
                refine wpAnyH_take (i := 13) (oi := ⟨some 100, _, _, _, _, _⟩) (v := ?_) rfl (by kernel_rfl) (by kernel_rfl) (by kernel_rfl) (fun _ _ _ h => h) (Or.inl ⟨by rfl, ?_⟩) (by assumption) ?_
                rotate_left
                · intro v hSv; (try dsimp only at hSv); skip; go_simp; (try with_reducible rfl)
                try simp only [Act.put, List.setIfInBounds_toArray, List.set_cons_zero, List.set_cons_succ]
                refine wpAnyH_take (i := 14) (oi := ⟨some 101, _, _, _, _, _⟩) (v := ?_) rfl (by kernel_rfl) (by kernel_rfl) (by kernel_rfl) (fun _ _ _ h => h) (Or.inl ⟨by rfl, ?_⟩) (by assumption) ?_
                rotate_left
                · intro v hSv; (try dsimp only at hSv); have z := (HU.out v hSv).2.2.1; go_simp; (try with_reducible rfl)
                try simp only [Act.put, List.setIfInBounds_toArray, List.set_cons_zero, List.set_cons_succ]
                refine wpAnyH_take (i := 15) (oi := ⟨some 102, _, _, _, _, _⟩) (v := ?_) rfl (by kernel_rfl) (by kernel_rfl) (by kernel_rfl) (fun _ _ _ h => h) (Or.inl ⟨by rfl, ?_⟩) (by assumption) ?_
                rotate_left
                · intro v hSv; (try dsimp only at hSv); skip; go_simp; (try with_reducible rfl)
                try simp only [Act.put, List.setIfInBounds_toArray, List.set_cons_zero, List.set_cons_succ]
                refine wpAnyH_take (i := 16) (oi := ⟨some 103, _, _, _, _, _⟩) (v := ?_) rfl (by kernel_rfl) (by kernel_rfl) (by kernel_rfl) (fun _ _ _ h => h) (Or.inl ⟨by rfl, ?_⟩) (by assumption) ?_
                rotate_left
                · intro v hSv; (try dsimp only at hSv); skip; go_simp; (try with_reducible rfl)
                try simp only [Act.put, List.setIfInBounds_toArray, List.set_cons_zero, List.set_cons_succ]
                refine wpAnyH_take (i := 17) (oi := ⟨some 104, _, _, _, _, _⟩) (v := ?_) rfl (by kernel_rfl) (by kernel_rfl) (by kernel_rfl) (fun _ _ _ h => h) (Or.inl ⟨by rfl, ?_⟩) (by assumption) ?_
                rotate_left
                · intro v hSv; (try dsimp only at hSv); have z := (HU.out v hSv).2.2.2.1; go_simp; (try with_reducible rfl)
                try simp only [Act.put, List.setIfInBounds_toArray, List.set_cons_zero, List.set_cons_succ]
                refine wpAnyH_take (i := 18) (oi := ⟨some 105, _, _, _, _, _⟩) (v := ?_) rfl (by kernel_rfl) (by kernel_rfl) (by kernel_rfl) (fun _ _ _ h => h) (Or.inl ⟨by rfl, ?_⟩) (by assumption) ?_
                rotate_left
                · intro v hSv; (try dsimp only at hSv); skip; go_simp; (try with_reducible rfl)
                try simp only [Act.put, List.setIfInBounds_toArray, List.set_cons_zero, List.set_cons_succ]
                refine wpAnyH_take (i := 19) (oi := ⟨some 106, _, _, _, _, _⟩) (v := ?_) rfl (by kernel_rfl) (by kernel_rfl) (by kernel_rfl) (fun _ _ _ h => h) (Or.inl ⟨by rfl, ?_⟩) (by assumption) ?_
                rotate_left
                · intro v hSv; (try dsimp only at hSv); skip; go_simp; (try with_reducible rfl)
                try simp only [Act.put, List.setIfInBounds_toArray, List.set_cons_zero, List.set_cons_succ]
                refine wpAnyH_take (i := 20) (oi := ⟨some 107, _, _, _, _, _⟩) (v := ?_) rfl (by kernel_rfl) (by kernel_rfl) (by kernel_rfl) (fun _ _ _ h => h) (Or.inl ⟨by rfl, ?_⟩) (by assumption) ?_
                rotate_left
                · intro v hSv; (try dsimp only at hSv); skip; go_simp; (try with_reducible rfl)
                try simp only [Act.put, List.setIfInBounds_toArray, List.set_cons_zero, List.set_cons_succ]
                refine wpAnyH_take (i := 21) (oi := ⟨some 108, _, _, _, _, _⟩) (v := ?_) rfl (by kernel_rfl) (by kernel_rfl) (by kernel_rfl) (fun _ _ _ h => h) (Or.inl ⟨by rfl, ?_⟩) (by assumption) ?_
                rotate_left
                · intro v hSv; (try dsimp only at hSv); skip; go_simp; (try with_reducible rfl)
                try simp only [Act.put, List.setIfInBounds_toArray, List.set_cons_zero, List.set_cons_succ]
                refine wpAnyH_take (i := 22) (oi := ⟨some 109, _, _, _, _, _⟩) (v := ?_) rfl (by kernel_rfl) (by kernel_rfl) (by kernel_rfl) (fun _ _ _ h => h) (Or.inl ⟨by rfl, ?_⟩) (by assumption) ?_
                rotate_left
                · intro v hSv; (try dsimp only at hSv); skip; go_simp; (try with_reducible rfl)
                try simp only [Act.put, List.setIfInBounds_toArray, List.set_cons_zero, List.set_cons_succ]
                refine wpAnyH_take (i := 23) (oi := ⟨some 110, _, _, _, _, _⟩) (v := ?_) rfl (by kernel_rfl) (by kernel_rfl) (by kernel_rfl) (fun _ _ _ h => h) (Or.inl ⟨by rfl, ?_⟩) (by assumption) ?_
                rotate_left
                · intro v hSv; (try dsimp only at hSv); have z := (HU.out v hSv).2.2.2.2.1; go_simp; (try with_reducible rfl)
                try simp only [Act.put, List.setIfInBounds_toArray, List.set_cons_zero, List.set_cons_succ]
                refine wpAnyH_take (i := 24) (oi := ⟨some 111, _, _, _, _, _⟩) (v := ?_) rfl (by kernel_rfl) (by kernel_rfl) (by kernel_rfl) (fun _ _ _ h => h) (Or.inl ⟨by rfl, ?_⟩) (by assumption) ?_
                rotate_left
                · intro v hSv; (try dsimp only at hSv); skip; go_simp; (try with_reducible rfl)
                try simp only [Act.put, List.setIfInBounds_toArray, List.set_cons_zero, List.set_cons_succ]
                refine wpAnyH_take (i := 25) (oi := ⟨some 112, _, _, _, _, _⟩) (v := ?_) rfl (by kernel_rfl) (by kernel_rfl) (by kernel_rfl) (fun _ _ _ h => h) (Or.inl ⟨by rfl, ?_⟩) (by assumption) ?_
                rotate_left
                · intro v hSv; (try dsimp only at hSv); skip; go_simp; (try with_reducible rfl)
                try simp only [Act.put, List.setIfInBounds_toArray, List.set_cons_zero, List.set_cons_succ]
                refine wpAnyH_take (i := 26) (oi := ⟨some 113, _, _, _, _, _⟩) (v := ?_) rfl (by kernel_rfl) (by kernel_rfl) (by kernel_rfl) (fun _ _ _ h => h) (Or.inl ⟨by rfl, ?_⟩) (by assumption) ?_
                rotate_left
                · intro v hSv; (try dsimp only at hSv); have z := (HU.out v hSv).2.2.2.2.2; go_simp; (try with_reducible rfl)
                try simp only [Act.put, List.setIfInBounds_toArray, List.set_cons_zero, List.set_cons_succ]
                refine wpAnyH_take (i := 27) (oi := ⟨some 114, _, _, _, _, _⟩) (v := ?_) rfl (by kernel_rfl) (by kernel_rfl) (by kernel_rfl) (fun _ _ _ h => h) (Or.inl ⟨by rfl, ?_⟩) (by assumption) ?_
                rotate_left
                · intro v hSv; (try dsimp only at hSv); skip; go_simp; (try with_reducible rfl)
                try simp only [Act.put, List.setIfInBounds_toArray, List.set_cons_zero, List.set_cons_succ]
                refine wpAnyH_take (i := 28) (oi := ⟨some 115, _, _, _, _, _⟩) (v := ?_) rfl (by kernel_rfl) (by kernel_rfl) (by kernel_rfl) (fun _ _ _ h => h) (Or.inl ⟨by rfl, ?_⟩) (by assumption) ?_
                rotate_left
                · intro v hSv; (try dsimp only at hSv); skip; go_simp; (try with_reducible rfl)
                try simp only [Act.put, List.setIfInBounds_toArray, List.set_cons_zero, List.set_cons_succ]
                refine wpAnyH_take (i := 29) (oi := ⟨some 116, _, _, _, _, _⟩) (v := ?_) rfl (by kernel_rfl) (by kernel_rfl) (by kernel_rfl) (fun _ _ _ h => h) (Or.inl ⟨by rfl, ?_⟩) (by assumption) ?_
                rotate_left
                · intro v hSv; (try dsimp only at hSv); skip; go_simp; (try with_reducible rfl)
                try simp only [Act.put, List.setIfInBounds_toArray, List.set_cons_zero, List.set_cons_succ]
                refine wpAnyH_done (by kernel_rfl) ?_ _
                go_wp2_with fail
                go_roundw
                case rel => exact ⟨m + 1, by omega, by go_num, Lib.hid hS0⟩
                case measure => simp [intOf]; omega
            · have hlt2' : decide (m < 3) = false := by simpa using hlt2
              go_wp2_with fail
              go_roundw
              case rel => exact ⟨k + 1, nw, n + 2, B', by omega, by go_num, Lib.hid (HEND.out _ HRI.out)⟩
              case measure => simp [intOf]; omega
        · have hlt' : ¬ (k : Int) < (L.length : Int) := by omega
          go_wp2_with fail
          refine (known_any _).mono ?_
          rintro e w' ⟨rfl, g⟩
          have G := Lib.hid (Kept.fresh HG2.out (HR.out.kept.chg g) HNEW0.out)
          clear g
          go_wp2_with fail
          go_ret
          exact ⟨rfl, G.out⟩

end Go.Proofs.Ytnpmfigcfikdgaa
