/-
  The document's own disk (package ref): Crash.
-/
import Derived.Test.YtbgofhbanhanfaaRef
import Derived.IntWalk
namespace Go.Proofs.Ytbgofhbanhanfaa
open Go.RowKit

theorem RStep.trans {w1 w2 w3 : World} {b : Nat} {f1 f2 f3 : List File} (h : RStep w1 b f1 w2 f2) (k : RStep w2 b f2 w3 f3) : RStep w1 b f1 w3 f3 :=
  ⟨k.at_, h.chg.trans k.chg, fun g hg => by
    rcases k.foot g hg with h1 | h1
    · exact h.foot g h1
    · exact .inr (Nat.le_trans h.chg.size h1)⟩

theorem RStep.more {w wr w' : World} {b : Nat} {fs fs' : List File} (h : RStep w b fs wr fs') (k : Chg none wr w') : RStep w b fs w' fs' :=
  ⟨h.at_.chg k, ⟨k.os.trans h.chg.os, k.tape.trans h.chg.tape, k.output.trans h.chg.output, Nat.le_trans h.chg.size k.size, fun i hi hn => (k.block i (Nat.lt_of_lt_of_le hi h.chg.size) (by simp)).trans (h.chg.block i hi hn)⟩, h.foot⟩

theorem ref_syn {w : World} {b k n : Nat} {fs : List File} {f : File} (h : RefAt w b fs) (hf : fs[k]? = some f) (hn : n ≤ f.fl.bs.length) :
    RStep w b fs (w.setCell ⟨b, 2 + k, none⟩ (.int .i64 n)) (fs.set k ⟨f.v, ⟨f.fl.bs, n⟩⟩) := by
  have hk1 : Kept (fun g => g = b) w (w.setCell ⟨b, 2 + k, none⟩ (.int .i64 n)) := (Kept.refl (fun g => g = b) w).setCell ⟨b, 2 + k, none⟩ _ (.inl rfl)
  have hfo := h.file hf
  have hok2 : File.okAt w b ⟨f.v, ⟨f.fl.bs, n⟩⟩ := ⟨hfo.own, hfo.far, hn, hfo.top⟩
  have hnb : ∀ x : File, File.okAt w b x → File.okAt (w.setCell ⟨b, 2 + k, none⟩ (.int .i64 n)) b x := fun x hx => hx.keep hk1 (fun g hg' e => by subst e; exact hx.far hg')
  refine ⟨⟨?_, by rw [List.length_set]; exact h.two, fun x hx => ?_⟩, ⟨hk1.os, hk1.tape, hk1.output, hk1.size, fun i hi hn => hk1.block i hi (fun e => hn (by rw [e]))⟩, fun g hg' => ?_⟩
  · rw [← rcells_sets n h.two hf]
    exact BlkL.set h.blk (2 + k) _
  · rcases List.mem_or_eq_of_mem_set hx with h1 | h1
    · exact hnb x (h.ok x h1)
    · rw [h1]; exact hnb _ hok2
  · rcases hg' with h1 | ⟨x, hx, hv⟩
    · exact .inl (.inl h1)
    · rcases List.mem_or_eq_of_mem_set hx with h1 | h1
      · exact .inl (.inr ⟨x, h1, hv⟩)
      · rw [h1] at hv; exact .inl (.inr ⟨f, List.mem_of_getElem? hf, hv⟩)

theorem byteVals_get {bs : List UInt8} {k : Nat} {c : UInt8} (h : bs[k]? = some c) : (byteVals bs)[k]? = some (.int .u8 c.toNat) := by
  simp [byteVals, h]

/-- The crash, while it is done: k files are cut. -/
def RCrash (w : World) (b : Nat) (fs : List File) (kb : Nat) (k0 k1 : Int) (k : Nat) (wr : World) : Prop :=
  ∃ fs', RStep w b fs wr fs' ∧ fls fs' = crashN (fls fs) [k0, k1] k ∧ Blk wr kb #[.int .i64 k0, .int .i64 k1] 28 ∧ kb ≠ b

theorem rcrash_next {w wr w2 : World} {b kb k st : Nat} {k0 k1 kk : Int} {fs fs' : List File} {f : File} {v : Value} (hst : RStep w b fs wr fs') (hfl : fls fs' = crashN (fls fs) [k0, k1] k)
    (hkb : Blk wr kb #[.int .i64 k0, .int .i64 k1] 28) (hne : kb ≠ b) (hf : fs'[k]? = some f) (hkk : [k0, k1].getD k 0 = kk) (hstay : stays f.fl kk = st) (hhi : st ≤ f.fl.bs.length) (hlo : f.fl.syn ≤ st)
    (hg : Chg none wr w2) (hown : w2.ownsRow wr.heap.size 5 1 v st (byteVals (f.fl.bs.take st))) :
    RCrash w b fs kb k0 k1 (k + 1) ((w2.setCell ⟨b, k, none⟩ v).setCell ⟨b, 2 + k, none⟩ (.int .i64 st)) := by
  have htop := (hst.at_.file hf).top
  have hlen : (f.fl.bs.take st).length = st := by rw [List.length_take]; omega
  have hnew : ∀ g, v.ownBlock = some g → wr.heap.size ≤ g := fun g e => (hown.lt g e).1
  have hown0 : w2.ownsRow 0 5 1 v (f.fl.bs.take st).length (byteVals (f.fl.bs.take st)) := by
    rw [hlen]
    refine ⟨hown.1, ?_⟩
    rcases hown.2 with h0 | ⟨g, cap, cur, hv, h1, h2⟩
    · exact .inl h0
    · exact .inr ⟨g, cap, cur, hv, Nat.zero_le _, h2⟩
  have p := ref_put (bs' := f.fl.bs.take st) hst.at_ hf hg hown0 hnew (by omega) (by omega)
  have hkl : k < fs'.length := (List.getElem?_eq_some_iff.1 hf).1
  have q := ref_syn (n := st) p.at_ (List.getElem?_set_self hkl) (by show st ≤ (f.fl.bs.take st).length; omega)
  have r := (hst.trans p).trans q
  rw [List.set_set] at r
  refine ⟨_, r, ?_, Blk.setOther (Blk.setOther (Blk.chg hkb hg (by simp)) _ _ hne) _ _ hne, hne⟩
  rw [fls_set, hfl]
  have hgd := fls_getD hf
  rw [hfl] at hgd
  show _ = (crashN (fls fs) [k0, k1] k).set k (crash1 ((crashN (fls fs) [k0, k1] k).getD k default) ([k0, k1].getD k 0))
  rw [hgd, hkk, crash1, hstay, Int.toNat_natCast]

/-- One file's bytes, while they are gone through: j were seen. -/
def RIn (wo : World) (bs : List UInt8) (st j : Nat) (v : Value) (wr : World) : Prop := Chg none wo wr ∧ wr.ownsRow wo.heap.size 5 1 v (min j st) (byteVals (bs.take (min j st)))

theorem RIn.drew {wo wx : World} {bs : List UInt8} {st j : Nat} {v : Value} (h : RIn wo bs st j v wx) : RIn wo bs st j v wx.drew := ⟨h.1.drew, own_chg h.2 (Chg.refl none wx).drew⟩
theorem RIn.skip {wo wx : World} {bs : List UInt8} {st j : Nat} {v : Value} (h : RIn wo bs st j v wx) (hj : ¬ j < st) : RIn wo bs st (j + 1) v wx := by
  obtain ⟨h1, h2⟩ := h
  rw [show min j st = min (j + 1) st by omega] at h2
  exact ⟨h1, h2⟩
theorem RIn.next {wo wx w1 : World} {bs : List UInt8} {st j : Nat} {v v' : Value} {x : UInt8} {o : Obj} (h : RIn wo bs st j v wx) (hj : j < st) (hx : bs[j]? = some x)
    (hgr : (wx.alloc o).grownBy w1 v.ownBlock) (hown : w1.ownsRow wo.heap.size 5 1 v' (j + 1) (byteVals (bs.take j) ++ byteVals [x])) : RIn wo bs st (j + 1) v' w1 := by
  obtain ⟨h1, h2⟩ := h
  refine ⟨(h1.alloc o).kept (Kept.of_chg hgr) (fun g e => (h2.lt g e).1), ?_⟩
  rw [show min (j + 1) st = j + 1 by omega]
  rw [byteVals_append] at hown
  rw [List.take_add_one, hx]
  exact hown

set_option maxRecDepth 100000 in
set_option maxHeartbeats 4000000 in
theorem rcrash_any (b : Nat) (fs : List File) (k0 k1 : Int) (w : World) (h : RefAt w b fs) :
    Calls Try.prog 16 #[.pointer (some ⟨b, 0, none⟩), .agg #[.int .i64 k0, .int .i64 k1]] w
      fun e w' => e = .returned (.tuple #[]) ∧ ∃ fs', RStep w b fs w' fs' ∧ fls fs' = crashed (fls fs) k0 k1 := by
  have hlt := h.lt
  have hk0 := Blk.new w #[.int .i64 k0, .int .i64 k1] 28
  have h1 : RStep w b fs (w.alloc (.cells #[.int .i64 k0, .int .i64 k1] 28)) fs := (RStep.refl h).more ((Chg.refl _ _).alloc _)
  have hrel0 : RCrash w b fs w.heap.size k0 k1 0 (w.alloc (.cells #[.int .i64 k0, .int .i64 k1] 28)) := ⟨fs, h1, rfl, hk0, by omega⟩
  clear hk0 h1 h
  go_enter Try.func16, Try.ntmps16
  go_wp2_with fail
  generalize w.alloc (.cells #[.int .i64 k0, .int .i64 k1] 28) = w1 at *
  generalize w.heap.size = kb at *
  go_loopw [4] (fun s4 wr => ∃ k : Nat, k ≤ 2 ∧ s4 = .int .i64 k ∧ RCrash w b fs kb k0 k1 k wr) (fun s4 _ => 2 - (intOf s4).toNat)
  case atStart => exact ⟨0, by omega, rfl, hrel0⟩
  case round =>
    obtain ⟨k, hk, rfl, hr⟩ := hrel
    clear hrel0
    by_cases hk2 : k < 2
    · obtain ⟨fs', hst, hfl, hkb, hne⟩ := hr
      obtain ⟨f, hf⟩ := hst.at_.get hk2
      obtain ⟨c0, c1⟩ := hst.at_.at_ hf
      have hfo := hst.at_.file hf
      obtain ⟨A0, cp, hv⟩ := own_slice hfo.own
      have hown := hfo.own
      rw [hv] at c0 hown
      have htop := hfo.top
      have hsyn := hfo.syn
      have hblt := hst.at_.lt
      have hblk := hst.at_.blk
      obtain ⟨kk, hkk, hkc⟩ : ∃ kk : Int, [k0, k1].getD k 0 = kk ∧ wr.cell? ⟨kb, k, none⟩ = some (.int .i64 kk) := by
        obtain rfl | rfl : k = 0 ∨ k = 1 := by omega
        · exact ⟨k0, rfl, by rw [Blk.cell hkb]; rfl⟩
        · exact ⟨k1, rfl, by rw [Blk.cell hkb]; rfl⟩
      obtain ⟨st, hst0⟩ : ∃ st : Nat, stays f.fl kk = st := ⟨(stays f.fl kk).toNat, by have := (stays_le f.fl kk hsyn).1; omega⟩
      have hstl := stays_le f.fl kk hsyn
      rw [hst0] at hstl
      have hlo : f.fl.syn ≤ st := by omega
      have hhi : st ≤ f.fl.bs.length := by omega
      have hnext := fun (w2 : World) (v : Value) (hg : Chg none wr w2) (ho : w2.ownsRow wr.heap.size 5 1 v st (byteVals (f.fl.bs.take st))) => rcrash_next hst hfl hkb hne hf hkk hst0 hhi hlo hg ho
      have HX := Lib.hid hnext
      have HR := Lib.hid (fun W (g : Chg none wr W) => (Reads.of_own hown).grown g (Nat.le_refl _) (by simp))
      have hcell : ∀ W, Chg none wr W → W.cell? ⟨b, k, none⟩ = some (.slice A0 f.fl.bs.length cp) ∧ W.cell? ⟨b, 2 + k, none⟩ = some (.int .i64 f.fl.syn) ∧ W.cell? ⟨kb, k, none⟩ = some (.int .i64 kk) := fun W g =>
        ⟨World.grownBy.cell g c0 (by simp), World.grownBy.cell g c1 (by simp), World.grownBy.cell g hkc (by simp)⟩
      have HC := Lib.hid hcell
      have hkeep : ∀ j : Nat, j < f.fl.bs.length → (j < st ↔ (j < f.fl.syn ∨ (j : Int) - f.fl.syn < kk)) := fun j hj => by unfold stays at hst0; omega
      have HK := Lib.hid hkeep
      have hk3 : (k : Int) < 2 := by omega
      clear hnext hcell hkeep hfl hv hfo hkk hst0 hstl hst hf hkb hown
      have hin0 : RIn wr f.fl.bs st 0 (.slice none 0 0) wr := ⟨Chg.refl _ _, by rw [Nat.zero_min]; exact ⟨rfl, .inl ⟨rfl, rfl⟩⟩⟩
      go_wp2_with fail
      obtain ⟨wo, hwo⟩ : ∃ wo : World, wo = wr := ⟨_, rfl⟩
      subst hwo
      go_loopw [5, 6] (fun s5 s6 wx => ∃ j : Nat, j ≤ f.fl.bs.length ∧ s6 = .int .i64 j ∧ RIn wo f.fl.bs st j s5 wx) (fun _ s6 _ => f.fl.bs.length - (intOf s6).toNat)
      case atStart => exact ⟨0, by omega, rfl, hin0⟩
      case round =>
        obtain ⟨j, hj, rfl, hin⟩ := hrel
        clear hin0
        have hgx := hin.1
        obtain ⟨d0, d1, d2⟩ := HC.out _ hgx
        have hwj : wrap64 ((j : Int) - (f.fl.syn : Int)) = (j : Int) - (f.fl.syn : Int) := IntWalk.wrap64_in _ (by omega)
        have hwj2 : IntKind.i64.wrap ((j : Int) - (f.fl.syn : Int)) = (j : Int) - (f.fl.syn : Int) := IntWalk.i64_in _ (by omega)
        by_cases hjn : j < f.fl.bs.length
        · have q0 : decide ((j : Int) < (f.fl.bs.length : Int)) = true := by simp; omega
          by_cases hjs : j < st
          · have hmin : min j st = j := by omega
            have hino := hin.2
            rw [hmin] at hino
            obtain ⟨A5, c5, rfl⟩ := own_slice hino
            clear hmin hino
            have hx : f.fl.bs[j]? = some f.fl.bs[j] := List.getElem?_eq_getElem hjn
            generalize f.fl.bs[j] = x at *
            obtain ⟨i0, hi, hz0, hz1, hz2⟩ := info_parts Try.info5
            have hin1 := hin.drew
            by_cases hq : j < f.fl.syn
            · have q1 : decide ((j : Int) < (f.fl.syn : Int)) = true := by simp; omega
              go_wp2_with fail
              refine wp_region_held_drew (S := fun w' => w'.cell? ⟨b, k, none⟩ = some (.slice A0 f.fl.bs.length cp) ∧ w'.cell? ⟨b, 2 + k, none⟩ = some (.int .i64 f.fl.syn) ∧ w'.cell? ⟨kb, k, none⟩ = some (.int .i64 kk)) (by kernel_rfl) (HC.out _ hgx.drew) (fun _ => ?_)
              refine wpAnyH_take (i := 0) (oi := ⟨some 22, _, _, _, _, _⟩) (v := ?_) rfl (by kernel_rfl) (by kernel_rfl) (by kernel_rfl) (fun _ _ _ h => h) (Or.inl ⟨by rfl, ?_⟩) (by assumption) ?_
              rotate_left
              · intro w hSw; obtain ⟨s0, s1, s2⟩ := hSw; go_simp; (try rw [if_pos hk3]); (try simp only [hwj, q2, q1]); (try with_reducible rfl)
              try simp only [Act.put, List.setIfInBounds_toArray, List.set_cons_zero, List.set_cons_succ]
              refine wpAnyH_take (i := 1) (oi := ⟨some 23, _, _, _, _, _⟩) (v := ?_) rfl (by kernel_rfl) (by kernel_rfl) (by kernel_rfl) (fun _ _ _ h => h) (Or.inl ⟨by rfl, ?_⟩) (by assumption) ?_
              rotate_left
              · intro w hSw; obtain ⟨s0, s1, s2⟩ := hSw; go_simp; (try rw [if_pos hk3]); (try simp only [hwj, q2, q1]); (try with_reducible rfl)
              try simp only [Act.put, List.setIfInBounds_toArray, List.set_cons_zero, List.set_cons_succ]
              refine wpAnyH_take (i := 2) (oi := ⟨some 24, _, _, _, _, _⟩) (v := ?_) rfl (by kernel_rfl) (by kernel_rfl) (by kernel_rfl) (fun _ _ _ h => h) (Or.inl ⟨by rfl, ?_⟩) (by assumption) ?_
              rotate_left
              · intro w hSw; obtain ⟨s0, s1, s2⟩ := hSw; go_simp; (try rw [if_pos hk3]); (try simp only [hwj, q2, q1]); (try with_reducible rfl)
              try simp only [Act.put, List.setIfInBounds_toArray, List.set_cons_zero, List.set_cons_succ]
              refine wpAnyH_take (i := 3) (oi := ⟨some 25, _, _, _, _, _⟩) (v := ?_) rfl (by kernel_rfl) (by kernel_rfl) (by kernel_rfl) (fun _ _ _ h => h) (Or.inl ⟨by rfl, ?_⟩) (by assumption) ?_
              rotate_left
              · intro w hSw; obtain ⟨s0, s1, s2⟩ := hSw; go_simp; (try rw [if_pos hk3]); (try simp only [hwj, q2, q1]); (try with_reducible rfl)
              try simp only [Act.put, List.setIfInBounds_toArray, List.set_cons_zero, List.set_cons_succ]
              refine wpAnyH_take (i := 4) (oi := ⟨some 26, _, _, _, _, _⟩) (v := ?_) rfl (by kernel_rfl) (by kernel_rfl) (by kernel_rfl) (fun _ _ _ h => h) (Or.inl ⟨by rfl, ?_⟩) (by assumption) ?_
              rotate_left
              · intro w hSw; obtain ⟨s0, s1, s2⟩ := hSw; go_simp; (try rw [if_pos hk3]); (try simp only [hwj, q2, q1]); (try with_reducible rfl)
              try simp only [Act.put, List.setIfInBounds_toArray, List.set_cons_zero, List.set_cons_succ]
              refine wpAnyH_take (i := 5) (oi := ⟨some 27, _, _, _, _, _⟩) (v := ?_) rfl (by kernel_rfl) (by kernel_rfl) (by kernel_rfl) (fun _ _ _ h => h) (Or.inl ⟨by rfl, ?_⟩) (by assumption) ?_
              rotate_left
              · intro w hSw; obtain ⟨s0, s1, s2⟩ := hSw; go_simp; (try rw [if_pos hk3]); (try simp only [hwj, q2, q1]); (try with_reducible rfl)
              try simp only [Act.put, List.setIfInBounds_toArray, List.set_cons_zero, List.set_cons_succ]
              refine wpAnyH_take (i := 6) (oi := ⟨some 28, _, _, _, _, _⟩) (v := ?_) rfl (by kernel_rfl) (by kernel_rfl) (by kernel_rfl) (fun _ _ _ h => h) (Or.inl ⟨by rfl, ?_⟩) (by assumption) ?_
              rotate_left
              · intro w hSw; obtain ⟨s0, s1, s2⟩ := hSw; go_simp; (try rw [if_pos hk3]); (try simp only [hwj, q2, q1]); (try with_reducible rfl)
              try simp only [Act.put, List.setIfInBounds_toArray, List.set_cons_zero, List.set_cons_succ]
              refine wpAnyH_take (i := 7) (oi := ⟨some 29, _, _, _, _, _⟩) (v := ?_) rfl (by kernel_rfl) (by kernel_rfl) (by kernel_rfl) (fun _ _ _ h => h) (Or.inl ⟨by rfl, ?_⟩) (by assumption) ?_
              rotate_left
              · intro w hSw; obtain ⟨s0, s1, s2⟩ := hSw; go_simp; (try rw [if_pos hk3]); (try simp only [hwj, q2, q1]); (try with_reducible rfl)
              try simp only [Act.put, List.setIfInBounds_toArray, List.set_cons_zero, List.set_cons_succ]
              refine wpAnyH_take (i := 8) (oi := ⟨some 30, _, _, _, _, _⟩) (v := ?_) rfl (by kernel_rfl) (by kernel_rfl) (by kernel_rfl) (fun _ _ _ h => h) (Or.inl ⟨by rfl, ?_⟩) (by assumption) ?_
              rotate_left
              · intro w hSw; obtain ⟨s0, s1, s2⟩ := hSw; go_simp; (try rw [if_pos hk3]); (try simp only [hwj, q2, q1]); (try with_reducible rfl)
              try simp only [Act.put, List.setIfInBounds_toArray, List.set_cons_zero, List.set_cons_succ]
              refine wpAnyH_take (i := 9) (oi := ⟨some 31, _, _, _, _, _⟩) (v := undef) rfl (by kernel_rfl) (by kernel_rfl) (by kernel_rfl) (fun _ _ _ h => h) (Or.inr ⟨by rfl, rfl⟩) (by assumption) ?_
              try simp only [Act.put, List.setIfInBounds_toArray, List.set_cons_zero, List.set_cons_succ]
              refine wpAnyH_take (i := 10) (oi := ⟨some 32, _, _, _, _, _⟩) (v := undef) rfl (by kernel_rfl) (by kernel_rfl) (by kernel_rfl) (fun _ _ _ h => h) (Or.inr ⟨by rfl, rfl⟩) (by assumption) ?_
              try simp only [Act.put, List.setIfInBounds_toArray, List.set_cons_zero, List.set_cons_succ]
              refine wpAnyH_take (i := 11) (oi := ⟨some 33, _, _, _, _, _⟩) (v := undef) rfl (by kernel_rfl) (by kernel_rfl) (by kernel_rfl) (fun _ _ _ h => h) (Or.inr ⟨by rfl, rfl⟩) (by assumption) ?_
              try simp only [Act.put, List.setIfInBounds_toArray, List.set_cons_zero, List.set_cons_succ]
              refine wpAnyH_take (i := 12) (oi := ⟨some 34, _, _, _, _, _⟩) (v := undef) rfl (by kernel_rfl) (by kernel_rfl) (by kernel_rfl) (fun _ _ _ h => h) (Or.inr ⟨by rfl, rfl⟩) (by assumption) ?_
              try simp only [Act.put, List.setIfInBounds_toArray, List.set_cons_zero, List.set_cons_succ]
              refine wpAnyH_take (i := 13) (oi := ⟨some 35, _, _, _, _, _⟩) (v := undef) rfl (by kernel_rfl) (by kernel_rfl) (by kernel_rfl) (fun _ _ _ h => h) (Or.inr ⟨by rfl, rfl⟩) (by assumption) ?_
              try simp only [Act.put, List.setIfInBounds_toArray, List.set_cons_zero, List.set_cons_succ]
              refine wpAnyH_take (i := 14) (oi := ⟨some 36, _, _, _, _, _⟩) (v := undef) rfl (by kernel_rfl) (by kernel_rfl) (by kernel_rfl) (fun _ _ _ h => h) (Or.inr ⟨by rfl, rfl⟩) (by assumption) ?_
              try simp only [Act.put, List.setIfInBounds_toArray, List.set_cons_zero, List.set_cons_succ]
              refine wpAnyH_take (i := 15) (oi := ⟨some 37, _, _, _, _, _⟩) (v := undef) rfl (by kernel_rfl) (by kernel_rfl) (by kernel_rfl) (fun _ _ _ h => h) (Or.inr ⟨by rfl, rfl⟩) (by assumption) ?_
              try simp only [Act.put, List.setIfInBounds_toArray, List.set_cons_zero, List.set_cons_succ]
              refine wpAnyH_take (i := 16) (oi := ⟨some 38, _, _, _, _, _⟩) (v := undef) rfl (by kernel_rfl) (by kernel_rfl) (by kernel_rfl) (fun _ _ _ h => h) (Or.inr ⟨by rfl, rfl⟩) (by assumption) ?_
              try simp only [Act.put, List.setIfInBounds_toArray, List.set_cons_zero, List.set_cons_succ]
              refine wpAnyH_take (i := 17) (oi := ⟨some 39, _, _, _, _, _⟩) (v := undef) rfl (by kernel_rfl) (by kernel_rfl) (by kernel_rfl) (fun _ _ _ h => h) (Or.inr ⟨by rfl, rfl⟩) (by assumption) ?_
              try simp only [Act.put, List.setIfInBounds_toArray, List.set_cons_zero, List.set_cons_succ]
              refine wpAnyH_take (i := 18) (oi := ⟨some 40, _, _, _, _, _⟩) (v := undef) rfl (by kernel_rfl) (by kernel_rfl) (by kernel_rfl) (fun _ _ _ h => h) (Or.inr ⟨by rfl, rfl⟩) (by assumption) ?_
              try simp only [Act.put, List.setIfInBounds_toArray, List.set_cons_zero, List.set_cons_succ]
              refine wpAnyH_take (i := 19) (oi := ⟨some 41, _, _, _, _, _⟩) (v := undef) rfl (by kernel_rfl) (by kernel_rfl) (by kernel_rfl) (fun _ _ _ h => h) (Or.inr ⟨by rfl, rfl⟩) (by assumption) ?_
              try simp only [Act.put, List.setIfInBounds_toArray, List.set_cons_zero, List.set_cons_succ]
              refine wpAnyH_take (i := 20) (oi := ⟨some 42, _, _, _, _, _⟩) (v := undef) rfl (by kernel_rfl) (by kernel_rfl) (by kernel_rfl) (fun _ _ _ h => h) (Or.inr ⟨by rfl, rfl⟩) (by assumption) ?_
              try simp only [Act.put, List.setIfInBounds_toArray, List.set_cons_zero, List.set_cons_succ]
              refine wpAnyH_take (i := 21) (oi := ⟨some 43, _, _, _, _, _⟩) (v := ?_) rfl (by kernel_rfl) (by kernel_rfl) (by kernel_rfl) (fun _ _ _ h => h) (Or.inl ⟨by rfl, ?_⟩) (by assumption) ?_
              rotate_left
              · intro w hSw; obtain ⟨s0, s1, s2⟩ := hSw; go_simp; (try rw [if_pos hk3]); (try simp only [hwj, q2, q1]); (try with_reducible rfl)
              try simp only [Act.put, List.setIfInBounds_toArray, List.set_cons_zero, List.set_cons_succ]
              try simp only [hwj2, q2]
              refine wpAnyH_done (by kernel_rfl) ?_ _
              generalize wr.drew = wd at *
              have hgd := hin1.1
              have hino := hin1.2
              rw [show min j st = j by omega] at hino
              obtain ⟨e0, e1, e2⟩ := HC.out _ hgd
              obtain ⟨ad, hA0, _, hcx⟩ := (HR.out wd hgd).2 (by omega)
              subst hA0
              have hcj := hcx j _ (by rw [byteVals_get hx])
              have HOI := Lib.hid hino
              have HRM := Lib.hid (reads_mark wd [x] #[.int .u8 x.toNat] rfl (0, 0))
              have HOX := Lib.hid (byteVals_one [x])
              have HIN := Lib.hid hin1
              have HHX := Lib.hid hx
              clear hcx hino hin1 hx hin d0 d1 d2 hgx hwj hwj2
              go_wp2_with (at_builtin; refine wpList_append_any _ rfl (.tmp 44) (.tmp 54) 26 rfl wo.heap.size 5 i0 (.int .u8 0) 1 1 Try.underlying26 hi hz0 hz1 hz2 rfl (by decide) _ j (byteVals (f.fl.bs.take j)) rfl (HOI.out.alloc _) _ _ 1 1 (byteVals [x]) rfl HRM.out HOX.out (by unfold maxLen; omega) (by omega) (by have := hgd.size; simp; omega) ?_)
              intro v2 w2 hown2 hgr2 _
              have hnx := RIn.next HIN.out hjs HHX.out hgr2 hown2
              have HNX := Lib.hid hnx
              clear hown2 hgr2 hnx
              go_wp2_with fail
              go_roundw
              case rel => exact ⟨j + 1, by omega, by go_num, HNX.out⟩
              case measure => simp [intOf]; omega
            · have q1 : decide ((j : Int) < (f.fl.syn : Int)) = false := by simp; omega
              have hq2 : (j : Int) - (f.fl.syn : Int) < kk := by have := HK.out j hjn; omega
              have q2 : decide ((j : Int) - (f.fl.syn : Int) < kk) = true := by simpa using hq2
              go_wp2_with fail
              refine wp_region_held_drew (S := fun w' => w'.cell? ⟨b, k, none⟩ = some (.slice A0 f.fl.bs.length cp) ∧ w'.cell? ⟨b, 2 + k, none⟩ = some (.int .i64 f.fl.syn) ∧ w'.cell? ⟨kb, k, none⟩ = some (.int .i64 kk)) (by kernel_rfl) (HC.out _ hgx.drew) (fun _ => ?_)
              refine wpAnyH_take (i := 0) (oi := ⟨some 22, _, _, _, _, _⟩) (v := ?_) rfl (by kernel_rfl) (by kernel_rfl) (by kernel_rfl) (fun _ _ _ h => h) (Or.inl ⟨by rfl, ?_⟩) (by assumption) ?_
              rotate_left
              · intro w hSw; obtain ⟨s0, s1, s2⟩ := hSw; go_simp; (try rw [if_pos hk3]); (try simp only [hwj, q2, q1]); (try with_reducible rfl)
              try simp only [Act.put, List.setIfInBounds_toArray, List.set_cons_zero, List.set_cons_succ]
              refine wpAnyH_take (i := 1) (oi := ⟨some 23, _, _, _, _, _⟩) (v := ?_) rfl (by kernel_rfl) (by kernel_rfl) (by kernel_rfl) (fun _ _ _ h => h) (Or.inl ⟨by rfl, ?_⟩) (by assumption) ?_
              rotate_left
              · intro w hSw; obtain ⟨s0, s1, s2⟩ := hSw; go_simp; (try rw [if_pos hk3]); (try simp only [hwj, q2, q1]); (try with_reducible rfl)
              try simp only [Act.put, List.setIfInBounds_toArray, List.set_cons_zero, List.set_cons_succ]
              refine wpAnyH_take (i := 2) (oi := ⟨some 24, _, _, _, _, _⟩) (v := ?_) rfl (by kernel_rfl) (by kernel_rfl) (by kernel_rfl) (fun _ _ _ h => h) (Or.inl ⟨by rfl, ?_⟩) (by assumption) ?_
              rotate_left
              · intro w hSw; obtain ⟨s0, s1, s2⟩ := hSw; go_simp; (try rw [if_pos hk3]); (try simp only [hwj, q2, q1]); (try with_reducible rfl)
              try simp only [Act.put, List.setIfInBounds_toArray, List.set_cons_zero, List.set_cons_succ]
              refine wpAnyH_take (i := 3) (oi := ⟨some 25, _, _, _, _, _⟩) (v := ?_) rfl (by kernel_rfl) (by kernel_rfl) (by kernel_rfl) (fun _ _ _ h => h) (Or.inl ⟨by rfl, ?_⟩) (by assumption) ?_
              rotate_left
              · intro w hSw; obtain ⟨s0, s1, s2⟩ := hSw; go_simp; (try rw [if_pos hk3]); (try simp only [hwj, q2, q1]); (try with_reducible rfl)
              try simp only [Act.put, List.setIfInBounds_toArray, List.set_cons_zero, List.set_cons_succ]
              refine wpAnyH_take (i := 4) (oi := ⟨some 26, _, _, _, _, _⟩) (v := ?_) rfl (by kernel_rfl) (by kernel_rfl) (by kernel_rfl) (fun _ _ _ h => h) (Or.inl ⟨by rfl, ?_⟩) (by assumption) ?_
              rotate_left
              · intro w hSw; obtain ⟨s0, s1, s2⟩ := hSw; go_simp; (try rw [if_pos hk3]); (try simp only [hwj, q2, q1]); (try with_reducible rfl)
              try simp only [Act.put, List.setIfInBounds_toArray, List.set_cons_zero, List.set_cons_succ]
              refine wpAnyH_take (i := 5) (oi := ⟨some 27, _, _, _, _, _⟩) (v := ?_) rfl (by kernel_rfl) (by kernel_rfl) (by kernel_rfl) (fun _ _ _ h => h) (Or.inl ⟨by rfl, ?_⟩) (by assumption) ?_
              rotate_left
              · intro w hSw; obtain ⟨s0, s1, s2⟩ := hSw; go_simp; (try rw [if_pos hk3]); (try simp only [hwj, q2, q1]); (try with_reducible rfl)
              try simp only [Act.put, List.setIfInBounds_toArray, List.set_cons_zero, List.set_cons_succ]
              refine wpAnyH_take (i := 6) (oi := ⟨some 28, _, _, _, _, _⟩) (v := ?_) rfl (by kernel_rfl) (by kernel_rfl) (by kernel_rfl) (fun _ _ _ h => h) (Or.inl ⟨by rfl, ?_⟩) (by assumption) ?_
              rotate_left
              · intro w hSw; obtain ⟨s0, s1, s2⟩ := hSw; go_simp; (try rw [if_pos hk3]); (try simp only [hwj, q2, q1]); (try with_reducible rfl)
              try simp only [Act.put, List.setIfInBounds_toArray, List.set_cons_zero, List.set_cons_succ]
              refine wpAnyH_take (i := 7) (oi := ⟨some 29, _, _, _, _, _⟩) (v := ?_) rfl (by kernel_rfl) (by kernel_rfl) (by kernel_rfl) (fun _ _ _ h => h) (Or.inl ⟨by rfl, ?_⟩) (by assumption) ?_
              rotate_left
              · intro w hSw; obtain ⟨s0, s1, s2⟩ := hSw; go_simp; (try rw [if_pos hk3]); (try simp only [hwj, q2, q1]); (try with_reducible rfl)
              try simp only [Act.put, List.setIfInBounds_toArray, List.set_cons_zero, List.set_cons_succ]
              refine wpAnyH_take (i := 8) (oi := ⟨some 30, _, _, _, _, _⟩) (v := ?_) rfl (by kernel_rfl) (by kernel_rfl) (by kernel_rfl) (fun _ _ _ h => h) (Or.inl ⟨by rfl, ?_⟩) (by assumption) ?_
              rotate_left
              · intro w hSw; obtain ⟨s0, s1, s2⟩ := hSw; go_simp; (try rw [if_pos hk3]); (try simp only [hwj, q2, q1]); (try with_reducible rfl)
              try simp only [Act.put, List.setIfInBounds_toArray, List.set_cons_zero, List.set_cons_succ]
              refine wpAnyH_take (i := 9) (oi := ⟨some 31, _, _, _, _, _⟩) (v := ?_) rfl (by kernel_rfl) (by kernel_rfl) (by kernel_rfl) (fun _ _ _ h => h) (Or.inl ⟨by rfl, ?_⟩) (by assumption) ?_
              rotate_left
              · intro w hSw; obtain ⟨s0, s1, s2⟩ := hSw; go_simp; (try rw [if_pos hk3]); (try simp only [hwj, q2, q1]); (try with_reducible rfl)
              try simp only [Act.put, List.setIfInBounds_toArray, List.set_cons_zero, List.set_cons_succ]
              refine wpAnyH_take (i := 10) (oi := ⟨some 32, _, _, _, _, _⟩) (v := ?_) rfl (by kernel_rfl) (by kernel_rfl) (by kernel_rfl) (fun _ _ _ h => h) (Or.inl ⟨by rfl, ?_⟩) (by assumption) ?_
              rotate_left
              · intro w hSw; obtain ⟨s0, s1, s2⟩ := hSw; go_simp; (try rw [if_pos hk3]); (try simp only [hwj, q2, q1]); (try with_reducible rfl)
              try simp only [Act.put, List.setIfInBounds_toArray, List.set_cons_zero, List.set_cons_succ]
              refine wpAnyH_take (i := 11) (oi := ⟨some 33, _, _, _, _, _⟩) (v := ?_) rfl (by kernel_rfl) (by kernel_rfl) (by kernel_rfl) (fun _ _ _ h => h) (Or.inl ⟨by rfl, ?_⟩) (by assumption) ?_
              rotate_left
              · intro w hSw; obtain ⟨s0, s1, s2⟩ := hSw; go_simp; (try rw [if_pos hk3]); (try simp only [hwj, q2, q1]); (try with_reducible rfl)
              try simp only [Act.put, List.setIfInBounds_toArray, List.set_cons_zero, List.set_cons_succ]
              refine wpAnyH_take (i := 12) (oi := ⟨some 34, _, _, _, _, _⟩) (v := ?_) rfl (by kernel_rfl) (by kernel_rfl) (by kernel_rfl) (fun _ _ _ h => h) (Or.inl ⟨by rfl, ?_⟩) (by assumption) ?_
              rotate_left
              · intro w hSw; obtain ⟨s0, s1, s2⟩ := hSw; go_simp; (try rw [if_pos hk3]); (try simp only [hwj, q2, q1]); (try with_reducible rfl)
              try simp only [Act.put, List.setIfInBounds_toArray, List.set_cons_zero, List.set_cons_succ]
              refine wpAnyH_take (i := 13) (oi := ⟨some 35, _, _, _, _, _⟩) (v := ?_) rfl (by kernel_rfl) (by kernel_rfl) (by kernel_rfl) (fun _ _ _ h => h) (Or.inl ⟨by rfl, ?_⟩) (by assumption) ?_
              rotate_left
              · intro w hSw; obtain ⟨s0, s1, s2⟩ := hSw; go_simp; (try rw [if_pos hk3]); (try simp only [hwj, q2, q1]); (try with_reducible rfl)
              try simp only [Act.put, List.setIfInBounds_toArray, List.set_cons_zero, List.set_cons_succ]
              refine wpAnyH_take (i := 14) (oi := ⟨some 36, _, _, _, _, _⟩) (v := ?_) rfl (by kernel_rfl) (by kernel_rfl) (by kernel_rfl) (fun _ _ _ h => h) (Or.inl ⟨by rfl, ?_⟩) (by assumption) ?_
              rotate_left
              · intro w hSw; obtain ⟨s0, s1, s2⟩ := hSw; go_simp; (try rw [if_pos hk3]); (try simp only [hwj, q2, q1]); (try with_reducible rfl)
              try simp only [Act.put, List.setIfInBounds_toArray, List.set_cons_zero, List.set_cons_succ]
              refine wpAnyH_take (i := 15) (oi := ⟨some 37, _, _, _, _, _⟩) (v := ?_) rfl (by kernel_rfl) (by kernel_rfl) (by kernel_rfl) (fun _ _ _ h => h) (Or.inl ⟨by rfl, ?_⟩) (by assumption) ?_
              rotate_left
              · intro w hSw; obtain ⟨s0, s1, s2⟩ := hSw; go_simp; (try rw [if_pos hk3]); (try simp only [hwj, q2, q1]); (try with_reducible rfl)
              try simp only [Act.put, List.setIfInBounds_toArray, List.set_cons_zero, List.set_cons_succ]
              refine wpAnyH_take (i := 16) (oi := ⟨some 38, _, _, _, _, _⟩) (v := ?_) rfl (by kernel_rfl) (by kernel_rfl) (by kernel_rfl) (fun _ _ _ h => h) (Or.inl ⟨by rfl, ?_⟩) (by assumption) ?_
              rotate_left
              · intro w hSw; obtain ⟨s0, s1, s2⟩ := hSw; go_simp; (try rw [if_pos hk3]); (try simp only [hwj, q2, q1]); (try with_reducible rfl)
              try simp only [Act.put, List.setIfInBounds_toArray, List.set_cons_zero, List.set_cons_succ]
              refine wpAnyH_take (i := 17) (oi := ⟨some 39, _, _, _, _, _⟩) (v := ?_) rfl (by kernel_rfl) (by kernel_rfl) (by kernel_rfl) (fun _ _ _ h => h) (Or.inl ⟨by rfl, ?_⟩) (by assumption) ?_
              rotate_left
              · intro w hSw; obtain ⟨s0, s1, s2⟩ := hSw; go_simp; (try rw [if_pos hk3]); (try simp only [hwj, q2, q1]); (try with_reducible rfl)
              try simp only [Act.put, List.setIfInBounds_toArray, List.set_cons_zero, List.set_cons_succ]
              refine wpAnyH_take (i := 18) (oi := ⟨some 40, _, _, _, _, _⟩) (v := ?_) rfl (by kernel_rfl) (by kernel_rfl) (by kernel_rfl) (fun _ _ _ h => h) (Or.inl ⟨by rfl, ?_⟩) (by assumption) ?_
              rotate_left
              · intro w hSw; obtain ⟨s0, s1, s2⟩ := hSw; go_simp; (try rw [if_pos hk3]); (try simp only [hwj, q2, q1]); (try with_reducible rfl)
              try simp only [Act.put, List.setIfInBounds_toArray, List.set_cons_zero, List.set_cons_succ]
              refine wpAnyH_take (i := 19) (oi := ⟨some 41, _, _, _, _, _⟩) (v := ?_) rfl (by kernel_rfl) (by kernel_rfl) (by kernel_rfl) (fun _ _ _ h => h) (Or.inl ⟨by rfl, ?_⟩) (by assumption) ?_
              rotate_left
              · intro w hSw; obtain ⟨s0, s1, s2⟩ := hSw; go_simp; (try rw [if_pos hk3]); (try simp only [hwj, q2, q1]); (try with_reducible rfl)
              try simp only [Act.put, List.setIfInBounds_toArray, List.set_cons_zero, List.set_cons_succ]
              refine wpAnyH_take (i := 20) (oi := ⟨some 42, _, _, _, _, _⟩) (v := ?_) rfl (by kernel_rfl) (by kernel_rfl) (by kernel_rfl) (fun _ _ _ h => h) (Or.inl ⟨by rfl, ?_⟩) (by assumption) ?_
              rotate_left
              · intro w hSw; obtain ⟨s0, s1, s2⟩ := hSw; go_simp; (try rw [if_pos hk3]); (try simp only [hwj, q2, q1]); (try with_reducible rfl)
              try simp only [Act.put, List.setIfInBounds_toArray, List.set_cons_zero, List.set_cons_succ]
              refine wpAnyH_take (i := 21) (oi := ⟨some 43, _, _, _, _, _⟩) (v := ?_) rfl (by kernel_rfl) (by kernel_rfl) (by kernel_rfl) (fun _ _ _ h => h) (Or.inl ⟨by rfl, ?_⟩) (by assumption) ?_
              rotate_left
              · intro w hSw; obtain ⟨s0, s1, s2⟩ := hSw; go_simp; (try rw [if_pos hk3]); (try simp only [hwj, q2, q1]); (try with_reducible rfl)
              try simp only [Act.put, List.setIfInBounds_toArray, List.set_cons_zero, List.set_cons_succ]
              try simp only [hwj2, q2]
              refine wpAnyH_done (by kernel_rfl) ?_ _
              generalize wr.drew = wd at *
              have hgd := hin1.1
              have hino := hin1.2
              rw [show min j st = j by omega] at hino
              obtain ⟨e0, e1, e2⟩ := HC.out _ hgd
              obtain ⟨ad, hA0, _, hcx⟩ := (HR.out wd hgd).2 (by omega)
              subst hA0
              have hcj := hcx j _ (by rw [byteVals_get hx])
              have HOI := Lib.hid hino
              have HRM := Lib.hid (reads_mark wd [x] #[.int .u8 x.toNat] rfl (0, 0))
              have HOX := Lib.hid (byteVals_one [x])
              have HIN := Lib.hid hin1
              have HHX := Lib.hid hx
              clear hcx hino hin1 hx hin d0 d1 d2 hgx hwj hwj2
              go_wp2_with (at_builtin; refine wpList_append_any _ rfl (.tmp 44) (.tmp 54) 26 rfl wo.heap.size 5 i0 (.int .u8 0) 1 1 Try.underlying26 hi hz0 hz1 hz2 rfl (by decide) _ j (byteVals (f.fl.bs.take j)) rfl (HOI.out.alloc _) _ _ 1 1 (byteVals [x]) rfl HRM.out HOX.out (by unfold maxLen; omega) (by omega) (by have := hgd.size; simp; omega) ?_)
              intro v2 w2 hown2 hgr2 _
              have hnx := RIn.next HIN.out hjs HHX.out hgr2 hown2
              have HNX := Lib.hid hnx
              clear hown2 hgr2 hnx
              go_wp2_with fail
              go_roundw
              case rel => exact ⟨j + 1, by omega, by go_num, HNX.out⟩
              case measure => simp [intOf]; omega
          · have hq : ¬ j < f.fl.syn := by omega
            have q1 : decide ((j : Int) < (f.fl.syn : Int)) = false := by simp; omega
            have hq2 : ¬ ((j : Int) - (f.fl.syn : Int) < kk) := by have := HK.out j hjn; omega
            have q2 : decide ((j : Int) - (f.fl.syn : Int) < kk) = false := by simpa using hq2
            have hin1 := hin.drew.skip hjs
            go_wp2_with fail
            refine wp_region_held_drew (S := fun w' => w'.cell? ⟨b, k, none⟩ = some (.slice A0 f.fl.bs.length cp) ∧ w'.cell? ⟨b, 2 + k, none⟩ = some (.int .i64 f.fl.syn) ∧ w'.cell? ⟨kb, k, none⟩ = some (.int .i64 kk)) (by kernel_rfl) (HC.out _ hgx.drew) (fun _ => ?_)
            refine wpAnyH_take (i := 0) (oi := ⟨some 22, _, _, _, _, _⟩) (v := ?_) rfl (by kernel_rfl) (by kernel_rfl) (by kernel_rfl) (fun _ _ _ h => h) (Or.inl ⟨by rfl, ?_⟩) (by assumption) ?_
            rotate_left
            · intro w hSw; obtain ⟨s0, s1, s2⟩ := hSw; go_simp; (try rw [if_pos hk3]); (try simp only [hwj, q2, q1]); (try with_reducible rfl)
            try simp only [Act.put, List.setIfInBounds_toArray, List.set_cons_zero, List.set_cons_succ]
            refine wpAnyH_take (i := 1) (oi := ⟨some 23, _, _, _, _, _⟩) (v := ?_) rfl (by kernel_rfl) (by kernel_rfl) (by kernel_rfl) (fun _ _ _ h => h) (Or.inl ⟨by rfl, ?_⟩) (by assumption) ?_
            rotate_left
            · intro w hSw; obtain ⟨s0, s1, s2⟩ := hSw; go_simp; (try rw [if_pos hk3]); (try simp only [hwj, q2, q1]); (try with_reducible rfl)
            try simp only [Act.put, List.setIfInBounds_toArray, List.set_cons_zero, List.set_cons_succ]
            refine wpAnyH_take (i := 2) (oi := ⟨some 24, _, _, _, _, _⟩) (v := ?_) rfl (by kernel_rfl) (by kernel_rfl) (by kernel_rfl) (fun _ _ _ h => h) (Or.inl ⟨by rfl, ?_⟩) (by assumption) ?_
            rotate_left
            · intro w hSw; obtain ⟨s0, s1, s2⟩ := hSw; go_simp; (try rw [if_pos hk3]); (try simp only [hwj, q2, q1]); (try with_reducible rfl)
            try simp only [Act.put, List.setIfInBounds_toArray, List.set_cons_zero, List.set_cons_succ]
            refine wpAnyH_take (i := 3) (oi := ⟨some 25, _, _, _, _, _⟩) (v := ?_) rfl (by kernel_rfl) (by kernel_rfl) (by kernel_rfl) (fun _ _ _ h => h) (Or.inl ⟨by rfl, ?_⟩) (by assumption) ?_
            rotate_left
            · intro w hSw; obtain ⟨s0, s1, s2⟩ := hSw; go_simp; (try rw [if_pos hk3]); (try simp only [hwj, q2, q1]); (try with_reducible rfl)
            try simp only [Act.put, List.setIfInBounds_toArray, List.set_cons_zero, List.set_cons_succ]
            refine wpAnyH_take (i := 4) (oi := ⟨some 26, _, _, _, _, _⟩) (v := ?_) rfl (by kernel_rfl) (by kernel_rfl) (by kernel_rfl) (fun _ _ _ h => h) (Or.inl ⟨by rfl, ?_⟩) (by assumption) ?_
            rotate_left
            · intro w hSw; obtain ⟨s0, s1, s2⟩ := hSw; go_simp; (try rw [if_pos hk3]); (try simp only [hwj, q2, q1]); (try with_reducible rfl)
            try simp only [Act.put, List.setIfInBounds_toArray, List.set_cons_zero, List.set_cons_succ]
            refine wpAnyH_take (i := 5) (oi := ⟨some 27, _, _, _, _, _⟩) (v := ?_) rfl (by kernel_rfl) (by kernel_rfl) (by kernel_rfl) (fun _ _ _ h => h) (Or.inl ⟨by rfl, ?_⟩) (by assumption) ?_
            rotate_left
            · intro w hSw; obtain ⟨s0, s1, s2⟩ := hSw; go_simp; (try rw [if_pos hk3]); (try simp only [hwj, q2, q1]); (try with_reducible rfl)
            try simp only [Act.put, List.setIfInBounds_toArray, List.set_cons_zero, List.set_cons_succ]
            refine wpAnyH_take (i := 6) (oi := ⟨some 28, _, _, _, _, _⟩) (v := ?_) rfl (by kernel_rfl) (by kernel_rfl) (by kernel_rfl) (fun _ _ _ h => h) (Or.inl ⟨by rfl, ?_⟩) (by assumption) ?_
            rotate_left
            · intro w hSw; obtain ⟨s0, s1, s2⟩ := hSw; go_simp; (try rw [if_pos hk3]); (try simp only [hwj, q2, q1]); (try with_reducible rfl)
            try simp only [Act.put, List.setIfInBounds_toArray, List.set_cons_zero, List.set_cons_succ]
            refine wpAnyH_take (i := 7) (oi := ⟨some 29, _, _, _, _, _⟩) (v := ?_) rfl (by kernel_rfl) (by kernel_rfl) (by kernel_rfl) (fun _ _ _ h => h) (Or.inl ⟨by rfl, ?_⟩) (by assumption) ?_
            rotate_left
            · intro w hSw; obtain ⟨s0, s1, s2⟩ := hSw; go_simp; (try rw [if_pos hk3]); (try simp only [hwj, q2, q1]); (try with_reducible rfl)
            try simp only [Act.put, List.setIfInBounds_toArray, List.set_cons_zero, List.set_cons_succ]
            refine wpAnyH_take (i := 8) (oi := ⟨some 30, _, _, _, _, _⟩) (v := ?_) rfl (by kernel_rfl) (by kernel_rfl) (by kernel_rfl) (fun _ _ _ h => h) (Or.inl ⟨by rfl, ?_⟩) (by assumption) ?_
            rotate_left
            · intro w hSw; obtain ⟨s0, s1, s2⟩ := hSw; go_simp; (try rw [if_pos hk3]); (try simp only [hwj, q2, q1]); (try with_reducible rfl)
            try simp only [Act.put, List.setIfInBounds_toArray, List.set_cons_zero, List.set_cons_succ]
            refine wpAnyH_take (i := 9) (oi := ⟨some 31, _, _, _, _, _⟩) (v := ?_) rfl (by kernel_rfl) (by kernel_rfl) (by kernel_rfl) (fun _ _ _ h => h) (Or.inl ⟨by rfl, ?_⟩) (by assumption) ?_
            rotate_left
            · intro w hSw; obtain ⟨s0, s1, s2⟩ := hSw; go_simp; (try rw [if_pos hk3]); (try simp only [hwj, q2, q1]); (try with_reducible rfl)
            try simp only [Act.put, List.setIfInBounds_toArray, List.set_cons_zero, List.set_cons_succ]
            refine wpAnyH_take (i := 10) (oi := ⟨some 32, _, _, _, _, _⟩) (v := ?_) rfl (by kernel_rfl) (by kernel_rfl) (by kernel_rfl) (fun _ _ _ h => h) (Or.inl ⟨by rfl, ?_⟩) (by assumption) ?_
            rotate_left
            · intro w hSw; obtain ⟨s0, s1, s2⟩ := hSw; go_simp; (try rw [if_pos hk3]); (try simp only [hwj, q2, q1]); (try with_reducible rfl)
            try simp only [Act.put, List.setIfInBounds_toArray, List.set_cons_zero, List.set_cons_succ]
            refine wpAnyH_take (i := 11) (oi := ⟨some 33, _, _, _, _, _⟩) (v := ?_) rfl (by kernel_rfl) (by kernel_rfl) (by kernel_rfl) (fun _ _ _ h => h) (Or.inl ⟨by rfl, ?_⟩) (by assumption) ?_
            rotate_left
            · intro w hSw; obtain ⟨s0, s1, s2⟩ := hSw; go_simp; (try rw [if_pos hk3]); (try simp only [hwj, q2, q1]); (try with_reducible rfl)
            try simp only [Act.put, List.setIfInBounds_toArray, List.set_cons_zero, List.set_cons_succ]
            refine wpAnyH_take (i := 12) (oi := ⟨some 34, _, _, _, _, _⟩) (v := ?_) rfl (by kernel_rfl) (by kernel_rfl) (by kernel_rfl) (fun _ _ _ h => h) (Or.inl ⟨by rfl, ?_⟩) (by assumption) ?_
            rotate_left
            · intro w hSw; obtain ⟨s0, s1, s2⟩ := hSw; go_simp; (try rw [if_pos hk3]); (try simp only [hwj, q2, q1]); (try with_reducible rfl)
            try simp only [Act.put, List.setIfInBounds_toArray, List.set_cons_zero, List.set_cons_succ]
            refine wpAnyH_take (i := 13) (oi := ⟨some 35, _, _, _, _, _⟩) (v := ?_) rfl (by kernel_rfl) (by kernel_rfl) (by kernel_rfl) (fun _ _ _ h => h) (Or.inl ⟨by rfl, ?_⟩) (by assumption) ?_
            rotate_left
            · intro w hSw; obtain ⟨s0, s1, s2⟩ := hSw; go_simp; (try rw [if_pos hk3]); (try simp only [hwj, q2, q1]); (try with_reducible rfl)
            try simp only [Act.put, List.setIfInBounds_toArray, List.set_cons_zero, List.set_cons_succ]
            refine wpAnyH_take (i := 14) (oi := ⟨some 36, _, _, _, _, _⟩) (v := ?_) rfl (by kernel_rfl) (by kernel_rfl) (by kernel_rfl) (fun _ _ _ h => h) (Or.inl ⟨by rfl, ?_⟩) (by assumption) ?_
            rotate_left
            · intro w hSw; obtain ⟨s0, s1, s2⟩ := hSw; go_simp; (try rw [if_pos hk3]); (try simp only [hwj, q2, q1]); (try with_reducible rfl)
            try simp only [Act.put, List.setIfInBounds_toArray, List.set_cons_zero, List.set_cons_succ]
            refine wpAnyH_take (i := 15) (oi := ⟨some 37, _, _, _, _, _⟩) (v := ?_) rfl (by kernel_rfl) (by kernel_rfl) (by kernel_rfl) (fun _ _ _ h => h) (Or.inl ⟨by rfl, ?_⟩) (by assumption) ?_
            rotate_left
            · intro w hSw; obtain ⟨s0, s1, s2⟩ := hSw; go_simp; (try rw [if_pos hk3]); (try simp only [hwj, q2, q1]); (try with_reducible rfl)
            try simp only [Act.put, List.setIfInBounds_toArray, List.set_cons_zero, List.set_cons_succ]
            refine wpAnyH_take (i := 16) (oi := ⟨some 38, _, _, _, _, _⟩) (v := ?_) rfl (by kernel_rfl) (by kernel_rfl) (by kernel_rfl) (fun _ _ _ h => h) (Or.inl ⟨by rfl, ?_⟩) (by assumption) ?_
            rotate_left
            · intro w hSw; obtain ⟨s0, s1, s2⟩ := hSw; go_simp; (try rw [if_pos hk3]); (try simp only [hwj, q2, q1]); (try with_reducible rfl)
            try simp only [Act.put, List.setIfInBounds_toArray, List.set_cons_zero, List.set_cons_succ]
            refine wpAnyH_take (i := 17) (oi := ⟨some 39, _, _, _, _, _⟩) (v := ?_) rfl (by kernel_rfl) (by kernel_rfl) (by kernel_rfl) (fun _ _ _ h => h) (Or.inl ⟨by rfl, ?_⟩) (by assumption) ?_
            rotate_left
            · intro w hSw; obtain ⟨s0, s1, s2⟩ := hSw; go_simp; (try rw [if_pos hk3]); (try simp only [hwj, q2, q1]); (try with_reducible rfl)
            try simp only [Act.put, List.setIfInBounds_toArray, List.set_cons_zero, List.set_cons_succ]
            refine wpAnyH_take (i := 18) (oi := ⟨some 40, _, _, _, _, _⟩) (v := ?_) rfl (by kernel_rfl) (by kernel_rfl) (by kernel_rfl) (fun _ _ _ h => h) (Or.inl ⟨by rfl, ?_⟩) (by assumption) ?_
            rotate_left
            · intro w hSw; obtain ⟨s0, s1, s2⟩ := hSw; go_simp; (try rw [if_pos hk3]); (try simp only [hwj, q2, q1]); (try with_reducible rfl)
            try simp only [Act.put, List.setIfInBounds_toArray, List.set_cons_zero, List.set_cons_succ]
            refine wpAnyH_take (i := 19) (oi := ⟨some 41, _, _, _, _, _⟩) (v := ?_) rfl (by kernel_rfl) (by kernel_rfl) (by kernel_rfl) (fun _ _ _ h => h) (Or.inl ⟨by rfl, ?_⟩) (by assumption) ?_
            rotate_left
            · intro w hSw; obtain ⟨s0, s1, s2⟩ := hSw; go_simp; (try rw [if_pos hk3]); (try simp only [hwj, q2, q1]); (try with_reducible rfl)
            try simp only [Act.put, List.setIfInBounds_toArray, List.set_cons_zero, List.set_cons_succ]
            refine wpAnyH_take (i := 20) (oi := ⟨some 42, _, _, _, _, _⟩) (v := ?_) rfl (by kernel_rfl) (by kernel_rfl) (by kernel_rfl) (fun _ _ _ h => h) (Or.inl ⟨by rfl, ?_⟩) (by assumption) ?_
            rotate_left
            · intro w hSw; obtain ⟨s0, s1, s2⟩ := hSw; go_simp; (try rw [if_pos hk3]); (try simp only [hwj, q2, q1]); (try with_reducible rfl)
            try simp only [Act.put, List.setIfInBounds_toArray, List.set_cons_zero, List.set_cons_succ]
            refine wpAnyH_take (i := 21) (oi := ⟨some 43, _, _, _, _, _⟩) (v := ?_) rfl (by kernel_rfl) (by kernel_rfl) (by kernel_rfl) (fun _ _ _ h => h) (Or.inl ⟨by rfl, ?_⟩) (by assumption) ?_
            rotate_left
            · intro w hSw; obtain ⟨s0, s1, s2⟩ := hSw; go_simp; (try rw [if_pos hk3]); (try simp only [hwj, q2, q1]); (try with_reducible rfl)
            try simp only [Act.put, List.setIfInBounds_toArray, List.set_cons_zero, List.set_cons_succ]
            try simp only [hwj2, q2]
            refine wpAnyH_done (by kernel_rfl) ?_ _
            go_wp2_with fail
            go_roundw
            case rel => exact ⟨j + 1, by omega, by go_num, hin1⟩
            case measure => simp [intOf]; omega
        · obtain rfl : j = f.fl.bs.length := by omega
          have q0 : decide ((f.fl.bs.length : Int) < (f.fl.bs.length : Int)) = false := by simp
          have ho := hin.2
          rw [show min f.fl.bs.length st = st by omega] at ho
          obtain ⟨A5, c5, rfl⟩ := own_slice ho
          have z0 := Blk.frozen (Blk.chg hblk hgx (by simp)) k
          have z1 := Blk.frozen (Blk.chg hblk hgx (by simp)) (2 + k)
          have hrel1 := HX.out _ _ hgx ho
          go_wp2_with fail
          go_roundw
          case rel => exact ⟨k + 1, by omega, by go_num, hrel1⟩
          case measure => simp [intOf]; omega
    · obtain rfl : k = 2 := by omega
      obtain ⟨fs', hst, hfl, _, _⟩ := hr
      go_wp2_with fail
      go_end0
      exact ⟨rfl, fs', hst, hfl⟩

end Go.Proofs.Ytbgofhbanhanfaa
