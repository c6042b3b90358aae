/-
  Package tree: copied.
-/
import Derived.Test.YtbadkkilblgpmaaDoorTD
namespace Go.Proofs.YtbadkkilblgpmaaDoor
open Go.RowKit

theorem Tryd.info91 : (Tryd.prog.info? 91).map (fun i => (i.zero, i.size, i.bytes)) = some (some (.agg #[.string ⟨#[]⟩, .slice none 0 0]), 2, 40) := by kernel_rfl
theorem make25 (n : Nat) (hn : n < 1000000) (W : World) : ∃ cs : Array Value, cs.size = n * 2 ∧ (Instr.makeSlice 40 (.int .i64 n) (.int .i64 n)).run Tryd.prog W =
    .ok (.slice (some ⟨W.heap.size, 0, none⟩) n n) (W.alloc (.cells cs 91)) := by
  obtain ⟨i0, hi, hz0, hz1, hz2⟩ := info_parts Tryd.info91
  have hr := run_make (P := Tryd.prog) W 40 91 i0 (.agg #[.string ⟨#[]⟩, .slice none 0 0]) Tryd.underlying40 hi hz0 .i64 .i64 (n : Int) (n : Int) (by omega) (by omega) (by rw [hz2]; omega) (by omega)
  rw [hr, Int.toNat_natCast, hz1]
  exact ⟨_, size_madeCells _ _, rfl⟩

/-- The first files of a tree, copied: the row in block g, each file's bytes in memory of their own. -/
structure CopyAt (w0 wr : World) (g n : Nat) (L M : List Fil) (k : Nat) : Prop where
  len : M.length = k
  blk : ∃ cs : Array Value, Blk wr g cs 91 ∧ cs.size = n * 2 ∧ ∀ (i : Nat) (m : Fil), M[i]? = some m → cs[i * 2]? = some (.string ⟨m.p.toArray⟩) ∧ cs[i * 2 + 1]? = some (.slice m.A m.x.length m.c)
  same : ∀ (i : Nat) (m f : Fil), M[i]? = some m → L[i]? = some f → m.p = f.p ∧ m.x = f.x
  own : ∀ m ∈ M, wr.ownsRow w0.heap.size 5 1 (.slice m.A m.x.length m.c) m.x.length (byteVals m.x)
  base : w0.heap.size ≤ g
  chg : Chg none w0 wr
theorem own_other {w : World} {base n g : Nat} {v : Value} {xs : List Value} {cs : Array Value} {T : TypeId} (h : w.ownsRow base 5 1 v n xs) (hb : Blk w g cs T) (hT : T ≠ 5) : v.ownBlock ≠ some g := by
  intro e
  rcases h.2 with ⟨rfl, _⟩ | ⟨g', cap, cur, rfl, _, hg, _⟩
  · cases e
  · have e2 : g' = g := by simpa [Value.ownBlock] using e
    subst e2
    unfold Blk at hb
    rw [hg] at hb
    injection hb with hb
    injection hb with _ h2
    exact hT h2.symm
theorem CopyAt.on {w0 wr w' : World} {g n k : Nat} {L M : List Fil} (h : CopyAt w0 wr g n L M k) (hc : Chg none wr w') : CopyAt w0 w' g n L M k := by
  obtain ⟨cs, h1, h2, h3⟩ := h.blk
  exact ⟨h.len, ⟨cs, h1.chg hc (by simp), h2, h3⟩, h.same, fun m hm => own_chgW (h.own m hm) hc, h.base, h.chg.trans hc⟩
theorem CopyAt.step {w0 v : World} {g n k : Nat} {L M : List Fil} {f m : Fil} (h : CopyAt w0 v g n L M k) (hf : L[k]? = some f) (hp : m.p = f.p) (hx : m.x = f.x) (hk : k < n)
    (ho : v.ownsRow w0.heap.size 5 1 (.slice m.A m.x.length m.c) m.x.length (byteVals m.x)) :
    CopyAt w0 ((v.setCell ⟨g, k * 2, none⟩ (.string ⟨m.p.toArray⟩)).setCell ⟨g, k * 2 + 1, none⟩ (.slice m.A m.x.length m.c)) g n L (M ++ [m]) (k + 1) := by
  obtain ⟨cs, h1, h2, h3⟩ := h.blk
  have hgr : Chg (some g) v ((v.setCell ⟨g, k * 2, none⟩ (.string ⟨m.p.toArray⟩)).setCell ⟨g, k * 2 + 1, none⟩ (.slice m.A m.x.length m.c)) := ((Chg.refl _ _).setCell _ _).setCell _ _
  refine ⟨by rw [List.length_append, h.len]; rfl, ⟨_, (h1.set _ _).set _ _, by simp [h2], fun i m' hi => ?_⟩, fun i m' f' hi hf' => ?_, fun m' hm' => ?_, h.base, Chg.own (b := g) h.chg hgr h.base⟩
  · rcases Nat.lt_or_ge i k with hik | hik
    · rw [List.getElem?_append_left (by rw [h.len]; exact hik)] at hi
      have := h3 i m' hi
      rw [Array.getElem?_setIfInBounds_ne (by omega), Array.getElem?_setIfInBounds_ne (by omega), Array.getElem?_setIfInBounds_ne (by omega), Array.getElem?_setIfInBounds_ne (by omega)]
      exact this
    · have hlt := (List.getElem?_eq_some_iff.1 hi).1
      rw [List.length_append, h.len] at hlt
      obtain rfl : i = k := by simp at hlt; omega
      rw [List.getElem?_append_right (by rw [h.len]; exact Nat.le_refl _), h.len, Nat.sub_self] at hi
      obtain rfl : m = m' := by simpa using hi
      rw [Array.getElem?_setIfInBounds_ne (by omega)]
      have hs1 : i * 2 < cs.size := by omega
      have hs2 : i * 2 + 1 < cs.size := by omega
      refine ⟨?_, ?_⟩
      · simp [hs1]
      · simp [hs2]
  · rcases Nat.lt_or_ge i k with hik | hik
    · rw [List.getElem?_append_left (by rw [h.len]; exact hik)] at hi
      exact h.same i m' f' hi hf'
    · have hlt := (List.getElem?_eq_some_iff.1 hi).1
      rw [List.length_append, h.len] at hlt
      obtain rfl : i = k := by simp at hlt; omega
      rw [List.getElem?_append_right (by rw [h.len]; exact Nat.le_refl _), h.len, Nat.sub_self] at hi
      obtain rfl : m = m' := by simpa using hi
      obtain rfl := Option.some.inj (hf.symm.trans hf')
      exact ⟨hp, hx⟩
  · rcases List.mem_append.1 hm' with hm | hm
    · exact World.ownsRow.kept (h.own m' hm) hgr (.inr (own_other (h.own m' hm) h1 (by decide)))
    · obtain rfl := List.mem_singleton.1 hm
      exact World.ownsRow.kept ho hgr (.inr (own_other ho h1 (by decide)))

set_option maxHeartbeats 16000000 in
set_option maxRecDepth 100000 in
theorem copied_any (L : List Fil) (A : Option Addr) (c : Nat) (w : World) (hT : TreeAt w A L) (hl : L.length ≤ 1000) (hx : ∀ f ∈ L, f.x.length ≤ 1000000) :
    Calls Tryd.prog 114 #[.slice A L.length c] w fun e w' => ∃ g M, e = .returned (.slice (some ⟨g, 0, none⟩) L.length L.length) ∧ CopyAt w w' g L.length L M L.length := by
  have HT : Hid (∀ v, Chg none w v → TreeAt v A L) := fun v g => hT.chg g
  have HX := Lib.hid hx
  obtain ⟨cs, hcs, hmk⟩ := make25 L.length (by omega) w
  have hC0 : CopyAt w (w.alloc (.cells cs 91)) w.heap.size L.length L [] 0 := ⟨rfl, ⟨cs, Blk.new _ _ _, hcs, fun i m h => by simp at h⟩, fun i m f h => by simp at h, fun m h => (by cases h), Nat.le_refl _, (Chg.refl _ _).alloc _⟩
  have HC0 := Lib.hid hC0
  clear hT hx hC0
  go_enter Tryd.func114, Tryd.ntmps114
  go_wp2_with fail
  clear hmk
  generalize w.alloc (.cells cs 91) = w1 at *
  obtain ⟨g, hg⟩ : ∃ g, g = w.heap.size := ⟨_, rfl⟩
  rw [← hg] at HC0 ⊢
  clear hg hcs
  go_loopw [11] (fun s11 wr => ∃ (k : Nat) (M : List Fil), s11 = .int .i64 k ∧ Hid (k ≤ L.length) ∧ Hid (CopyAt w wr g L.length L M k)) (fun s11 _ => L.length - (intOf s11).toNat)
  case atStart => exact ⟨0, [], rfl, Lib.hid (Nat.zero_le _), HC0⟩
  case round =>
    obtain ⟨k, M, rfl, H1, H2⟩ := hrel
    by_cases hlt : k < L.length
    · have hd : decide ((k : Int) < (L.length : Int)) = true := by rw [decide_eq_true_eq]; omega
      obtain ⟨x, hkx⟩ : ∃ x, L[k]? = some x := ⟨_, List.getElem?_eq_getElem hlt⟩
      have hne : L ≠ [] := by intro e; subst e; simp at hlt
      have HRW := Lib.hid (HT.out wr H2.out.chg)
      obtain ⟨b, off, rfl, -, -⟩ := HRW.out.1 hne
      obtain ⟨hb, x0, x1⟩ := HRW.out.1.two hkx
      have HLT := Lib.hid hlt
      have HKX := Lib.hid hkx
      have HTX : Hid (∀ v, Chg none w v → x.ok v) := fun v g => (HT.out v g).2 x (List.mem_of_getElem? hkx)
      have HXL := Lib.hid (HX.out x (List.mem_of_getElem? hkx))
      obtain ⟨V0, hV⟩ : ∃ V0, V0 = wr := ⟨_, rfl⟩
      rw [← hV] at hb x0 x1 H2 ⊢
      clear hV hkx hne HRW HT hlt HC0
      obtain ⟨fp, fA, fx, fc⟩ := x
      dsimp only at x0 x1 HXL
      go_upto_region 5 with fail
      have HG0 : Hid (Chg none V0 (V0.alloc (.cells #[.string ⟨fp.toArray⟩, .slice fA fx.length fc] 91)).drew) := ((Chg.refl _ _).alloc _).drew
      have hX0 : Blk (V0.alloc (.cells #[.string ⟨fp.toArray⟩, .slice fA fx.length fc] 91)).drew V0.heap.size #[.string ⟨fp.toArray⟩, .slice fA fx.length fc] 91 := Blk.drew (Blk.new _ _ _)
      refine wp_region_held_drew (S := fun v => Blk v V0.heap.size #[.string ⟨fp.toArray⟩, .slice fA fx.length fc] 91) (by kernel_rfl) hX0 (fun _ => ?_)
      have HPG : Hid (V0.heap.size ≠ g) := by obtain ⟨cs2, h1, -, -⟩ := H2.out.blk; have := h1.lt; show _ ≠ _; omega
      generalize (V0.alloc (.cells #[.string ⟨fp.toArray⟩, .slice fA fx.length fc] 91)).drew = v0 at *
      generalize V0.heap.size = PX at *
      have HC1 := Lib.hid (H2.out.on HG0.out)
      have HCL := Lib.hid (clone27 fA fx fc v0 (HTX.out v0 HC1.out.chg).nil (txt_reads (HTX.out v0 HC1.out.chg).t) HXL.out)
      clear x0 x1 hb H2 HG0
      refine wpAnyH_take (i := 0) (oi := ⟨some 16, _, _, _, _, _⟩) (v := ?_) rfl (by kernel_rfl) (by kernel_rfl) (by kernel_rfl) (fun _ _ _ h => h) (Or.inl ⟨by rfl, ?_⟩) (by assumption) ?_
      rotate_left
      · intro w hSw; (try dsimp only at hSw); go_simp; (try with_reducible rfl)
      try simp only [Act.put, List.setIfInBounds_toArray, List.set_cons_zero, List.set_cons_succ]
      refine wpAnyH_take (i := 1) (oi := ⟨some 17, _, _, _, _, _⟩) (v := ?_) rfl (by kernel_rfl) (by kernel_rfl) (by kernel_rfl) (fun _ _ _ h => h) (Or.inl ⟨by rfl, ?_⟩) (by assumption) ?_
      rotate_left
      · intro w hSw; (try dsimp only at hSw); go_simp; (try with_reducible rfl)
      try simp only [Act.put, List.setIfInBounds_toArray, List.set_cons_zero, List.set_cons_succ]
      refine wpAnyH_take (i := 2) (oi := ⟨some 18, _, _, _, _, _⟩) (v := ?_) rfl (by kernel_rfl) (by kernel_rfl) (by kernel_rfl) (fun _ _ _ h => h) (Or.inl ⟨by rfl, ?_⟩) (by assumption) ?_
      rotate_left
      · intro w hSw; (try dsimp only at hSw); go_simp; (try with_reducible rfl)
      try simp only [Act.put, List.setIfInBounds_toArray, List.set_cons_zero, List.set_cons_succ]
      refine wpAnyH_take (i := 3) (oi := ⟨some 19, _, _, _, _, _⟩) (v := .string ⟨fp.toArray⟩) rfl (by kernel_rfl) (by kernel_rfl) (by kernel_rfl) (fun _ _ _ h => h) (Or.inl ⟨by rfl, ?_⟩) (by assumption) ?_
      · intro v hSv; have z : v.cell? ⟨PX, 0, none⟩ = some (.string ⟨fp.toArray⟩) := hSv.cell 0; go_simp
      try simp only [Act.put, List.setIfInBounds_toArray, List.set_cons_zero, List.set_cons_succ]
      refine wpAnyH_take (i := 4) (oi := ⟨some 20, _, _, _, _, _⟩) (v := ?_) rfl (by kernel_rfl) (by kernel_rfl) (by kernel_rfl) (fun _ _ _ h => h) (Or.inl ⟨by rfl, ?_⟩) (by assumption) ?_
      rotate_left
      · intro w hSw; (try dsimp only at hSw); go_simp; (try with_reducible rfl)
      try simp only [Act.put, List.setIfInBounds_toArray, List.set_cons_zero, List.set_cons_succ]
      refine wpAnyH_take (i := 5) (oi := ⟨some 21, _, _, _, _, _⟩) (v := .slice fA fx.length fc) rfl (by kernel_rfl) (by kernel_rfl) (by kernel_rfl) (fun _ _ _ h => h) (Or.inl ⟨by rfl, ?_⟩) (by assumption) ?_
      · intro v hSv; have z : v.cell? ⟨PX, 1, none⟩ = some (.slice fA fx.length fc) := hSv.cell 1; go_simp
      try simp only [Act.put, List.setIfInBounds_toArray, List.set_cons_zero, List.set_cons_succ]
      refine wpAnyH_ready (rs := [6]) (by kernel_rfl) (by simp) ?_
      refine AllReadyH.cons (o := ⟨some 22, _, _, _, _, _⟩) rfl (fun K hK => ?_) (AllReadyH.nil)
      go_simp
      go_at_call 112
      refine HCL.out.mono ?_
      rintro e v1 ⟨A1, n1, c1, rfl, rfl, hown1, hb1⟩
      have k1 : Chg none v0 v1 := ⟨hb1.os, hb1.tape, hb1.output, hb1.size, fun k hk _ => hb1.block k hk⟩
      have hX1 := hX0.chg k1 (by simp)
      have HC2 := Lib.hid (HC1.out.on k1)
      have HOW := Lib.hid (World.ownsRow.mono hown1 HC1.out.chg.size)
      clear hown1 hb1
      go_wp2_with fail
      refine hK.out _ _ hX1 (fun _ => ?_)
      clear hK K
      try simp only [Act.put, List.setIfInBounds_toArray, List.set_cons_zero, List.set_cons_succ]
      refine wpAnyH_take (i := 7) (oi := ⟨some 23, _, _, _, _, _⟩) (v := ?_) rfl (by kernel_rfl) (by kernel_rfl) (by kernel_rfl) (fun _ _ _ h => h) (Or.inl ⟨by rfl, ?_⟩) (by assumption) ?_
      rotate_left
      · intro w hSw; (try dsimp only at hSw); go_simp; (try with_reducible rfl)
      try simp only [Act.put, List.setIfInBounds_toArray, List.set_cons_zero, List.set_cons_succ]
      refine wpAnyH_take (i := 8) (oi := ⟨some 24, _, _, _, _, _⟩) (v := ?_) rfl (by kernel_rfl) (by kernel_rfl) (by kernel_rfl) (fun _ _ _ h => h) (Or.inl ⟨by rfl, ?_⟩) (by assumption) ?_
      rotate_left
      · intro w hSw; (try dsimp only at hSw); go_simp; (try with_reducible rfl)
      try simp only [Act.put, List.setIfInBounds_toArray, List.set_cons_zero, List.set_cons_succ]
      refine wpAnyH_ready (rs := [9]) (by kernel_rfl) (by simp) ?_
      refine AllReadyH.cons (o := ⟨none, _, _, _, _, _⟩) rfl (fun K hK => ?_) (AllReadyH.nil)
      obtain ⟨cs2, hcb, hcz, -⟩ := HC2.out.blk
      have hkl := HLT.out
      have y0 : ∃ z, v1.cell? ⟨g, k * 2, none⟩ = some z := ⟨cs2[k * 2]'(by omega), by rw [hcb.cell, Array.getElem?_eq_getElem]⟩
      have y1 : ∃ z, v1.cell? ⟨g, k * 2 + 1, none⟩ = some z := ⟨cs2[k * 2 + 1]'(by omega), by rw [hcb.cell, Array.getElem?_eq_getElem]⟩
      obtain ⟨z0, y0⟩ := y0
      obtain ⟨z1, y1⟩ := y1
      have t0 : v1.frozen? ⟨g, k * 2, none⟩ = false := hcb.frozen _
      have t1 : v1.frozen? ⟨g, k * 2 + 1, none⟩ = false := hcb.frozen _
      have HC3 := Lib.hid (HC2.out.step (m := ⟨fp, A1, fx, c1⟩) HKX.out rfl rfl HLT.out HOW.out)
      clear hcb hkl
      go_simp
      refine hK.out _ _ ((hX1.setOther _ _ HPG.out).setOther _ _ HPG.out) (fun _ => ?_)
      clear hK K
      refine wpAnyH_done (by kernel_rfl) ?_ _
      try simp only [Act.put]
      clear y0 y1 t0 t1
      go_wp2_with fail
      go_roundw
      case rel => exact ⟨k + 1, _, by first | rfl | (simp; done), Lib.hid HLT.out, HC3⟩
      case measure =>
        have := HLT.out
        first | omega | (simp only [intOf]; omega) | (simp [intOf]; omega)
    · have hd : decide (k < L.length) = false := by rw [decide_eq_false_iff_not]; exact hlt
      have hd2 : decide ((k : Int) < (L.length : Int)) = false := by rw [decide_eq_false_iff_not]; omega
      obtain rfl : k = L.length := by have := H1.out; omega
      clear hlt HT HC0
      go_wp2_with fail
      go_ret
      exact ⟨g, M, rfl, H2.out⟩

end Go.Proofs.YtbadkkilblgpmaaDoor
