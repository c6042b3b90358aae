/-
  Package wire: List.
-/
import Derived.Test.YtkbhhejnhjhacaaG
import Derived.Deep.Onto
namespace Go.Proofs.Ytkbhhejnhjhacaa
open Go.RowKit

theorem Try.info22 : (Try.prog.info? 22).map (fun i => (i.zero, i.size, i.bytes)) = some (some (.slice none 0 0), 1, 24) := by kernel_rfl

abbrev ListRes := List (List UInt8) × Int × Int
def joinR (acc : List (List UInt8)) (t : ListRes) : ListRes := if t.2.2 = 0 then (acc ++ t.1, t.2.1, 0) else ([], 0, t.2.2)
theorem joinR_joinR (a b : List (List UInt8)) (t : ListRes) : joinR a (joinR b t) = joinR (a ++ b) t := by
  unfold joinR
  by_cases h : t.2.2 = 0
  · simp [h]
  · simp [h]
/-- So many rows, from a place on. -/
def readRows (bs : List UInt8) (most : Int) : Nat → Int → ListRes
  | 0, next => ([], next, 0)
  | k + 1, next => if (readB bs next most).2.2 = 0 then joinR [(readB bs next most).1] (readRows bs most k (readB bs next most).2.1) else ([], 0, (readB bs next most).2.2)
/-- List. -/
def readL (bs : List UInt8) (place many most : Int) : ListRes :=
  if (readC bs place many).2.2 = 0 then readRows bs most (readC bs place many).1 (readC bs place many).2.1 else ([], 0, (readC bs place many).2.2)

/-- The rows that were gathered: all of the call's own. -/
structure Gath (w : World) (base : Nat) (v : Value) (n : Nat) (rows : List Row) : Prop where
  len : n = rows.length
  list : w.ownsRow base 22 1 v n (rows.map Row.val)
  each : ∀ r ∈ rows, w.ownsRow base 5 1 r.val r.bs.length (byteVals r.bs)

theorem Gath.kept {w w' : World} {base n : Nat} {v : Value} {rows : List Row} (h : Gath w base v n rows) (hb : Below w.heap.size w w') : Gath w' base v n rows := by
  have hg : w.grownBy w' none := ⟨hb.os, hb.tape, hb.output, hb.size, fun i hi _ => hb.block i hi⟩
  refine ⟨h.len, h.list.kept hg ?_, fun r hr => (h.each r hr).kept hg ?_⟩
  · cases v.ownBlock <;> simp
  · cases r.val.ownBlock <;> simp

theorem own_blk_ne {w : World} {base e e' size size' n n' : Nat} {v v' : Value} {xs xs' : List Value} (h : w.ownsRow base e size v n xs) (h' : w.ownsRow base e' size' v' n' xs') (hne : e ≠ e') :
    v.ownBlock = none ∨ v.ownBlock ≠ v'.ownBlock := by
  rcases h.2 with ⟨rfl, _⟩ | ⟨g, cap, cur, rfl, _, hh, _⟩
  · left; rfl
  · right
    rcases h'.2 with ⟨rfl, _⟩ | ⟨g', cap', cur', rfl, _, hh', _⟩
    · simp [Value.ownBlock]
    · intro he
      have : g = g' := by simpa [Value.ownBlock] using he
      subst this
      rw [hh] at hh'
      injection hh' with hh'
      injection hh' with _ ht
      exact hne ht

theorem reads_val (w : World) (v : Value) : Reads (w.alloc (.cells #[v] 22 (0, 0))) (w.alloc (.cells #[v] 22 (0, 0))).heap.size 1 (some ⟨w.heap.size, 0, none⟩) 1 [v] :=
  ⟨rfl, fun _ => ⟨_, rfl, by simp, fun j u hu => by
    match j, hu with
    | 0, hu =>
      simp only [List.getElem?_cons_zero, Option.some.injEq] at hu
      subst hu
      rw [Go.WideShapes.add_plain, Nat.zero_add, (Blk.new w _ 22).cell]; rfl⟩⟩

theorem own_far {w : World} {base e size n : Nat} {v : Value} {xs : List Value} (h : w.ownsRow base e size v n xs) (a : Addr) (u : Value) (ha : a.block < base) : (w.setCell a u).ownsRow base e size v n xs := by
  refine ⟨h.1, ?_⟩
  rcases h.2 with h1 | ⟨g, cap, cur, h1, h2, h3, h4⟩
  · exact .inl h1
  · exact .inr ⟨g, cap, cur, h1, h2, (Below.heap_setCell w a u g (by omega)).trans h3, h4⟩
theorem Gath.far {w : World} {base n : Nat} {v : Value} {rows : List Row} (h : Gath w base v n rows) (a : Addr) (u : Value) (ha : a.block < base) : Gath (w.setCell a u) base v n rows :=
  ⟨h.len, own_far h.list a u ha, fun r hr => own_far (h.each r hr) a u ha⟩

/-- List, under way: what it has in hand, in blocks H to H + 3. -/
structure LSt (w0 w : World) (H : Nat) (A : Option Addr) (bs : List UInt8) (c : Nat) (most next : Int) (rows : List Row) (Al : Option Addr) (nl cl : Nat) : Prop where
  b0 : Blk w H #[.slice A bs.length c] 22
  b1 : Blk w (H + 1) #[.int .i64 most] 3
  b2 : Blk w (H + 2) #[.slice Al nl cl] 24
  b3 : Blk w (H + 3) #[.int .i64 next] 3
  rd : Reads w H 1 A bs.length (byteVals bs)
  ga : Gath w (H + 4) (.slice Al nl cl) nl rows
  bl : Below H w0 w
  sz : H + 4 ≤ w.heap.size

theorem LSt.kept {w0 w w' : World} {H : Nat} {A : Option Addr} {bs : List UInt8} {c : Nat} {most next : Int} {rows : List Row} {Al : Option Addr} {nl cl : Nat} (h : LSt w0 w H A bs c most next rows Al nl cl)
    (hb : Below w.heap.size w w') : LSt w0 w' H A bs c most next rows Al nl cl := by
  have hs := h.sz
  have hg : Chg none w w' := ⟨hb.os, hb.tape, hb.output, hb.size, fun i hi _ => hb.block i hi⟩
  exact ⟨h.b0.chg hg (by simp), h.b1.chg hg (by simp), h.b2.chg hg (by simp), h.b3.chg hg (by simp), h.rd.below (hb.mono (by omega)), h.ga.kept hb, h.bl.trans (hb.mono (by omega)), Nat.le_trans h.sz hb.size⟩

/-- One row more has been gathered: what stands behind the append, and behind the two stores. -/
theorem LSt.step {w0 wb w1 w2 : World} {H : Nat} {A : Option Addr} {bs : List UInt8} {c : Nat} {most next : Int} {rows : List Row} {Al : Option Addr} {nl cl : Nat} {r : Row} {A2 : Option Addr} {c2 : Nat}
    (h : LSt w0 w1 H A bs c most next rows Al nl cl) (hB : H + 4 ≤ wb.heap.size) (hr : w1.ownsRow wb.heap.size 5 1 (.slice r.A r.bs.length r.c) r.bs.length (byteVals r.bs))
    (hown : w2.ownsRow (H + 4) 22 1 (.slice A2 (nl + 1) c2) (nl + 1) (rows.map Row.val ++ [.slice r.A r.bs.length r.c]))
    (hg : (w1.alloc (.cells #[.slice r.A r.bs.length r.c] 22)).grownBy w2 (Value.slice Al nl cl).ownBlock) :
    (Blk w2 (H + 2) #[.slice Al nl cl] 24 ∧ Blk w2 (H + 3) #[.int .i64 next] 3) ∧
      ∀ nx, LSt w0 ((w2.setCell ⟨H + 2, 0, none⟩ (.slice A2 (nl + 1) c2)).setCell ⟨H + 3, 0, none⟩ (.int .i64 nx)) H A bs c most nx (rows ++ [r]) A2 (nl + 1) c2 := by
  have hrow : ∀ g, (Value.slice Al nl cl).ownBlock = some g → H + 4 ≤ g := fun g e => (h.ga.list.lt g e).1
  have hne : ∀ k, k < H + 4 → some k ≠ (Value.slice Al nl cl).ownBlock := fun k hk e => by have := hrow k e.symm; omega
  have b0 := (h.b0.alloc (.cells #[.slice r.A r.bs.length r.c] 22)).chg hg (hne _ (by omega))
  have b1 := (h.b1.alloc (.cells #[.slice r.A r.bs.length r.c] 22)).chg hg (hne _ (by omega))
  have b2 := (h.b2.alloc (.cells #[.slice r.A r.bs.length r.c] 22)).chg hg (hne _ (by omega))
  have b3 := (h.b3.alloc (.cells #[.slice r.A r.bs.length r.c] 22)).chg hg (hne _ (by omega))
  have hs1 := h.sz
  have hbl : Below (H + 4) w1 w2 := ((Below.refl (H + 4) w1).alloc (by omega) _).grown hg (by simp; omega) (fun g e => hrow g e)
  refine ⟨⟨b2, b3⟩, fun nx => ?_⟩
  have hga : Gath w2 (H + 4) (.slice A2 (nl + 1) c2) (nl + 1) (rows ++ [r]) := by
    refine ⟨by rw [List.length_append, List.length_singleton, h.ga.len], by rw [List.map_append]; exact hown, fun q hq => ?_⟩
    rcases List.mem_append.1 hq with hq | hq
    · exact ((h.ga.each q hq).alloc _).kept hg (own_blk_ne ((h.ga.each q hq).alloc (.cells #[.slice r.A r.bs.length r.c] 22)) (h.ga.list.alloc _) (by decide))
    · rw [List.mem_singleton] at hq
      subst hq
      have hr' := World.ownsRow.mono hr hB
      exact (hr'.alloc _).kept hg (own_blk_ne (hr'.alloc (.cells #[.slice q.A q.bs.length q.c] 22)) (h.ga.list.alloc _) (by decide))
  have c2' := b2.set 0 (.slice A2 (nl + 1) c2)
  have c3' := (b3.setOther ⟨H + 2, 0, none⟩ (.slice A2 (nl + 1) c2) (by simp)).set 0 (.int .i64 nx)
  refine ⟨(b0.setOther _ _ (by simp)).setOther _ _ (by simp), (b1.setOther _ _ (by simp)).setOther _ _ (by simp), c2'.setOther _ _ (by simp), c3', ?_, (hga.far _ _ (by simp)).far _ _ (by simp), ?_, ?_⟩
  · exact ((h.rd.below (hbl.mono (by omega))).setCell (by simp) _).setCell (by simp) _
  · exact ((h.bl.trans (hbl.mono (by omega))).setCell (by simp) _).setCell (by simp) _
  · have := hbl.size
    simp [World.setCell]; omega

set_option maxHeartbeats 4000000 in
theorem gather_yes (w0 w : World) (H : Nat) (A : Option Addr) (bs : List UInt8) (c : Nat) (most next : Int) (rows : List Row) (Al : Option Addr) (nl cl : Nat) (h : LSt w0 w H A bs c most next rows Al nl cl)
    (hcap : bs.length ≤ c) (hl : bs.length ≤ 1000000) (hm : most ≤ 9223372036854775807) (hrows : rows.length ≤ 1000000) (x : List UInt8) (nx : Int) (hq : readB bs next most = (x, nx, 0)) :
    Calls Try.prog 28 #[.pointer (some ⟨H, 0, none⟩), .pointer (some ⟨H + 3, 0, none⟩), .pointer (some ⟨H + 1, 0, none⟩), .pointer (some ⟨H + 2, 0, none⟩)] w
      fun e w' => e = .returned (.int .i64 0) ∧ ∃ r Al' nl' cl', r.bs = x ∧ LSt w0 w' H A bs c most nx (rows ++ [r]) Al' nl' cl' := by
  obtain ⟨i0, hi, hz0, hz1, hz2⟩ := info_parts Try.info22
  have hs := h.sz
  have HB := Lib.hid (bytes_any A bs c next most w (h.rd.more (by omega)) hcap hl hm)
  have c0 := h.b0.cell 0
  have c1 := h.b1.cell 0
  have c3 := h.b3.cell 0
  rw [hq] at HB
  have HH := Lib.hid h
  simp only [List.getElem?_toArray, List.getElem?_cons_zero] at c0 c1 c3
  clear h hq
  have hnl9 : nl ≤ 1000000 := by have := HH.out.ga.len; omega
  go_enter Try.func28, Try.ntmps28
  go_wp2_with fail
  refine HB.out.mono ?_
  rintro e w1 ⟨Ax, n1, cx, rfl, hn1, hown1, hb1⟩
  dsimp only at hn1
  subst hn1
  have h1 := HH.out.kept hb1
  dsimp only at hown1
  have hs1 := h1.sz
  have c2 := h1.b2.cell 0
  simp only [List.getElem?_toArray, List.getElem?_cons_zero] at c2
  have HLIST := Lib.hid h1.ga.list
  have HR1 := Lib.hid (reads_val w1 (.slice Ax x.length cx))
  have HO1 : Hid (∀ u ∈ [Value.slice Ax x.length cx], u.oneCell' = true) := by intro u hu; simp at hu; subst hu; rfl
  have HOWN1 := Lib.hid hown1
  have H1 := Lib.hid h1
  clear hown1 h1 HH HB c0 c1 c3
  go_wp2_with (at_builtin; refine wpList_append_any _ rfl (.tmp 18) (.tmp 20) 24 rfl (H + 4) 22 i0 (.slice none 0 0) 1 24 Try.underlying24 hi hz0 hz1 hz2 rfl (by decide) _ nl (rows.map Row.val) rfl (HLIST.out.alloc _) _ _ 1 1 [.slice Ax x.length cx] rfl HR1.out HO1.out ?c1 ?c2 ?c3 ?_)
  case c1 => unfold maxLen; omega
  case c2 => omega
  case c3 => simp; omega
  intro v2 w2 hown2 hgr2 hat2
  obtain ⟨A2, c2', rfl⟩ := own_slice hown2
  have hst := LSt.step (r := ⟨Ax, cx, x⟩) H1.out hs HOWN1.out hown2 hgr2
  have k2 := hst.1.1.cell 0
  have k3 := hst.1.2.cell 0
  have f2 := hst.1.1.frozen 0
  have f3 := hst.1.2.frozen 0
  have z2 := hst.1.2.lt
  simp only [List.getElem?_toArray, List.getElem?_cons_zero] at k2 k3
  have HST := Lib.hid hst.2
  clear hown2 hgr2 hat2 c2 hst
  go_wp2_with fail
  go_ret
  exact ⟨rfl, ⟨Ax, cx, x⟩, _, _, _, rfl, HST.out nx⟩

set_option maxHeartbeats 2000000 in
theorem gather_no (w0 w : World) (H : Nat) (A : Option Addr) (bs : List UInt8) (c : Nat) (most next : Int) (rows : List Row) (Al : Option Addr) (nl cl : Nat) (h : LSt w0 w H A bs c most next rows Al nl cl)
    (hcap : bs.length ≤ c) (hl : bs.length ≤ 1000000) (hm : most ≤ 9223372036854775807) (x : List UInt8) (nx er : Int) (hq : readB bs next most = (x, nx, er)) (he : er ≠ 0) :
    Calls Try.prog 28 #[.pointer (some ⟨H, 0, none⟩), .pointer (some ⟨H + 3, 0, none⟩), .pointer (some ⟨H + 1, 0, none⟩), .pointer (some ⟨H + 2, 0, none⟩)] w
      fun e w' => e = .returned (.int .i64 er) ∧ LSt w0 w' H A bs c most next rows Al nl cl := by
  have hs := h.sz
  have HB := Lib.hid (bytes_any A bs c next most w (h.rd.more (by omega)) hcap hl hm)
  have c0 := h.b0.cell 0
  have c1 := h.b1.cell 0
  have c3 := h.b3.cell 0
  rw [hq] at HB
  have HH := Lib.hid h
  simp only [List.getElem?_toArray, List.getElem?_cons_zero] at c0 c1 c3
  have d0 : (er == 0) = false := by simpa using he
  clear h hq he
  go_enter Try.func28, Try.ntmps28
  go_wp2_with fail
  refine HB.out.mono ?_
  rintro e w1 ⟨Ax, n1, cx, rfl, hn1, hown1, hb1⟩
  have H1 := Lib.hid (HH.out.kept hb1)
  clear hn1 hown1 HH HB
  go_wp2_with fail
  go_ret
  exact ⟨rfl, H1.out⟩

end Go.Proofs.Ytkbhhejnhjhacaa
