/-
  The law MemberOrder: its walk.
-/
import Derived.Test.YtiehbbbncmdchaaO
import Derived.Test.YtiehbbbncmdchaaH
import Derived.Test.YtiehbbbncmdchaaC
import Derived.Test.YtiehbbbncmdchaaR
import Derived.Deep.DeepCutAuto
import Derived.Deep.RegionLaw
namespace Go.Proofs.Ytiehbbbncmdchaa
open Go.RowKit

def intCells (x : Int) : List Value := [.int .i64 x]

theorem RowsAt.three {w : World} {A : Option Addr} {L : List U} (h : RowsAt w 3 A U.cells L) (hne : L ≠ []) :
    ∃ b off, A = some ⟨b, off, none⟩ ∧ b < w.heap.size ∧ ∀ i u, L[i]? = some u →
      w.cell? ⟨b, off + i * 3, none⟩ = some (.int .i64 u.node) ∧ w.cell? ⟨b, off + i * 3 + 1, none⟩ = some (.int .u8 u.st) ∧ w.cell? ⟨b, off + i * 3 + 2, none⟩ = some (.int .u64 u.inc) := by
  obtain ⟨b, off, hA, hb, hc⟩ := h hne
  exact ⟨b, off, hA, hb, fun i u hi => ⟨hc i u hi 0 (by omega), hc i u hi 1 (by omega), hc i u hi 2 (by omega)⟩⟩

theorem RowsAt.one {α : Type} {w : World} {A : Option Addr} {cells : α → List Value} {L : List α} (h : RowsAt w 1 A cells L) (hne : L ≠ []) :
    ∃ b off, A = some ⟨b, off, none⟩ ∧ b < w.heap.size ∧ ∀ i a, L[i]? = some a → w.cell? ⟨b, off + i, none⟩ = (cells a)[0]? := by
  obtain ⟨b, off, hA, hb, hc⟩ := h hne
  exact ⟨b, off, hA, hb, fun i a hi => by have := hc i a hi 0 (by omega); simpa using this⟩

theorem own_cells {w : World} {base : Nat} {e : TypeId} {size n cp : Nat} {Ap : Option Addr} {xs : List Value} (h : w.ownsRow base e size (.slice Ap n cp) n xs) (hn : 0 < n) :
    ∃ g, Ap = some ⟨g, 0, none⟩ ∧ base ≤ g ∧ g < w.heap.size ∧ n ≤ cp ∧ ∀ i u, xs[i]? = some u → w.cell? ⟨g, i, none⟩ = some u := by
  rcases h.2 with ⟨_, h0⟩ | ⟨g, cap, cur, hv, hb, hg, hc, _⟩
  · omega
  · injection hv with e1 e2 e3
    refine ⟨g, e1, hb, (Array.getElem?_eq_some_iff.1 hg).1, by omega, fun i u hu => ?_⟩
    have := h.cells (g := g) (by rw [e1]; rfl) i u hu
    rwa [Go.WideShapes.add_plain, Nat.zero_add] at this

theorem upd_cells {w : World} {g : Nat} {L : List U} (h : ∀ i v, (L.flatMap U.cells)[i]? = some v → w.cell? ⟨g, i, none⟩ = some v) {k : Nat} {u : U} (hk : L[k]? = some u) :
    w.cell? ⟨g, k * 3, none⟩ = some (.int .i64 u.node) ∧ w.cell? ⟨g, k * 3 + 1, none⟩ = some (.int .u8 u.st) ∧ w.cell? ⟨g, k * 3 + 2, none⟩ = some (.int .u64 u.inc) := by
  have hh : ∀ j v, j < 3 → u.cells[j]? = some v → w.cell? ⟨g, k * 3 + j, none⟩ = some v := fun j v hj hv => h _ _ (by rw [flat_get U.cells 3 U.cells_len L k j u hk hj]; exact hv)
  exact ⟨hh 0 _ (by omega) rfl, hh 1 _ (by omega) rfl, hh 2 _ (by omega) rfl⟩

theorem pick_lt (x : Int) (n : Nat) (h : 0 < n) (hn : n ≤ 1000) : ∃ k : Nat, k < n ∧ wrap64 ((IntKind.u64.wrap x).tmod n) = (k : Int) := by
  have hy : 0 ≤ IntKind.u64.wrap x := by simp [IntKind.wrap, IntKind.bits, IntKind.signed]; omega
  generalize IntKind.u64.wrap x = y at *
  have h1 := Int.emod_nonneg y (b := (n : Int)) (by omega)
  have h2 := Int.emod_lt_of_pos y (b := (n : Int)) (by omega)
  refine ⟨(y % (n : Int)).toNat, by omega, ?_⟩
  rw [Int.tmod_eq_emod_of_nonneg hy, IntWalk.wrap64_in _ (by omega)]
  omega

theorem Reads.take {w : World} {B size n k : Nat} {A : Option Addr} {xs : List Value} (h : Reads w B size A n xs) (hk : k ≤ n) : Reads w B size A k (xs.take (k * size)) := by
  refine ⟨by rw [List.length_take, h.1]; exact Nat.min_eq_left (Nat.mul_le_mul_right _ hk), fun h0 => ?_⟩
  obtain ⟨ad, hA, hb, hc⟩ := h.2 (by omega)
  refine ⟨ad, hA, hb, fun j u hu => hc j u ?_⟩
  rw [List.getElem?_take] at hu
  split at hu
  · exact hu
  · cases hu

theorem grown_new_cell {w w' : World} {o : Obj} (hg : (w.alloc o).drew.grownBy w' (some w.heap.size)) (p : Addr) (hp : p.block < w.heap.size) : w'.cell? p = w.cell? p := by
  have hs : p.block < (w.alloc o).drew.heap.size := Nat.lt_of_lt_of_le hp (by show _ ≤ (w.heap.push o).size; simp)
  exact World.cell?_of_block ((hg.block p.block hs (by simp; omega)).trans (Below.heap_alloc w o _ hp))
theorem grown_new_size {w w' : World} {o : Obj} {row : Option Nat} (hg : (w.alloc o).drew.grownBy w' row) : w.heap.size ≤ w'.heap.size :=
  Nat.le_trans (by show _ ≤ (w.heap.push o).size; simp) hg.size

/-- The relation of the second loop: what is left, what was heard of. -/
def OrdRel (L : List U) (m0 : M) (B1 B2 base : Nat) (w : World) (s14 s15 : Value) (wr : World) : Prop :=
  ∃ (j : Nat) (left LB : List U) (Ap : Option Addr) (cp : Nat), s15 = .int .i64 j ∧ j + left.length = L.length ∧ s14 = .slice Ap left.length cp ∧
    wr.ownsRow base 31 3 (.slice Ap left.length cp) left.length (left.flatMap U.cells) ∧ MemAt wr B1 (hearAll m0 L) ∧ MemAt wr B2 (hearAll m0 LB) ∧
    (∀ u ∈ LB, u ∈ L) ∧ (∀ u ∈ left, u ∈ L) ∧ (∀ u ∈ L, u ∈ LB ∨ u ∈ left) ∧ Chg none w wr

/-- What the second loop's round leaves. -/
def OrdNext (left' : List U) (mA mB : M) (B1 B2 base : Nat) (w : World) (s14 : Value) (wx : World) : Prop :=
  ∃ (Ap : Option Addr) (cp : Nat), s14 = .slice Ap left'.length cp ∧ wx.ownsRow base 31 3 (.slice Ap left'.length cp) left'.length (left'.flatMap U.cells) ∧ MemAt wx B1 mA ∧ MemAt wx B2 mB ∧ Chg none w wx

theorem drop_flat {α : Type} (cells : α → List Value) (k : Nat) (hk : ∀ a, (cells a).length = k) (L : List α) (n : Nat) : (L.drop n).flatMap cells = (L.flatMap cells).drop (n * k) := by
  induction n generalizing L with
  | zero => simp
  | succ n ih =>
    cases L with
    | nil => simp
    | cons x L => rw [List.drop_succ_cons, List.flatMap_cons, ih, Nat.succ_mul, Nat.add_comm, List.drop_append, hk, List.drop_of_length_le (l := cells x) (by rw [hk]; omega), show k + n * k - k = n * k by omega, List.nil_append]

/-- The second loop's round: what it leaves fits. -/
theorem ordStep {L left LB : List U} {m0 : M} {B1 B2 base j k : Nat} {w wx : World} {u1 u2 : U} {A7 : Option Addr} {c7 : Nat} (hj : j + left.length = L.length) (hk : k < left.length)
    (hall : ∀ u ∈ L, u ∈ LB ∨ u ∈ left) (hleft : ∀ u ∈ left, u ∈ L) (hLB : ∀ u ∈ LB, u ∈ L) (hjl : j < L.length) (hu1 : left[k] = u1) (hu2 : L[j] = u2)
    (hown : wx.ownsRow base 31 3 (.slice A7 (left.eraseIdx k).length c7) (left.eraseIdx k).length ((left.eraseIdx k).flatMap U.cells))
    (hma : MemAt wx B1 (hearAll m0 L)) (hmb : MemAt wx B2 (heard (heard (hearAll m0 LB) u1) u2)) (hg : Chg none w wx) :
    OrdRel L m0 B1 B2 base w (.slice A7 (left.eraseIdx k).length c7) (.int .i64 ((j : Int) + 1)) wx := by
  refine ⟨j + 1, left.eraseIdx k, LB ++ [u1, u2], A7, c7, by go_num, ?_, rfl, hown, hma, ?_, ?_, ?_, ?_, hg⟩
  · rw [List.length_eraseIdx_of_lt hk]; omega
  · rw [hearAll_append]; exact hmb
  · intro u hu
    rcases List.mem_append.1 hu with h | h
    · exact hLB u h
    · simp at h
      rcases h with rfl | rfl
      · rw [← hu1]; exact hleft _ (List.getElem_mem hk)
      · rw [← hu2]; exact List.getElem_mem hjl
  · exact fun u hu => hleft u (List.mem_of_mem_eraseIdx hu)
  · intro u hu
    rcases hall u hu with h | h
    · exact Or.inl (by simp [h])
    · by_cases he : u = u1
      · exact Or.inl (by simp [he])
      · obtain ⟨i, hi, hiu⟩ := List.getElem_of_mem h
        refine Or.inr (List.mem_eraseIdx_iff_getElem.2 ⟨i, hi, ?_, hiu⟩)
        rintro rfl
        exact he (hiu.symm.trans hu1)

theorem hear_take (b : Nat) (m : M) (u : U) (w : World) (hm : MemAt w b m) (ho : m.ok) (hi : 0 ≤ u.inc) :
    Calls Try.prog 20 #[.pointer (some ⟨b, 0, none⟩), .agg #[.int .i64 u.node, .int .u8 u.st, .int .u64 u.inc]] w
      fun e w' => ∃ c x, e = .returned (.tuple #[.bool c, .int .i64 x]) ∧ MemAt w' b (heard m u) ∧ Chg (some b) w w' :=
  (hear_any b m u w hm ho hi).mono fun _ _ ⟨h1, h2, h3⟩ => ⟨_, _, h1, h2, h3⟩

theorem hearAll_snoc (m : M) (L : List U) (u : U) : hearAll m (L ++ [u]) = heard (hearAll m L) u := by
  unfold hearAll; rw [List.foldl_append]; rfl

theorem chg_keep {a b : Nat} {w w' : World} {m : M} (h : MemAt w a m) (hc : Chg (some b) w w') (hne : a ≠ b) : MemAt w' a m := h.chg hc (by simp [hne])

set_option maxRecDepth 100000 in
set_option maxHeartbeats 2000000 in
theorem order_main (s c : Nat) (inc : Int) (A : Option Addr) (L : List U) (ca : Nat) (D : Option Addr) (X : List Int) (cd : Nat) (w : World)
    (hs : s < c) (hc : c ≤ 16) (hi : 0 ≤ inc ∧ inc ≤ 1099511627776) (hn : L.length ≤ 60) (hx : X.length ≤ maxLen) (hA : RowsAt w 3 A U.cells L) (hD : RowsAt w 1 D intCells X) (hL : ∀ u ∈ L, 0 ≤ u.inc) :
    Calls Try.prog 4 #[.int .i64 s, .int .i64 c, .int .u64 inc, .slice A L.length ca, .slice D X.length cd] w fun e w' => e = .returned (.bool true) ∧ Chg none w w' := by
  have e2 : decide ((60 : Int) < (L.length : Int)) = false := by simp; omega
  have hok0 := M.fresh_ok s c inc hs hc hi
  have hN := fun W => new_yes s c inc W hs hc hi
  generalize hm0 : M.fresh s c inc = m0 at *
  have hcount : m0.count = c := by rw [← hm0]; rfl
  clear hm0
  have HN := Lib.hid hN
  clear hN
  unfold maxLen at hx
  go_enter Try.func4, Try.ntmps4
  go_wp2_with fail
  refine (HN.out _).mono ?_
  rintro e w1 ⟨rfl, h1, g1⟩
  have hz1 := Blk.lt h1
  go_wp2_with fail
  refine (HN.out _).mono ?_
  rintro e w2 ⟨rfl, h2, g2⟩
  have hz2 := Blk.lt h2
  have ha2 := h1.chg g2 (by simp)
  go_wp2_with fail
  generalize hB1 : w.heap.size = B1 at *
  generalize hB2 : w1.heap.size = B2 at *
  have hBB : B1 < B2 := by omega
  have gg := g1.trans g2
  go_loopw [42] (fun s42 wr => ∃ k : Nat, k ≤ L.length ∧ s42 = .int .i64 k ∧ MemAt wr B1 (hearAll m0 (L.take k)) ∧ MemAt wr B2 m0 ∧ Chg none w wr) (fun s42 _ => L.length - (intOf s42).toNat)
  case atStart => exact ⟨0, by omega, rfl, ha2, h2, gg⟩
  case round =>
    obtain ⟨k, hk, rfl, hma, hmb, hg⟩ := hrel
    by_cases hlt : k < L.length
    · have hxk : L[k]? = some L[k] := List.getElem?_eq_getElem hlt
      have htk : L.take (k + 1) = L.take k ++ [L[k]] := List.take_succ_eq_append_getElem hlt
      have hinc := hL L[k] (List.getElem_mem hlt)
      obtain ⟨ba, oa, hAe, hba, hca⟩ := hA.three (by intro h; rw [h, List.length_nil] at hlt; omega)
      obtain ⟨c0, c1, c2⟩ := hca k _ hxk
      have d0 := World.grownBy.cell hg c0 (by simp)
      have d1 := World.grownBy.cell hg c1 (by simp)
      have d2 := World.grownBy.cell hg c2 (by simp)
      have hok := hearAll_ok (L.take k) m0 hok0 (fun u hu => hL u (List.mem_of_mem_take hu))
      have hH := fun W (h : MemAt W B1 (hearAll m0 (L.take k))) => hear_take B1 _ L[k] W h hok hinc
      rw [← hearAll_snoc, ← htk] at hH
      generalize L[k] = u at *
      have HH := Lib.hid hH
      clear hxk htk hca hA hD hH c0 c1 c2 hL
      subst hAe
      go_wp2_with fail
      refine (HH.out _ hma).mono ?_
      rintro e w3 ⟨cc, xx, rfl, h3, g3⟩
      go_wp2_with fail
      go_roundw
      case rel => exact ⟨k + 1, by omega, by go_num, h3, chg_keep hmb g3 (by omega), hg.own g3 (by omega)⟩
      case measure => simp [intOf]; omega
    · obtain rfl : k = L.length := by omega
      rw [List.take_length] at hma
      have hRA := (hA.reads U.cells_len (by omega)).below (hg.belowNone (Nat.le_refl _))
      obtain ⟨i0, hi0, hz0, hz1', hz2'⟩ := info_parts Try.info31
      have hone := oneCell_flat L
      have hflat := flat_len U.cells 3 U.cells_len L
      generalize hxs : L.flatMap U.cells = xs at *
      have HXS := Lib.hid hxs
      have HFL := Lib.hid hflat
      clear hxs hflat
      have hgw := hg.size
      go_wp2_with (at_builtin; refine wpList_append_any _ rfl (.tmp 52) (.tmp 53) 42 rfl wr.heap.size 31 i0 (.agg #[.int .i64 0, .int .u8 0, .int .u64 0]) 3 24 Try.underlying42 hi0 hz0 hz1' hz2' rfl (by decide) _ 0 [] rfl (World.ownsRow_made wr #[] 0 (Nat.le_refl _) (by decide) rfl) w.heap.size A L.length ca xs rfl (hRA.alloc hgw _) hone ?c1 ?c2 ?c3 ?_)
      case c1 => unfold maxLen; omega
      case c2 => omega
      case c3 => simp
      intro v3 w3 hown hg3 hat
      go_wp2_with fail
      have hml := Blk.lt hma
      have hmbl := Blk.lt hmb
      have hma3 : MemAt w3 B1 (hearAll m0 L) := (hma.alloc _).chg hg3 (by simp [Value.ownBlock]; omega)
      have hmb3 : MemAt w3 B2 m0 := (hmb.alloc _).chg hg3 (by simp [Value.ownBlock]; omega)
      have hg33 : Chg none w w3 := Chg.ownRow (hg.alloc _) hg3 (fun g h => by simp [Value.ownBlock] at h; omega)
      obtain ⟨A3, c3, rfl⟩ := own_slice hown
      generalize hbase : wr.heap.size = base at *
      clear hg hat hg3 hma hmb hRA
      rw [← HXS.out] at hown
      go_loopw [14, 15] (fun s14 s15 wr => OrdRel L m0 B1 B2 base w s14 s15 wr) (fun s14 _ _ => match s14 with | .slice _ n _ => n | _ => 0)
      case atStart => exact ⟨0, L, [], A3, c3, rfl, by simp, rfl, hown, hma3, hmb3, by simp, fun u h => h, fun u h => Or.inr h, hg33⟩
      case round =>
        obtain ⟨j, left, LB, Ap, cp, rfl, hj, rfl, hown, hma, hmb, hLB, hleft, hall, hg⟩ := hrel
        by_cases hne : left = []
        · subst hne
          obtain ⟨wo, rfl⟩ : ∃ wo : World, wo = wr := ⟨_, rfl⟩
          have hsame : hearAll m0 LB = hearAll m0 L := hearAll_same m0 LB L hok0 (fun u hu => hL u (hLB u hu)) hL hLB (fun u hu => (hall u hu).resolve_right (by simp))
          have hokL := hearAll_ok L m0 hok0 hL
          rw [hsame] at hmb
          have hAll := fun W b (h : MemAt W b (hearAll m0 L)) => all_made b _ W h hokL
          generalize hearAll m0 L = mm at *
          have HAll := Lib.hid hAll
          clear hAll hsame hA hD hown hall hLB hleft
          go_wp2_with fail
          refine (HAll.out _ _ hma).mono ?_
          rintro e w4 ⟨rfl, h4, g4⟩
          go_wp2_with fail
          refine (HAll.out _ _ (hmb.chg g4 (by simp))).mono ?_
          rintro e w5 ⟨rfl, h5, g5⟩
          go_wp2_with fail
          have hgg : Chg none w w5 := (hg.trans g4).trans g5
          have h45 : BlkL w5 wo.heap.size ((mm.stand.take mm.count).flatMap U.cells) 31 := Blk.chg h4 g5 (by simp)
          have h55 : BlkL w5 w4.heap.size ((mm.stand.take mm.count).flatMap U.cells) 31 := h5
          have hlen : (mm.stand.take mm.count).length ≤ 16 := by rw [List.length_take]; have := hokL.len; omega
          have hcnt : mm.count ≤ (mm.stand.take mm.count).length := by rw [List.length_take]; have := hokL.len; have := hokL.top; omega
          generalize mm.stand.take mm.count = st at *
          have n31 := neq31
          have gd31 := Try.guard31
          clear h4 h5 hma hmb hokL HAll g4
          go_loopw [107] (fun s107 wx => ∃ i : Nat, i ≤ mm.count ∧ s107 = .int .i64 i ∧ Chg none w5 wx) (fun s107 _ => mm.count - (intOf s107).toNat)
          case atStart => exact ⟨0, by omega, rfl, Chg.refl _ _⟩
          case round =>
            obtain ⟨i, hik, rfl, hgx⟩ := hrel
            by_cases hilt : i < mm.count
            · have hsti : st[i]? = some st[i] := List.getElem?_eq_getElem (by omega)
              have q1 : ∀ i' v, (st.flatMap U.cells)[i']? = some v → wr.cell? ⟨wo.heap.size, i', none⟩ = some v := fun i' v h => by rw [BlkL.cell (Blk.chg h45 hgx (by simp))]; exact h
              have q2 : ∀ i' v, (st.flatMap U.cells)[i']? = some v → wr.cell? ⟨w4.heap.size, i', none⟩ = some v := fun i' v h => by rw [BlkL.cell (Blk.chg h55 hgx (by simp))]; exact h
              obtain ⟨a0, a1, a2⟩ := upd_cells q1 hsti
              obtain ⟨b0, b1, b2⟩ := upd_cells q2 hsti
              generalize st[i] = u at *
              clear q1 q2 hsti
              go_wp2_with fail
              go_region
              all_goals go_wp2_with fail
              all_goals go_roundw
              case rel => exact ⟨i + 1, by omega, by go_num, by repeat (first | (with_reducible exact hgx) | (with_reducible refine Chg.drew ?_))⟩
              case measure => simp [intOf]; omega
            · go_wp2_with fail
              refine (known_any _).mono ?_
              rintro e w6 ⟨rfl, g6⟩
              go_wp2_with fail
              go_ret
              exact ⟨rfl, (hgg.trans hgx).trans g6⟩
        · have hlp : 0 < left.length := List.length_pos_iff.2 hne
          go_upto_if 63 with fail
          go_cut [16] (fun s16 wx => (∃ k : Nat, k < left.length ∧ s16 = .int .i64 k) ∧ wx = wr)
          case first =>
            by_cases hjx : j < X.length
            · have hxj : X[j]? = some X[j] := List.getElem?_eq_getElem hjx
              obtain ⟨bd, od, hDe, hbd, hcd⟩ := hD.one (by intro h; rw [h, List.length_nil] at hjx; omega)
              have hd := World.grownBy.cell hg (hcd j _ hxj) (by simp)
              generalize X[j] = x at *
              clear hxj hcd hD
              subst hDe
              go_wp2_with fail
              go_meet
              obtain ⟨k, hk, he⟩ := pick_lt x left.length hlp (by omega)
              exact ⟨⟨k, hk, by rw [he]⟩, rfl⟩
            · go_wp2_with fail
              go_meet
              exact ⟨⟨0, hlp, rfl⟩, rfl⟩
          case rest =>
            obtain ⟨⟨k, hk, rfl⟩, rfl⟩ := hcut
            obtain ⟨g, rfl, hgb, hgl, hncp, hcells⟩ := own_cells hown hlp
            have hlk : left[k]? = some left[k] := List.getElem?_eq_getElem hk
            obtain ⟨c0, c1, c2⟩ := upd_cells hcells hlk
            have hjl : j < L.length := by omega
            have hxj : L[j]? = some L[j] := List.getElem?_eq_getElem hjl
            have hinc1 := hL left[k] (hleft _ (List.getElem_mem hk))
            have hinc2 := hL L[j] (List.getElem_mem hjl)
            obtain ⟨ba, oa, hAe, hba, hca⟩ := hA.three (by intro h; rw [h, List.length_nil] at hjl; omega)
            obtain ⟨d0, d1, d2⟩ := hca j _ hxj
            have f0 := World.grownBy.cell hg d0 (by simp)
            have f1 := World.grownBy.cell hg d1 (by simp)
            have f2 := World.grownBy.cell hg d2 (by simp)
            have hLBi : ∀ u ∈ LB, 0 ≤ u.inc := fun u hu => hL u (hLB u hu)
            have hok1 := hearAll_ok LB m0 hok0 hLBi
            have hH1 := fun W (h : MemAt W B2 (hearAll m0 LB)) => hear_take B2 _ left[k] W h hok1 hinc1
            have hH2 := fun W (h : MemAt W B2 (heard (hearAll m0 LB) left[k])) => hear_take B2 _ L[j] W h (heard_ok _ _ hok1 hinc1) hinc2
            have HH1 := Lib.hid hH1
            have HH2 := Lib.hid hH2
            clear hH1 hH2 d0 d1 d2 hD
            subst hAe
            generalize hu1 : left[k] = u1 at *
            generalize hu2 : L[j] = u2 at *
            have HU1 := Lib.hid hu1
            have HU2 := Lib.hid hu2
            clear hu1 hu2
            go_wp2_with fail
            refine (HH1.out _ hmb).mono ?_
            rintro e w4 ⟨cc, xx, rfl, h4, g4⟩
            have p0 := World.grownBy.cell g4 f0 (by simp; omega)
            have p1 := World.grownBy.cell g4 f1 (by simp; omega)
            have p2 := World.grownBy.cell g4 f2 (by simp; omega)
            go_wp2_with fail
            refine (HH2.out _ h4).mono ?_
            rintro e w5 ⟨cc', xx', rfl, h5, g5⟩
            go_wp2_with fail
            have hown5 := (hown.kept g4 (Or.inr (by simp [Value.ownBlock]; omega))).kept g5 (Or.inr (by simp [Value.ownBlock]; omega))
            have hma5 := chg_keep (chg_keep hma g4 (by omega)) g5 (by omega)
            have hg5 := (hg.own g4 (by omega)).own g5 (by omega)
            have hk1 : k ≤ cp := by omega
            have hk2 : k + 1 ≤ cp := by omega
            have hk3 : k + 1 ≤ left.length := by omega
            have hr := Reads.of_own hown5
            have hr1 := hr.take (k := k) (by omega)
            have hr2 := hr.cut (k := k + 1) (cap := cp) (by omega) hncp
            have hone1 : ∀ u ∈ (left.flatMap U.cells).take (k * 3), u.oneCell' = true := fun u hu => oneCell_flat left u (List.mem_of_mem_take hu)
            have hone2 : ∀ u ∈ (left.flatMap U.cells).drop ((k + 1) * 3), u.oneCell' = true := fun u hu => oneCell_flat left u (List.mem_of_mem_drop hu)
            have hs1 : 0 + k ≤ maxLen := by unfold maxLen; omega
            have hs2 : (0 + k) * 24 ≤ 140737488355328 := by omega
            have hs3 : Hid (0 + k + (left.length - (k + 1)) ≤ maxLen) := by show _ ≤ maxLen; unfold maxLen; omega
            have hs4 : Hid ((0 + k + (left.length - (k + 1))) * 24 ≤ 140737488355328) := by show _ ≤ _; omega
            have hbw : base ≤ w5.heap.size := by have := g4.size; have := g5.size; omega
            have hag : (if cp = k + 1 then (some ⟨g, 0, none⟩ : Option Addr) else (some ⟨g, 0, none⟩ : Option Addr).map (·.add ((k + 1) * 3))) = (if cp = k + 1 then some ⟨g, 0, none⟩ else some ⟨g, (k + 1) * 3, none⟩) := by
              split
              · rfl
              · rw [Option.map_some, Go.WideShapes.add_plain, Nat.zero_add]
            rw [hag] at hr2
            clear hag
            have HR1 := Lib.hid hr1
            have HR2 := Lib.hid hr2
            have HO1 := Lib.hid hone1
            have HO2 := Lib.hid hone2
            clear hr hr1 hr2 hone1 hone2
            have x1 : (0 : Int) ≤ (k : Int) + 1 := by omega
            have x2 : (k : Int) + 1 ≤ (left.length : Int) := by omega
            have x3 : IntKind.i64.wrap ((k : Int) + 1) = (k : Int) + 1 := IntWalk.i64_in _ (by omega)
            have x4 : ((k : Int) + 1).toNat = k + 1 := by omega
            go_region_law (first
              | (refine step_append_any _ rfl (.tmp 86) (.tmp 89) 42 rfl w5.heap.size 31 i0 (.agg #[.int .i64 0, .int .u8 0, .int .u64 0]) 3 24 Try.underlying42 hi0 hz0 hz1' hz2' rfl (by decide) _ 0 [] rfl (World.ownsRow_made w5 #[] 0 (Nat.le_refl _) (by decide) rfl) w5.heap.size (some ⟨g, 0, none⟩) k cp _ rfl (HR1.out.alloc (Nat.le_refl _) _) HO1.out hs1 hs2 (by simp) ?_
                 intro v6 w6 hown6 hgr6' hat6
                 have hgr6 : (w5.alloc (Obj.cells #[] 31)).drew.grownBy w6 (some w5.heap.size) := hgr6'
                 clear hgr6' hat6
                 have HX : Hid (Reads w6 w5.heap.size 3 (if cp = k + 1 then some ⟨g, 0, none⟩ else some ⟨g, (k + 1) * 3, none⟩) (left.length - (k + 1)) ((left.flatMap U.cells).drop ((k + 1) * 3))) := HR2.out.keep (grown_new_cell hgr6)
                 have hsz6 : w5.heap.size ≤ w6.heap.size := grown_new_size hgr6)
              | (refine step_append_any _ rfl (.tmp 90) (.tmp 94) 42 rfl w5.heap.size 31 i0 (.agg #[.int .i64 0, .int .u8 0, .int .u64 0]) 3 24 Try.underlying42 hi0 hz0 hz1' hz2' rfl (Nat.succ_pos 2) v6 (0 + k) ([] ++ (left.flatMap U.cells).take (k * 3)) ?y2 hown6 w5.heap.size (if cp = k + 1 then some ⟨g, 0, none⟩ else some ⟨g, (k + 1) * 3, none⟩) (left.length - (k + 1)) (cp - (k + 1)) ((left.flatMap U.cells).drop ((k + 1) * 3)) ?y3 HX.out HO2.out hs3.out hs4.out hsz6 ?_
                 case y2 => first | rfl | (simp [Act.eval, Act.put]; done)
                 case y3 => first | rfl | (simp [Act.eval, Act.put]; done)
                 intro v7 w7 hown7 hgr7' hat7
                 have hgr7 : w6.grownBy w7 v6.ownBlock := hgr7'
                 clear hgr7' hat7))
            obtain ⟨A7, c7, rfl⟩ := own_slice hown7
            have hgz := hg5.size
            have hmz1 := Blk.lt hma5
            have hmz2 := Blk.lt h5
            have hma7 : MemAt w7 B1 (hearAll m0 L) := ((hma5.alloc _).drew.chg hgr6 (by simp; omega)).chg hgr7 (fun e => by have := (hown6.lt B1 e.symm).1; omega)
            have hmb7 : MemAt w7 B2 (heard (heard (hearAll m0 LB) u1) u2) := ((MemAt.alloc h5 _).drew.chg hgr6 (by simp; omega)).chg hgr7 (fun e => by have := (hown6.lt B2 e.symm).1; omega)
            have hg7 : Chg none w w7 := Chg.ownRow (Chg.ownRow (Chg.drew (hg5.alloc _)) hgr6 (fun x hx => by simp at hx; omega)) hgr7 (fun x hx => by have := (hown6.lt x hx).1; omega)
            have hlen7 : 0 + k + (left.length - (k + 1)) = (left.eraseIdx k).length := by rw [List.length_eraseIdx_of_lt hk]; omega
            have hflat7 : [] ++ (left.flatMap U.cells).take (k * 3) ++ (left.flatMap U.cells).drop ((k + 1) * 3) = (left.eraseIdx k).flatMap U.cells := by
              rw [List.eraseIdx_eq_take_drop_succ, List.flatMap_append, take_flat U.cells 3 U.cells_len, drop_flat U.cells 3 U.cells_len]; simp
            rw [hlen7, hflat7] at hown7
            rw [hlen7]
            have hrel7 := ordStep hj hk hall hleft hLB hjl HU1.out HU2.out (World.ownsRow.less hown7 hbw) hma7 hmb7 hg7
            clear hlen7 hflat7
            go_wp2_with fail
            go_roundw
            case rel => exact hrel7
            case measure =>
              show (left.eraseIdx k).length < left.length
              rw [List.length_eraseIdx_of_lt hk]
              omega

end Go.Proofs.Ytiehbbbncmdchaa
