/-
  merkle: counts, halves (carried over). merkle: parts of a blob (carried over). sha: Parts (carried over). merkle: eight, leaf (carried over). merkle: pair, rootOf (carried over). merkle: rows of digests (carried over). merkle: leaves (carried over). merkle: nextRow (carried over). merkle: Root (carried over).
-/
import Derived.Test.YtglfakglcoffkaaDoorE3
import Derived.Test.YtglfakglcoffkaaDoorP0
import Derived.Test.YtglfakglcoffkaaDoorRC
import Derived.Test.YtglfakglcoffkaaDoorKn
import Derived.Great.BuildSlice
namespace Go.Proofs.YtglfakglcoffkaaDoor
open Go.RowKit

/-- How many chunks a blob of n bytes has. -/
def cntN (n : Nat) : Nat := (n - 1) / 64 + 1
theorem count_nat (n : Nat) (hn : n < 9223372036854775808) (w : World) : Calls Tryd.prog 114 #[.int .i64 n] w fun e w' => e = .returned (.int .i64 (cntN n)) ∧ w = w' := by
  by_cases h0 : n = 0
  · subst h0
    go_enter Tryd.func114, Tryd.ntmps114
    go_wp2
    go_ret
    exact ⟨rfl, rfl⟩
  · have h1 : ¬ ((n : Int) = 0) := by omega
    have h2 : ((n : Int) == 0) = false := by simp; omega
    have hc : ((cntN n : Nat) : Int) = ((n : Int) - 1) / 64 + 1 := by unfold cntN; omega
    have HC := Lib.hid hc
    clear hc
    go_enter Tryd.func114, Tryd.ntmps114
    go_wp2
    go_ret
    exact ⟨by rw [HC.out]; rfl, rfl⟩
theorem count_neg (n : Int) (hn : n < 0) (w : World) : Calls Tryd.prog 114 #[.int .i64 n] w fun e w' => e = .returned (.int .i64 0) ∧ w = w' := by
  go_enter Tryd.func114, Tryd.ntmps114
  go_wp2
  go_ret
  exact ⟨rfl, rfl⟩
/-- Whether the digest i of a row of so many has none beside it. -/
def aloneB (n i : Nat) : Bool := decide (n % 2 = 1) && decide (i + 1 = n)
theorem alone_nat (n i : Nat) (hn : n < 9223372036854775808) (_hi : i < 9223372036854775808) (w : World) : Calls Tryd.prog 118 #[.int .i64 n, .int .i64 i] w fun e w' => e = .returned (.bool (aloneB n i)) ∧ w = w' := by
  by_cases h : n % 2 = 1
  · have h1 : ((n : Int) % 2 == 1) = true := by simp; omega
    have hr : aloneB n i = ((i : Int) == (n : Int) - 1) := by
      unfold aloneB
      rw [Bool.eq_iff_iff, Bool.and_eq_true, decide_eq_true_eq, decide_eq_true_eq, beq_iff_eq]
      omega
    rw [hr]
    clear hr
    go_enter Tryd.func118, Tryd.ntmps118
    go_wp2
    go_ret
    exact ⟨rfl, rfl⟩
  · have h1 : ((n : Int) % 2 == 1) = false := by simp; omega
    have hr : aloneB n i = false := by unfold aloneB; simp [h]
    rw [hr]
    clear hr
    go_enter Tryd.func118, Tryd.ntmps118
    go_wp2
    go_ret
    exact ⟨rfl, rfl⟩
theorem half_nat (n : Nat) (hn : n < 9223372036854775808) (w : World) : Calls Tryd.prog 117 #[.int .i64 n] w fun e w' => e = .returned (.int .i64 ((n + 1) / 2 : Nat)) ∧ w = w' := by
  have hh : (((n + 1) / 2 : Nat) : Int) = (n : Int) / 2 + (n : Int) % 2 := by omega
  rw [hh]
  clear hh
  go_enter Tryd.func117, Tryd.ntmps117
  go_wp2
  go_ret
  exact ⟨rfl, rfl⟩
/-- How long the chunk i of a blob of n bytes is. -/
def chunkN (n i : Nat) : Nat := min 64 (n - 64 * i)
theorem chunk_len (n i : Nat) (hn : n < 9223372036854775808) (hi : 64 * i ≤ n) (w : World) : Calls Tryd.prog 127 #[.int .i64 n, .int .i64 i] w fun e w' => e = .returned (.int .i64 (chunkN n i)) ∧ w = w' := by
  by_cases h : n - 64 * i < 64
  · have hh : ((chunkN n i : Nat) : Int) = (n : Int) - (i : Int) * 64 := by unfold chunkN; omega
    rw [hh]
    clear hh
    go_enter Tryd.func127, Tryd.ntmps127
    go_wp2
    go_ret
    exact ⟨rfl, rfl⟩
  · have hh : ((chunkN n i : Nat) : Int) = 64 := by unfold chunkN; omega
    rw [hh]
    clear hh
    go_enter Tryd.func127, Tryd.ntmps127
    go_wp2
    go_ret
    exact ⟨rfl, rfl⟩

end Go.Proofs.YtglfakglcoffkaaDoor

namespace Go.Proofs.YtglfakglcoffkaaDoor
open Go.RowKit

/-- The chunk i of the blob x. -/
def chunkB (x : List UInt8) (i : Nat) : List UInt8 := (x.drop (64 * i)).take (chunkN x.length i)
theorem chunkB_len (x : List UInt8) (i : Nat) (h : 64 * i ≤ x.length) : (chunkB x i).length = chunkN x.length i := by
  unfold chunkB chunkN
  rw [List.length_take, List.length_drop]; omega
theorem cnt_lo {n i : Nat} (h : i < cntN n) : 64 * i ≤ n := by unfold cntN at h; omega
def partPrt (p : Prt) (i : Nat) : Prt := cutPrt p.A p.x p.c (64 * i) (64 * i + chunkN p.x.length i)
theorem partPrt_x (p : Prt) (i : Nat) : (partPrt p i).x = chunkB p.x i := by
  show (p.x.drop (64 * i)).take (64 * i + chunkN p.x.length i - 64 * i) = _
  rw [Nat.add_sub_cancel_left]; rfl
theorem partPrt_ok {w : World} {p : Prt} (h : p.ok w) (i : Nat) (hi : i < cntN p.x.length) : (partPrt p i).ok w :=
  cutPrt_ok h.1 h.2 _ _ (by have := cnt_lo hi; unfold chunkN; omega)
theorem part_any (p : Prt) (i : Nat) (w : World) (hc : p.x.length ≤ p.c) (hi : i < cntN p.x.length) (hn : p.x.length < 1000000000) :
    Calls Tryd.prog 116 #[.slice p.A p.x.length p.c, .int .i64 i] w fun e w' => e = .returned (partPrt p i).val ∧ w = w' := by
  have hlo := cnt_lo hi
  have HL := Lib.hid (chunk_len p.x.length i (by omega) hlo w)
  have hch : 64 * i + chunkN p.x.length i ≤ p.x.length := by unfold chunkN; omega
  have hq : ∀ v : World, (Instr.sliceAt 22 (.slice p.A p.x.length p.c) (some (.int .i64 ((i : Int) * 64))) (some (.int .i64 ((i : Int) * 64 + (chunkN p.x.length i : Nat)))) none).run Tryd.prog v = .ok (partPrt p i).val v := fun v => by
    have h := cut_lo_hi p.A p.x.length p.c (64 * i) (64 * i + chunkN p.x.length i) (by omega) (by omega) v
    have e1 : ((64 * i : Nat) : Int) = (i : Int) * 64 := by omega
    have e2 : ((64 * i + chunkN p.x.length i : Nat) : Int) = (i : Int) * 64 + (chunkN p.x.length i : Nat) := by omega
    rw [e1, e2] at h
    rw [h, Prt.val]
    have e3 : (partPrt p i).x.length = 64 * i + chunkN p.x.length i - 64 * i := by rw [partPrt_x, chunkB_len _ _ hlo]; omega
    rw [e3]
    rfl
  have hcl : chunkN p.x.length i ≤ 64 := by unfold chunkN; omega
  have HQ := Lib.hid hq
  clear hq
  generalize chunkN p.x.length i = cn at *
  generalize hv : (partPrt p i).val = V at *
  clear hv
  have hq := HQ.out
  go_enter Tryd.func116, Tryd.ntmps116
  go_wp2_with fail
  refine HL.out.mono ?_
  rintro e w' ⟨rfl, rfl⟩
  go_wp2_with fail
  go_ret
  exact ⟨rfl, rfl⟩
theorem eq_nil22 (w : World) (a : Option Addr) (n c n' c' : Nat) : (binOp .eql 22 (.slice a n c) (.slice none n' c')).run Tryd.prog w = .ok (.bool a.isNone) w :=
  Lib.run_eql_slice_nil w _ _ a n c n' c' Tryd.underlying22
set_option maxHeartbeats 1000000 in
theorem clone_any (p : Prt) (w : World) (hp : p.ok w) (hn : p.x.length ≤ 1000000) : Calls Tryd.prog 90 #[.slice p.A p.x.length p.c] w (OwnPost w p.x) := by
  obtain ⟨i0, hi, hz0, hz1, hz2⟩ := info_parts Tryd.info5
  have HO := Lib.hid (byteVals_one p.x)
  have q22 := eq_nil22
  obtain ⟨A, x, c⟩ := p
  rcases A with _ | ad
  · have : x = [] := by
      rcases Nat.eq_zero_or_pos x.length with h0 | h0
      · exact List.eq_nil_of_length_eq_zero h0
      · obtain ⟨_, _, e, _⟩ := hp.1 h0; cases e
    subst this
    clear HO hp
    go_enter Tryd.func90, Tryd.ntmps90
    go_wp2_with fail
    go_ret
    exact ⟨none, 0, rfl, World.ownsRow_nil _ _ _ _, Chg.refl _ _⟩
  · have hown : (w.alloc (.cells #[] 5 (0, 0))).ownsRow w.heap.size 5 1 (.slice (some ⟨w.heap.size, 0, none⟩) 0 0) 0 [] := by
      refine ⟨rfl, .inr ⟨w.heap.size, 0, #[], rfl, Nat.le_refl _, heap_alloc_new w _, Nat.le_refl _, by unfold maxLen; decide, rfl, rfl⟩⟩
    have gE : Chg none w (w.alloc (.cells #[] 5 (0, 0))) := (Chg.refl _ _).alloc _
    have HR := Lib.hid (txt_reads (hp.1.chg gE))
    have HOWN := Lib.hid hown
    clear hown hp
    go_enter Tryd.func90, Tryd.ntmps90
    go_wp2_with (at_builtin; refine wpList_append_any _ rfl (.tmp 5) (.tmp 6) 22 rfl w.heap.size 5 i0 (.int .u8 0) 1 1 Tryd.underlying22 hi hz0 hz1 hz2 rfl (by decide) _ 0 [] rfl HOWN.out _ (some ad) x.length c (byteVals x) rfl HR.out HO.out ?c1 ?c2 ?c3 ?_)
    case c1 => unfold maxLen; omega
    case c2 => omega
    intro v' w1 hown' hgr _
    try simp only [Nat.zero_add, List.nil_append] at hown'
    obtain ⟨A', c', rfl⟩ := own_slice hown'
    have g1 := own_chg gE HOWN.out (Nat.le_refl _) hgr
    clear hgr
    go_wp2_with fail
    go_ret
    exact ⟨_, _, rfl, hown', g1⟩
/-- What Chunk tells of a chunk that there is. -/
def ChunkPost (w : World) (bs : List UInt8) (e : Ending) (w' : World) : Prop :=
  ∃ A c, e = .returned (.tuple #[.slice A bs.length c, .int .i64 0]) ∧ w'.ownsRow w.heap.size 5 1 (.slice A bs.length c) bs.length (byteVals bs) ∧ Chg none w w'

end Go.Proofs.YtglfakglcoffkaaDoor

namespace Go.Proofs.YtglfakglcoffkaaDoor
open Go.RowKit

set_option maxRecDepth 100000 in
set_option maxHeartbeats 4000000 in
theorem parts_any (tag : UInt8) (A : Option Addr) (L : List Prt) (c : Nat) (w : World) (hA : PartsAt w A L) (hx : (joined L).length < 1000000000) (hL : L.length ≤ 1000000000) (hT : Tabs w) :
    Calls Tryd.prog 19 #[.int .u8 tag.toNat, .slice A L.length c] w fun e w' => e = .returned (.agg (byteVals (dig (tag :: joined L))).toArray) ∧ Chg none w w' := by
  have hlt2 := hT.lt
  go_enter Tryd.func19, Tryd.ntmps19
  go_upto_region 1 with (fail)
  obtain ⟨W1, hW1⟩ : ∃ W1, W1 = w.alloc (.cells zero32 30) := ⟨_, rfl⟩
  have hsr : w.alloc (.cells #[Value.int IntKind.u8 0, Value.int IntKind.u8 0, Value.int IntKind.u8 0, Value.int IntKind.u8 0, Value.int IntKind.u8 0, Value.int IntKind.u8 0, Value.int IntKind.u8 0, Value.int IntKind.u8 0, Value.int IntKind.u8 0, Value.int IntKind.u8 0, Value.int IntKind.u8 0, Value.int IntKind.u8 0, Value.int IntKind.u8 0, Value.int IntKind.u8 0, Value.int IntKind.u8 0, Value.int IntKind.u8 0, Value.int IntKind.u8 0, Value.int IntKind.u8 0, Value.int IntKind.u8 0, Value.int IntKind.u8 0, Value.int IntKind.u8 0, Value.int IntKind.u8 0, Value.int IntKind.u8 0, Value.int IntKind.u8 0, Value.int IntKind.u8 0, Value.int IntKind.u8 0, Value.int IntKind.u8 0, Value.int IntKind.u8 0, Value.int IntKind.u8 0, Value.int IntKind.u8 0, Value.int IntKind.u8 0, Value.int IntKind.u8 0] 30) = W1 := hW1.symm
  rw [hsr]
  have g1 : Chg none w W1 := by rw [hW1]; exact (Chg.refl _ _).alloc _
  have hR : Blk W1 w.heap.size zero32 30 := by rw [hW1]; exact Blk.new _ _ _
  have hs1 : W1.heap.size = w.heap.size + 1 := by rw [hW1]; simp
  have hT1 := hT.chg g1 (by simp)
  have HRG := Lib.hid hT1.first
  have HI25 : Hid ((Tryd.prog.info? 25).map (·.size) = some h0Cells.length) := by show _ = _; kernel_rfl
  have HI68 : Hid ((Tryd.prog.info? 79).map (·.size) = some newCells.size) := by show _ = _; kernel_rfl
  have HB := Lib.hid built68
  have HO : Hid (newCells.all (·.oneCell') = true) := by show _ = _; kernel_rfl
  have HZ : Hid (Tryd.zeroCells79.size = newCells.size) := by show _ = _; kernel_rfl
  have HS1 := Lib.hid hs1
  have hZ68 : ∀ W : World, (W.alloc (.cells Tryd.zeroCells79 79)).heap[W.heap.size]? = some (.cells Tryd.zeroCells79 79 (0, 0)) := fun W => heap_alloc_new W _
  have HZ68 := Lib.hid hZ68
  clear hsr hW1 hs1 hZ68
  go_upto_region 2 with (first
    | (refine wpList_load_mid rfl 25 _ rfl 0 0 rfl h0Cells _ HRG.out Tryd.underlying25 rfl HI25.out ?_)
    | (refine wpList_buildTo rfl 79 _ rfl (some 9) rfl newCells (by simp only [List.map_toArray, List.map_cons, List.map_nil]; exact HB.out) ?_)
    | (refine wpList_store_row rfl 79 _ _ rfl W1.heap.size newCells rfl rfl 79 _ (HZ68.out W1) HI68.out HZ.out HO.out ?_))
  obtain ⟨W2, hW2⟩ : ∃ W2, W2 = (W1.alloc (.cells Tryd.zeroCells79 79)).setRow W1.heap.size newCells := ⟨_, rfl⟩
  rw [← hW2]
  have hN2 : Blk W2 W1.heap.size newCells 79 := by rw [hW2]; exact setRow_heap _ _ _ _ _ _ (HZ68.out W1)
  have g12 : Chg none W1 W2 := by
    rw [hW2]
    exact Chg.own (b := W1.heap.size) ((Chg.refl none W1).alloc _) (chg_setRow _ _ _) (Nat.le_refl _)
  have hR2 := hR.chg g12 (by simp)
  have g2 := g1.trans g12
  have hT2 := hT1.chg g12 (by simp)
  have hlt1 : w.heap.size < W1.heap.size := by rw [HS1.out]; omega
  have hb1 : 3 ≤ W1.heap.size := by omega
  have hH2 := new_hs hN2
  clear hW2 hN2 g12 hR HRG HB HO HZ HZ68 hT1 hT g1
  generalize W1.heap.size = b at *
  go_wp2_with fail
  have hlt2b := hH2.lt
  have gA : Chg none W2 (W2.alloc (.cells #[.int .u8 tag.toNat] 5)) := (Chg.refl _ _).alloc _
  have hS1 : Src (W2.alloc (.cells #[.int .u8 tag.toNat] 5)) b (some ⟨W2.heap.size, 0, none⟩) [tag] := fun _ => ⟨W2.heap.size, 0, rfl, by omega, by simp, fun j x hj => by
    match j, hj with
    | 0, hj =>
      simp only [List.getElem?_cons_zero, Option.some.injEq] at hj
      subst hj
      rw [(Blk.new W2 _ 5).cell]; rfl⟩
  have hTA := hT2.chg gA (by simp)
  have HTK := Lib.hid (take_any b [] [tag] (some ⟨W2.heap.size, 0, none⟩) 1 _ (hH2.chg gA (by simp)) (by simp) hS1 (Nat.le_refl _) hTA hb1)
  have hRA := hR2.chg gA (by simp)
  have g2A := g2.trans gA
  clear hS1 hH2 hR2 hT2 gA g2
  refine HTK.out.mono ?_
  rintro e w3 ⟨rfl, hH3, g3⟩
  have hT3 := hTA.chg g3 (by simp; omega)
  have hR3 := hRA.chg g3 (by simp; omega)
  have g3' : Chg none w w3 := Chg.own (b := b) g2A g3 (by omega)
  clear hTA hRA g2A g3 HTK
  go_wp2_with fail
  go_loopw [15] (fun s15 wr => ∃ k : Nat, k ≤ L.length ∧ s15 = .int .i64 k ∧ HsAt wr b (tag :: joined (L.take k)) ∧ Blk wr w.heap.size zero32 30 ∧ Tabs wr ∧ Chg none w wr) (fun s15 _ => L.length - (intOf s15).toNat)
  case atStart => exact ⟨0, by omega, rfl, hH3, hR3, hT3, g3'⟩
  case round =>
    obtain ⟨k, hk, rfl, hHk, hRk, hTk, hgk⟩ := hrel
    clear hH3 hR3 hT3 g3'
    by_cases hlt : k < L.length
    · have hAk := hA.chg hgk
      obtain ⟨pb, off, rfl, hpb, hcell⟩ := hAk.at_ (by omega)
      have hck := hcell k L[k] (List.getElem?_eq_getElem hlt)
      unfold Prt.val at hck
      have hjt := joined_take L k hlt
      have hjl := joined_take_le L (k + 1)
      rw [hjt, List.length_append] at hjl
      have hsrc := Txt.src (hA.all L[k] (List.getElem_mem hlt)).1 hgk (b := b) (by omega)
      have hcap := (hA.all L[k] (List.getElem_mem hlt)).2
      generalize L[k] = p at *
      have htk := take_any b (tag :: joined (L.take k)) p.x p.A p.c wr hHk (by rw [List.length_cons]; omega) hsrc hcap hTk hb1
      rw [List.cons_append, ← hjt] at htk
      have HTK := Lib.hid htk
      clear htk hjt hjl hsrc hAk hcell
      go_wp2_with fail
      refine HTK.out.mono ?_
      rintro e w4 ⟨rfl, hH4, g4⟩
      have hT4 := hTk.chg g4 (by simp; omega)
      have hR4 := hRk.chg g4 (by simp; omega)
      have g4' : Chg none w w4 := Chg.own (b := b) hgk g4 (by omega)
      clear HTK
      go_wp2_with fail
      go_roundw
      case rel => exact ⟨k + 1, by omega, by go_num, hH4, hR4, hT4, g4'⟩
      case measure => first | (simp [intOf]; done) | (simp [intOf]; omega)
    · have hkl : k = L.length := by omega
      have hnl : decide ((k : Int) < (L.length : Int)) = false := by simp; omega
      rw [hkl, List.take_length] at hHk
      clear hkl
      have HDG := Lib.hid (digest_any b _ wr hHk (by rw [List.length_cons]; omega) hTk hb1)
      clear hHk
      go_wp2_with fail
      refine HDG.out.mono ?_
      rintro e w4 ⟨rfl, g4⟩
      have hR4 := hRk.chg g4 (by simp; omega)
      have hcs : (byteVals (dig (tag :: joined L))).toArray.size = 32 := by rw [List.size_toArray, byteVals_len, dig_len]
      have hone : (byteVals (dig (tag :: joined L))).toArray.all (·.oneCell') = true := Array.all_eq_true_iff_forall_mem.2 (fun v hv => byteVals_one _ v (by simpa using hv))
      have hinf : (Tryd.prog.info? 30).map (·.size) = some (byteVals (dig (tag :: joined L))).toArray.size := by rw [hcs]; kernel_rfl
      have HI := Lib.hid hinf
      have HO := Lib.hid hone
      have HC := Lib.hid hcs
      have g5 : Chg none w w4 := Chg.own (b := b) hgk g4 (by omega)
      clear hinf hone hcs hRk hTk g4 HDG hgk
      go_wp2_with (refine wpList_store_row rfl 30 _ _ rfl w.heap.size (byteVals (dig (tag :: joined L))).toArray rfl rfl 30 _ hR4 HI.out (by rw [HC.out]; rfl) HO.out ?_)
      refine bodyPost_ret (results_cell_row (p := 4) (ty := 30) Tryd.results19 _ _ w.heap.size 30 (byteVals (dig (tag :: joined L))).toArray (0, 0) _ rfl (setRow_heap _ _ _ _ _ _ hR4) Tryd.underlying30 rfl HI.out) rfl ⟨rfl, ?_⟩
      exact Chg.own (b := w.heap.size) g5 (chg_setRow _ _ _) (Nat.le_refl _)
theorem parts_two {w : World} {Q : Nat} {p q : Prt} (hQ : Blk w Q #[p.val, q.val] 22) (hp : p.ok w) (hq : q.ok w) : PartsAt w (some ⟨Q, 0, none⟩) [p, q] :=
  ⟨fun _ => ⟨Q, 0, rfl, hQ.lt, fun i r hi => by
    rw [Nat.zero_add, hQ.cell]
    match i, hi with
    | 0, hi => simp at hi; subst hi; rfl
    | 1, hi => simp at hi; subst hi; rfl⟩,
   fun r hr => by
    rcases List.mem_cons.1 hr with rfl | hr
    · exact hp
    · rcases List.mem_cons.1 hr with rfl | hr
      · exact hq
      · cases hr⟩
theorem parts_one {w : World} {Q : Nat} {p : Prt} (hQ : Blk w Q #[p.val] 22) (hp : p.ok w) : PartsAt w (some ⟨Q, 0, none⟩) [p] :=
  ⟨fun _ => ⟨Q, 0, rfl, hQ.lt, fun i r hi => by
    rw [Nat.zero_add, hQ.cell]
    match i, hi with
    | 0, hi => simp at hi; subst hi; rfl⟩,
   fun r hr => by
    rcases List.mem_cons.1 hr with rfl | hr
    · exact hp
    · cases hr⟩

end Go.Proofs.YtglfakglcoffkaaDoor

namespace Go.Proofs.YtglfakglcoffkaaDoor
open Go.RowKit

theorem byte_at {a : List UInt8} {i : Nat} (h : i < a.length) : (byteVals a)[i]? = some (.int .u8 (a.getD i 0).toNat) :=
  byteVals_get (by rw [List.getElem?_eq_getElem h, List.getD_eq_getElem?_getD, List.getElem?_eq_getElem h]; rfl)
theorem byteVals_set (bs : List UInt8) (j : Nat) (y : UInt8) : (byteVals bs).set j (.int .u8 y.toNat) = byteVals (bs.set j y) := by simp [byteVals, List.map_set]
theorem Tryd.info22 : (Tryd.prog.info? 22).map (fun i => (i.zero, i.size, i.bytes)) = some (some (.slice none 0 0), 1, 24) := by kernel_rfl
theorem parts_reads {w : World} {A : Option Addr} {L : List Prt} (h : PartsAt w A L) : Reads w w.heap.size 1 A L.length (L.map Prt.val) :=
  ⟨by simp, fun h0 => by
    obtain ⟨b, off, e, hlt, hc⟩ := h.at_ h0
    refine ⟨_, e, hlt, fun j u hu => ?_⟩
    rw [Go.WideShapes.add_plain]
    rw [List.getElem?_map, Option.map_eq_some_iff] at hu
    obtain ⟨p, h1, rfl⟩ := hu
    exact hc j p h1⟩
theorem parts_of_own {w : World} {base n c : Nat} {A : Option Addr} {L : List Prt} (h : w.ownsRow base 22 1 (.slice A n c) n (L.map Prt.val)) (hok : ∀ p ∈ L, p.ok w) : PartsAt w A L ∧ n = L.length := by
  have hl := h.1
  rw [List.length_map, Nat.mul_one] at hl
  refine ⟨⟨fun h0 => ?_, hok⟩, hl.symm⟩
  rcases h.2 with ⟨h1, h2⟩ | ⟨g, cap, cur, h1, h2, h3, h4, h5, h6, h7⟩
  · omega
  · injection h1 with e1 e2 e3
    refine ⟨g, 0, e1, (Array.getElem?_eq_some_iff.1 h3).1, fun j p hj => ?_⟩
    have := h.cells (g := g) (by rw [e1]; rfl) j p.val (by rw [List.getElem?_map, hj]; rfl)
    rwa [Go.WideShapes.add_plain] at this
theorem prt_one (L : List Prt) : ∀ v ∈ L.map Prt.val, v.oneCell' = true := by
  intro v hv
  obtain ⟨p, _, rfl⟩ := List.mem_map.1 hv
  rfl

def eightAt (n k : Nat) : List UInt8 := (be 8 n).take k ++ zeros (8 - k)
theorem eightAt_len (n k : Nat) (h : k ≤ 8) : (eightAt n k).length = 8 := by
  unfold eightAt zeros
  rw [List.length_append, List.length_take, be_len, List.length_replicate]; omega
theorem eightAt_set (n k : Nat) (h : k < 8) : (eightAt n k).set k (UInt8.ofNat (n / 2 ^ (8 * (8 - 1 - k)))) = eightAt n (k + 1) := by
  have hl : ((be 8 n).take k).length = k := by rw [List.length_take, be_len]; omega
  unfold eightAt zeros
  rw [List.set_append_right _ _ (by omega), hl, Nat.sub_self, show 8 - k = (8 - (k + 1)) + 1 by omega, List.replicate_succ, List.set_cons_zero, be_take_succ 8 n k h, List.append_assoc]
  rfl
theorem make8 (w : World) : (Instr.makeSlice 22 (.int .i64 8) (.int .i64 8)).run Tryd.prog w = .ok (.slice (some ⟨w.heap.size, 0, none⟩) 8 8) (w.alloc (.cells (byteVals (zeros 8)).toArray 5)) := make_n 8 (by decide) w
/-- Eight bytes in a block of the call's own. -/
def EightPost (w : World) (bs : List UInt8) (e : Ending) (w' : World) : Prop :=
  ∃ b, e = .returned (.slice (some ⟨b, 0, none⟩) 8 8) ∧ BlkL w' b (byteVals bs) 5 ∧ w.heap.size ≤ b ∧ Chg none w w'
set_option maxRecDepth 100000 in
set_option maxHeartbeats 1000000 in
theorem eight_any (n : Nat) (hn : n < 9223372036854775808) (w : World) : Calls Tryd.prog 120 #[.int .i64 n] w (EightPost w (be 8 n)) := by
  have hW1 : ∃ W1, W1 = w.alloc (.cells (byteVals (zeros 8)).toArray 5) := ⟨_, rfl⟩
  obtain ⟨W1, hW1⟩ := hW1
  have g1 : Chg none w W1 := by rw [hW1]; exact (Chg.refl _ _).alloc _
  have b1 : BlkL W1 w.heap.size (byteVals (eightAt n 0)) 5 := by rw [hW1]; exact Blk.new _ _ _
  have HW : Hid (w.alloc (.cells (byteVals (zeros 8)).toArray 5) = W1) := hW1.symm
  have hmk := make8 w
  clear hW1
  go_enter Tryd.func120, Tryd.ntmps120
  go_wp2_with fail
  have e1 := HW.out
  rw [e1]
  clear e1
  have hle : w.heap.size ≤ w.heap.size := Nat.le_refl _
  generalize hb : w.heap.size = b at *
  have HB := Lib.hid hb
  clear hb
  go_loopw [6] (fun s6 wr => ∃ k : Nat, k ≤ 8 ∧ s6 = .int .i64 k ∧ BlkL wr b (byteVals (eightAt n k)) 5 ∧ Chg none w wr) (fun s6 _ => 8 - (intOf s6).toNat)
  case atStart => exact ⟨0, by omega, rfl, b1, g1⟩
  case round =>
    obtain ⟨k, hk, rfl, bk, gk⟩ := hrel
    clear b1 g1
    by_cases hlt : k < 8
    · have cK := (BlkL.cell bk k).trans (byte_at (a := eightAt n k) (by rw [eightAt_len _ _ hk]; exact hlt))
      have hfz := Blk.frozen bk k
      obtain ⟨x, hx⟩ : ∃ x, x = UInt8.ofNat (n / 2 ^ (56 - 8 * k)) := ⟨_, rfl⟩
      have hv : (x.toNat : Int) = (n : Int) / 2 ^ (56 - 8 * k) % 256 := by rw [hx, byte_shr]
      have hset := BlkL.set bk k (.int .u8 x.toNat)
      rw [byteVals_set, hx, show 56 - 8 * k = 8 * (8 - 1 - k) by omega, eightAt_set n k hlt, show 8 * (8 - 1 - k) = 56 - 8 * k by omega, ← hx, hv] at hset
      have HSET := Lib.hid hset
      generalize (eightAt n k).getD k 0 = y at *
      clear hset hx hv
      go_wp2_with fail
      go_roundw
      case rel => exact ⟨k + 1, by omega, by go_num, HSET.out, gk.setNew _ (by rw [HB.out]; exact Nat.le_refl _) _⟩
      case measure => first | (simp [intOf]; done) | (simp [intOf]; omega)
    · obtain rfl : k = 8 := by omega
      have hd8 : decide (((8 : Nat) : Int) < 8) = false := by decide
      have hfin : eightAt n 8 = be 8 n := by unfold eightAt zeros; rw [List.take_of_length_le (by rw [be_len]; omega)]; simp
      rw [hfin] at bk
      clear hfin
      go_wp2_with fail
      go_ret
      exact ⟨b, rfl, bk, by rw [HB.out]; exact Nat.le_refl _, gk⟩
/-- The digest of a leaf, of a pair, of the root. -/
def leafB (i : Nat) (chunk : List UInt8) : List UInt8 := dig (0 :: (be 8 i ++ chunk))
def pairB (l r : List UInt8) : List UInt8 := dig (1 :: (l ++ r))
def rootOfB (n : Nat) (top : List UInt8) : List UInt8 := dig (2 :: (be 8 n ++ top))
set_option maxRecDepth 100000 in
set_option maxHeartbeats 4000000 in
theorem leaf_any (i : Nat) (p : Prt) (w : World) (hp : p.ok w) (hi : i < 9223372036854775808) (hn : p.x.length ≤ 1000000) (hT : Tabs w) :
    Calls Tryd.prog 115 #[.int .i64 i, .slice p.A p.x.length p.c] w fun e w' => e = .returned (.agg (byteVals (leafB i p.x)).toArray) ∧ Chg none w w' := by
  obtain ⟨W1, hW1⟩ : ∃ W1, W1 = w.alloc (.cells zero32 30) := ⟨_, rfl⟩
  have HW1 : Hid (w.alloc (.cells #[Value.int IntKind.u8 0, Value.int IntKind.u8 0, Value.int IntKind.u8 0, Value.int IntKind.u8 0, Value.int IntKind.u8 0, Value.int IntKind.u8 0, Value.int IntKind.u8 0, Value.int IntKind.u8 0, Value.int IntKind.u8 0, Value.int IntKind.u8 0, Value.int IntKind.u8 0, Value.int IntKind.u8 0, Value.int IntKind.u8 0, Value.int IntKind.u8 0, Value.int IntKind.u8 0, Value.int IntKind.u8 0, Value.int IntKind.u8 0, Value.int IntKind.u8 0, Value.int IntKind.u8 0, Value.int IntKind.u8 0, Value.int IntKind.u8 0, Value.int IntKind.u8 0, Value.int IntKind.u8 0, Value.int IntKind.u8 0, Value.int IntKind.u8 0, Value.int IntKind.u8 0, Value.int IntKind.u8 0, Value.int IntKind.u8 0, Value.int IntKind.u8 0, Value.int IntKind.u8 0, Value.int IntKind.u8 0, Value.int IntKind.u8 0] 30) = W1) := hW1.symm
  have g1 : Chg none w W1 := by rw [hW1]; exact (Chg.refl _ _).alloc _
  have bR1 : Blk W1 w.heap.size zero32 30 := by rw [hW1]; exact Blk.new _ _ _
  clear hW1
  have HE := Lib.hid (eight_any i hi W1)
  obtain ⟨D, hD⟩ : ∃ D, D = leafB i p.x := ⟨_, rfl⟩
  have hDl : D.length = 32 := by rw [hD]; exact dig_len _
  rw [← hD]
  have HD := Lib.hid hD
  clear hD
  go_enter Tryd.func115, Tryd.ntmps115
  go_upto_region 1 with (fail)
  have e1 := HW1.out
  rw [e1]
  clear e1
  generalize hpR : w.heap.size = pR at *
  have HPR := Lib.hid hpR
  clear hpR
  go_wp2_with fail
  refine HE.out.mono ?_
  rintro e w2 ⟨b, rfl, b2, hb2, g2⟩
  have g02 := g1.trans g2
  have bR2 := bR1.chg g2 (by simp)
  have gA : Chg none w2 (w2.alloc (.cells #[.slice (some ⟨b, 0, none⟩) 8 8, .slice p.A p.x.length p.c] 22)) := (Chg.refl _ _).alloc _
  have hQ : Blk (w2.alloc (.cells #[.slice (some ⟨b, 0, none⟩) 8 8, .slice p.A p.x.length p.c] 22)) w2.heap.size #[(⟨some ⟨b, 0, none⟩, be 8 i, 8⟩ : Prt).val, p.val] 22 := by
    show Blk _ _ #[.slice (some ⟨b, 0, none⟩) (be 8 i).length 8, .slice p.A p.x.length p.c] 22
    rw [be_len]; exact Blk.new _ _ _
  have hPA := parts_two hQ ((prt_of_row b2 (by rw [be_len]; exact Nat.le_refl _)).chg gA) ((hp.chg g02).chg gA)
  have hj : joined [(⟨some ⟨b, 0, none⟩, be 8 i, 8⟩ : Prt), p] = be 8 i ++ p.x := by
    show be 8 i ++ (p.x ++ []) = _
    rw [List.append_nil]
  have HPT := Lib.hid (parts_any 0 (some ⟨w2.heap.size, 0, none⟩) [⟨some ⟨b, 0, none⟩, be 8 i, 8⟩, p] 2 _ hPA (by rw [hj, List.length_append, be_len]; omega) (by simp) ((hT.chg g02 (by simp)).chg gA (by simp)))
  rw [hj] at HPT
  have hD := HD.out
  change Hid (Calls Tryd.prog 19 #[.int .u8 0, .slice (some ⟨w2.heap.size, 0, none⟩) 2 2] _ fun e w' => e = .returned (.agg (byteVals (leafB i p.x)).toArray) ∧ _) at HPT
  rw [← hD] at HPT
  have g03 := g02.trans gA
  have bR3 := bR2.chg gA (by simp)
  clear hQ hPA hj gA g02 g2 HE bR1 bR2 b2 hD
  go_wp2_with fail
  refine HPT.out.mono ?_
  rintro e w4 ⟨rfl, g4⟩
  have bR4 := bR3.chg g4 (by simp)
  have g04 := g03.trans g4
  obtain ⟨hds, hdo⟩ := row_facts D 32 hDl
  have HI : Hid ((Tryd.prog.info? 30).map (·.size) = some (byteVals D).toArray.size) := by rw [hds]; show _ = _; kernel_rfl
  have HZ : Hid (zero32.size = (byteVals D).toArray.size) := by rw [hds]; rfl
  have HO := Lib.hid hdo
  clear hds hdo bR3 g4 HPT
  go_wp2_with (refine wpList_store_row rfl 30 _ _ rfl pR (byteVals D).toArray rfl rfl 30 _ bR4 HI.out HZ.out HO.out ?_)
  refine bodyPost_ret (results_cell_row (p := 4) (ty := 30) Tryd.results115 _ _ pR 30 (byteVals D).toArray (0, 0) _ rfl (setRow_heap _ _ _ _ _ _ bR4) Tryd.underlying30 rfl HI.out) rfl ⟨rfl, ?_⟩
  exact Chg.own (b := pR) g04 (chg_setRow _ _ _) (by rw [HPR.out]; exact Nat.le_refl _)

end Go.Proofs.YtglfakglcoffkaaDoor

namespace Go.Proofs.YtglfakglcoffkaaDoor
open Go.RowKit

set_option maxRecDepth 100000 in
set_option maxHeartbeats 4000000 in
theorem pair_any (l r : List UInt8) (hl : l.length = 32) (hr : r.length = 32) (w : World) (hT : Tabs w) :
    Calls Tryd.prog 119 #[.agg (byteVals l).toArray, .agg (byteVals r).toArray] w fun e w' => e = .returned (.agg (byteVals (pairB l r)).toArray) ∧ Chg none w w' := by
  obtain ⟨W3, hW3⟩ : ∃ W3, W3 = ((w.alloc (.cells (byteVals l).toArray 30)).alloc (.cells (byteVals r).toArray 30)).alloc (.cells zero32 30) := ⟨_, rfl⟩
  have HW3 : Hid (((w.alloc (.cells (byteVals l).toArray 30)).alloc (.cells (byteVals r).toArray 30)).alloc (.cells #[Value.int IntKind.u8 0, Value.int IntKind.u8 0, Value.int IntKind.u8 0, Value.int IntKind.u8 0, Value.int IntKind.u8 0, Value.int IntKind.u8 0, Value.int IntKind.u8 0, Value.int IntKind.u8 0, Value.int IntKind.u8 0, Value.int IntKind.u8 0, Value.int IntKind.u8 0, Value.int IntKind.u8 0, Value.int IntKind.u8 0, Value.int IntKind.u8 0, Value.int IntKind.u8 0, Value.int IntKind.u8 0, Value.int IntKind.u8 0, Value.int IntKind.u8 0, Value.int IntKind.u8 0, Value.int IntKind.u8 0, Value.int IntKind.u8 0, Value.int IntKind.u8 0, Value.int IntKind.u8 0, Value.int IntKind.u8 0, Value.int IntKind.u8 0, Value.int IntKind.u8 0, Value.int IntKind.u8 0, Value.int IntKind.u8 0, Value.int IntKind.u8 0, Value.int IntKind.u8 0, Value.int IntKind.u8 0, Value.int IntKind.u8 0] 30) = W3) := hW3.symm
  have g0 : Chg none w W3 := by rw [hW3]; exact (((Chg.refl _ _).alloc _).alloc _).alloc _
  have hs1 : (w.alloc (.cells (byteVals l).toArray 30)).heap.size = w.heap.size + 1 := by simp
  have hs2 : ((w.alloc (.cells (byteVals l).toArray 30)).alloc (.cells (byteVals r).toArray 30)).heap.size = w.heap.size + 1 + 1 := by simp
  have bA : BlkL W3 w.heap.size (byteVals l) 30 := by rw [hW3]; exact Blk.alloc (Blk.alloc (Blk.new _ _ _) _) _
  have bB : BlkL W3 (w.heap.size + 1) (byteVals r) 30 := by
    have h := Blk.new (w.alloc (.cells (byteVals l).toArray 30)) (byteVals r).toArray 30
    rw [hs1] at h
    rw [hW3]; exact Blk.alloc h _
  have bR : Blk W3 (w.heap.size + 1 + 1) zero32 30 := by
    have h := Blk.new ((w.alloc (.cells (byteVals l).toArray 30)).alloc (.cells (byteVals r).toArray 30)) zero32 30
    rw [hs2] at h
    rw [hW3]; exact h
  have hRge : w.heap.size ≤ w.heap.size + 1 + 1 := by omega
  clear hW3 hs1 hs2
  obtain ⟨D, hD⟩ : ∃ D, D = pairB l r := ⟨_, rfl⟩
  have hDl : D.length = 32 := by rw [hD]; exact dig_len _
  rw [← hD]
  obtain ⟨CA, hCA⟩ : ∃ CA, CA = (byteVals l).toArray := ⟨_, rfl⟩
  obtain ⟨CB, hCB⟩ : ∃ CB, CB = (byteVals r).toArray := ⟨_, rfl⟩
  rw [← hCA, ← hCB]
  rw [← hCA, ← hCB] at HW3
  have HD := Lib.hid hD
  clear hD hCA hCB
  go_enter Tryd.func119, Tryd.ntmps119
  go_wp2_with fail
  rw [HW3.out]
  clear HW3
  generalize w.heap.size + 1 + 1 = pR at *
  generalize w.heap.size + 1 = pB at *
  generalize hpA : w.heap.size = pA at *
  have HPA := Lib.hid hpA
  clear hpA
  refine wp_region_held_drew (S := fun _ => True) (by kernel_rfl) trivial (fun _ => ?_)
  have g00 : Chg none w W3.drew := g0.drew
  have bA0 := bA.drew
  have bB0 := bB.drew
  have bR0 := bR.drew
  clear g0 bA bB bR
  generalize W3.drew = v0 at *
  have gA : Chg none v0 (v0.alloc (.cells #[.slice (some ⟨pA, 0, none⟩) 32 32, .slice (some ⟨pB, 0, none⟩) 32 32] 22)) := (Chg.refl _ _).alloc _
  have hQ : Blk (v0.alloc (.cells #[.slice (some ⟨pA, 0, none⟩) 32 32, .slice (some ⟨pB, 0, none⟩) 32 32] 22)) v0.heap.size #[(⟨some ⟨pA, 0, none⟩, l, 32⟩ : Prt).val, (⟨some ⟨pB, 0, none⟩, r, 32⟩ : Prt).val] 22 := by
    show Blk _ _ #[.slice (some ⟨pA, 0, none⟩) l.length 32, .slice (some ⟨pB, 0, none⟩) r.length 32] 22
    rw [hl, hr]; exact Blk.new _ _ _
  have hPA := parts_two hQ ((prt_of_row bA0 (by omega)).chg gA) ((prt_of_row bB0 (by omega)).chg gA)
  have hj : joined [(⟨some ⟨pA, 0, none⟩, l, 32⟩ : Prt), ⟨some ⟨pB, 0, none⟩, r, 32⟩] = l ++ r := by
    show l ++ (r ++ []) = _
    rw [List.append_nil]
  have HPT := Lib.hid (parts_any 1 (some ⟨v0.heap.size, 0, none⟩) [⟨some ⟨pA, 0, none⟩, l, 32⟩, ⟨some ⟨pB, 0, none⟩, r, 32⟩] 2 _ hPA (by rw [hj, List.length_append]; omega) (by simp) ((hT.chg g00 (by simp)).chg gA (by simp)))
  rw [hj] at HPT
  have hD := HD.out
  change Hid (Calls Tryd.prog 19 #[.int .u8 1, .slice (some ⟨v0.heap.size, 0, none⟩) 2 2] _ fun e w' => e = .returned (.agg (byteVals (pairB l r)).toArray) ∧ _) at HPT
  rw [← hD] at HPT
  have g03 := g00.trans gA
  have bR3 := bR0.chg gA (by simp)
  obtain ⟨hds, hdo⟩ := row_facts D 32 hDl
  have HI : Hid ((Tryd.prog.info? 30).map (·.size) = some (byteVals D).toArray.size) := by rw [hds]; show _ = _; kernel_rfl
  have HZ : Hid (zero32.size = (byteVals D).toArray.size) := by rw [hds]; rfl
  have HO := Lib.hid hdo
  clear hds hdo hQ hPA hj gA hD bA0 bB0 bR0 g00
  refine wpAnyH_take (i := 0) (oi := ⟨some 5, _, _, _, _, _⟩) (v := ?_) rfl (by kernel_rfl) (by kernel_rfl) (by kernel_rfl) (fun _ _ _ h => h) (Or.inl ⟨by rfl, ?_⟩) (by assumption) ?_
  rotate_left
  · intro w hSw; (try dsimp only at hSw); go_simp; (try with_reducible rfl)
  try simp only [Act.put, List.setIfInBounds_toArray, List.set_cons_zero, List.set_cons_succ]
  refine wpAnyH_take (i := 1) (oi := ⟨some 6, _, _, _, _, _⟩) (v := ?_) rfl (by kernel_rfl) (by kernel_rfl) (by kernel_rfl) (fun _ _ _ h => h) (Or.inl ⟨by rfl, ?_⟩) (by assumption) ?_
  rotate_left
  · intro w hSw; (try dsimp only at hSw); go_simp; (try with_reducible rfl)
  try simp only [Act.put, List.setIfInBounds_toArray, List.set_cons_zero, List.set_cons_succ]
  refine wpAnyH_ready (rs := [2]) (by kernel_rfl) (by simp) ?_
  refine AllReadyH.cons (o := ⟨some 7, _, _, _, _, _⟩) rfl (fun K hK => ?_) (AllReadyH.nil)
  go_simp
  refine hK.out _ _ trivial (fun _ => ?_)
  clear hK K
  try simp only [Act.put, List.setIfInBounds_toArray, List.set_cons_zero, List.set_cons_succ]
  refine wpAnyH_ready (rs := [3]) (by kernel_rfl) (by simp) ?_
  refine AllReadyH.cons (o := ⟨some 8, _, _, _, _, _⟩) rfl (fun K hK => ?_) (AllReadyH.nil)
  go_simp
  go_at_call 19
  refine (HPT.out).mono ?_
  rintro e w4 ⟨rfl, g4⟩
  have bR4 := Blk.chg bR3 g4 (by simp)
  go_wp2_with fail
  refine hK.out _ _ trivial (fun _ => ?_)
  clear hK K
  try simp only [Act.put, List.setIfInBounds_toArray, List.set_cons_zero, List.set_cons_succ]
  refine wpAnyH_ready (rs := [4]) (by kernel_rfl) (by simp) ?_
  refine AllReadyH.cons (o := ⟨none, _, _, _, _, _⟩) rfl (fun K hK => ?_) (AllReadyH.nil)
  rw [if_pos (by rfl)]
  refine wp_store_row 30 (.tmp 4) (.tmp 8) (by rfl) pR (byteVals D).toArray (by rfl) (by rfl) 30 zero32 bR4 HI.out HZ.out HO.out ?_
  refine hK.out _ _ trivial (fun _ => ?_)
  clear hK K
  refine wpAnyH_done (by kernel_rfl) ?_ _
  try simp only [Act.put]
  go_wp2_with fail
  refine bodyPost_ret (results_cell_row (p := 4) (ty := 30) Tryd.results119 _ _ pR 30 (byteVals D).toArray (0, 0) _ rfl (setRow_heap _ _ _ _ _ _ bR4) Tryd.underlying30 rfl HI.out) rfl ⟨rfl, ?_⟩
  exact Chg.own (b := pR) (g03.trans g4) (chg_setRow _ _ _) (by rw [HPA.out]; exact hRge)
set_option maxRecDepth 100000 in
set_option maxHeartbeats 4000000 in
theorem root_any (n : Nat) (top : List UInt8) (hn : n < 9223372036854775808) (ht : top.length = 32) (w : World) (hT : Tabs w) :
    Calls Tryd.prog 97 #[.int .i64 n, .agg (byteVals top).toArray] w fun e w' => e = .returned (.agg (byteVals (rootOfB n top)).toArray) ∧ Chg none w w' := by
  obtain ⟨W3, hW3⟩ : ∃ W3, W3 = (w.alloc (.cells (byteVals top).toArray 30)).alloc (.cells zero32 30) := ⟨_, rfl⟩
  have HW3 : Hid ((w.alloc (.cells (byteVals top).toArray 30)).alloc (.cells #[Value.int IntKind.u8 0, Value.int IntKind.u8 0, Value.int IntKind.u8 0, Value.int IntKind.u8 0, Value.int IntKind.u8 0, Value.int IntKind.u8 0, Value.int IntKind.u8 0, Value.int IntKind.u8 0, Value.int IntKind.u8 0, Value.int IntKind.u8 0, Value.int IntKind.u8 0, Value.int IntKind.u8 0, Value.int IntKind.u8 0, Value.int IntKind.u8 0, Value.int IntKind.u8 0, Value.int IntKind.u8 0, Value.int IntKind.u8 0, Value.int IntKind.u8 0, Value.int IntKind.u8 0, Value.int IntKind.u8 0, Value.int IntKind.u8 0, Value.int IntKind.u8 0, Value.int IntKind.u8 0, Value.int IntKind.u8 0, Value.int IntKind.u8 0, Value.int IntKind.u8 0, Value.int IntKind.u8 0, Value.int IntKind.u8 0, Value.int IntKind.u8 0, Value.int IntKind.u8 0, Value.int IntKind.u8 0, Value.int IntKind.u8 0] 30) = W3) := hW3.symm
  have g0 : Chg none w W3 := by rw [hW3]; exact ((Chg.refl _ _).alloc _).alloc _
  have hs1 : (w.alloc (.cells (byteVals top).toArray 30)).heap.size = w.heap.size + 1 := by simp
  have bA : BlkL W3 w.heap.size (byteVals top) 30 := by rw [hW3]; exact Blk.alloc (Blk.new _ _ _) _
  have bR : Blk W3 (w.heap.size + 1) zero32 30 := by
    have h := Blk.new (w.alloc (.cells (byteVals top).toArray 30)) zero32 30
    rw [hs1] at h
    rw [hW3]; exact h
  have hRge : w.heap.size ≤ w.heap.size + 1 := by omega
  clear hW3 hs1
  obtain ⟨D, hD⟩ : ∃ D, D = rootOfB n top := ⟨_, rfl⟩
  have hDl : D.length = 32 := by rw [hD]; exact dig_len _
  rw [← hD]
  obtain ⟨CA, hCA⟩ : ∃ CA, CA = (byteVals top).toArray := ⟨_, rfl⟩
  rw [← hCA]
  rw [← hCA] at HW3
  have HD := Lib.hid hD
  clear hD hCA
  go_enter Tryd.func97, Tryd.ntmps97
  go_wp2_with fail
  rw [HW3.out]
  clear HW3
  generalize w.heap.size + 1 = pR at *
  generalize hpA : w.heap.size = pA at *
  have HPA := Lib.hid hpA
  clear hpA
  refine wp_region_held_drew (S := fun _ => True) (by kernel_rfl) trivial (fun _ => ?_)
  have g00 : Chg none w W3.drew := g0.drew
  have bA0 := bA.drew
  have bR0 := bR.drew
  clear g0 bA bR
  generalize W3.drew = v0 at *
  have HE := Lib.hid (eight_any n hn v0)
  have HPT0 : Hid (∀ (b : Nat) (w2 : World), BlkL w2 b (byteVals (be 8 n)) 5 → Chg none v0 w2 → Calls Tryd.prog 19 #[.int .u8 2, .slice (some ⟨w2.heap.size, 0, none⟩) 2 2] (w2.alloc (.cells #[.slice (some ⟨b, 0, none⟩) 8 8, .slice (some ⟨pA, 0, none⟩) 32 32] 22)) fun e w' =>
      e = .returned (.agg (byteVals D).toArray) ∧ Chg none (w2.alloc (.cells #[.slice (some ⟨b, 0, none⟩) 8 8, .slice (some ⟨pA, 0, none⟩) 32 32] 22)) w') := fun b w2 b2 g2 => by
    have gA : Chg none w2 (w2.alloc (.cells #[.slice (some ⟨b, 0, none⟩) 8 8, .slice (some ⟨pA, 0, none⟩) 32 32] 22)) := (Chg.refl _ _).alloc _
    have hQ : Blk (w2.alloc (.cells #[.slice (some ⟨b, 0, none⟩) 8 8, .slice (some ⟨pA, 0, none⟩) 32 32] 22)) w2.heap.size #[(⟨some ⟨b, 0, none⟩, be 8 n, 8⟩ : Prt).val, (⟨some ⟨pA, 0, none⟩, top, 32⟩ : Prt).val] 22 := by
      show Blk _ _ #[.slice (some ⟨b, 0, none⟩) (be 8 n).length 8, .slice (some ⟨pA, 0, none⟩) top.length 32] 22
      rw [be_len, ht]; exact Blk.new _ _ _
    have hPA := parts_two hQ ((prt_of_row b2 (by rw [be_len]; exact Nat.le_refl _)).chg gA) ((prt_of_row (Blk.chg bA0 g2 (by simp)) (by omega)).chg gA)
    have hj : joined [(⟨some ⟨b, 0, none⟩, be 8 n, 8⟩ : Prt), ⟨some ⟨pA, 0, none⟩, top, 32⟩] = be 8 n ++ top := by
      show be 8 n ++ (top ++ []) = _
      rw [List.append_nil]
    have h := parts_any 2 (some ⟨w2.heap.size, 0, none⟩) [⟨some ⟨b, 0, none⟩, be 8 n, 8⟩, ⟨some ⟨pA, 0, none⟩, top, 32⟩] 2 _ hPA (by rw [hj, List.length_append, be_len]; omega) (by simp) (((hT.chg g00 (by simp)).chg g2 (by simp)).chg gA (by simp))
    rw [hj] at h
    exact h.mono fun e w' ⟨he, h⟩ => ⟨by rw [he, HD.out]; rfl, h⟩
  obtain ⟨hds, hdo⟩ := row_facts D 32 hDl
  have HI : Hid ((Tryd.prog.info? 30).map (·.size) = some (byteVals D).toArray.size) := by rw [hds]; show _ = _; kernel_rfl
  have HZ : Hid (zero32.size = (byteVals D).toArray.size) := by rw [hds]; rfl
  have HO := Lib.hid hdo
  clear hds hdo bA0
  refine wpAnyH_take (i := 0) (oi := ⟨some 5, _, _, _, _, _⟩) (v := ?_) rfl (by kernel_rfl) (by kernel_rfl) (by kernel_rfl) (fun _ _ _ h => h) (Or.inl ⟨by rfl, ?_⟩) (by assumption) ?_
  rotate_left
  · intro w hSw; (try dsimp only at hSw); go_simp; (try with_reducible rfl)
  try simp only [Act.put, List.setIfInBounds_toArray, List.set_cons_zero, List.set_cons_succ]
  refine wpAnyH_take (i := 2) (oi := ⟨some 7, _, _, _, _, _⟩) (v := ?_) rfl (by kernel_rfl) (by kernel_rfl) (by kernel_rfl) (fun _ _ _ h => h) (Or.inl ⟨by rfl, ?_⟩) (by assumption) ?_
  rotate_left
  · intro w hSw; (try dsimp only at hSw); go_simp; (try with_reducible rfl)
  try simp only [Act.put, List.setIfInBounds_toArray, List.set_cons_zero, List.set_cons_succ]
  refine wpAnyH_ready (rs := [1]) (by kernel_rfl) (by simp) ?_
  refine AllReadyH.cons (o := ⟨some 6, _, _, _, _, _⟩) rfl (fun K hK => ?_) (AllReadyH.nil)
  go_simp
  go_at_call 120
  refine (HE.out).mono ?_
  rintro e w2 ⟨b, rfl, b2, hb2, g2⟩
  go_wp2_with fail
  refine hK.out _ _ trivial (fun _ => ?_)
  clear hK K
  try simp only [Act.put, List.setIfInBounds_toArray, List.set_cons_zero, List.set_cons_succ]
  refine wpAnyH_ready (rs := [3]) (by kernel_rfl) (by simp) ?_
  refine AllReadyH.cons (o := ⟨some 8, _, _, _, _, _⟩) rfl (fun K hK => ?_) (AllReadyH.nil)
  have HPT := Lib.hid (HPT0.out b w2 b2 g2)
  have bR3 := Blk.chg bR0 (g2.trans ((Chg.refl none w2).alloc (.cells #[.slice (some ⟨b, 0, none⟩) 8 8, .slice (some ⟨pA, 0, none⟩) 32 32] 22))) (by simp)
  have g03 := g00.trans (g2.trans ((Chg.refl none w2).alloc (.cells #[.slice (some ⟨b, 0, none⟩) 8 8, .slice (some ⟨pA, 0, none⟩) 32 32] 22)))
  go_simp
  refine hK.out _ _ trivial (fun _ => ?_)
  clear hK K
  try simp only [Act.put, List.setIfInBounds_toArray, List.set_cons_zero, List.set_cons_succ]
  refine wpAnyH_ready (rs := [4]) (by kernel_rfl) (by simp) ?_
  refine AllReadyH.cons (o := ⟨some 9, _, _, _, _, _⟩) rfl (fun K hK => ?_) (AllReadyH.nil)
  go_simp
  go_at_call 19
  refine (HPT.out).mono ?_
  rintro e w4 ⟨rfl, g4⟩
  have bR4 := Blk.chg bR3 g4 (by simp)
  go_wp2_with fail
  refine hK.out _ _ trivial (fun _ => ?_)
  clear hK K
  try simp only [Act.put, List.setIfInBounds_toArray, List.set_cons_zero, List.set_cons_succ]
  refine wpAnyH_ready (rs := [5]) (by kernel_rfl) (by simp) ?_
  refine AllReadyH.cons (o := ⟨none, _, _, _, _, _⟩) rfl (fun K hK => ?_) (AllReadyH.nil)
  rw [if_pos (by rfl)]
  refine wp_store_row 30 (.tmp 4) (.tmp 9) (by rfl) pR (byteVals D).toArray (by rfl) (by rfl) 30 zero32 bR4 HI.out HZ.out HO.out ?_
  refine hK.out _ _ trivial (fun _ => ?_)
  clear hK K
  refine wpAnyH_done (by kernel_rfl) ?_ _
  try simp only [Act.put]
  go_wp2_with fail
  refine bodyPost_ret (results_cell_row (p := 4) (ty := 30) Tryd.results97 _ _ pR 30 (byteVals D).toArray (0, 0) _ rfl (setRow_heap _ _ _ _ _ _ bR4) Tryd.underlying30 rfl HI.out) rfl ⟨rfl, ?_⟩
  exact Chg.own (b := pR) (g03.trans g4) (chg_setRow _ _ _) (by rw [HPA.out]; exact hRge)

end Go.Proofs.YtglfakglcoffkaaDoor

namespace Go.Proofs.YtglfakglcoffkaaDoor
open Go.RowKit

/-- Thirty-two bytes. -/
abbrev Dg := { d : List UInt8 // d.length = 32 }
def dgCells (d : Dg) : List Value := byteVals d.1
theorem dgCells_len (d : Dg) : (dgCells d).length = 32 := by unfold dgCells; rw [byteVals_len]; exact d.2
def zeroDg : Dg := ⟨zeros 32, by decide⟩
instance : Inhabited Dg := ⟨zeroDg⟩
def flat (L : List Dg) : List Value := L.flatMap dgCells
theorem flat_length (L : List Dg) : (flat L).length = L.length * 32 := flat_len dgCells 32 dgCells_len L
theorem flat_append (L M : List Dg) : flat (L ++ M) = flat L ++ flat M := by unfold flat; rw [List.flatMap_append]
theorem flat_range {w : World} {b : Nat} {L : List Dg} {T : TypeId} (h : BlkL w b (flat L) T) (i : Nat) (hi : i < L.length) : w.rangeAt b (i * 32) (dgCells L[i]) := fun j v hj => by
  have hj32 : j < 32 := by have := (List.getElem?_eq_some_iff.1 hj).1; rwa [dgCells_len] at this
  rw [BlkL.cell h, ← hj]
  exact flat_get dgCells 32 dgCells_len L i j _ (List.getElem?_eq_getElem hi) hj32
theorem flat_splice (L : List Dg) (i : Nat) (d : Dg) (hi : i < L.length) : splice (flat L) (i * 32) (dgCells d) = flat (L.set i d) := by
  have h1 : L = L.take i ++ L[i] :: L.drop (i + 1) := by rw [← List.drop_eq_getElem_cons hi, List.take_append_drop]
  have hl : (flat (L.take i)).length = i * 32 := by rw [flat_length, List.length_take]; congr 1; omega
  have hs : L.set i d = L.take i ++ d :: L.drop (i + 1) := List.set_eq_take_append_cons_drop.trans (by rw [if_pos hi])
  rw [hs]
  conv => lhs; rw [h1]
  have hc : ∀ (e : Dg) (M : List Dg), flat (e :: M) = dgCells e ++ flat M := fun e M => List.flatMap_cons
  rw [flat_append, flat_append, hc, hc]
  unfold splice
  rw [← hl, List.take_left, List.drop_append, List.drop_eq_nil_of_le (by omega), List.nil_append, dgCells_len, Nat.add_sub_cancel_left, List.drop_append, dgCells_len, Nat.sub_self,
    List.drop_eq_nil_of_le (by rw [dgCells_len]; exact Nat.le_refl _), List.nil_append, List.drop_zero]
theorem blk_setCells {T : TypeId} (b : Nat) : ∀ (vs : List Value) (o : Nat) (cs : List Value) (w : World), BlkL w b cs T → o + vs.length ≤ cs.length → BlkL (w.setCells b o vs) b (splice cs o vs) T
  | [], o, cs, w, h, _ => by
    have : splice cs o [] = cs := by simp [splice]
    rw [this]; exact h
  | v :: vs, o, cs, w, h, hl => by
    rw [List.length_cons] at hl
    have h2 := blk_setCells b vs (o + 1) (cs.set o v) (w.setCell ⟨b, o, none⟩ v) (BlkL.set h o v) (by rw [List.length_set]; omega)
    have e : splice (cs.set o v) (o + 1) vs = splice cs o (v :: vs) := by
      unfold splice
      have e1 : (cs.set o v).take (o + 1) = cs.take o ++ [v] := by
        rw [List.take_succ_eq_append_getElem (by rw [List.length_set]; omega), List.getElem_set_self, List.take_set_of_le (Nat.le_refl _)]
      rw [e1, List.drop_set_of_lt (by omega), List.length_cons, List.append_assoc, List.singleton_append, List.cons_append, show o + 1 + vs.length = o + (vs.length + 1) by omega]
    rw [← e]
    exact h2
theorem chg_setCells (b : Nat) : ∀ (vs : List Value) (o : Nat) (w : World), Chg (some b) w (w.setCells b o vs)
  | [], _, _w => Chg.refl _ _
  | v :: vs, o, w => ((Chg.refl _ w).setCell o v).trans (chg_setCells b vs (o + 1) _)
theorem there_of_blk {w : World} {b : Nat} {cs : List Value} {T : TypeId} (h : BlkL w b cs T) (o n : Nat) (hn : o + n ≤ cs.length) : w.there b o n := fun j hj => by
  refine ⟨?_, Blk.frozen h _⟩
  rw [BlkL.cell h, List.getElem?_eq_getElem (by omega)]; rfl

end Go.Proofs.YtglfakglcoffkaaDoor

namespace Go.Proofs.YtglfakglcoffkaaDoor
open Go.RowKit

theorem Tryd.info30 : (Tryd.prog.info? 30).map (fun i => (i.zero, i.size, i.bytes)) = some (some (.agg zero32), 32, 32) := by kernel_rfl
theorem made_zero32 (n : Nat) : madeCells (Value.agg zero32).cells (n * 32) = (flat (List.replicate n zeroDg)).toArray := by
  have hz : (Value.agg zero32).cells = zero32 := rfl
  have h1 : ∀ i, i < 32 → zero32[i]! = Value.int .u8 0 := fun i hi => by
    have e : zero32 = (List.replicate 32 (Value.int .u8 0)).toArray := rfl
    have hg : ∀ m : Nat, i < m → (List.replicate m (Value.int .u8 0)).toArray[i]! = Value.int .u8 0 := fun m hm => by simp [hm]
    rw [e]
    exact hg 32 hi
  have h2 : flat (List.replicate n zeroDg) = List.replicate (n * 32) (Value.int .u8 0) := by
    induction n with
    | zero => rfl
    | succ n ih =>
      rw [List.replicate_succ]
      show dgCells zeroDg ++ flat (List.replicate n zeroDg) = _
      rw [ih, show dgCells zeroDg = List.replicate 32 (Value.int .u8 0) from by simp [dgCells, zeroDg, byteVals, zeros], List.replicate_append_replicate]
      congr 1
      omega
  rw [h2, hz]
  apply Array.ext
  · simp [size_madeCells]
  · intro i h3 h4
    have hs : zero32.size = 32 := rfl
    simp only [madeCells, Array.getElem_map, Array.getElem_range, hs]
    rw [h1 _ (Nat.mod_lt _ (by omega))]
    simp
theorem make51 (n : Nat) (hn : n ≤ 1000000) (w : World) : (Instr.makeSlice 114 (.int .i64 n) (.int .i64 n)).run Tryd.prog w = .ok (.slice (some ⟨w.heap.size, 0, none⟩) n n) (w.alloc (.cells (flat (List.replicate n zeroDg)).toArray 30)) := by
  obtain ⟨i0, hi, hz0, hz1, hz2⟩ := info_parts Tryd.info30
  have hr := run_make (P := Tryd.prog) w 114 30 i0 (.agg zero32) Tryd.underlying114 hi hz0 .i64 .i64 (n : Int) (n : Int) (by omega) (Int.le_refl _) (by rw [hz2]; omega) (by omega)
  rw [hr, Int.toNat_natCast, hz1, made_zero32]
def leafDg (x : List UInt8) (i : Nat) : Dg := ⟨leafB i (chunkB x i), dig_len _⟩
/-- The leaves of the blob x. -/
def leavesB (x : List UInt8) : List Dg := (List.range (cntN x.length)).map (leafDg x)
theorem leavesB_len (x : List UInt8) : (leavesB x).length = cntN x.length := by simp [leavesB]
theorem leaves_take (x : List UInt8) (k : Nat) (h : k < cntN x.length) : (leavesB x).take (k + 1) = (leavesB x).take k ++ [leafDg x k] := by
  rw [List.take_succ_eq_append_getElem (by rw [leavesB_len]; exact h)]
  simp [leavesB]
/-- A row of which the first k are there. -/
def rowAt (L : List Dg) (k : Nat) : List Dg := L.take k ++ List.replicate (L.length - k) zeroDg
theorem rowAt_len (L : List Dg) (k : Nat) (h : k ≤ L.length) : (rowAt L k).length = L.length := by
  unfold rowAt; rw [List.length_append, List.length_take, List.length_replicate]; omega
theorem rowAt_set (L : List Dg) (k : Nat) (h : k < L.length) : (rowAt L k).set k L[k] = rowAt L (k + 1) := by
  have hl : (L.take k).length = k := by rw [List.length_take]; omega
  unfold rowAt
  rw [List.set_append_right _ _ (by omega), hl, Nat.sub_self, show L.length - k = (L.length - (k + 1)) + 1 by omega, List.replicate_succ, List.set_cons_zero, List.take_succ_eq_append_getElem h, List.append_assoc]
  rfl
theorem rowAt_all (L : List Dg) : rowAt L L.length = L := by simp [rowAt]
theorem rowAt_zero (L : List Dg) : rowAt L 0 = List.replicate L.length zeroDg := by simp [rowAt]
/-- A row of digests of the call's own. -/
def RowPost (w : World) (L : List Dg) (e : Ending) (w' : World) : Prop :=
  ∃ b, e = .returned (.slice (some ⟨b, 0, none⟩) L.length L.length) ∧ BlkL w' b (flat L) 30 ∧ w.heap.size ≤ b ∧ Chg none w w'
set_option maxRecDepth 100000 in
set_option maxHeartbeats 4000000 in
theorem leaves_any (p : Prt) (w : World) (hp : p.ok w) (hn : p.x.length ≤ 1000000) (hT : Tabs w) : Calls Tryd.prog 95 #[.slice p.A p.x.length p.c] w (RowPost w (leavesB p.x)) := by
  have hcn : cntN p.x.length ≤ 1000000 := by unfold cntN; omega
  have HC := Lib.hid (count_nat p.x.length (by omega) w)
  obtain ⟨W1, hW1⟩ : ∃ W1, W1 = w.alloc (.cells (flat (List.replicate (cntN p.x.length) zeroDg)).toArray 30) := ⟨_, rfl⟩
  have hmk := make51 (cntN p.x.length) hcn w
  rw [← hW1] at hmk
  have g1 : Chg none w W1 := by rw [hW1]; exact (Chg.refl _ _).alloc _
  have b1 : BlkL W1 w.heap.size (flat (rowAt (leavesB p.x) 0)) 30 := by rw [rowAt_zero, leavesB_len, hW1]; exact Blk.new _ _ _
  have HLL := Lib.hid (leavesB_len p.x)
  clear hW1
  obtain ⟨n, hnn⟩ : ∃ n, n = cntN p.x.length := ⟨_, rfl⟩
  rw [← hnn] at hmk hcn HC HLL
  have HN := Lib.hid hnn
  clear hnn
  have hle : w.heap.size ≤ w.heap.size := Nat.le_refl _
  go_enter Tryd.func95, Tryd.ntmps95
  go_wp2_with fail
  refine HC.out.mono ?_
  rintro e w' ⟨rfl, rfl⟩
  go_wp2_with fail
  generalize hb : w.heap.size = b at *
  have HB := Lib.hid hb
  clear hb hmk
  go_loopw [11] (fun s11 wr => ∃ k : Nat, k ≤ n ∧ s11 = .int .i64 k ∧ BlkL wr b (flat (rowAt (leavesB p.x) k)) 30 ∧ Chg none w wr) (fun s11 _ => n - (intOf s11).toNat)
  case atStart => exact ⟨0, by omega, rfl, b1, g1⟩
  case round =>
    obtain ⟨k, hk, rfl, bk, gk⟩ := hrel
    clear b1 g1
    by_cases hlt : k < n
    · have hkc : k < cntN p.x.length := by rw [← HN.out]; exact hlt
      have HP := Lib.hid (part_any p k wr hp.2 hkc (by omega))
      have hpk := (partPrt_ok hp k hkc).chg gk
      have hx : (partPrt p k).x.length ≤ 1000000 := by rw [partPrt_x, chunkB_len _ _ (cnt_lo hkc)]; unfold chunkN; omega
      have HLF := Lib.hid (leaf_any k (partPrt p k) wr hpk (by omega) hx (hT.chg gk (by simp)))
      rw [partPrt_x] at HLF
      have hpv : (partPrt p k).val = .slice (partPrt p k).A (chunkB p.x k).length (partPrt p k).c := by rw [Prt.val, partPrt_x]
      rw [hpv] at HP
      have hlk : (leavesB p.x)[k]? = some (leafDg p.x k) := by
        unfold leavesB
        rw [List.getElem?_map, List.getElem?_range hkc]; rfl
      obtain ⟨D, hD⟩ : ∃ D : Dg, D = leafDg p.x k := ⟨_, rfl⟩
      have hDv : leafB k (chunkB p.x k) = D.1 := by rw [hD]; rfl
      rw [hDv] at HLF
      have hll : k < (leavesB p.x).length := by rw [HLL.out]; exact hlt
      have hDk : (leavesB p.x)[k] = D := by
        have := List.getElem?_eq_getElem hll
        rw [hlk] at this
        rw [hD]; exact (Option.some.inj this).symm
      have hsp := flat_splice (rowAt (leavesB p.x) k) k D (by rw [rowAt_len _ _ (Nat.le_of_lt hll)]; exact hll)
      rw [← hDk, rowAt_set _ _ hll, hDk] at hsp
      have HSP := Lib.hid hsp
      have hfl : (flat (rowAt (leavesB p.x) k)).length = n * 32 := by rw [flat_length, rowAt_len _ _ (Nat.le_of_lt hll), HLL.out]
      have HFL := Lib.hid hfl
      clear hkc hpk hx hpv hlk hD hDv hll hDk hsp hfl
      generalize (partPrt p k).A = A1 at *
      generalize (partPrt p k).c = c1 at *
      generalize chunkB p.x k = cb at *
      go_wp2_with fail
      refine HP.out.mono ?_
      rintro e w' ⟨rfl, rfl⟩
      go_wp2_with fail
      refine HLF.out.mono ?_
      rintro e w3 ⟨rfl, g3⟩
      have b3 := Blk.chg bk g3 (by simp)
      have HTH := Lib.hid (there_of_blk b3 (k * 32) (byteVals D.1).toArray.size (by rw [HFL.out, List.size_toArray, byteVals_len, D.2]; omega))
      obtain ⟨hds, hdo⟩ := row_facts D.1 32 D.2
      have HI : Hid ((Tryd.prog.info? 30).map (·.size) = some (byteVals D.1).toArray.size) := by rw [hds]; show _ = _; kernel_rfl
      have HO := Lib.hid hdo
      have hset := blk_setCells b (byteVals D.1) (k * 32) _ w3 b3 (by rw [HFL.out, byteVals_len, D.2]; omega)
      have hsp := HSP.out
      unfold dgCells at hsp
      rw [hsp] at hset
      have HSET := Lib.hid hset
      have g4 : Chg none w (w3.setCells b (k * 32) (byteVals D.1)) := Chg.own (b := b) (gk.trans g3) (chg_setCells b _ _ _) (by rw [HB.out]; exact Nat.le_refl _)
      clear hds hdo hset hsp bk g3 HP HLF b3
      go_wp2_with (refine wpList_store_mid rfl 30 _ _ rfl b (k * 32) (byteVals D.1).toArray rfl rfl HTH.out HI.out HO.out ?_)
      go_roundw
      case rel => exact ⟨k + 1, by omega, by go_num, HSET.out, g4⟩
      case measure => first | (simp [intOf]; done) | (simp [intOf]; omega)
    · obtain rfl : k = n := by omega
      have hnl : decide ((k : Int) < (k : Int)) = false := by simp
      have hl := HLL.out
      rw [← hl, rowAt_all] at bk
      go_wp2_with fail
      go_ret
      exact ⟨b, by rw [hl]; rfl, bk, by rw [HB.out]; exact Nat.le_refl _, gk⟩

end Go.Proofs.YtglfakglcoffkaaDoor

namespace Go.Proofs.YtglfakglcoffkaaDoor
open Go.RowKit

def nextDg (L : List Dg) (i : Nat) : Dg := if aloneB L.length (2 * i) = true then L.getD (2 * i) zeroDg else ⟨pairB (L.getD (2 * i) zeroDg).1 (L.getD (2 * i + 1) zeroDg).1, dig_len _⟩
/-- The row above a row. -/
def nextB (L : List Dg) : List Dg := (List.range ((L.length + 1) / 2)).map (nextDg L)
theorem nextB_len (L : List Dg) : (nextB L).length = (L.length + 1) / 2 := by simp [nextB]
theorem nextB_at (L : List Dg) (i : Nat) (h : i < (nextB L).length) : (nextB L)[i] = nextDg L i := by simp [nextB]
theorem row_step (L : List Dg) (k : Nat) (D : Dg) (hll : k < L.length) (hD : L[k] = D) : splice (flat (rowAt L k)) (k * 32) (dgCells D) = flat (rowAt L (k + 1)) := by
  have hsp := flat_splice (rowAt L k) k D (by rw [rowAt_len _ _ (Nat.le_of_lt hll)]; exact hll)
  rw [← hD, rowAt_set _ _ hll] at hsp
  rw [← hD]; exact hsp
set_option maxRecDepth 100000 in
set_option maxHeartbeats 8000000 in
theorem next_any (L : List Dg) (b0 c : Nat) (w : World) (hr : BlkL w b0 (flat L) 30) (hn : L.length ≤ 1000000) (hc : L.length ≤ c) (hT : Tabs w) : Calls Tryd.prog 96 #[.slice (some ⟨b0, 0, none⟩) L.length c] w (RowPost w (nextB L)) := by
  obtain ⟨n, hnn⟩ : ∃ n, n = L.length := ⟨_, rfl⟩
  obtain ⟨m, hmm⟩ : ∃ m, m = (n + 1) / 2 := ⟨_, rfl⟩
  have hm : m ≤ 1000000 := by omega
  have HC := Lib.hid (half_nat n (by omega) w)
  rw [← hmm] at HC
  have hnl := nextB_len L
  rw [← hnn, ← hmm] at hnl
  obtain ⟨W1, hW1⟩ : ∃ W1, W1 = w.alloc (.cells (flat (List.replicate m zeroDg)).toArray 30) := ⟨_, rfl⟩
  have hmk := make51 m hm w
  rw [← hW1] at hmk
  have g1 : Chg none w W1 := by rw [hW1]; exact (Chg.refl _ _).alloc _
  have b1 : BlkL W1 w.heap.size (flat (rowAt (nextB L) 0)) 30 := by rw [rowAt_zero, hnl, hW1]; exact Blk.new _ _ _
  have hr1 := Blk.chg hr g1 (by simp)
  have HLL := Lib.hid hnl
  have hne : b0 ≠ w.heap.size := by have := Blk.lt hr; omega
  have HN := Lib.hid hnn
  have HM := Lib.hid hmm
  have hn1 : n ≤ 1000000 := by omega
  have hcn : n ≤ c := by omega
  rw [← hnn]
  have hmn : 2 * m ≤ n + 1 := by omega
  clear hW1 hnn hmm hnl hr hn hc
  go_enter Tryd.func96, Tryd.ntmps96
  go_wp2_with fail
  refine HC.out.mono ?_
  rintro e w' ⟨rfl, rfl⟩
  go_wp2_with fail
  generalize hb : w.heap.size = b at *
  have HB := Lib.hid hb
  clear hb hmk
  go_loopw [11] (fun s11 wr => ∃ k : Nat, k ≤ m ∧ s11 = .int .i64 k ∧ BlkL wr b (flat (rowAt (nextB L) k)) 30 ∧ BlkL wr b0 (flat L) 30 ∧ Chg none w wr) (fun s11 _ => m - (intOf s11).toNat)
  case atStart => exact ⟨0, by omega, rfl, b1, hr1, g1⟩
  case round =>
    obtain ⟨k, hk, rfl, bk, hrk, gk⟩ := hrel
    clear b1 g1 hr1
    by_cases hlt : k < m
    · have hll : k < (nextB L).length := by rw [HLL.out]; exact hlt
      have HAL := Lib.hid (alone_nat n (2 * k) (by omega) (by omega) wr)
      have hcast : ((2 * k : Nat) : Int) = 2 * (k : Int) := by omega
      rw [hcast] at HAL
      have h2k : 2 * k < n := by omega
      have h2L : 2 * k < L.length := by rw [← HN.out]; exact h2k
      have hfl : (flat (rowAt (nextB L) k)).length = m * 32 := by rw [flat_length, rowAt_len _ _ (Nat.le_of_lt hll), HLL.out]
      have HFL := Lib.hid hfl
      have hr0 := flat_range hrk (2 * k) h2L
      clear hfl hcast
      by_cases hal : aloneB n (2 * k) = true
      · obtain ⟨D, hD⟩ : ∃ D : Dg, D = L[2 * k] := ⟨_, rfl⟩
        have hDk : (nextB L)[k] = D := by
          rw [nextB_at, nextDg, if_pos (by rw [← HN.out]; exact hal), List.getD_eq_getElem?_getD, List.getElem?_eq_getElem h2L, hD]; rfl
        have HSP := Lib.hid (row_step (nextB L) k D hll hDk)
        rw [← hD] at hr0
        unfold dgCells at hr0
        have HR0 := Lib.hid hr0
        rw [hal] at HAL
        obtain ⟨hds, hdo⟩ := row_facts D.1 32 D.2
        have HI : Hid ((Tryd.prog.info? 30).map (·.size) = some (byteVals D.1).toArray.size) := by rw [hds]; show _ = _; kernel_rfl
        have HIl : Hid ((Tryd.prog.info? 30).map (·.size) = some (byteVals D.1).length) := by rw [byteVals_len, D.2]; show _ = _; kernel_rfl
        have HO := Lib.hid hdo
        have HTH := Lib.hid (there_of_blk bk (k * 32) (byteVals D.1).toArray.size (by rw [HFL.out, List.size_toArray, byteVals_len, D.2]; omega))
        have hset := blk_setCells b (byteVals D.1) (k * 32) _ wr bk (by rw [HFL.out, byteVals_len, D.2]; omega)
        have hsp := HSP.out
        unfold dgCells at hsp
        rw [hsp] at hset
        have HSET := Lib.hid hset
        have gS : Chg (some b) wr (wr.setCells b (k * 32) (byteVals D.1)) := chg_setCells b _ _ _
        have g4 : Chg none w (wr.setCells b (k * 32) (byteVals D.1)) := Chg.own (b := b) gk gS (by rw [HB.out]; exact Nat.le_refl _)
        have hr4 := Blk.chg hrk gS (by simpa using hne)
        clear hds hdo hset hsp hr0 hD hDk hal h2L hll
        go_wp2_with fail
        refine HAL.out.mono ?_
        rintro e w' ⟨rfl, rfl⟩
        go_wp2_with (first | (refine wpList_load_mid rfl 30 _ rfl b0 (2 * k * 32) rfl (byteVals D.1) _ HR0.out Tryd.underlying30 rfl HIl.out ?_) | (refine wpList_store_mid rfl 30 _ _ rfl b (k * 32) (byteVals D.1).toArray rfl rfl HTH.out HI.out HO.out ?_))
        go_roundw
        case rel => exact ⟨k + 1, by omega, by go_num, HSET.out, hr4, g4⟩
        case measure => first | (simp [intOf]; done) | (simp [intOf]; omega)
      · have hal' : aloneB n (2 * k) = false := by simpa using hal
        rw [hal'] at HAL
        have h2k1 : 2 * k + 1 < n := by
          unfold aloneB at hal
          simp only [Bool.and_eq_true, decide_eq_true_eq] at hal
          omega
        have h2L1 : 2 * k + 1 < L.length := by rw [← HN.out]; exact h2k1
        have hr1 := flat_range hrk (2 * k + 1) h2L1
        obtain ⟨D, hD⟩ : ∃ D : Dg, D = ⟨pairB (L[2 * k]).1 (L[2 * k + 1]).1, dig_len _⟩ := ⟨_, rfl⟩
        have hDk : (nextB L)[k] = D := by
          have e0 : L.getD (2 * k) zeroDg = L[2 * k] := by rw [List.getD_eq_getElem?_getD, List.getElem?_eq_getElem h2L]; rfl
          have e1 : L.getD (2 * k + 1) zeroDg = L[2 * k + 1] := by rw [List.getD_eq_getElem?_getD, List.getElem?_eq_getElem h2L1]; rfl
          rw [nextB_at, nextDg, if_neg (by rw [← HN.out]; exact hal)]
          apply Subtype.ext
          show pairB (L.getD (2 * k) zeroDg).1 (L.getD (2 * k + 1) zeroDg).1 = D.1
          rw [e0, e1, hD]
        have HSP := Lib.hid (row_step (nextB L) k D hll hDk)
        have hD1 : D.1 = pairB (L[2 * k]).1 (L[2 * k + 1]).1 := by rw [hD]
        unfold dgCells at hr0 hr1
        have l0 := (L[2 * k]).2
        have l1 := (L[2 * k + 1]).2
        generalize (L[2 * k]).1 = d0 at *
        generalize (L[2 * k + 1]).1 = d1 at *
        have HPR : Hid (∀ v : World, Tabs v → Calls Tryd.prog 119 #[.agg (byteVals d0).toArray, .agg (byteVals d1).toArray] v fun e w' => e = .returned (.agg (byteVals D.1).toArray) ∧ Chg none v w') := fun v hv => by
          rw [hD1]; exact pair_any d0 d1 l0 l1 v hv
        have HI0 : Hid ((Tryd.prog.info? 30).map (·.size) = some (byteVals d0).length) := by rw [byteVals_len, l0]; show _ = _; kernel_rfl
        have HI1 : Hid ((Tryd.prog.info? 30).map (·.size) = some (byteVals d1).length) := by rw [byteVals_len, l1]; show _ = _; kernel_rfl
        obtain ⟨hds, hdo⟩ := row_facts D.1 32 D.2
        have HI : Hid ((Tryd.prog.info? 30).map (·.size) = some (byteVals D.1).toArray.size) := by rw [hds]; show _ = _; kernel_rfl
        have HO := Lib.hid hdo
        have hS0 : wr.drew.rangeAt b0 (2 * k * 32) (byteVals d0) ∧ wr.drew.rangeAt b0 ((2 * k + 1) * 32) (byteVals d1) := ⟨hr0, hr1⟩
        have hTk := hT.chg gk (by simp)
        clear hds hdo hr0 hr1 hD hDk hD1 hal hal' h2L h2L1 hll l0 l1
        go_wp2_with fail
        refine HAL.out.mono ?_
        rintro e w' ⟨rfl, rfl⟩
        go_wp2_with fail
        have i1 : (0 : Int) ≤ 2 * (k : Int) := by omega
        have i2 : 2 * (k : Int) < (n : Int) := by omega
        have i3 : (0 : Int) ≤ 2 * (k : Int) + 1 := by omega
        have i4 : 2 * (k : Int) + 1 < (n : Int) := by omega
        have i5 : (2 * (k : Int)).toNat = 2 * k := by omega
        have i6 : (2 * (k : Int) + 1).toNat = 2 * k + 1 := by omega
        have i7 : IntKind.i64.wrap (2 * (k : Int)) = 2 * (k : Int) := by rw [IntKind.wrap_i64]; omega
        have i8 : IntKind.i64.wrap (2 * (k : Int) + 1) = 2 * (k : Int) + 1 := by rw [IntKind.wrap_i64]; omega
        refine wp_region_held_drew (S := fun w' => w'.rangeAt b0 (2 * k * 32) (byteVals d0) ∧ w'.rangeAt b0 ((2 * k + 1) * 32) (byteVals d1)) (by kernel_rfl) hS0 (fun _ => ?_)
        have hSd := hS0
        have hTd : Tabs wr.drew := hTk.chg ((Chg.refl none wr).drew) (by simp)
        have bkd := bk.drew
        have hrd := hrk.drew
        have gkd : Chg none w wr.drew := gk.drew
        clear hS0 hTk bk hrk gk
        generalize wr.drew = v0 at *
        refine wpAnyH_take (i := 0) (oi := ⟨some 27, _, _, _, _, _⟩) (v := ?_) rfl (by kernel_rfl) (by kernel_rfl) (by kernel_rfl) (fun _ _ _ h => h) (Or.inl ⟨by rfl, ?_⟩) (by assumption) ?_
        rotate_left
        · intro w hSw; (try dsimp only at hSw); go_simp; (try with_reducible rfl)
        try simp only [Act.put, List.setIfInBounds_toArray, List.set_cons_zero, List.set_cons_succ]
        refine wpAnyH_take (i := 1) (oi := ⟨some 28, _, _, _, _, _⟩) (v := ?_) rfl (by kernel_rfl) (by kernel_rfl) (by kernel_rfl) (fun _ _ _ h => h) (Or.inl ⟨by rfl, ?_⟩) (by assumption) ?_
        rotate_left
        · intro w hSw; (try dsimp only at hSw); go_simp; (try with_reducible rfl)
        try simp only [Act.put, List.setIfInBounds_toArray, List.set_cons_zero, List.set_cons_succ]
        refine wpAnyH_take (i := 2) (oi := ⟨some 29, _, _, _, _, _⟩) (v := ?_) rfl (by kernel_rfl) (by kernel_rfl) (by kernel_rfl) (fun _ _ _ h => h) (Or.inl ⟨by rfl, ?_⟩) (by assumption) ?_
        rotate_left
        · intro w hSw; (try dsimp only at hSw); go_simp; (try with_reducible rfl)
        try simp only [Act.put, List.setIfInBounds_toArray, List.set_cons_zero, List.set_cons_succ]
        refine wpAnyH_take (i := 3) (oi := ⟨some 30, _, _, _, _, _⟩) (v := ?_) rfl (by kernel_rfl) (by kernel_rfl) (by kernel_rfl) (fun _ _ _ h => h) (Or.inl ⟨by rfl, ?_⟩) (by assumption) ?_
        rotate_left
        · intro w hSw; (try dsimp only at hSw); go_simp; (try with_reducible rfl)
        try simp only [Act.put, List.setIfInBounds_toArray, List.set_cons_zero, List.set_cons_succ]
        refine wpAnyH_take (i := 4) (oi := ⟨some 31, _, _, _, _, _⟩) (v := ?_) rfl (by kernel_rfl) (by kernel_rfl) (by kernel_rfl) (fun _ _ _ h => h) (Or.inl ⟨by rfl, ?_⟩) (by assumption) ?_
        rotate_left
        · intro w hSw; (try dsimp only at hSw); go_simp; (try with_reducible rfl)
        try simp only [Act.put, List.setIfInBounds_toArray, List.set_cons_zero, List.set_cons_succ]
        refine wpAnyH_take (i := 5) (oi := ⟨some 32, _, _, _, _, _⟩) (v := ?_) rfl (by kernel_rfl) (by kernel_rfl) (by kernel_rfl) (fun _ _ _ h => h) (Or.inl ⟨by rfl, ?_⟩) (by assumption) ?_
        rotate_left
        · intro w hSw; (try dsimp only at hSw); go_simp; (try with_reducible rfl)
        try simp only [Act.put, List.setIfInBounds_toArray, List.set_cons_zero, List.set_cons_succ]
        refine wpAnyH_take (i := 6) (oi := ⟨some 33, _, _, _, _, _⟩) (v := .agg (byteVals d0).toArray) rfl (by kernel_rfl) (by kernel_rfl) (by kernel_rfl) (fun _ _ _ h => h) (yieldsIf_load_mid (by rfl) 30 _ rfl b0 (2 * k * 32) rfl (byteVals d0) _ (fun _ h => h.1) Tryd.underlying30 rfl HI0.out) (by assumption) ?_
        try simp only [Act.put, List.setIfInBounds_toArray, List.set_cons_zero, List.set_cons_succ]
        refine wpAnyH_take (i := 7) (oi := ⟨some 34, _, _, _, _, _⟩) (v := ?_) rfl (by kernel_rfl) (by kernel_rfl) (by kernel_rfl) (fun _ _ _ h => h) (Or.inl ⟨by rfl, ?_⟩) (by assumption) ?_
        rotate_left
        · intro w hSw; (try dsimp only at hSw); go_simp; (try with_reducible rfl)
        try simp only [Act.put, List.setIfInBounds_toArray, List.set_cons_zero, List.set_cons_succ]
        refine wpAnyH_take (i := 8) (oi := ⟨some 35, _, _, _, _, _⟩) (v := ?_) rfl (by kernel_rfl) (by kernel_rfl) (by kernel_rfl) (fun _ _ _ h => h) (Or.inl ⟨by rfl, ?_⟩) (by assumption) ?_
        rotate_left
        · intro w hSw; (try dsimp only at hSw); go_simp; (try with_reducible rfl)
        try simp only [Act.put, List.setIfInBounds_toArray, List.set_cons_zero, List.set_cons_succ]
        refine wpAnyH_take (i := 9) (oi := ⟨some 36, _, _, _, _, _⟩) (v := ?_) rfl (by kernel_rfl) (by kernel_rfl) (by kernel_rfl) (fun _ _ _ h => h) (Or.inl ⟨by rfl, ?_⟩) (by assumption) ?_
        rotate_left
        · intro w hSw; (try dsimp only at hSw); go_simp; (try with_reducible rfl)
        try simp only [Act.put, List.setIfInBounds_toArray, List.set_cons_zero, List.set_cons_succ]
        refine wpAnyH_take (i := 10) (oi := ⟨some 37, _, _, _, _, _⟩) (v := ?_) rfl (by kernel_rfl) (by kernel_rfl) (by kernel_rfl) (fun _ _ _ h => h) (Or.inl ⟨by rfl, ?_⟩) (by assumption) ?_
        rotate_left
        · intro w hSw; (try dsimp only at hSw); go_simp; (try with_reducible rfl)
        try simp only [Act.put, List.setIfInBounds_toArray, List.set_cons_zero, List.set_cons_succ]
        refine wpAnyH_take (i := 11) (oi := ⟨some 38, _, _, _, _, _⟩) (v := ?_) rfl (by kernel_rfl) (by kernel_rfl) (by kernel_rfl) (fun _ _ _ h => h) (Or.inl ⟨by rfl, ?_⟩) (by assumption) ?_
        rotate_left
        · intro w hSw; (try dsimp only at hSw); go_simp; (try with_reducible rfl)
        try simp only [Act.put, List.setIfInBounds_toArray, List.set_cons_zero, List.set_cons_succ]
        refine wpAnyH_take (i := 12) (oi := ⟨some 39, _, _, _, _, _⟩) (v := .agg (byteVals d1).toArray) rfl (by kernel_rfl) (by kernel_rfl) (by kernel_rfl) (fun _ _ _ h => h) (yieldsIf_load_mid (by rfl) 30 _ rfl b0 ((2 * k + 1) * 32) rfl (byteVals d1) _ (fun _ h => h.2) Tryd.underlying30 rfl HI1.out) (by assumption) ?_
        try simp only [Act.put, List.setIfInBounds_toArray, List.set_cons_zero, List.set_cons_succ]
        refine wpAnyH_ready (rs := [13]) (by kernel_rfl) (by simp) ?_
        refine AllReadyH.cons (o := ⟨some 40, _, _, _, _, _⟩) rfl (fun K hK => ?_) (AllReadyH.nil)
        go_simp
        go_at_call 119
        refine (HPR.out _ hTd).mono ?_
        rintro e w3 ⟨rfl, g3⟩
        have hS3 : w3.rangeAt b0 (2 * k * 32) (byteVals d0) ∧ w3.rangeAt b0 ((2 * k + 1) * 32) (byteVals d1) := ⟨fun j x hx => World.grownBy.cell g3 (hSd.1 j x hx) (by simp), fun j x hx => World.grownBy.cell g3 (hSd.2 j x hx) (by simp)⟩
        have b3 := Blk.chg bkd g3 (by simp)
        go_wp2_with fail
        refine hK.out _ _ hS3 (fun _ => ?_)
        clear hK K
        try simp only [Act.put, List.setIfInBounds_toArray, List.set_cons_zero, List.set_cons_succ]
        refine wpAnyH_take (i := 14) (oi := ⟨some 41, _, _, _, _, _⟩) (v := ?_) rfl (by kernel_rfl) (by kernel_rfl) (by kernel_rfl) (fun _ _ _ h => h) (Or.inl ⟨by rfl, ?_⟩) (by assumption) ?_
        rotate_left
        · intro w hSw; (try dsimp only at hSw); go_simp; (try with_reducible rfl)
        try simp only [Act.put, List.setIfInBounds_toArray, List.set_cons_zero, List.set_cons_succ]
        refine wpAnyH_ready (rs := [15]) (by kernel_rfl) (by simp) ?_
        refine AllReadyH.cons (o := ⟨none, _, _, _, _, _⟩) rfl (fun K hK => ?_) (AllReadyH.nil)
        rw [if_pos (by rfl)]
        have HTH := Lib.hid (there_of_blk b3 (k * 32) (byteVals D.1).toArray.size (by rw [HFL.out, List.size_toArray, byteVals_len, D.2]; omega))
        have hset := blk_setCells b (byteVals D.1) (k * 32) _ w3 b3 (by rw [HFL.out, byteVals_len, D.2]; omega)
        have hsp := HSP.out
        unfold dgCells at hsp
        rw [hsp] at hset
        have HSET := Lib.hid hset
        have gS : Chg (some b) w3 (w3.setCells b (k * 32) (byteVals D.1)) := chg_setCells b _ _ _
        have g4 : Chg none w (w3.setCells b (k * 32) (byteVals D.1)) := Chg.own (b := b) (gkd.trans g3) gS (by rw [HB.out]; exact Nat.le_refl _)
        have hS4 : (w3.setCells b (k * 32) (byteVals D.1)).rangeAt b0 (2 * k * 32) (byteVals d0) ∧ (w3.setCells b (k * 32) (byteVals D.1)).rangeAt b0 ((2 * k + 1) * 32) (byteVals d1) := ⟨fun j x hx => World.grownBy.cell gS (hS3.1 j x hx) (by simpa using hne), fun j x hx => World.grownBy.cell gS (hS3.2 j x hx) (by simpa using hne)⟩
        have hr3 := Blk.chg (Blk.chg hrd g3 (by simp)) gS (by simpa using hne)
        clear hset hsp
        refine wp_store_mid 30 (.tmp 41) (.tmp 40) (by rfl) b (k * 32) (byteVals D.1).toArray (by rfl) (by rfl) HTH.out HI.out HO.out ?_
        refine hK.out _ _ hS4 (fun _ => ?_)
        clear hK K
        refine wpAnyH_done (by kernel_rfl) ?_ _
        try simp only [Act.put]
        go_wp2_with fail
        go_roundw
        case rel => exact ⟨k + 1, by omega, by go_num, HSET.out, hr3, g4⟩
        case measure => first | (simp [intOf]; done) | (simp [intOf]; omega)
    · obtain rfl : k = m := by omega
      have hnl : decide ((k : Int) < (k : Int)) = false := by simp
      have hl := HLL.out
      rw [← hl, rowAt_all] at bk
      go_wp2_with fail
      go_ret
      exact ⟨b, by rw [hl]; rfl, bk, by rw [HB.out]; exact Nat.le_refl _, gk⟩

end Go.Proofs.YtglfakglcoffkaaDoor

namespace Go.Proofs.YtglfakglcoffkaaDoor
open Go.RowKit

theorem sib_eq (i : Nat) : i ^^^ 1 = 2 * (i / 2) + (i + 1) % 2 := by
  have h1 : (i ^^^ 1) / 2 = i / 2 := by
    have := Nat.xor_div_two (a := i) (b := 1)
    simpa using this
  have h2 : (i ^^^ 1) % 2 = (i % 2) ^^^ 1 := by
    have := Nat.xor_mod_two_pow (a := i) (b := 1) (n := 1)
    simpa using this
  rcases Nat.mod_two_eq_zero_or_one i with h | h
  · rw [h] at h2
    have h3 : (0 : Nat) ^^^ 1 = 1 := rfl
    omega
  · rw [h] at h2
    have h3 : (1 : Nat) ^^^ 1 = 0 := rfl
    omega
theorem ofInt_i64 (a : Nat) (ha : a < 9223372036854775808) : (BitVec.ofInt 64 (a : Int)).toNat = a := by
  rw [BitVec.ofInt_natCast, BitVec.toNat_ofNat]; exact Nat.mod_eq_of_lt (by omega)
theorem i64_sib (i : Nat) (hi : i < 1000000000000) : bits .xor .i64 (i : Int) 1 = ((i ^^^ 1 : Nat) : Int) := by
  have hs := sib_eq i
  show IntKind.i64.wrap ((BitVec.ofInt 64 (i : Int) ^^^ BitVec.ofInt 64 ((1 : Nat) : Int)).toNat : Int) = _
  rw [BitVec.toNat_xor, ofInt_i64 i (by omega), ofInt_i64 1 (by omega), IntKind.wrap_i64]
  omega
theorem next_shorter (L : List Dg) (h : 1 < L.length) : (nextB L).length < L.length := by rw [nextB_len]; omega
/-- What leads from the place i of a row up. -/
def proofB (L : List Dg) (i : Nat) : List Dg :=
  if _h : 1 < L.length then (if aloneB L.length i = true then [] else [L.getD (i ^^^ 1) zeroDg]) ++ proofB (nextB L) (i / 2) else []
termination_by L.length
decreasing_by exact next_shorter L (by assumption)
theorem proofB_end (L : List Dg) (i : Nat) (h : L.length ≤ 1) : proofB L i = [] := by
  rw [proofB, dif_neg (by omega)]
theorem proofB_step (L : List Dg) (i : Nat) (h : 1 < L.length) : proofB L i = (if aloneB L.length i = true then [] else [L.getD (i ^^^ 1) zeroDg]) ++ proofB (nextB L) (i / 2) := by
  conv => lhs; rw [proofB]
  rw [dif_pos h]
theorem dg_one (L : List Dg) : ∀ v ∈ flat L, v.oneCell' = true := by
  intro v hv
  obtain ⟨d, _, h⟩ := List.mem_flatMap.1 hv
  exact byteVals_one _ v h
theorem fill_dg (d : List UInt8) (hd : d.length = 32) (ie : TypeInfo) (hs : ie.size = 32) :
    Instr.fill (fun i => some (i * ie.size, ie.size)) ((Array.range (1 * ie.size)).map ((Value.agg zero32).cells[· % (Value.agg zero32).cells.size]!)) [(0, .agg (byteVals d).toArray)] = some (byteVals d).toArray := by
  rw [hs]
  match d, hd with
  | [a0, a1, a2, a3, a4, a5, a6, a7, a8, a9, a10, a11, a12, a13, a14, a15, a16, a17, a18, a19, a20, a21, a22, a23, a24, a25, a26, a27, a28, a29, a30, a31], _ => show _ = _; kernel_rfl

/-- The digest at the top of a row. -/
def topB (L : List Dg) : Dg := if _h : 1 < L.length then topB (nextB L) else L.getD 0 zeroDg
termination_by L.length
decreasing_by exact next_shorter L (by assumption)
theorem topB_end (L : List Dg) (h : L.length ≤ 1) : topB L = L.getD 0 zeroDg := by rw [topB, dif_neg (by omega)]
theorem topB_step (L : List Dg) (h : 1 < L.length) : topB L = topB (nextB L) := by
  conv => lhs; rw [topB]
  rw [dif_pos h]
/-- The root of the blob x. -/
def rootB (x : List UInt8) : List UInt8 := rootOfB x.length (topB (leavesB x)).1
theorem rootB_len (x : List UInt8) : (rootB x).length = 32 := dig_len _
set_option maxRecDepth 100000 in
set_option maxHeartbeats 8000000 in
theorem rootf_any (p : Prt) (w : World) (hp : p.ok w) (hn : p.x.length ≤ 1000000) (hT : Tabs w) :
    Calls Tryd.prog 63 #[.slice p.A p.x.length p.c] w fun e w' => e = .returned (.agg (byteVals (rootB p.x)).toArray) ∧ Chg none w w' := by
  obtain ⟨W1, hW1⟩ : ∃ W1, W1 = w.alloc (.cells zero32 30) := ⟨_, rfl⟩
  have HW1 : Hid (w.alloc (.cells #[Value.int IntKind.u8 0, Value.int IntKind.u8 0, Value.int IntKind.u8 0, Value.int IntKind.u8 0, Value.int IntKind.u8 0, Value.int IntKind.u8 0, Value.int IntKind.u8 0, Value.int IntKind.u8 0, Value.int IntKind.u8 0, Value.int IntKind.u8 0, Value.int IntKind.u8 0, Value.int IntKind.u8 0, Value.int IntKind.u8 0, Value.int IntKind.u8 0, Value.int IntKind.u8 0, Value.int IntKind.u8 0, Value.int IntKind.u8 0, Value.int IntKind.u8 0, Value.int IntKind.u8 0, Value.int IntKind.u8 0, Value.int IntKind.u8 0, Value.int IntKind.u8 0, Value.int IntKind.u8 0, Value.int IntKind.u8 0, Value.int IntKind.u8 0, Value.int IntKind.u8 0, Value.int IntKind.u8 0, Value.int IntKind.u8 0, Value.int IntKind.u8 0, Value.int IntKind.u8 0, Value.int IntKind.u8 0, Value.int IntKind.u8 0] 30) = W1) := hW1.symm
  have g1 : Chg none w W1 := by rw [hW1]; exact (Chg.refl _ _).alloc _
  have bR1 : Blk W1 w.heap.size zero32 30 := by rw [hW1]; exact Blk.new _ _ _
  clear hW1
  have HL := Lib.hid (leaves_any p W1 (hp.chg g1) hn (hT.chg g1 (by simp)))
  have hl1 : 1 ≤ (leavesB p.x).length := by rw [leavesB_len]; unfold cntN; omega
  have hl2 : (leavesB p.x).length ≤ 1000000 := by rw [leavesB_len]; unfold cntN; omega
  obtain ⟨R, hR⟩ : ∃ R, R = rootB p.x := ⟨_, rfl⟩
  have hRl : R.length = 32 := by rw [hR, rootB_len]
  have HR : Hid (rootOfB p.x.length (topB (leavesB p.x)).1 = R) := hR.symm
  rw [← hR]
  obtain ⟨L0, hL0⟩ : ∃ L0, L0 = leavesB p.x := ⟨_, rfl⟩
  rw [← hL0] at HL hl1 hl2 HR
  have hRge : w.heap.size ≤ w.heap.size := Nat.le_refl _
  clear hR hL0 hp
  go_enter Tryd.func63, Tryd.ntmps63
  go_upto_region 1 with (fail)
  rw [HW1.out]
  clear HW1
  generalize hpR : w.heap.size = pR at *
  have HPR := Lib.hid hpR
  clear hpR
  go_wp2_with fail
  refine HL.out.mono ?_
  rintro e w2 ⟨b1, rfl, hb1, hge1, g2⟩
  have g02 := g1.trans g2
  have bR2 := bR1.chg g2 (by simp)
  clear g1 g2 bR1 HL
  go_wp2_with fail
  go_loopw [3] (fun s3 wr => ∃ (L : List Dg) (b : Nat), s3 = .slice (some ⟨b, 0, none⟩) L.length L.length ∧ BlkL wr b (flat L) 30 ∧ Blk wr pR zero32 30 ∧ 1 ≤ L.length ∧ L.length ≤ 1000000 ∧ Hid (rootOfB p.x.length (topB L).1 = R) ∧ Chg none w wr) (fun s3 _ => sliceLen s3)
  case atStart => exact ⟨L0, b1, rfl, hb1, bR2, hl1, hl2, HR, g02⟩
  case round =>
    obtain ⟨L, b, rfl, hb, bRj, h1, h2, HRj, gj⟩ := hrel
    clear hb1 HR g02 bR2
    by_cases hlt : 1 < L.length
    · have hst := topB_step L hlt
      have hsh := next_shorter L hlt
      have hnl := nextB_len L
      have HNX := Lib.hid (next_any L b L.length wr hb h2 (Nat.le_refl _) (hT.chg gj (by simp)))
      have HST := Lib.hid hst
      have HSH := Lib.hid hsh
      have HNL := Lib.hid hnl
      clear hst hsh hnl
      go_wp2_with fail
      refine HNX.out.mono ?_
      rintro e w3 ⟨b3, rfl, hb3, hge3, g3⟩
      have bR3 := bRj.chg g3 (by simp)
      have g03 := gj.trans g3
      clear HNX g3
      go_wp2_with fail
      go_roundw
      case rel => exact ⟨nextB L, b3, rfl, hb3, bR3, by have := HNL.out; omega, by have := HSH.out; omega, by rw [← HST.out]; exact HRj.out, g03⟩
      case measure => simp only [sliceLen]; exact HSH.out
    · have hl : L.length = 1 := by omega
      have hend := topB_end L (by omega)
      have hr0 := flat_range hb 0 (by omega)
      have hgd : L.getD 0 zeroDg = L[0] := by rw [List.getD_eq_getElem?_getD, List.getElem?_eq_getElem (by omega)]; rfl
      have hfin := HRj.out
      rw [hend, hgd] at hfin
      generalize L[0] = D at *
      unfold dgCells at hr0
      have HR0 := Lib.hid hr0
      have HIl : Hid ((Tryd.prog.info? 30).map (·.size) = some (byteVals D.1).length) := by rw [byteVals_len, D.2]; show _ = _; kernel_rfl
      have HRT := Lib.hid (root_any p.x.length D.1 (by omega) D.2 wr (hT.chg gj (by simp)))
      rw [hfin] at HRT
      have hnl : decide ((1 : Int) < (L.length : Int)) = false := by simp; omega
      have hi0 : (0 : Int) < (L.length : Int) := by omega
      have hi1 : 0 < L.length := by omega
      obtain ⟨hds, hdo⟩ := row_facts R 32 hRl
      have HI : Hid ((Tryd.prog.info? 30).map (·.size) = some (byteVals R).toArray.size) := by rw [hds]; show _ = _; kernel_rfl
      have HZ : Hid (zero32.size = (byteVals R).toArray.size) := by rw [hds]; rfl
      have HO := Lib.hid hdo
      clear hds hdo hr0 hgd hfin hend hb HRj hl
      go_wp2_with (refine wpList_load_mid rfl 30 _ rfl b 0 rfl (byteVals D.1) _ (by have h := HR0.out; simpa using h) Tryd.underlying30 rfl HIl.out ?_)
      refine HRT.out.mono ?_
      rintro e w4 ⟨rfl, g4⟩
      have bR4 := bRj.chg g4 (by simp)
      have g04 := gj.trans g4
      clear bRj g4 HRT
      go_wp2_with (refine wpList_store_row rfl 30 _ _ rfl pR (byteVals R).toArray rfl rfl 30 _ bR4 HI.out HZ.out HO.out ?_)
      refine bodyPost_ret (results_cell_row (p := 2) (ty := 30) Tryd.results63 _ _ pR 30 (byteVals R).toArray (0, 0) _ rfl (setRow_heap _ _ _ _ _ _ bR4) Tryd.underlying30 rfl HI.out) rfl ⟨rfl, ?_⟩
      exact Chg.own (b := pR) g04 (chg_setRow _ _ _) (by rw [HPR.out]; exact Nat.le_refl _)

end Go.Proofs.YtglfakglcoffkaaDoor
