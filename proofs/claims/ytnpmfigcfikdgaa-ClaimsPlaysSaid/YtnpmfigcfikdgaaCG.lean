/-
  The document's book of claims: Drop (14).
-/
import Derived.Test.YtnpmfigcfikdgaaCF
import Derived.Deep.Onto
namespace Go.Proofs.Ytnpmfigcfikdgaa
open Go.RowKit Go.Maps

theorem flat_take (L : List Ent) (i : Nat) : (L.take i).flatMap entCells = (L.flatMap entCells).take (i * 37) := by
  induction L generalizing i with
  | nil => simp
  | cons a L ih =>
    cases i with
    | zero => simp
    | succ i =>
      rw [List.take_succ_cons, List.flatMap_cons, List.flatMap_cons, ih, List.take_append, entCells_len, List.take_of_length_le (l := entCells a) (by rw [entCells_len]; omega), show (i + 1) * 37 - 37 = i * 37 by omega]
theorem flat_drop (L : List Ent) (i : Nat) : (L.drop i).flatMap entCells = (L.flatMap entCells).drop (i * 37) := by
  induction L generalizing i with
  | nil => simp
  | cons a L ih =>
    cases i with
    | zero => simp
    | succ i =>
      rw [List.drop_succ_cons, List.flatMap_cons, ih, List.drop_append, entCells_len, List.drop_of_length_le (l := entCells a) (by rw [entCells_len]; omega), List.nil_append, show (i + 1) * 37 - 37 = i * 37 by omega]
theorem reads_take {w : World} {B : Nat} {A : Option Addr} {L : List Ent} (h : Reads w B 37 A L.length (L.flatMap entCells)) {i : Nat} (hi : i ≤ L.length) : Reads w B 37 A i ((L.take i).flatMap entCells) := by
  refine ⟨by rw [flat_len entCells 37 entCells_len, List.length_take, Nat.min_eq_left hi], fun hn => ?_⟩
  obtain ⟨ad, rfl, hb, hc⟩ := h.2 (by omega)
  refine ⟨ad, rfl, hb, fun j u hu => hc j u ?_⟩
  rw [flat_take, List.getElem?_take] at hu
  split at hu
  · exact hu
  · cases hu
theorem cut_hi47 (A : Option Addr) (n c hi : Nat) (h1 : hi ≤ c) (w : World) :
    (Instr.sliceAt 47 (.slice A n c) none (some (.int .i64 hi)) none).run Try.prog w = .ok (.slice A hi c) w := by
  have u22 := Try.underlying47
  have z5 := Try.sizeOf52
  have h4 : (hi : Int) ≤ c := by omega
  go_simp
theorem cut_lo47 (A : Option Addr) (len cap lo : Nat) (h1 : lo ≤ len) (h2 : len ≤ cap) (w : World) :
    (Instr.sliceAt 47 (.slice A len cap) (some (.int .i64 lo)) none none).run Try.prog w = .ok (.slice (if cap = lo then A else A.map (·.add (lo * 37))) (len - lo) (cap - lo)) w := by
  have u22 := Try.underlying47
  have z5 := Try.sizeOf52
  have h3 : (lo : Int) ≤ len := by omega
  have h4 : (len : Int) ≤ cap := by omega
  have h5 : (lo : Int) ≤ cap := by omega
  go_simp
def DropP (w : World) (p : Nat) (r : Rk) (v5 v6 : Value) (d : Dig) (e : Ending) (w' : World) : Prop :=
  ∃ v x5, e = .returned v ∧ Sent w w' v (rDrop r d).2 ∧ RkAt w' p (rDrop r d).1 x5 v6 ∧ Kept (rkS p v5 v6) w w'
theorem cl_gone (c : Cl) : c.cells.set 35 (.bool true) = ({ c with gone := true } : Cl).cells := by
  unfold Cl.cells clCells
  rw [List.set_append_right _ _ (by rw [Dig.cells_len]; omega), Dig.cells_len]
  rfl

set_option maxRecDepth 100000 in
set_option maxHeartbeats 32000000 in
theorem rdrop_any (d : Dig) (w : World) (p : Nat) (r : Rk) (v5 v6 : Value) (h : RkAt w p r v5 v6) (hl : r.ow.length ≤ 1000) :
    Calls Try.prog 14 #[.pointer (some ⟨p, 0, none⟩), .agg d.cells.toArray] w (DropP w p r v5 v6 d) := by
  obtain ⟨W, hW⟩ : ∃ W, W = w.alloc (.cells d.cells.toArray 31) := ⟨_, rfl⟩
  have g0 : Chg none w W := by rw [hW]; exact (Chg.refl _ _).alloc _
  have hb4 : Blk W w.heap.size d.cells.toArray 31 := by rw [hW]; exact Blk.new w _ _
  have HKEY : Hid (∀ v, Chg none W v → v.rangeAt w.heap.size 0 d.cells) := Lib.hid fun v hv => rangeAt_chg (rangeAt_blk hb4) hv (by simp)
  have HAT : Hid (∀ v, Chg none W v → RkAt v p r v5 v6) := Lib.hid fun v hv => (h.chg g0).chg hv
  have HRO : Hid (∀ v, Chg none W v → Calls Try.prog 27 #[.pointer (some ⟨p, 0, none⟩), .agg d.cells.toArray] v fun e w' => e = .returned (.int .i64 (optI (rOwn r d))) ∧ Chg none v w') := Lib.hid fun v hv => own_any d v p r v5 v6 (HAT.out v hv) hl
  have HW := Lib.hid hW
  have HG0 := Lib.hid g0
  have HI31 := Lib.hid (info31 d)
  have HL := Lib.hid hl
  have HPL : Hid (p + 1 ≤ w.heap.size) := Lib.hid (Blk.lt h.hd)
  clear hW hb4 g0 h hl
  unfold DropP
  cases ho : rOwn r d with
  | none =>
    have HE : Hid (rDrop r d = (r, none)) := Lib.hid (by unfold rDrop; rw [ho])
    rw [HE.out]
    rw [ho] at HRO
    unfold optI at HRO
    clear ho
    go_enter Try.func14, Try.ntmps14
    go_upto_region 1 with fail
    rw [← HW.out]
    have hk2 := HKEY.out W (Chg.refl _ _)
    have HK2 := Lib.hid hk2
    clear hk2
    go_wp2_with (refine wpList_load_mid rfl 31 _ rfl w.heap.size 0 rfl d.cells _ HK2.out Try.underlying31 rfl HI31.out ?_)
    refine (HRO.out _ (Chg.refl _ _)).mono ?_
    rintro e w1 ⟨rfl, g1⟩
    have G1 := Lib.hid g1
    clear g1
    go_wp2_with fail
    go_ret
    exact ⟨_, v5, rfl, rfl, HAT.out _ G1.out, (Kept.of_chg (HG0.out.trans G1.out)).mono fun g e => by cases e⟩
  | some i =>
    obtain ⟨hil, hi2⟩ : i < r.ow.length ∧ r.ow[i]? = some (r.ow.getD i default) := by
      unfold rOwn at ho
      rcases findIdx_find (p := isKey d) (l := r.ow) with ⟨h1, h2⟩ | ⟨j, h1, h2, h3, h4⟩
      · rw [h1] at ho; cases ho
      · rw [h1] at ho
        cases ho
        exact ⟨h2, h4⟩
    have HE : Hid (rDrop r d = ({ r with ow := r.ow.take i ++ r.ow.drop (i + 1) }, some { (r.ow.getD i default).c with gone := true })) := Lib.hid (by unfold rDrop; rw [ho])
    rw [HE.out]
    rw [ho] at HRO
    unfold optI at HRO
    clear ho
    generalize hog : r.ow.getD i default = o at *
    obtain ⟨i52, hi52, hz52, hs52, hb52⟩ := zinfo52
    obtain ⟨i33, hi33, hz33, hs33⟩ := zinfo33
    go_enter Try.func14, Try.ntmps14
    go_upto_region 1 with fail
    rw [← HW.out]
    have hk2 := HKEY.out W (Chg.refl _ _)
    have HK2 := Lib.hid hk2
    clear hk2
    go_wp2_with (refine wpList_load_mid rfl 31 _ rfl w.heap.size 0 rfl d.cells _ HK2.out Try.underlying31 rfl HI31.out ?_)
    refine (HRO.out _ (Chg.refl _ _)).mono ?_
    rintro e wc ⟨rfl, g1⟩
    have G1 := Lib.hid g1
    clear g1
    have A1 := Lib.hid (HAT.out wc G1.out)
    obtain ⟨rb, c5, hv5, hrb1, hrb2, hrg⟩ := rows_at A1.out.ow hi2
    have hc5 : r.ow.length ≤ c5 := by
      obtain ⟨A', c', e, h1, h2⟩ := rows_form A1.out.ow
      rw [hv5] at e
      injection e with _ _ e
      omega
    have HV5 := Lib.hid hv5
    have HRGE := Lib.hid (ent_cl hrg)
    obtain ⟨-, -, -, -, -, c5c, -, -⟩ := A1.out.cells
    rw [hv5] at c5c
    clear hv5
    have hneg : ¬ ((i : Int) < 0) := by omega
    have hil2 : (i : Int) < (r.ow.length : Int) := by omega
    have hil3 : (i : Int) ≤ 1000 := by have := HL.out; omega
    obtain ⟨w4, hw4⟩ : ∃ w4, w4 = (wc.alloc (.cells #[.int .u8 0, .int .u8 0, .int .u8 0, .int .u8 0, .int .u8 0, .int .u8 0, .int .u8 0, .int .u8 0, .int .u8 0, .int .u8 0, .int .u8 0, .int .u8 0, .int .u8 0, .int .u8 0, .int .u8 0, .int .u8 0, .int .u8 0, .int .u8 0, .int .u8 0, .int .u8 0, .int .u8 0, .int .u8 0, .int .u8 0, .int .u8 0, .int .u8 0, .int .u8 0, .int .u8 0, .int .u8 0, .int .u8 0, .int .u8 0, .int .u8 0, .int .u8 0, .int .i64 0, .int .u64 0, .int .u64 0, .bool false] 33)).setRow wc.heap.size o.c.cells.toArray := ⟨_, rfl⟩
    have hz := Blk.new wc #[.int .u8 0, .int .u8 0, .int .u8 0, .int .u8 0, .int .u8 0, .int .u8 0, .int .u8 0, .int .u8 0, .int .u8 0, .int .u8 0, .int .u8 0, .int .u8 0, .int .u8 0, .int .u8 0, .int .u8 0, .int .u8 0, .int .u8 0, .int .u8 0, .int .u8 0, .int .u8 0, .int .u8 0, .int .u8 0, .int .u8 0, .int .u8 0, .int .u8 0, .int .u8 0, .int .u8 0, .int .u8 0, .int .u8 0, .int .u8 0, .int .u8 0, .int .u8 0, .int .i64 0, .int .u64 0, .int .u64 0, .bool false] 33
    have g4 : Chg none wc w4 := by rw [hw4]; exact Chg.own ((Chg.refl _ _).alloc _) (chg_setRow _ _ _) (Nat.le_refl _)
    have b4 : Blk w4 wc.heap.size o.c.cells.toArray 33 := by rw [hw4]; exact setRow_heap _ _ _ _ _ _ hz
    have HZB := Lib.hid hz
    have HW4 := Lib.hid hw4
    have HI33o : Hid ((Try.prog.info? 33).map (·.size) = some o.c.cells.length) := Lib.hid (by rw [o.c.len]; kernel_rfl)
    have HI33a := Lib.hid (info33 o.c.d o.c.node o.c.inc o.c.count o.c.gone)
    have HSZ : Hid ((#[.int .u8 0, .int .u8 0, .int .u8 0, .int .u8 0, .int .u8 0, .int .u8 0, .int .u8 0, .int .u8 0, .int .u8 0, .int .u8 0, .int .u8 0, .int .u8 0, .int .u8 0, .int .u8 0, .int .u8 0, .int .u8 0, .int .u8 0, .int .u8 0, .int .u8 0, .int .u8 0, .int .u8 0, .int .u8 0, .int .u8 0, .int .u8 0, .int .u8 0, .int .u8 0, .int .u8 0, .int .u8 0, .int .u8 0, .int .u8 0, .int .u8 0, .int .u8 0, .int .i64 0, .int .u64 0, .int .u64 0, .bool false] : Array Value).size = o.c.cells.toArray.size) := Lib.hid (by rw [show o.c.cells.toArray.size = 36 from by rw [List.size_toArray, o.c.len]]; rfl)
    have HOC : Hid (o.c.cells.toArray.all (·.oneCell') = true) := Lib.hid (cl_one _ _ _ _ _)
    have q35 : w4.cell? ⟨wc.heap.size, 35, none⟩ = some (.bool o.c.gone) := by have := (cl_fields (rangeAt_blk b4)).2.2.2; simpa using this
    have f35 := b4.frozen 35
    clear hz hw4
    go_upto_region 5 with (first
      | (refine wpList_load_mid rfl 33 _ rfl rb (i * 37) rfl o.c.cells _ HRGE.out Try.underlying33 rfl HI33o.out ?_)
      | (refine wpList_store_row rfl 33 _ _ rfl wc.heap.size o.c.cells.toArray rfl rfl 33 _ HZB.out HI33a.out HSZ.out HOC.out ?_; rw [← HW4.out]))
    go_upto_region 6 with fail
    obtain ⟨w5, hw5⟩ : ∃ w5, w5 = w4.setCell ⟨wc.heap.size, 35, none⟩ (.bool true) := ⟨_, rfl⟩
    rw [← hw5]
    have g5 : Chg none wc w5 := by rw [hw5]; exact g4.setNew _ (Nat.le_refl _) _
    have b5 : Blk w5 wc.heap.size ({ o.c with gone := true } : Cl).cells.toArray 33 := by
      rw [hw5]
      have := b4.set 35 (.bool true)
      rw [List.setIfInBounds_toArray, cl_gone] at this
      exact this
    have A5 := A1.out.chg g5
    have hrd5 : Reads w5 w5.heap.size 37 (some ⟨rb, 0, none⟩) r.ow.length (r.ow.flatMap entCells) := Reads.of_own (by rw [← HV5.out]; exact A5.ow)
    have HC7 : Hid (∀ v, (Instr.sliceAt 47 (.slice (some ⟨rb, 0, none⟩) r.ow.length c5) none (some (.int .i64 i)) none).run Try.prog v = .ok (.slice (some ⟨rb, 0, none⟩) i c5) v) := Lib.hid (cut_hi47 _ _ _ _ (by omega))
    obtain ⟨A15, hA15⟩ : ∃ A15, A15 = (if c5 = i + 1 then (some ⟨rb, 0, none⟩ : Option Addr) else (some ⟨rb, 0, none⟩ : Option Addr).map (·.add ((i + 1) * 37))) := ⟨_, rfl⟩
    have HC15 : Hid (∀ v, (Instr.sliceAt 47 (.slice (some ⟨rb, 0, none⟩) r.ow.length c5) (some (.int .i64 ((i : Int) + 1))) none none).run Try.prog v = .ok (.slice A15 (r.ow.length - (i + 1)) (c5 - (i + 1))) v) := Lib.hid fun v => by
      rw [hA15]
      exact cut_lo47 _ _ _ (i + 1) (by omega) hc5 v
    have HI1 : Hid (IntKind.i64.wrap ((i : Int) + 1) = (i : Int) + 1) := Lib.hid (by rw [IntKind.wrap_i64]; omega)
    have hrd15 : Reads w5 w5.heap.size 37 A15 (r.ow.length - (i + 1)) ((r.ow.drop (i + 1)).flatMap entCells) := by
      rw [hA15, flat_drop]
      exact hrd5.cut (by omega) hc5
    obtain ⟨w6, hw6⟩ : ∃ w6, w6 = (w5.alloc (.cells #[] 52)).drew := ⟨_, rfl⟩
    have g6 : Chg none w5 w6 := by rw [hw6]; exact ((Chg.refl _ _).alloc _).drew
    have hsz6 : w6.heap.size = w5.heap.size + 1 := by rw [hw6]; simp
    have A6 := A5.chg g6
    have HOW8 : Hid (((w5.alloc (.cells #[] 52)).drew).ownsRow w5.heap.size 52 37 (.slice (some ⟨w5.heap.size, 0, none⟩) 0 0) 0 []) := Lib.hid (by
      have := World.ownsRow_made (base := w5.heap.size) (e := 52) (size := 37) w5 #[] 0 (Nat.le_refl _) (Nat.zero_le _) rfl
      exact this.drew)
    have HRD8 : Hid (Reads ((w5.alloc (.cells #[] 52)).drew) w5.heap.size 37 (some ⟨rb, 0, none⟩) i ((r.ow.take i).flatMap entCells)) := Lib.hid (reads_take ((hrd5.alloc (Nat.le_refl _) _).drew) (by omega))
    have HO8 : Hid (∀ u ∈ (r.ow.take i).flatMap entCells, u.oneCell' = true) := Lib.hid fun u hu => by
      obtain ⟨x, -, hx⟩ := List.mem_flatMap.1 hu
      exact ent_oneM x u hx
    have HO16 : Hid (∀ u ∈ (r.ow.drop (i + 1)).flatMap entCells, u.oneCell' = true) := Lib.hid fun u hu => by
      obtain ⟨x, -, hx⟩ := List.mem_flatMap.1 hu
      exact ent_oneM x u hx
    have hs1 : 0 + i ≤ maxLen := by have := HL.out; unfold maxLen; omega
    have hs2 : (0 + i) * 72 ≤ 140737488355328 := by have := HL.out; omega
    obtain ⟨nt, hnt⟩ : ∃ nt, i + (r.ow.length - (i + 1)) = nt := ⟨_, rfl⟩
    have HT16 := Lib.hid hnt
    clear hnt
    have hs3 : i + (r.ow.length - (i + 1)) ≤ maxLen := by have := HL.out; unfold maxLen; omega
    have hs4 : (i + (r.ow.length - (i + 1))) * 72 ≤ 140737488355328 := by have := HL.out; omega
    have HFD := Lib.hid (fill33 o.c.d o.c.node o.c.inc o.c.count true i33 hs33)
    have HI33 : Hid ((Try.prog.info? 33).map (·.size) = some ({ o.c with gone := true } : Cl).cells.length) := Lib.hid (by rw [Cl.len]; kernel_rfl)
    have hp5 : w5.cell? ⟨p, 5, none⟩ = some (.slice (some ⟨rb, 0, none⟩) r.ow.length c5) := by rw [← HV5.out]; exact A5.cells.2.2.2.2.2.1
    have hp5l : p < w5.heap.size := Blk.lt A5.hd
    have k6 : Kept (rkS p v5 v6) w w6 := (Kept.of_chg (((HG0.out.trans G1.out).trans g5).trans g6)).mono fun g e => by cases e
    have HKS : Hid (∀ v, Kept (rkS p v5 v6) w v → w.heap.size ≤ v.heap.size) := Lib.hid fun v k => k.size
    have hwcs := g5.size
    have hwcl := (Blk.lt b5)
    have HAP8 : Hid (∀ (x8 : Value) (w8 : World), w8.ownsRow w5.heap.size 52 37 x8 i ((r.ow.take i).flatMap entCells) → ((w5.alloc (.cells #[] 52)).drew).grownBy w8 (Value.slice (some ⟨w5.heap.size, 0, none⟩) 0 0).ownBlock →
        w8.cell? ⟨p, 5, none⟩ = some (.slice (some ⟨rb, 0, none⟩) r.ow.length c5) ∧ w8.ownsRow w5.heap.size 52 37 x8 i ((r.ow.take i).flatMap entCells) ∧ Reads w8 w5.heap.size 37 A15 (r.ow.length - (i + 1)) ((r.ow.drop (i + 1)).flatMap entCells) ∧ w5.heap.size ≤ w8.heap.size ∧
        ∀ (x16 : Value) (w16 : World), w16.ownsRow w5.heap.size 52 37 x16 nt ((r.ow.take i).flatMap entCells ++ (r.ow.drop (i + 1)).flatMap entCells) → w8.grownBy w16 x8.ownBlock →
          w16.cell? ⟨p, 5, none⟩ = some (.slice (some ⟨rb, 0, none⟩) r.ow.length c5) ∧ w16.frozen? ⟨p, 5, none⟩ = false ∧ RkAt (w16.setCell ⟨p, 5, none⟩ x16) p { r with ow := r.ow.take i ++ r.ow.drop (i + 1) } x16 v6 ∧ Kept (rkS p v5 v6) w (w16.setCell ⟨p, 5, none⟩ x16) ∧ (w16.setCell ⟨p, 5, none⟩ x16).rangeAt wc.heap.size 0 ({ o.c with gone := true } : Cl).cells) := Lib.hid fun x8 w8 hx8 hgr8 => by
      rw [← hw6] at hgr8
      have g8 : Chg none w5 w8 := Chg.own g6 hgr8 (Nat.le_refl _)
      have A8 := A5.chg g8
      refine ⟨by rw [← HV5.out]; exact A8.cells.2.2.2.2.2.1, hx8, hrd15.grown g8 (Nat.le_refl _) (fun g e => by cases e), g8.size, fun x16 w16 hx16 hgr16 => ?_⟩
      have g16 : Chg none w5 w16 := by
        cases e : x8.ownBlock with
        | none => rw [e] at hgr16; exact g8.trans hgr16
        | some g => rw [e] at hgr16; exact Chg.own g8 hgr16 (hx8.lt g e).1
      have A16 := A5.chg g16
      have hcb : wc.heap.size ≠ p := by have := Blk.lt A1.out.hd; omega
      have hA : (w16.setCell ⟨p, 5, none⟩ x16).ownsRow (p + 1) 52 37 x16 (r.ow.take i ++ r.ow.drop (i + 1)).length ((r.ow.take i ++ r.ow.drop (i + 1)).flatMap entCells) := by
        have h1 := ownsRow_setCell_below hx16 (a := ⟨p, 5, none⟩) (by exact hp5l) x16
        have h2 := World.ownsRow.mono (base' := p + 1) h1 hp5l
        have e1 : nt = (r.ow.take i ++ r.ow.drop (i + 1)).length := by
          rw [List.length_append, List.length_take, List.length_drop, Nat.min_eq_left (by omega), ← HT16.out]
        rw [e1] at h2
        rw [List.flatMap_append]
        exact h2
      refine ⟨by rw [← HV5.out]; exact A16.cells.2.2.2.2.2.1, A16.hd.frozen 5, ⟨A16.hd.set 5 _, hA, ownsRow_setCell_below A16.ot (Nat.lt_succ_self _) _⟩, ?_, fun j x hj => ?_⟩
      · exact Kept.setCell ((Kept.of_chg ((((HG0.out.trans G1.out).trans g5)).trans g16)).mono fun g e => by cases e) _ _ (.inl (.inl rfl))
      · rw [World.cell?_setCell_other _ _ _ _ (by intro e; exact hcb (congrArg Addr.block e).symm)]
        exact rangeAt_chg (rangeAt_blk b5) g16 (by simp) j x hj
    clear hw5 g5 b5 A5 hrd5 hA15 hrd15 hw6 g6 hsz6 A6 k6 hrg c5c g4 b4 q35 f35 hog hi2
    refine wp_region_held_drew (S := fun _ => True) (by kernel_rfl) trivial (fun _ => ?_)
    refine wpAnyH_take (i := 0) (oi := ⟨some 21, _, _, _, _, _⟩) (v := ?_) rfl (by kernel_rfl) (by kernel_rfl) (by kernel_rfl) (fun _ _ _ h => h) (Or.inl ⟨by rfl, ?_⟩) (by assumption) ?_
    rotate_left
    · intro v hSv; (try dsimp only at hSv); skip; go_simp; (try with_reducible rfl)
    try simp only [Act.put, List.setIfInBounds_toArray, List.set_cons_zero, List.set_cons_succ]
    refine wpAnyH_take (i := 2) (oi := ⟨some 23, _, _, _, _, _⟩) (v := ?_) rfl (by kernel_rfl) (by kernel_rfl) (by kernel_rfl) (fun _ _ _ h => h) (Or.inl ⟨by rfl, ?_⟩) (by assumption) ?_
    rotate_left
    · intro v hSv; (try dsimp only at hSv); skip; go_simp; (try with_reducible rfl)
    try simp only [Act.put, List.setIfInBounds_toArray, List.set_cons_zero, List.set_cons_succ]
    refine wpAnyH_take (i := 3) (oi := ⟨some 24, _, _, _, _, _⟩) (v := ?_) rfl (by kernel_rfl) (by kernel_rfl) (by kernel_rfl) (fun _ _ _ h => h) (Or.inl ⟨by rfl, ?_⟩) (by assumption) ?_
    rotate_left
    · intro v hSv; (try dsimp only at hSv); skip; go_simp; (try with_reducible rfl)
    try simp only [Act.put, List.setIfInBounds_toArray, List.set_cons_zero, List.set_cons_succ]
    refine wpAnyH_take (i := 4) (oi := ⟨some 25, _, _, _, _, _⟩) (v := ?_) rfl (by kernel_rfl) (by kernel_rfl) (by kernel_rfl) (fun _ _ _ h => h) (Or.inl ⟨by rfl, ?_⟩) (by assumption) ?_
    rotate_left
    · intro v hSv; (try dsimp only at hSv); skip; go_simp; (try with_reducible rfl)
    try simp only [Act.put, List.setIfInBounds_toArray, List.set_cons_zero, List.set_cons_succ]
    refine wpAnyH_take (i := 6) (oi := ⟨some 27, _, _, _, _, _⟩) (v := ?_) rfl (by kernel_rfl) (by kernel_rfl) (by kernel_rfl) (fun _ _ _ h => h) (Or.inl ⟨by rfl, ?_⟩) (by assumption) ?_
    rotate_left
    · intro v hSv; (try dsimp only at hSv); skip; go_simp; (try with_reducible rfl)
    try simp only [Act.put, List.setIfInBounds_toArray, List.set_cons_zero, List.set_cons_succ]
    refine wpAnyH_take (i := 9) (oi := ⟨some 30, _, _, _, _, _⟩) (v := ?_) rfl (by kernel_rfl) (by kernel_rfl) (by kernel_rfl) (fun _ _ _ h => h) (Or.inl ⟨by rfl, ?_⟩) (by assumption) ?_
    rotate_left
    · intro v hSv; (try dsimp only at hSv); skip; go_simp; (try with_reducible rfl)
    try simp only [Act.put, List.setIfInBounds_toArray, List.set_cons_zero, List.set_cons_succ]
    refine wpAnyH_take (i := 10) (oi := ⟨some 31, _, _, _, _, _⟩) (v := ?_) rfl (by kernel_rfl) (by kernel_rfl) (by kernel_rfl) (fun _ _ _ h => h) (Or.inl ⟨by rfl, ?_⟩) (by assumption) ?_
    rotate_left
    · intro v hSv; (try dsimp only at hSv); skip; go_simp; (try with_reducible rfl)
    try simp only [Act.put, List.setIfInBounds_toArray, List.set_cons_zero, List.set_cons_succ]
    refine wpAnyH_take (i := 11) (oi := ⟨some 32, _, _, _, _, _⟩) (v := ?_) rfl (by kernel_rfl) (by kernel_rfl) (by kernel_rfl) (fun _ _ _ h => h) (Or.inl ⟨by rfl, ?_⟩) (by assumption) ?_
    rotate_left
    · intro v hSv; (try dsimp only at hSv); skip; go_simp; (try with_reducible rfl)
    try simp only [Act.put, List.setIfInBounds_toArray, List.set_cons_zero, List.set_cons_succ]
    refine wpAnyH_take (i := 13) (oi := ⟨some 34, _, _, _, _, _⟩) (v := ?_) rfl (by kernel_rfl) (by kernel_rfl) (by kernel_rfl) (fun _ _ _ h => h) (Or.inl ⟨by rfl, ?_⟩) (by assumption) ?_
    rotate_left
    · intro v hSv; (try dsimp only at hSv); skip; go_simp; (try with_reducible rfl)
    try simp only [Act.put, List.setIfInBounds_toArray, List.set_cons_zero, List.set_cons_succ]
    refine wpAnyH_take (i := 14) (oi := ⟨some 35, _, _, _, _, _⟩) (v := .int .i64 ((i : Int) + 1)) rfl (by kernel_rfl) (by kernel_rfl) (by kernel_rfl) (fun _ _ _ h => h) (Or.inl ⟨by rfl, ?_⟩) (by assumption) ?_
    · intro v hSv; have z := HI1.out; go_simp
    try simp only [Act.put, List.setIfInBounds_toArray, List.set_cons_zero, List.set_cons_succ]
    refine wpAnyH_ready (rs := [1, 5, 12]) (by kernel_rfl) (by simp) ?_
    refine AllReadyH.cons (o := ⟨some 22, _, _, _, _, _⟩) rfl (fun K hK => ?_) (AllReadyH.cons (o := ⟨some 26, _, _, _, _, _⟩) rfl (fun K hK => ?_) (AllReadyH.cons (o := ⟨some 33, _, _, _, _, _⟩) rfl (fun K hK => ?_) (AllReadyH.nil)))
    · go_simp
      refine hK.out _ _ trivial (fun _ => ?_)
      clear hK K
      try simp only [Act.put, List.setIfInBounds_toArray, List.set_cons_zero, List.set_cons_succ]
      refine wpAnyH_ready (rs := [5, 12]) (by kernel_rfl) (by simp) ?_
      refine AllReadyH.cons (o := ⟨some 26, _, _, _, _, _⟩) rfl (fun K hK => ?_) (AllReadyH.cons (o := ⟨some 33, _, _, _, _, _⟩) rfl (fun K hK => ?_) (AllReadyH.nil))
      · go_simp
        refine hK.out _ _ trivial (fun _ => ?_)
        clear hK K
        try simp only [Act.put, List.setIfInBounds_toArray, List.set_cons_zero, List.set_cons_succ]
        refine wpAnyH_take (i := 7) (oi := ⟨some 28, _, _, _, _, _⟩) (v := .slice (some ⟨rb, 0, none⟩) i c5) rfl (by kernel_rfl) (by kernel_rfl) (by kernel_rfl) (fun _ _ _ h => h) (Or.inl ⟨by rfl, ?_⟩) (by assumption) ?_
        · intro v hSv; have z := HC7.out v; go_simp
        try simp only [Act.put, List.setIfInBounds_toArray, List.set_cons_zero, List.set_cons_succ]
        refine wpAnyH_ready (rs := [8, 12]) (by kernel_rfl) (by simp) ?_
        refine AllReadyH.cons (o := ⟨some 29, _, _, _, _, _⟩) rfl (fun K hK => ?_) (AllReadyH.cons (o := ⟨some 33, _, _, _, _, _⟩) rfl (fun K hK => ?_) (AllReadyH.nil))
        · refine wp_append_any _ (.tmp 22) (.tmp 28) 47 rfl w5.heap.size 52 i52 (.agg #[.int .u8 0, .int .u8 0, .int .u8 0, .int .u8 0, .int .u8 0, .int .u8 0, .int .u8 0, .int .u8 0, .int .u8 0, .int .u8 0, .int .u8 0, .int .u8 0, .int .u8 0, .int .u8 0, .int .u8 0, .int .u8 0, .int .u8 0, .int .u8 0, .int .u8 0, .int .u8 0, .int .u8 0, .int .u8 0, .int .u8 0, .int .u8 0, .int .u8 0, .int .u8 0, .int .u8 0, .int .u8 0, .int .u8 0, .int .u8 0, .int .u8 0, .int .u8 0, .int .i64 0, .int .u64 0, .int .u64 0, .bool false, .int .i64 0]) 37 72 Try.underlying47 hi52 hz52 hs52 hb52 rfl (by decide) (.slice (some ⟨w5.heap.size, 0, none⟩) 0 0) 0 [] rfl HOW8.out _ (some ⟨rb, 0, none⟩) i c5 ((r.ow.take i).flatMap entCells) rfl HRD8.out HO8.out hs1 hs2 (by simp) ?_
          intro x8 w8 hx8 hgr8 hor8
          rw [Nat.zero_add, List.nil_append] at hx8
          obtain ⟨A8, c8, rfl⟩ := own_form hx8
          have HB8 := Lib.hid (HAP8.out _ w8 hx8 hgr8)
          have hz8 := HB8.out.1
          clear hx8 hgr8 hor8
          refine hK.out _ _ trivial (fun _ => ?_)
          clear hK K
          try simp only [Act.put, List.setIfInBounds_toArray, List.set_cons_zero, List.set_cons_succ]
          refine wpAnyH_ready (rs := [12]) (by kernel_rfl) (by simp) ?_
          refine AllReadyH.cons (o := ⟨some 33, _, _, _, _, _⟩) rfl (fun K hK => ?_) (AllReadyH.nil)
          go_simp
          refine hK.out _ _ trivial (fun _ => ?_)
          clear hK K
          try simp only [Act.put, List.setIfInBounds_toArray, List.set_cons_zero, List.set_cons_succ]
          refine wpAnyH_take (i := 15) (oi := ⟨some 36, _, _, _, _, _⟩) (v := .slice A15 (r.ow.length - (i + 1)) (c5 - (i + 1))) rfl (by kernel_rfl) (by kernel_rfl) (by kernel_rfl) (fun _ _ _ h => h) (Or.inl ⟨by rfl, ?_⟩) (by assumption) ?_
          · intro v hSv; have z := HC15.out v; go_simp
          try simp only [Act.put, List.setIfInBounds_toArray, List.set_cons_zero, List.set_cons_succ]
          refine wpAnyH_ready (rs := [16]) (by kernel_rfl) (by simp) ?_
          refine AllReadyH.cons (o := ⟨some 37, _, _, _, _, _⟩) rfl (fun K hK => ?_) (AllReadyH.nil)
          refine wp_append_any _ (.tmp 29) (.tmp 36) 47 rfl w5.heap.size 52 i52 (.agg #[.int .u8 0, .int .u8 0, .int .u8 0, .int .u8 0, .int .u8 0, .int .u8 0, .int .u8 0, .int .u8 0, .int .u8 0, .int .u8 0, .int .u8 0, .int .u8 0, .int .u8 0, .int .u8 0, .int .u8 0, .int .u8 0, .int .u8 0, .int .u8 0, .int .u8 0, .int .u8 0, .int .u8 0, .int .u8 0, .int .u8 0, .int .u8 0, .int .u8 0, .int .u8 0, .int .u8 0, .int .u8 0, .int .u8 0, .int .u8 0, .int .u8 0, .int .u8 0, .int .i64 0, .int .u64 0, .int .u64 0, .bool false, .int .i64 0]) 37 72 Try.underlying47 hi52 hz52 hs52 hb52 rfl (by decide) (.slice A8 i c8) i ((r.ow.take i).flatMap entCells) rfl HB8.out.2.1 _ A15 (r.ow.length - (i + 1)) (c5 - (i + 1)) ((r.ow.drop (i + 1)).flatMap entCells) rfl HB8.out.2.2.1 HO16.out hs3 hs4 HB8.out.2.2.2.1 ?_
          intro x16 w16 hx16 hgr16 hor16
          rw [HT16.out] at hx16
          obtain ⟨A16, c16, rfl⟩ := own_form hx16
          have HB16 := Lib.hid (HB8.out.2.2.2.2 _ w16 hx16 hgr16)
          have hz16 := HB16.out.1
          have hf16 := HB16.out.2.1
          clear hx16 hgr16 hor16
          refine hK.out _ _ trivial (fun _ => ?_)
          clear hK K
          try simp only [Act.put, List.setIfInBounds_toArray, List.set_cons_zero, List.set_cons_succ]
          refine wpAnyH_take (i := 17) (oi := ⟨some 38, _, _, _, _, _⟩) (v := ?_) rfl (by kernel_rfl) (by kernel_rfl) (by kernel_rfl) (fun _ _ _ h => h) (Or.inl ⟨by rfl, ?_⟩) (by assumption) ?_
          rotate_left
          · intro v hSv; (try dsimp only at hSv); skip; go_simp; (try with_reducible rfl)
          try simp only [Act.put, List.setIfInBounds_toArray, List.set_cons_zero, List.set_cons_succ]
          refine wpAnyH_take (i := 18) (oi := ⟨some 39, _, _, _, _, _⟩) (v := ?_) rfl (by kernel_rfl) (by kernel_rfl) (by kernel_rfl) (fun _ _ _ h => h) (Or.inl ⟨by rfl, ?_⟩) (by assumption) ?_
          rotate_left
          · intro v hSv; (try dsimp only at hSv); skip; go_simp; (try with_reducible rfl)
          try simp only [Act.put, List.setIfInBounds_toArray, List.set_cons_zero, List.set_cons_succ]
          refine wpAnyH_ready (rs := [19]) (by kernel_rfl) (by simp) ?_
          refine AllReadyH.cons (o := ⟨none, _, _, _, _, _⟩) rfl (fun K hK => ?_) (AllReadyH.nil)
          go_simp
          refine hK.out _ _ trivial (fun _ => ?_)
          clear hK K
          refine wpAnyH_done (by kernel_rfl) ?_ _
          obtain ⟨w17, hw17⟩ : ∃ v, v = w16.setCell ⟨p, 5, none⟩ (.slice A16 nt c16) := ⟨_, rfl⟩
          rw [← hw17]
          have HE7 := Lib.hid HB16.out.2.2
          rw [← hw17] at HE7
          clear hz16 hf16 HB16 HB8 hz8 hw17
          go_wp2_with (first
            | (refine wpList_load_mid rfl 33 _ rfl wc.heap.size 0 rfl ({ o.c with gone := true } : Cl).cells _ HE7.out.2.2 Try.underlying33 rfl HI33.out ?_)
            | (refine wpList_buildSlice rfl 36 33 1 _ rfl ({ o.c with gone := true } : Cl).cells.toArray i33 (.agg #[.int .u8 0, .int .u8 0, .int .u8 0, .int .u8 0, .int .u8 0, .int .u8 0, .int .u8 0, .int .u8 0, .int .u8 0, .int .u8 0, .int .u8 0, .int .u8 0, .int .u8 0, .int .u8 0, .int .u8 0, .int .u8 0, .int .u8 0, .int .u8 0, .int .u8 0, .int .u8 0, .int .u8 0, .int .u8 0, .int .u8 0, .int .u8 0, .int .u8 0, .int .u8 0, .int .u8 0, .int .u8 0, .int .u8 0, .int .u8 0, .int .u8 0, .int .u8 0, .int .i64 0, .int .u64 0, .int .u64 0, .bool false]) Try.underlying36 hi33 hz33 (by rw [hs33]; decide) (by rw [hs33]; decide) (by simp only [List.map_toArray, List.map_cons, List.map_nil]; exact HFD.out) ?_))
          go_ret
          exact ⟨_, rfl, sent_blk (c := ({ o.c with gone := true } : Cl)) (Blk.new w17 _ _) (HKS.out w17 HE7.out.2.1), ⟨_, HE7.out.1.chg ((Chg.refl _ _).alloc _)⟩, HE7.out.2.1.alloc _⟩
        · go_simp
          refine hK.out _ _ trivial (fun _ => ?_)
          clear hK K
          try simp only [Act.put, List.setIfInBounds_toArray, List.set_cons_zero, List.set_cons_succ]
          refine wpAnyH_take (i := 15) (oi := ⟨some 36, _, _, _, _, _⟩) (v := .slice A15 (r.ow.length - (i + 1)) (c5 - (i + 1))) rfl (by kernel_rfl) (by kernel_rfl) (by kernel_rfl) (fun _ _ _ h => h) (Or.inl ⟨by rfl, ?_⟩) (by assumption) ?_
          · intro v hSv; have z := HC15.out v; go_simp
          try simp only [Act.put, List.setIfInBounds_toArray, List.set_cons_zero, List.set_cons_succ]
          refine wpAnyH_ready (rs := [8]) (by kernel_rfl) (by simp) ?_
          refine AllReadyH.cons (o := ⟨some 29, _, _, _, _, _⟩) rfl (fun K hK => ?_) (AllReadyH.nil)
          refine wp_append_any _ (.tmp 22) (.tmp 28) 47 rfl w5.heap.size 52 i52 (.agg #[.int .u8 0, .int .u8 0, .int .u8 0, .int .u8 0, .int .u8 0, .int .u8 0, .int .u8 0, .int .u8 0, .int .u8 0, .int .u8 0, .int .u8 0, .int .u8 0, .int .u8 0, .int .u8 0, .int .u8 0, .int .u8 0, .int .u8 0, .int .u8 0, .int .u8 0, .int .u8 0, .int .u8 0, .int .u8 0, .int .u8 0, .int .u8 0, .int .u8 0, .int .u8 0, .int .u8 0, .int .u8 0, .int .u8 0, .int .u8 0, .int .u8 0, .int .u8 0, .int .i64 0, .int .u64 0, .int .u64 0, .bool false, .int .i64 0]) 37 72 Try.underlying47 hi52 hz52 hs52 hb52 rfl (by decide) (.slice (some ⟨w5.heap.size, 0, none⟩) 0 0) 0 [] rfl HOW8.out _ (some ⟨rb, 0, none⟩) i c5 ((r.ow.take i).flatMap entCells) rfl HRD8.out HO8.out hs1 hs2 (by simp) ?_
          intro x8 w8 hx8 hgr8 hor8
          rw [Nat.zero_add, List.nil_append] at hx8
          obtain ⟨A8, c8, rfl⟩ := own_form hx8
          have HB8 := Lib.hid (HAP8.out _ w8 hx8 hgr8)
          have hz8 := HB8.out.1
          clear hx8 hgr8 hor8
          refine hK.out _ _ trivial (fun _ => ?_)
          clear hK K
          try simp only [Act.put, List.setIfInBounds_toArray, List.set_cons_zero, List.set_cons_succ]
          refine wpAnyH_ready (rs := [16]) (by kernel_rfl) (by simp) ?_
          refine AllReadyH.cons (o := ⟨some 37, _, _, _, _, _⟩) rfl (fun K hK => ?_) (AllReadyH.nil)
          refine wp_append_any _ (.tmp 29) (.tmp 36) 47 rfl w5.heap.size 52 i52 (.agg #[.int .u8 0, .int .u8 0, .int .u8 0, .int .u8 0, .int .u8 0, .int .u8 0, .int .u8 0, .int .u8 0, .int .u8 0, .int .u8 0, .int .u8 0, .int .u8 0, .int .u8 0, .int .u8 0, .int .u8 0, .int .u8 0, .int .u8 0, .int .u8 0, .int .u8 0, .int .u8 0, .int .u8 0, .int .u8 0, .int .u8 0, .int .u8 0, .int .u8 0, .int .u8 0, .int .u8 0, .int .u8 0, .int .u8 0, .int .u8 0, .int .u8 0, .int .u8 0, .int .i64 0, .int .u64 0, .int .u64 0, .bool false, .int .i64 0]) 37 72 Try.underlying47 hi52 hz52 hs52 hb52 rfl (by decide) (.slice A8 i c8) i ((r.ow.take i).flatMap entCells) rfl HB8.out.2.1 _ A15 (r.ow.length - (i + 1)) (c5 - (i + 1)) ((r.ow.drop (i + 1)).flatMap entCells) rfl HB8.out.2.2.1 HO16.out hs3 hs4 HB8.out.2.2.2.1 ?_
          intro x16 w16 hx16 hgr16 hor16
          rw [HT16.out] at hx16
          obtain ⟨A16, c16, rfl⟩ := own_form hx16
          have HB16 := Lib.hid (HB8.out.2.2.2.2 _ w16 hx16 hgr16)
          have hz16 := HB16.out.1
          have hf16 := HB16.out.2.1
          clear hx16 hgr16 hor16
          refine hK.out _ _ trivial (fun _ => ?_)
          clear hK K
          try simp only [Act.put, List.setIfInBounds_toArray, List.set_cons_zero, List.set_cons_succ]
          refine wpAnyH_take (i := 17) (oi := ⟨some 38, _, _, _, _, _⟩) (v := ?_) rfl (by kernel_rfl) (by kernel_rfl) (by kernel_rfl) (fun _ _ _ h => h) (Or.inl ⟨by rfl, ?_⟩) (by assumption) ?_
          rotate_left
          · intro v hSv; (try dsimp only at hSv); skip; go_simp; (try with_reducible rfl)
          try simp only [Act.put, List.setIfInBounds_toArray, List.set_cons_zero, List.set_cons_succ]
          refine wpAnyH_take (i := 18) (oi := ⟨some 39, _, _, _, _, _⟩) (v := ?_) rfl (by kernel_rfl) (by kernel_rfl) (by kernel_rfl) (fun _ _ _ h => h) (Or.inl ⟨by rfl, ?_⟩) (by assumption) ?_
          rotate_left
          · intro v hSv; (try dsimp only at hSv); skip; go_simp; (try with_reducible rfl)
          try simp only [Act.put, List.setIfInBounds_toArray, List.set_cons_zero, List.set_cons_succ]
          refine wpAnyH_ready (rs := [19]) (by kernel_rfl) (by simp) ?_
          refine AllReadyH.cons (o := ⟨none, _, _, _, _, _⟩) rfl (fun K hK => ?_) (AllReadyH.nil)
          go_simp
          refine hK.out _ _ trivial (fun _ => ?_)
          clear hK K
          refine wpAnyH_done (by kernel_rfl) ?_ _
          obtain ⟨w17, hw17⟩ : ∃ v, v = w16.setCell ⟨p, 5, none⟩ (.slice A16 nt c16) := ⟨_, rfl⟩
          rw [← hw17]
          have HE7 := Lib.hid HB16.out.2.2
          rw [← hw17] at HE7
          clear hz16 hf16 HB16 HB8 hz8 hw17
          go_wp2_with (first
            | (refine wpList_load_mid rfl 33 _ rfl wc.heap.size 0 rfl ({ o.c with gone := true } : Cl).cells _ HE7.out.2.2 Try.underlying33 rfl HI33.out ?_)
            | (refine wpList_buildSlice rfl 36 33 1 _ rfl ({ o.c with gone := true } : Cl).cells.toArray i33 (.agg #[.int .u8 0, .int .u8 0, .int .u8 0, .int .u8 0, .int .u8 0, .int .u8 0, .int .u8 0, .int .u8 0, .int .u8 0, .int .u8 0, .int .u8 0, .int .u8 0, .int .u8 0, .int .u8 0, .int .u8 0, .int .u8 0, .int .u8 0, .int .u8 0, .int .u8 0, .int .u8 0, .int .u8 0, .int .u8 0, .int .u8 0, .int .u8 0, .int .u8 0, .int .u8 0, .int .u8 0, .int .u8 0, .int .u8 0, .int .u8 0, .int .u8 0, .int .u8 0, .int .i64 0, .int .u64 0, .int .u64 0, .bool false]) Try.underlying36 hi33 hz33 (by rw [hs33]; decide) (by rw [hs33]; decide) (by simp only [List.map_toArray, List.map_cons, List.map_nil]; exact HFD.out) ?_))
          go_ret
          exact ⟨_, rfl, sent_blk (c := ({ o.c with gone := true } : Cl)) (Blk.new w17 _ _) (HKS.out w17 HE7.out.2.1), ⟨_, HE7.out.1.chg ((Chg.refl _ _).alloc _)⟩, HE7.out.2.1.alloc _⟩
      · go_simp
        refine hK.out _ _ trivial (fun _ => ?_)
        clear hK K
        try simp only [Act.put, List.setIfInBounds_toArray, List.set_cons_zero, List.set_cons_succ]
        refine wpAnyH_take (i := 15) (oi := ⟨some 36, _, _, _, _, _⟩) (v := .slice A15 (r.ow.length - (i + 1)) (c5 - (i + 1))) rfl (by kernel_rfl) (by kernel_rfl) (by kernel_rfl) (fun _ _ _ h => h) (Or.inl ⟨by rfl, ?_⟩) (by assumption) ?_
        · intro v hSv; have z := HC15.out v; go_simp
        try simp only [Act.put, List.setIfInBounds_toArray, List.set_cons_zero, List.set_cons_succ]
        refine wpAnyH_ready (rs := [5]) (by kernel_rfl) (by simp) ?_
        refine AllReadyH.cons (o := ⟨some 26, _, _, _, _, _⟩) rfl (fun K hK => ?_) (AllReadyH.nil)
        go_simp
        refine hK.out _ _ trivial (fun _ => ?_)
        clear hK K
        try simp only [Act.put, List.setIfInBounds_toArray, List.set_cons_zero, List.set_cons_succ]
        refine wpAnyH_take (i := 7) (oi := ⟨some 28, _, _, _, _, _⟩) (v := .slice (some ⟨rb, 0, none⟩) i c5) rfl (by kernel_rfl) (by kernel_rfl) (by kernel_rfl) (fun _ _ _ h => h) (Or.inl ⟨by rfl, ?_⟩) (by assumption) ?_
        · intro v hSv; have z := HC7.out v; go_simp
        try simp only [Act.put, List.setIfInBounds_toArray, List.set_cons_zero, List.set_cons_succ]
        refine wpAnyH_ready (rs := [8]) (by kernel_rfl) (by simp) ?_
        refine AllReadyH.cons (o := ⟨some 29, _, _, _, _, _⟩) rfl (fun K hK => ?_) (AllReadyH.nil)
        refine wp_append_any _ (.tmp 22) (.tmp 28) 47 rfl w5.heap.size 52 i52 (.agg #[.int .u8 0, .int .u8 0, .int .u8 0, .int .u8 0, .int .u8 0, .int .u8 0, .int .u8 0, .int .u8 0, .int .u8 0, .int .u8 0, .int .u8 0, .int .u8 0, .int .u8 0, .int .u8 0, .int .u8 0, .int .u8 0, .int .u8 0, .int .u8 0, .int .u8 0, .int .u8 0, .int .u8 0, .int .u8 0, .int .u8 0, .int .u8 0, .int .u8 0, .int .u8 0, .int .u8 0, .int .u8 0, .int .u8 0, .int .u8 0, .int .u8 0, .int .u8 0, .int .i64 0, .int .u64 0, .int .u64 0, .bool false, .int .i64 0]) 37 72 Try.underlying47 hi52 hz52 hs52 hb52 rfl (by decide) (.slice (some ⟨w5.heap.size, 0, none⟩) 0 0) 0 [] rfl HOW8.out _ (some ⟨rb, 0, none⟩) i c5 ((r.ow.take i).flatMap entCells) rfl HRD8.out HO8.out hs1 hs2 (by simp) ?_
        intro x8 w8 hx8 hgr8 hor8
        rw [Nat.zero_add, List.nil_append] at hx8
        obtain ⟨A8, c8, rfl⟩ := own_form hx8
        have HB8 := Lib.hid (HAP8.out _ w8 hx8 hgr8)
        have hz8 := HB8.out.1
        clear hx8 hgr8 hor8
        refine hK.out _ _ trivial (fun _ => ?_)
        clear hK K
        try simp only [Act.put, List.setIfInBounds_toArray, List.set_cons_zero, List.set_cons_succ]
        refine wpAnyH_ready (rs := [16]) (by kernel_rfl) (by simp) ?_
        refine AllReadyH.cons (o := ⟨some 37, _, _, _, _, _⟩) rfl (fun K hK => ?_) (AllReadyH.nil)
        refine wp_append_any _ (.tmp 29) (.tmp 36) 47 rfl w5.heap.size 52 i52 (.agg #[.int .u8 0, .int .u8 0, .int .u8 0, .int .u8 0, .int .u8 0, .int .u8 0, .int .u8 0, .int .u8 0, .int .u8 0, .int .u8 0, .int .u8 0, .int .u8 0, .int .u8 0, .int .u8 0, .int .u8 0, .int .u8 0, .int .u8 0, .int .u8 0, .int .u8 0, .int .u8 0, .int .u8 0, .int .u8 0, .int .u8 0, .int .u8 0, .int .u8 0, .int .u8 0, .int .u8 0, .int .u8 0, .int .u8 0, .int .u8 0, .int .u8 0, .int .u8 0, .int .i64 0, .int .u64 0, .int .u64 0, .bool false, .int .i64 0]) 37 72 Try.underlying47 hi52 hz52 hs52 hb52 rfl (by decide) (.slice A8 i c8) i ((r.ow.take i).flatMap entCells) rfl HB8.out.2.1 _ A15 (r.ow.length - (i + 1)) (c5 - (i + 1)) ((r.ow.drop (i + 1)).flatMap entCells) rfl HB8.out.2.2.1 HO16.out hs3 hs4 HB8.out.2.2.2.1 ?_
        intro x16 w16 hx16 hgr16 hor16
        rw [HT16.out] at hx16
        obtain ⟨A16, c16, rfl⟩ := own_form hx16
        have HB16 := Lib.hid (HB8.out.2.2.2.2 _ w16 hx16 hgr16)
        have hz16 := HB16.out.1
        have hf16 := HB16.out.2.1
        clear hx16 hgr16 hor16
        refine hK.out _ _ trivial (fun _ => ?_)
        clear hK K
        try simp only [Act.put, List.setIfInBounds_toArray, List.set_cons_zero, List.set_cons_succ]
        refine wpAnyH_take (i := 17) (oi := ⟨some 38, _, _, _, _, _⟩) (v := ?_) rfl (by kernel_rfl) (by kernel_rfl) (by kernel_rfl) (fun _ _ _ h => h) (Or.inl ⟨by rfl, ?_⟩) (by assumption) ?_
        rotate_left
        · intro v hSv; (try dsimp only at hSv); skip; go_simp; (try with_reducible rfl)
        try simp only [Act.put, List.setIfInBounds_toArray, List.set_cons_zero, List.set_cons_succ]
        refine wpAnyH_take (i := 18) (oi := ⟨some 39, _, _, _, _, _⟩) (v := ?_) rfl (by kernel_rfl) (by kernel_rfl) (by kernel_rfl) (fun _ _ _ h => h) (Or.inl ⟨by rfl, ?_⟩) (by assumption) ?_
        rotate_left
        · intro v hSv; (try dsimp only at hSv); skip; go_simp; (try with_reducible rfl)
        try simp only [Act.put, List.setIfInBounds_toArray, List.set_cons_zero, List.set_cons_succ]
        refine wpAnyH_ready (rs := [19]) (by kernel_rfl) (by simp) ?_
        refine AllReadyH.cons (o := ⟨none, _, _, _, _, _⟩) rfl (fun K hK => ?_) (AllReadyH.nil)
        go_simp
        refine hK.out _ _ trivial (fun _ => ?_)
        clear hK K
        refine wpAnyH_done (by kernel_rfl) ?_ _
        obtain ⟨w17, hw17⟩ : ∃ v, v = w16.setCell ⟨p, 5, none⟩ (.slice A16 nt c16) := ⟨_, rfl⟩
        rw [← hw17]
        have HE7 := Lib.hid HB16.out.2.2
        rw [← hw17] at HE7
        clear hz16 hf16 HB16 HB8 hz8 hw17
        go_wp2_with (first
          | (refine wpList_load_mid rfl 33 _ rfl wc.heap.size 0 rfl ({ o.c with gone := true } : Cl).cells _ HE7.out.2.2 Try.underlying33 rfl HI33.out ?_)
          | (refine wpList_buildSlice rfl 36 33 1 _ rfl ({ o.c with gone := true } : Cl).cells.toArray i33 (.agg #[.int .u8 0, .int .u8 0, .int .u8 0, .int .u8 0, .int .u8 0, .int .u8 0, .int .u8 0, .int .u8 0, .int .u8 0, .int .u8 0, .int .u8 0, .int .u8 0, .int .u8 0, .int .u8 0, .int .u8 0, .int .u8 0, .int .u8 0, .int .u8 0, .int .u8 0, .int .u8 0, .int .u8 0, .int .u8 0, .int .u8 0, .int .u8 0, .int .u8 0, .int .u8 0, .int .u8 0, .int .u8 0, .int .u8 0, .int .u8 0, .int .u8 0, .int .u8 0, .int .i64 0, .int .u64 0, .int .u64 0, .bool false]) Try.underlying36 hi33 hz33 (by rw [hs33]; decide) (by rw [hs33]; decide) (by simp only [List.map_toArray, List.map_cons, List.map_nil]; exact HFD.out) ?_))
        go_ret
        exact ⟨_, rfl, sent_blk (c := ({ o.c with gone := true } : Cl)) (Blk.new w17 _ _) (HKS.out w17 HE7.out.2.1), ⟨_, HE7.out.1.chg ((Chg.refl _ _).alloc _)⟩, HE7.out.2.1.alloc _⟩
    · go_simp
      refine hK.out _ _ trivial (fun _ => ?_)
      clear hK K
      try simp only [Act.put, List.setIfInBounds_toArray, List.set_cons_zero, List.set_cons_succ]
      refine wpAnyH_take (i := 7) (oi := ⟨some 28, _, _, _, _, _⟩) (v := .slice (some ⟨rb, 0, none⟩) i c5) rfl (by kernel_rfl) (by kernel_rfl) (by kernel_rfl) (fun _ _ _ h => h) (Or.inl ⟨by rfl, ?_⟩) (by assumption) ?_
      · intro v hSv; have z := HC7.out v; go_simp
      try simp only [Act.put, List.setIfInBounds_toArray, List.set_cons_zero, List.set_cons_succ]
      refine wpAnyH_ready (rs := [1, 12]) (by kernel_rfl) (by simp) ?_
      refine AllReadyH.cons (o := ⟨some 22, _, _, _, _, _⟩) rfl (fun K hK => ?_) (AllReadyH.cons (o := ⟨some 33, _, _, _, _, _⟩) rfl (fun K hK => ?_) (AllReadyH.nil))
      · go_simp
        refine hK.out _ _ trivial (fun _ => ?_)
        clear hK K
        try simp only [Act.put, List.setIfInBounds_toArray, List.set_cons_zero, List.set_cons_succ]
        refine wpAnyH_ready (rs := [8, 12]) (by kernel_rfl) (by simp) ?_
        refine AllReadyH.cons (o := ⟨some 29, _, _, _, _, _⟩) rfl (fun K hK => ?_) (AllReadyH.cons (o := ⟨some 33, _, _, _, _, _⟩) rfl (fun K hK => ?_) (AllReadyH.nil))
        · refine wp_append_any _ (.tmp 22) (.tmp 28) 47 rfl w5.heap.size 52 i52 (.agg #[.int .u8 0, .int .u8 0, .int .u8 0, .int .u8 0, .int .u8 0, .int .u8 0, .int .u8 0, .int .u8 0, .int .u8 0, .int .u8 0, .int .u8 0, .int .u8 0, .int .u8 0, .int .u8 0, .int .u8 0, .int .u8 0, .int .u8 0, .int .u8 0, .int .u8 0, .int .u8 0, .int .u8 0, .int .u8 0, .int .u8 0, .int .u8 0, .int .u8 0, .int .u8 0, .int .u8 0, .int .u8 0, .int .u8 0, .int .u8 0, .int .u8 0, .int .u8 0, .int .i64 0, .int .u64 0, .int .u64 0, .bool false, .int .i64 0]) 37 72 Try.underlying47 hi52 hz52 hs52 hb52 rfl (by decide) (.slice (some ⟨w5.heap.size, 0, none⟩) 0 0) 0 [] rfl HOW8.out _ (some ⟨rb, 0, none⟩) i c5 ((r.ow.take i).flatMap entCells) rfl HRD8.out HO8.out hs1 hs2 (by simp) ?_
          intro x8 w8 hx8 hgr8 hor8
          rw [Nat.zero_add, List.nil_append] at hx8
          obtain ⟨A8, c8, rfl⟩ := own_form hx8
          have HB8 := Lib.hid (HAP8.out _ w8 hx8 hgr8)
          have hz8 := HB8.out.1
          clear hx8 hgr8 hor8
          refine hK.out _ _ trivial (fun _ => ?_)
          clear hK K
          try simp only [Act.put, List.setIfInBounds_toArray, List.set_cons_zero, List.set_cons_succ]
          refine wpAnyH_ready (rs := [12]) (by kernel_rfl) (by simp) ?_
          refine AllReadyH.cons (o := ⟨some 33, _, _, _, _, _⟩) rfl (fun K hK => ?_) (AllReadyH.nil)
          go_simp
          refine hK.out _ _ trivial (fun _ => ?_)
          clear hK K
          try simp only [Act.put, List.setIfInBounds_toArray, List.set_cons_zero, List.set_cons_succ]
          refine wpAnyH_take (i := 15) (oi := ⟨some 36, _, _, _, _, _⟩) (v := .slice A15 (r.ow.length - (i + 1)) (c5 - (i + 1))) rfl (by kernel_rfl) (by kernel_rfl) (by kernel_rfl) (fun _ _ _ h => h) (Or.inl ⟨by rfl, ?_⟩) (by assumption) ?_
          · intro v hSv; have z := HC15.out v; go_simp
          try simp only [Act.put, List.setIfInBounds_toArray, List.set_cons_zero, List.set_cons_succ]
          refine wpAnyH_ready (rs := [16]) (by kernel_rfl) (by simp) ?_
          refine AllReadyH.cons (o := ⟨some 37, _, _, _, _, _⟩) rfl (fun K hK => ?_) (AllReadyH.nil)
          refine wp_append_any _ (.tmp 29) (.tmp 36) 47 rfl w5.heap.size 52 i52 (.agg #[.int .u8 0, .int .u8 0, .int .u8 0, .int .u8 0, .int .u8 0, .int .u8 0, .int .u8 0, .int .u8 0, .int .u8 0, .int .u8 0, .int .u8 0, .int .u8 0, .int .u8 0, .int .u8 0, .int .u8 0, .int .u8 0, .int .u8 0, .int .u8 0, .int .u8 0, .int .u8 0, .int .u8 0, .int .u8 0, .int .u8 0, .int .u8 0, .int .u8 0, .int .u8 0, .int .u8 0, .int .u8 0, .int .u8 0, .int .u8 0, .int .u8 0, .int .u8 0, .int .i64 0, .int .u64 0, .int .u64 0, .bool false, .int .i64 0]) 37 72 Try.underlying47 hi52 hz52 hs52 hb52 rfl (by decide) (.slice A8 i c8) i ((r.ow.take i).flatMap entCells) rfl HB8.out.2.1 _ A15 (r.ow.length - (i + 1)) (c5 - (i + 1)) ((r.ow.drop (i + 1)).flatMap entCells) rfl HB8.out.2.2.1 HO16.out hs3 hs4 HB8.out.2.2.2.1 ?_
          intro x16 w16 hx16 hgr16 hor16
          rw [HT16.out] at hx16
          obtain ⟨A16, c16, rfl⟩ := own_form hx16
          have HB16 := Lib.hid (HB8.out.2.2.2.2 _ w16 hx16 hgr16)
          have hz16 := HB16.out.1
          have hf16 := HB16.out.2.1
          clear hx16 hgr16 hor16
          refine hK.out _ _ trivial (fun _ => ?_)
          clear hK K
          try simp only [Act.put, List.setIfInBounds_toArray, List.set_cons_zero, List.set_cons_succ]
          refine wpAnyH_take (i := 17) (oi := ⟨some 38, _, _, _, _, _⟩) (v := ?_) rfl (by kernel_rfl) (by kernel_rfl) (by kernel_rfl) (fun _ _ _ h => h) (Or.inl ⟨by rfl, ?_⟩) (by assumption) ?_
          rotate_left
          · intro v hSv; (try dsimp only at hSv); skip; go_simp; (try with_reducible rfl)
          try simp only [Act.put, List.setIfInBounds_toArray, List.set_cons_zero, List.set_cons_succ]
          refine wpAnyH_take (i := 18) (oi := ⟨some 39, _, _, _, _, _⟩) (v := ?_) rfl (by kernel_rfl) (by kernel_rfl) (by kernel_rfl) (fun _ _ _ h => h) (Or.inl ⟨by rfl, ?_⟩) (by assumption) ?_
          rotate_left
          · intro v hSv; (try dsimp only at hSv); skip; go_simp; (try with_reducible rfl)
          try simp only [Act.put, List.setIfInBounds_toArray, List.set_cons_zero, List.set_cons_succ]
          refine wpAnyH_ready (rs := [19]) (by kernel_rfl) (by simp) ?_
          refine AllReadyH.cons (o := ⟨none, _, _, _, _, _⟩) rfl (fun K hK => ?_) (AllReadyH.nil)
          go_simp
          refine hK.out _ _ trivial (fun _ => ?_)
          clear hK K
          refine wpAnyH_done (by kernel_rfl) ?_ _
          obtain ⟨w17, hw17⟩ : ∃ v, v = w16.setCell ⟨p, 5, none⟩ (.slice A16 nt c16) := ⟨_, rfl⟩
          rw [← hw17]
          have HE7 := Lib.hid HB16.out.2.2
          rw [← hw17] at HE7
          clear hz16 hf16 HB16 HB8 hz8 hw17
          go_wp2_with (first
            | (refine wpList_load_mid rfl 33 _ rfl wc.heap.size 0 rfl ({ o.c with gone := true } : Cl).cells _ HE7.out.2.2 Try.underlying33 rfl HI33.out ?_)
            | (refine wpList_buildSlice rfl 36 33 1 _ rfl ({ o.c with gone := true } : Cl).cells.toArray i33 (.agg #[.int .u8 0, .int .u8 0, .int .u8 0, .int .u8 0, .int .u8 0, .int .u8 0, .int .u8 0, .int .u8 0, .int .u8 0, .int .u8 0, .int .u8 0, .int .u8 0, .int .u8 0, .int .u8 0, .int .u8 0, .int .u8 0, .int .u8 0, .int .u8 0, .int .u8 0, .int .u8 0, .int .u8 0, .int .u8 0, .int .u8 0, .int .u8 0, .int .u8 0, .int .u8 0, .int .u8 0, .int .u8 0, .int .u8 0, .int .u8 0, .int .u8 0, .int .u8 0, .int .i64 0, .int .u64 0, .int .u64 0, .bool false]) Try.underlying36 hi33 hz33 (by rw [hs33]; decide) (by rw [hs33]; decide) (by simp only [List.map_toArray, List.map_cons, List.map_nil]; exact HFD.out) ?_))
          go_ret
          exact ⟨_, rfl, sent_blk (c := ({ o.c with gone := true } : Cl)) (Blk.new w17 _ _) (HKS.out w17 HE7.out.2.1), ⟨_, HE7.out.1.chg ((Chg.refl _ _).alloc _)⟩, HE7.out.2.1.alloc _⟩
        · go_simp
          refine hK.out _ _ trivial (fun _ => ?_)
          clear hK K
          try simp only [Act.put, List.setIfInBounds_toArray, List.set_cons_zero, List.set_cons_succ]
          refine wpAnyH_take (i := 15) (oi := ⟨some 36, _, _, _, _, _⟩) (v := .slice A15 (r.ow.length - (i + 1)) (c5 - (i + 1))) rfl (by kernel_rfl) (by kernel_rfl) (by kernel_rfl) (fun _ _ _ h => h) (Or.inl ⟨by rfl, ?_⟩) (by assumption) ?_
          · intro v hSv; have z := HC15.out v; go_simp
          try simp only [Act.put, List.setIfInBounds_toArray, List.set_cons_zero, List.set_cons_succ]
          refine wpAnyH_ready (rs := [8]) (by kernel_rfl) (by simp) ?_
          refine AllReadyH.cons (o := ⟨some 29, _, _, _, _, _⟩) rfl (fun K hK => ?_) (AllReadyH.nil)
          refine wp_append_any _ (.tmp 22) (.tmp 28) 47 rfl w5.heap.size 52 i52 (.agg #[.int .u8 0, .int .u8 0, .int .u8 0, .int .u8 0, .int .u8 0, .int .u8 0, .int .u8 0, .int .u8 0, .int .u8 0, .int .u8 0, .int .u8 0, .int .u8 0, .int .u8 0, .int .u8 0, .int .u8 0, .int .u8 0, .int .u8 0, .int .u8 0, .int .u8 0, .int .u8 0, .int .u8 0, .int .u8 0, .int .u8 0, .int .u8 0, .int .u8 0, .int .u8 0, .int .u8 0, .int .u8 0, .int .u8 0, .int .u8 0, .int .u8 0, .int .u8 0, .int .i64 0, .int .u64 0, .int .u64 0, .bool false, .int .i64 0]) 37 72 Try.underlying47 hi52 hz52 hs52 hb52 rfl (by decide) (.slice (some ⟨w5.heap.size, 0, none⟩) 0 0) 0 [] rfl HOW8.out _ (some ⟨rb, 0, none⟩) i c5 ((r.ow.take i).flatMap entCells) rfl HRD8.out HO8.out hs1 hs2 (by simp) ?_
          intro x8 w8 hx8 hgr8 hor8
          rw [Nat.zero_add, List.nil_append] at hx8
          obtain ⟨A8, c8, rfl⟩ := own_form hx8
          have HB8 := Lib.hid (HAP8.out _ w8 hx8 hgr8)
          have hz8 := HB8.out.1
          clear hx8 hgr8 hor8
          refine hK.out _ _ trivial (fun _ => ?_)
          clear hK K
          try simp only [Act.put, List.setIfInBounds_toArray, List.set_cons_zero, List.set_cons_succ]
          refine wpAnyH_ready (rs := [16]) (by kernel_rfl) (by simp) ?_
          refine AllReadyH.cons (o := ⟨some 37, _, _, _, _, _⟩) rfl (fun K hK => ?_) (AllReadyH.nil)
          refine wp_append_any _ (.tmp 29) (.tmp 36) 47 rfl w5.heap.size 52 i52 (.agg #[.int .u8 0, .int .u8 0, .int .u8 0, .int .u8 0, .int .u8 0, .int .u8 0, .int .u8 0, .int .u8 0, .int .u8 0, .int .u8 0, .int .u8 0, .int .u8 0, .int .u8 0, .int .u8 0, .int .u8 0, .int .u8 0, .int .u8 0, .int .u8 0, .int .u8 0, .int .u8 0, .int .u8 0, .int .u8 0, .int .u8 0, .int .u8 0, .int .u8 0, .int .u8 0, .int .u8 0, .int .u8 0, .int .u8 0, .int .u8 0, .int .u8 0, .int .u8 0, .int .i64 0, .int .u64 0, .int .u64 0, .bool false, .int .i64 0]) 37 72 Try.underlying47 hi52 hz52 hs52 hb52 rfl (by decide) (.slice A8 i c8) i ((r.ow.take i).flatMap entCells) rfl HB8.out.2.1 _ A15 (r.ow.length - (i + 1)) (c5 - (i + 1)) ((r.ow.drop (i + 1)).flatMap entCells) rfl HB8.out.2.2.1 HO16.out hs3 hs4 HB8.out.2.2.2.1 ?_
          intro x16 w16 hx16 hgr16 hor16
          rw [HT16.out] at hx16
          obtain ⟨A16, c16, rfl⟩ := own_form hx16
          have HB16 := Lib.hid (HB8.out.2.2.2.2 _ w16 hx16 hgr16)
          have hz16 := HB16.out.1
          have hf16 := HB16.out.2.1
          clear hx16 hgr16 hor16
          refine hK.out _ _ trivial (fun _ => ?_)
          clear hK K
          try simp only [Act.put, List.setIfInBounds_toArray, List.set_cons_zero, List.set_cons_succ]
          refine wpAnyH_take (i := 17) (oi := ⟨some 38, _, _, _, _, _⟩) (v := ?_) rfl (by kernel_rfl) (by kernel_rfl) (by kernel_rfl) (fun _ _ _ h => h) (Or.inl ⟨by rfl, ?_⟩) (by assumption) ?_
          rotate_left
          · intro v hSv; (try dsimp only at hSv); skip; go_simp; (try with_reducible rfl)
          try simp only [Act.put, List.setIfInBounds_toArray, List.set_cons_zero, List.set_cons_succ]
          refine wpAnyH_take (i := 18) (oi := ⟨some 39, _, _, _, _, _⟩) (v := ?_) rfl (by kernel_rfl) (by kernel_rfl) (by kernel_rfl) (fun _ _ _ h => h) (Or.inl ⟨by rfl, ?_⟩) (by assumption) ?_
          rotate_left
          · intro v hSv; (try dsimp only at hSv); skip; go_simp; (try with_reducible rfl)
          try simp only [Act.put, List.setIfInBounds_toArray, List.set_cons_zero, List.set_cons_succ]
          refine wpAnyH_ready (rs := [19]) (by kernel_rfl) (by simp) ?_
          refine AllReadyH.cons (o := ⟨none, _, _, _, _, _⟩) rfl (fun K hK => ?_) (AllReadyH.nil)
          go_simp
          refine hK.out _ _ trivial (fun _ => ?_)
          clear hK K
          refine wpAnyH_done (by kernel_rfl) ?_ _
          obtain ⟨w17, hw17⟩ : ∃ v, v = w16.setCell ⟨p, 5, none⟩ (.slice A16 nt c16) := ⟨_, rfl⟩
          rw [← hw17]
          have HE7 := Lib.hid HB16.out.2.2
          rw [← hw17] at HE7
          clear hz16 hf16 HB16 HB8 hz8 hw17
          go_wp2_with (first
            | (refine wpList_load_mid rfl 33 _ rfl wc.heap.size 0 rfl ({ o.c with gone := true } : Cl).cells _ HE7.out.2.2 Try.underlying33 rfl HI33.out ?_)
            | (refine wpList_buildSlice rfl 36 33 1 _ rfl ({ o.c with gone := true } : Cl).cells.toArray i33 (.agg #[.int .u8 0, .int .u8 0, .int .u8 0, .int .u8 0, .int .u8 0, .int .u8 0, .int .u8 0, .int .u8 0, .int .u8 0, .int .u8 0, .int .u8 0, .int .u8 0, .int .u8 0, .int .u8 0, .int .u8 0, .int .u8 0, .int .u8 0, .int .u8 0, .int .u8 0, .int .u8 0, .int .u8 0, .int .u8 0, .int .u8 0, .int .u8 0, .int .u8 0, .int .u8 0, .int .u8 0, .int .u8 0, .int .u8 0, .int .u8 0, .int .u8 0, .int .u8 0, .int .i64 0, .int .u64 0, .int .u64 0, .bool false]) Try.underlying36 hi33 hz33 (by rw [hs33]; decide) (by rw [hs33]; decide) (by simp only [List.map_toArray, List.map_cons, List.map_nil]; exact HFD.out) ?_))
          go_ret
          exact ⟨_, rfl, sent_blk (c := ({ o.c with gone := true } : Cl)) (Blk.new w17 _ _) (HKS.out w17 HE7.out.2.1), ⟨_, HE7.out.1.chg ((Chg.refl _ _).alloc _)⟩, HE7.out.2.1.alloc _⟩
      · go_simp
        refine hK.out _ _ trivial (fun _ => ?_)
        clear hK K
        try simp only [Act.put, List.setIfInBounds_toArray, List.set_cons_zero, List.set_cons_succ]
        refine wpAnyH_take (i := 15) (oi := ⟨some 36, _, _, _, _, _⟩) (v := .slice A15 (r.ow.length - (i + 1)) (c5 - (i + 1))) rfl (by kernel_rfl) (by kernel_rfl) (by kernel_rfl) (fun _ _ _ h => h) (Or.inl ⟨by rfl, ?_⟩) (by assumption) ?_
        · intro v hSv; have z := HC15.out v; go_simp
        try simp only [Act.put, List.setIfInBounds_toArray, List.set_cons_zero, List.set_cons_succ]
        refine wpAnyH_ready (rs := [1]) (by kernel_rfl) (by simp) ?_
        refine AllReadyH.cons (o := ⟨some 22, _, _, _, _, _⟩) rfl (fun K hK => ?_) (AllReadyH.nil)
        go_simp
        refine hK.out _ _ trivial (fun _ => ?_)
        clear hK K
        try simp only [Act.put, List.setIfInBounds_toArray, List.set_cons_zero, List.set_cons_succ]
        refine wpAnyH_ready (rs := [8]) (by kernel_rfl) (by simp) ?_
        refine AllReadyH.cons (o := ⟨some 29, _, _, _, _, _⟩) rfl (fun K hK => ?_) (AllReadyH.nil)
        refine wp_append_any _ (.tmp 22) (.tmp 28) 47 rfl w5.heap.size 52 i52 (.agg #[.int .u8 0, .int .u8 0, .int .u8 0, .int .u8 0, .int .u8 0, .int .u8 0, .int .u8 0, .int .u8 0, .int .u8 0, .int .u8 0, .int .u8 0, .int .u8 0, .int .u8 0, .int .u8 0, .int .u8 0, .int .u8 0, .int .u8 0, .int .u8 0, .int .u8 0, .int .u8 0, .int .u8 0, .int .u8 0, .int .u8 0, .int .u8 0, .int .u8 0, .int .u8 0, .int .u8 0, .int .u8 0, .int .u8 0, .int .u8 0, .int .u8 0, .int .u8 0, .int .i64 0, .int .u64 0, .int .u64 0, .bool false, .int .i64 0]) 37 72 Try.underlying47 hi52 hz52 hs52 hb52 rfl (by decide) (.slice (some ⟨w5.heap.size, 0, none⟩) 0 0) 0 [] rfl HOW8.out _ (some ⟨rb, 0, none⟩) i c5 ((r.ow.take i).flatMap entCells) rfl HRD8.out HO8.out hs1 hs2 (by simp) ?_
        intro x8 w8 hx8 hgr8 hor8
        rw [Nat.zero_add, List.nil_append] at hx8
        obtain ⟨A8, c8, rfl⟩ := own_form hx8
        have HB8 := Lib.hid (HAP8.out _ w8 hx8 hgr8)
        have hz8 := HB8.out.1
        clear hx8 hgr8 hor8
        refine hK.out _ _ trivial (fun _ => ?_)
        clear hK K
        try simp only [Act.put, List.setIfInBounds_toArray, List.set_cons_zero, List.set_cons_succ]
        refine wpAnyH_ready (rs := [16]) (by kernel_rfl) (by simp) ?_
        refine AllReadyH.cons (o := ⟨some 37, _, _, _, _, _⟩) rfl (fun K hK => ?_) (AllReadyH.nil)
        refine wp_append_any _ (.tmp 29) (.tmp 36) 47 rfl w5.heap.size 52 i52 (.agg #[.int .u8 0, .int .u8 0, .int .u8 0, .int .u8 0, .int .u8 0, .int .u8 0, .int .u8 0, .int .u8 0, .int .u8 0, .int .u8 0, .int .u8 0, .int .u8 0, .int .u8 0, .int .u8 0, .int .u8 0, .int .u8 0, .int .u8 0, .int .u8 0, .int .u8 0, .int .u8 0, .int .u8 0, .int .u8 0, .int .u8 0, .int .u8 0, .int .u8 0, .int .u8 0, .int .u8 0, .int .u8 0, .int .u8 0, .int .u8 0, .int .u8 0, .int .u8 0, .int .i64 0, .int .u64 0, .int .u64 0, .bool false, .int .i64 0]) 37 72 Try.underlying47 hi52 hz52 hs52 hb52 rfl (by decide) (.slice A8 i c8) i ((r.ow.take i).flatMap entCells) rfl HB8.out.2.1 _ A15 (r.ow.length - (i + 1)) (c5 - (i + 1)) ((r.ow.drop (i + 1)).flatMap entCells) rfl HB8.out.2.2.1 HO16.out hs3 hs4 HB8.out.2.2.2.1 ?_
        intro x16 w16 hx16 hgr16 hor16
        rw [HT16.out] at hx16
        obtain ⟨A16, c16, rfl⟩ := own_form hx16
        have HB16 := Lib.hid (HB8.out.2.2.2.2 _ w16 hx16 hgr16)
        have hz16 := HB16.out.1
        have hf16 := HB16.out.2.1
        clear hx16 hgr16 hor16
        refine hK.out _ _ trivial (fun _ => ?_)
        clear hK K
        try simp only [Act.put, List.setIfInBounds_toArray, List.set_cons_zero, List.set_cons_succ]
        refine wpAnyH_take (i := 17) (oi := ⟨some 38, _, _, _, _, _⟩) (v := ?_) rfl (by kernel_rfl) (by kernel_rfl) (by kernel_rfl) (fun _ _ _ h => h) (Or.inl ⟨by rfl, ?_⟩) (by assumption) ?_
        rotate_left
        · intro v hSv; (try dsimp only at hSv); skip; go_simp; (try with_reducible rfl)
        try simp only [Act.put, List.setIfInBounds_toArray, List.set_cons_zero, List.set_cons_succ]
        refine wpAnyH_take (i := 18) (oi := ⟨some 39, _, _, _, _, _⟩) (v := ?_) rfl (by kernel_rfl) (by kernel_rfl) (by kernel_rfl) (fun _ _ _ h => h) (Or.inl ⟨by rfl, ?_⟩) (by assumption) ?_
        rotate_left
        · intro v hSv; (try dsimp only at hSv); skip; go_simp; (try with_reducible rfl)
        try simp only [Act.put, List.setIfInBounds_toArray, List.set_cons_zero, List.set_cons_succ]
        refine wpAnyH_ready (rs := [19]) (by kernel_rfl) (by simp) ?_
        refine AllReadyH.cons (o := ⟨none, _, _, _, _, _⟩) rfl (fun K hK => ?_) (AllReadyH.nil)
        go_simp
        refine hK.out _ _ trivial (fun _ => ?_)
        clear hK K
        refine wpAnyH_done (by kernel_rfl) ?_ _
        obtain ⟨w17, hw17⟩ : ∃ v, v = w16.setCell ⟨p, 5, none⟩ (.slice A16 nt c16) := ⟨_, rfl⟩
        rw [← hw17]
        have HE7 := Lib.hid HB16.out.2.2
        rw [← hw17] at HE7
        clear hz16 hf16 HB16 HB8 hz8 hw17
        go_wp2_with (first
          | (refine wpList_load_mid rfl 33 _ rfl wc.heap.size 0 rfl ({ o.c with gone := true } : Cl).cells _ HE7.out.2.2 Try.underlying33 rfl HI33.out ?_)
          | (refine wpList_buildSlice rfl 36 33 1 _ rfl ({ o.c with gone := true } : Cl).cells.toArray i33 (.agg #[.int .u8 0, .int .u8 0, .int .u8 0, .int .u8 0, .int .u8 0, .int .u8 0, .int .u8 0, .int .u8 0, .int .u8 0, .int .u8 0, .int .u8 0, .int .u8 0, .int .u8 0, .int .u8 0, .int .u8 0, .int .u8 0, .int .u8 0, .int .u8 0, .int .u8 0, .int .u8 0, .int .u8 0, .int .u8 0, .int .u8 0, .int .u8 0, .int .u8 0, .int .u8 0, .int .u8 0, .int .u8 0, .int .u8 0, .int .u8 0, .int .u8 0, .int .u8 0, .int .i64 0, .int .u64 0, .int .u64 0, .bool false]) Try.underlying36 hi33 hz33 (by rw [hs33]; decide) (by rw [hs33]; decide) (by simp only [List.map_toArray, List.map_cons, List.map_nil]; exact HFD.out) ?_))
        go_ret
        exact ⟨_, rfl, sent_blk (c := ({ o.c with gone := true } : Cl)) (Blk.new w17 _ _) (HKS.out w17 HE7.out.2.1), ⟨_, HE7.out.1.chg ((Chg.refl _ _).alloc _)⟩, HE7.out.2.1.alloc _⟩
    · go_simp
      refine hK.out _ _ trivial (fun _ => ?_)
      clear hK K
      try simp only [Act.put, List.setIfInBounds_toArray, List.set_cons_zero, List.set_cons_succ]
      refine wpAnyH_take (i := 15) (oi := ⟨some 36, _, _, _, _, _⟩) (v := .slice A15 (r.ow.length - (i + 1)) (c5 - (i + 1))) rfl (by kernel_rfl) (by kernel_rfl) (by kernel_rfl) (fun _ _ _ h => h) (Or.inl ⟨by rfl, ?_⟩) (by assumption) ?_
      · intro v hSv; have z := HC15.out v; go_simp
      try simp only [Act.put, List.setIfInBounds_toArray, List.set_cons_zero, List.set_cons_succ]
      refine wpAnyH_ready (rs := [1, 5]) (by kernel_rfl) (by simp) ?_
      refine AllReadyH.cons (o := ⟨some 22, _, _, _, _, _⟩) rfl (fun K hK => ?_) (AllReadyH.cons (o := ⟨some 26, _, _, _, _, _⟩) rfl (fun K hK => ?_) (AllReadyH.nil))
      · go_simp
        refine hK.out _ _ trivial (fun _ => ?_)
        clear hK K
        try simp only [Act.put, List.setIfInBounds_toArray, List.set_cons_zero, List.set_cons_succ]
        refine wpAnyH_ready (rs := [5]) (by kernel_rfl) (by simp) ?_
        refine AllReadyH.cons (o := ⟨some 26, _, _, _, _, _⟩) rfl (fun K hK => ?_) (AllReadyH.nil)
        go_simp
        refine hK.out _ _ trivial (fun _ => ?_)
        clear hK K
        try simp only [Act.put, List.setIfInBounds_toArray, List.set_cons_zero, List.set_cons_succ]
        refine wpAnyH_take (i := 7) (oi := ⟨some 28, _, _, _, _, _⟩) (v := .slice (some ⟨rb, 0, none⟩) i c5) rfl (by kernel_rfl) (by kernel_rfl) (by kernel_rfl) (fun _ _ _ h => h) (Or.inl ⟨by rfl, ?_⟩) (by assumption) ?_
        · intro v hSv; have z := HC7.out v; go_simp
        try simp only [Act.put, List.setIfInBounds_toArray, List.set_cons_zero, List.set_cons_succ]
        refine wpAnyH_ready (rs := [8]) (by kernel_rfl) (by simp) ?_
        refine AllReadyH.cons (o := ⟨some 29, _, _, _, _, _⟩) rfl (fun K hK => ?_) (AllReadyH.nil)
        refine wp_append_any _ (.tmp 22) (.tmp 28) 47 rfl w5.heap.size 52 i52 (.agg #[.int .u8 0, .int .u8 0, .int .u8 0, .int .u8 0, .int .u8 0, .int .u8 0, .int .u8 0, .int .u8 0, .int .u8 0, .int .u8 0, .int .u8 0, .int .u8 0, .int .u8 0, .int .u8 0, .int .u8 0, .int .u8 0, .int .u8 0, .int .u8 0, .int .u8 0, .int .u8 0, .int .u8 0, .int .u8 0, .int .u8 0, .int .u8 0, .int .u8 0, .int .u8 0, .int .u8 0, .int .u8 0, .int .u8 0, .int .u8 0, .int .u8 0, .int .u8 0, .int .i64 0, .int .u64 0, .int .u64 0, .bool false, .int .i64 0]) 37 72 Try.underlying47 hi52 hz52 hs52 hb52 rfl (by decide) (.slice (some ⟨w5.heap.size, 0, none⟩) 0 0) 0 [] rfl HOW8.out _ (some ⟨rb, 0, none⟩) i c5 ((r.ow.take i).flatMap entCells) rfl HRD8.out HO8.out hs1 hs2 (by simp) ?_
        intro x8 w8 hx8 hgr8 hor8
        rw [Nat.zero_add, List.nil_append] at hx8
        obtain ⟨A8, c8, rfl⟩ := own_form hx8
        have HB8 := Lib.hid (HAP8.out _ w8 hx8 hgr8)
        have hz8 := HB8.out.1
        clear hx8 hgr8 hor8
        refine hK.out _ _ trivial (fun _ => ?_)
        clear hK K
        try simp only [Act.put, List.setIfInBounds_toArray, List.set_cons_zero, List.set_cons_succ]
        refine wpAnyH_ready (rs := [16]) (by kernel_rfl) (by simp) ?_
        refine AllReadyH.cons (o := ⟨some 37, _, _, _, _, _⟩) rfl (fun K hK => ?_) (AllReadyH.nil)
        refine wp_append_any _ (.tmp 29) (.tmp 36) 47 rfl w5.heap.size 52 i52 (.agg #[.int .u8 0, .int .u8 0, .int .u8 0, .int .u8 0, .int .u8 0, .int .u8 0, .int .u8 0, .int .u8 0, .int .u8 0, .int .u8 0, .int .u8 0, .int .u8 0, .int .u8 0, .int .u8 0, .int .u8 0, .int .u8 0, .int .u8 0, .int .u8 0, .int .u8 0, .int .u8 0, .int .u8 0, .int .u8 0, .int .u8 0, .int .u8 0, .int .u8 0, .int .u8 0, .int .u8 0, .int .u8 0, .int .u8 0, .int .u8 0, .int .u8 0, .int .u8 0, .int .i64 0, .int .u64 0, .int .u64 0, .bool false, .int .i64 0]) 37 72 Try.underlying47 hi52 hz52 hs52 hb52 rfl (by decide) (.slice A8 i c8) i ((r.ow.take i).flatMap entCells) rfl HB8.out.2.1 _ A15 (r.ow.length - (i + 1)) (c5 - (i + 1)) ((r.ow.drop (i + 1)).flatMap entCells) rfl HB8.out.2.2.1 HO16.out hs3 hs4 HB8.out.2.2.2.1 ?_
        intro x16 w16 hx16 hgr16 hor16
        rw [HT16.out] at hx16
        obtain ⟨A16, c16, rfl⟩ := own_form hx16
        have HB16 := Lib.hid (HB8.out.2.2.2.2 _ w16 hx16 hgr16)
        have hz16 := HB16.out.1
        have hf16 := HB16.out.2.1
        clear hx16 hgr16 hor16
        refine hK.out _ _ trivial (fun _ => ?_)
        clear hK K
        try simp only [Act.put, List.setIfInBounds_toArray, List.set_cons_zero, List.set_cons_succ]
        refine wpAnyH_take (i := 17) (oi := ⟨some 38, _, _, _, _, _⟩) (v := ?_) rfl (by kernel_rfl) (by kernel_rfl) (by kernel_rfl) (fun _ _ _ h => h) (Or.inl ⟨by rfl, ?_⟩) (by assumption) ?_
        rotate_left
        · intro v hSv; (try dsimp only at hSv); skip; go_simp; (try with_reducible rfl)
        try simp only [Act.put, List.setIfInBounds_toArray, List.set_cons_zero, List.set_cons_succ]
        refine wpAnyH_take (i := 18) (oi := ⟨some 39, _, _, _, _, _⟩) (v := ?_) rfl (by kernel_rfl) (by kernel_rfl) (by kernel_rfl) (fun _ _ _ h => h) (Or.inl ⟨by rfl, ?_⟩) (by assumption) ?_
        rotate_left
        · intro v hSv; (try dsimp only at hSv); skip; go_simp; (try with_reducible rfl)
        try simp only [Act.put, List.setIfInBounds_toArray, List.set_cons_zero, List.set_cons_succ]
        refine wpAnyH_ready (rs := [19]) (by kernel_rfl) (by simp) ?_
        refine AllReadyH.cons (o := ⟨none, _, _, _, _, _⟩) rfl (fun K hK => ?_) (AllReadyH.nil)
        go_simp
        refine hK.out _ _ trivial (fun _ => ?_)
        clear hK K
        refine wpAnyH_done (by kernel_rfl) ?_ _
        obtain ⟨w17, hw17⟩ : ∃ v, v = w16.setCell ⟨p, 5, none⟩ (.slice A16 nt c16) := ⟨_, rfl⟩
        rw [← hw17]
        have HE7 := Lib.hid HB16.out.2.2
        rw [← hw17] at HE7
        clear hz16 hf16 HB16 HB8 hz8 hw17
        go_wp2_with (first
          | (refine wpList_load_mid rfl 33 _ rfl wc.heap.size 0 rfl ({ o.c with gone := true } : Cl).cells _ HE7.out.2.2 Try.underlying33 rfl HI33.out ?_)
          | (refine wpList_buildSlice rfl 36 33 1 _ rfl ({ o.c with gone := true } : Cl).cells.toArray i33 (.agg #[.int .u8 0, .int .u8 0, .int .u8 0, .int .u8 0, .int .u8 0, .int .u8 0, .int .u8 0, .int .u8 0, .int .u8 0, .int .u8 0, .int .u8 0, .int .u8 0, .int .u8 0, .int .u8 0, .int .u8 0, .int .u8 0, .int .u8 0, .int .u8 0, .int .u8 0, .int .u8 0, .int .u8 0, .int .u8 0, .int .u8 0, .int .u8 0, .int .u8 0, .int .u8 0, .int .u8 0, .int .u8 0, .int .u8 0, .int .u8 0, .int .u8 0, .int .u8 0, .int .i64 0, .int .u64 0, .int .u64 0, .bool false]) Try.underlying36 hi33 hz33 (by rw [hs33]; decide) (by rw [hs33]; decide) (by simp only [List.map_toArray, List.map_cons, List.map_nil]; exact HFD.out) ?_))
        go_ret
        exact ⟨_, rfl, sent_blk (c := ({ o.c with gone := true } : Cl)) (Blk.new w17 _ _) (HKS.out w17 HE7.out.2.1), ⟨_, HE7.out.1.chg ((Chg.refl _ _).alloc _)⟩, HE7.out.2.1.alloc _⟩
      · go_simp
        refine hK.out _ _ trivial (fun _ => ?_)
        clear hK K
        try simp only [Act.put, List.setIfInBounds_toArray, List.set_cons_zero, List.set_cons_succ]
        refine wpAnyH_take (i := 7) (oi := ⟨some 28, _, _, _, _, _⟩) (v := .slice (some ⟨rb, 0, none⟩) i c5) rfl (by kernel_rfl) (by kernel_rfl) (by kernel_rfl) (fun _ _ _ h => h) (Or.inl ⟨by rfl, ?_⟩) (by assumption) ?_
        · intro v hSv; have z := HC7.out v; go_simp
        try simp only [Act.put, List.setIfInBounds_toArray, List.set_cons_zero, List.set_cons_succ]
        refine wpAnyH_ready (rs := [1]) (by kernel_rfl) (by simp) ?_
        refine AllReadyH.cons (o := ⟨some 22, _, _, _, _, _⟩) rfl (fun K hK => ?_) (AllReadyH.nil)
        go_simp
        refine hK.out _ _ trivial (fun _ => ?_)
        clear hK K
        try simp only [Act.put, List.setIfInBounds_toArray, List.set_cons_zero, List.set_cons_succ]
        refine wpAnyH_ready (rs := [8]) (by kernel_rfl) (by simp) ?_
        refine AllReadyH.cons (o := ⟨some 29, _, _, _, _, _⟩) rfl (fun K hK => ?_) (AllReadyH.nil)
        refine wp_append_any _ (.tmp 22) (.tmp 28) 47 rfl w5.heap.size 52 i52 (.agg #[.int .u8 0, .int .u8 0, .int .u8 0, .int .u8 0, .int .u8 0, .int .u8 0, .int .u8 0, .int .u8 0, .int .u8 0, .int .u8 0, .int .u8 0, .int .u8 0, .int .u8 0, .int .u8 0, .int .u8 0, .int .u8 0, .int .u8 0, .int .u8 0, .int .u8 0, .int .u8 0, .int .u8 0, .int .u8 0, .int .u8 0, .int .u8 0, .int .u8 0, .int .u8 0, .int .u8 0, .int .u8 0, .int .u8 0, .int .u8 0, .int .u8 0, .int .u8 0, .int .i64 0, .int .u64 0, .int .u64 0, .bool false, .int .i64 0]) 37 72 Try.underlying47 hi52 hz52 hs52 hb52 rfl (by decide) (.slice (some ⟨w5.heap.size, 0, none⟩) 0 0) 0 [] rfl HOW8.out _ (some ⟨rb, 0, none⟩) i c5 ((r.ow.take i).flatMap entCells) rfl HRD8.out HO8.out hs1 hs2 (by simp) ?_
        intro x8 w8 hx8 hgr8 hor8
        rw [Nat.zero_add, List.nil_append] at hx8
        obtain ⟨A8, c8, rfl⟩ := own_form hx8
        have HB8 := Lib.hid (HAP8.out _ w8 hx8 hgr8)
        have hz8 := HB8.out.1
        clear hx8 hgr8 hor8
        refine hK.out _ _ trivial (fun _ => ?_)
        clear hK K
        try simp only [Act.put, List.setIfInBounds_toArray, List.set_cons_zero, List.set_cons_succ]
        refine wpAnyH_ready (rs := [16]) (by kernel_rfl) (by simp) ?_
        refine AllReadyH.cons (o := ⟨some 37, _, _, _, _, _⟩) rfl (fun K hK => ?_) (AllReadyH.nil)
        refine wp_append_any _ (.tmp 29) (.tmp 36) 47 rfl w5.heap.size 52 i52 (.agg #[.int .u8 0, .int .u8 0, .int .u8 0, .int .u8 0, .int .u8 0, .int .u8 0, .int .u8 0, .int .u8 0, .int .u8 0, .int .u8 0, .int .u8 0, .int .u8 0, .int .u8 0, .int .u8 0, .int .u8 0, .int .u8 0, .int .u8 0, .int .u8 0, .int .u8 0, .int .u8 0, .int .u8 0, .int .u8 0, .int .u8 0, .int .u8 0, .int .u8 0, .int .u8 0, .int .u8 0, .int .u8 0, .int .u8 0, .int .u8 0, .int .u8 0, .int .u8 0, .int .i64 0, .int .u64 0, .int .u64 0, .bool false, .int .i64 0]) 37 72 Try.underlying47 hi52 hz52 hs52 hb52 rfl (by decide) (.slice A8 i c8) i ((r.ow.take i).flatMap entCells) rfl HB8.out.2.1 _ A15 (r.ow.length - (i + 1)) (c5 - (i + 1)) ((r.ow.drop (i + 1)).flatMap entCells) rfl HB8.out.2.2.1 HO16.out hs3 hs4 HB8.out.2.2.2.1 ?_
        intro x16 w16 hx16 hgr16 hor16
        rw [HT16.out] at hx16
        obtain ⟨A16, c16, rfl⟩ := own_form hx16
        have HB16 := Lib.hid (HB8.out.2.2.2.2 _ w16 hx16 hgr16)
        have hz16 := HB16.out.1
        have hf16 := HB16.out.2.1
        clear hx16 hgr16 hor16
        refine hK.out _ _ trivial (fun _ => ?_)
        clear hK K
        try simp only [Act.put, List.setIfInBounds_toArray, List.set_cons_zero, List.set_cons_succ]
        refine wpAnyH_take (i := 17) (oi := ⟨some 38, _, _, _, _, _⟩) (v := ?_) rfl (by kernel_rfl) (by kernel_rfl) (by kernel_rfl) (fun _ _ _ h => h) (Or.inl ⟨by rfl, ?_⟩) (by assumption) ?_
        rotate_left
        · intro v hSv; (try dsimp only at hSv); skip; go_simp; (try with_reducible rfl)
        try simp only [Act.put, List.setIfInBounds_toArray, List.set_cons_zero, List.set_cons_succ]
        refine wpAnyH_take (i := 18) (oi := ⟨some 39, _, _, _, _, _⟩) (v := ?_) rfl (by kernel_rfl) (by kernel_rfl) (by kernel_rfl) (fun _ _ _ h => h) (Or.inl ⟨by rfl, ?_⟩) (by assumption) ?_
        rotate_left
        · intro v hSv; (try dsimp only at hSv); skip; go_simp; (try with_reducible rfl)
        try simp only [Act.put, List.setIfInBounds_toArray, List.set_cons_zero, List.set_cons_succ]
        refine wpAnyH_ready (rs := [19]) (by kernel_rfl) (by simp) ?_
        refine AllReadyH.cons (o := ⟨none, _, _, _, _, _⟩) rfl (fun K hK => ?_) (AllReadyH.nil)
        go_simp
        refine hK.out _ _ trivial (fun _ => ?_)
        clear hK K
        refine wpAnyH_done (by kernel_rfl) ?_ _
        obtain ⟨w17, hw17⟩ : ∃ v, v = w16.setCell ⟨p, 5, none⟩ (.slice A16 nt c16) := ⟨_, rfl⟩
        rw [← hw17]
        have HE7 := Lib.hid HB16.out.2.2
        rw [← hw17] at HE7
        clear hz16 hf16 HB16 HB8 hz8 hw17
        go_wp2_with (first
          | (refine wpList_load_mid rfl 33 _ rfl wc.heap.size 0 rfl ({ o.c with gone := true } : Cl).cells _ HE7.out.2.2 Try.underlying33 rfl HI33.out ?_)
          | (refine wpList_buildSlice rfl 36 33 1 _ rfl ({ o.c with gone := true } : Cl).cells.toArray i33 (.agg #[.int .u8 0, .int .u8 0, .int .u8 0, .int .u8 0, .int .u8 0, .int .u8 0, .int .u8 0, .int .u8 0, .int .u8 0, .int .u8 0, .int .u8 0, .int .u8 0, .int .u8 0, .int .u8 0, .int .u8 0, .int .u8 0, .int .u8 0, .int .u8 0, .int .u8 0, .int .u8 0, .int .u8 0, .int .u8 0, .int .u8 0, .int .u8 0, .int .u8 0, .int .u8 0, .int .u8 0, .int .u8 0, .int .u8 0, .int .u8 0, .int .u8 0, .int .u8 0, .int .i64 0, .int .u64 0, .int .u64 0, .bool false]) Try.underlying36 hi33 hz33 (by rw [hs33]; decide) (by rw [hs33]; decide) (by simp only [List.map_toArray, List.map_cons, List.map_nil]; exact HFD.out) ?_))
        go_ret
        exact ⟨_, rfl, sent_blk (c := ({ o.c with gone := true } : Cl)) (Blk.new w17 _ _) (HKS.out w17 HE7.out.2.1), ⟨_, HE7.out.1.chg ((Chg.refl _ _).alloc _)⟩, HE7.out.2.1.alloc _⟩
end Go.Proofs.Ytnpmfigcfikdgaa
