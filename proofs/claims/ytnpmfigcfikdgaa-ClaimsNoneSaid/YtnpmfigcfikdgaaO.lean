/-
  Walks over package claims: the law ClaimsNone.
-/
import Derived.Test.YtnpmfigcfikdgaaJ
namespace Go.Proofs.Ytnpmfigcfikdgaa
open Go.RowKit Go.Maps

/-- A row is loaded, under a guard that holds. -/
theorem wpList_load_mid_if {P : Program} {ops : Array Oper} {rest : List Oper} {op : Oper} {a : Act} {w : World} {Q : Exit → Act → World → Prop} (hw : Region.wanted op (yielded ops a.tmps) = true) (ty : TypeId) (x : Operand) (ho : op.op = .load ty x)
    (b o : Nat) (hx : a.eval x = .pointer (some ⟨b, o, none⟩)) (cs : List Value) (d : TypeDesc) (hc : w.rangeAt b o cs)
    (hu : P.underlying ty = some d) (hd : d.isRow = true) (hi : (P.info? ty).map (·.size) = some cs.length)
    (h : wpList P ops Q rest (a.put op.dst (.agg cs.toArray)) w) : wpList P ops Q (op :: rest) a w :=
  wpList_step fun K hK => by
    rw [if_pos hw]
    exact wp_load_mid ty x ho b o hx cs d hc hu hd hi (hK _ _ h)

set_option maxRecDepth 100000 in
set_option maxHeartbeats 2000000 in
theorem none_any (c : Cl) (now : Int) (w : World) : Calls Try.prog 5 #[.agg c.cells.toArray, .int .i64 now] w fun e w' => e = .returned (.bool true) ∧ Chg none w w' := by
  have HI31 := Lib.hid (info31 c.d)
  have HI33 : Hid ((Try.prog.info? 33).map (·.size) = some c.cells.length) := Lib.hid (by rw [show c.cells.length = 36 from clCells_len _ _ _ _ _]; kernel_rfl)
  go_enter Try.func5, Try.ntmps5
  go_wp2
  generalize hW : World.alloc _ (.cells #[Value.pointer none, Value.pointer _] _) = W at *
  have b0 : Blk W w.heap.size c.cells.toArray 33 := by rw [← hW]; exact ((Blk.new w _ _).alloc _).alloc _
  have b1 : Blk W (w.heap.size + 1) #[.bool false, .int .i64 0, .int .u64 0, .int .u64 0, .int .i64 0, .int .i64 0, .map none, .map none, .map none] 59 := by
    rw [← hW]
    exact Blk.alloc (new_after w _ #[.bool false, .int .i64 0, .int .u64 0, .int .u64 0, .int .i64 0, .int .i64 0, .map none, .map none, .map none] 59 (by simp)) _
  have b2 : Blk W (w.heap.size + 2) #[.pointer none, .pointer (some ⟨w.heap.size + 1, 0, none⟩)] 24 := by
    rw [← hW]
    exact new_after _ _ _ _ (by simp)
  have hg : Chg none w W := by rw [← hW]; exact (((Chg.refl _ _).alloc _).alloc _).alloc _
  have HA : Hid (∀ k : Nat, k < 2 → ∃ a, (∀ v, Chg none W v → v.cell? ⟨w.heap.size + 2, k, none⟩ = some (.pointer a)) ∧ IsNone a W) := Lib.hid fun k hk => by
    match k, hk with
    | 0, _ => exact ⟨none, fun v hv => hv.cell (by rw [b2.cell]; rfl) (by simp), fun v _ => isNone_nil v⟩
    | 1, _ => exact ⟨some ⟨w.heap.size + 1, 0, none⟩, fun v hv => hv.cell (by rw [b2.cell]; rfl) (by simp), fun v hv => isNone_some _ false v (hv.cell (by rw [b1.cell]; rfl) (by simp))⟩
  have HD : Hid (∀ v, Chg none W v → v.rangeAt w.heap.size 0 c.d.cells) := Lib.hid fun v hv => rangeAt_chg (fun j u hu => by
    rw [b0.cell (0 + j), Nat.zero_add]
    simpa using cl_dig c j u hu) hv (by simp)
  have HC : Hid (∀ v, Chg none W v → v.rangeAt w.heap.size 0 c.cells) := Lib.hid fun v hv => rangeAt_chg (rangeAt_blk b0) hv (by simp)
  have HG := Lib.hid hg
  clear hW b0 b1 b2 hg
  go_loopw [18] (fun i wr => ∃ k : Nat, k ≤ 2 ∧ i = .int .i64 k ∧ Hid (Chg none W wr)) (fun i _ => 2 - (intOf i).toNat)
  case atStart => exact ⟨0, by omega, rfl, Lib.hid (Chg.refl _ _)⟩
  case round =>
    obtain ⟨k, hk, rfl, HR⟩ := hrel
    by_cases hlt : k < 2
    · obtain ⟨a, ha, hn⟩ := HA.out k hlt
      have H := Lib.hid hn
      have hc := ha wr HR.out
      have HX := Lib.hid ha
      clear hn ha
      go_wp2_with (refine wpList_load_mid rfl 31 _ rfl w.heap.size 0 rfl c.d.cells _ (HD.out _ HR.out) Try.underlying31 rfl HI31.out ?_)
      refine (try_none a c.d now _ (H.out.chg HR.out)).mono ?_
      rintro e w1 ⟨rfl, g1⟩
      have R1 := Lib.hid (HR.out.trans g1)
      clear g1
      go_wp2_with (refine wpList_load_mid rfl 33 _ rfl w.heap.size 0 rfl c.cells _ (HC.out _ R1.out) Try.underlying33 rfl HI33.out ?_)
      refine (hear_none a c now _ (H.out.chg R1.out)).mono ?_
      rintro e w2 ⟨rfl, g2⟩
      have R2 := Lib.hid (R1.out.trans g2)
      clear g2
      go_wp2_with (refine wpList_load_mid rfl 31 _ rfl w.heap.size 0 rfl c.d.cells _ (HD.out _ R2.out) Try.underlying31 rfl HI31.out ?_)
      refine (live_none a c.d now _ (H.out.chg R2.out)).mono ?_
      rintro e w3 ⟨rfl, g3⟩
      have R3 := Lib.hid (R2.out.trans g3)
      clear g3
      go_wp2_with (refine wpList_load_mid rfl 31 _ rfl w.heap.size 0 rfl c.d.cells _ (HD.out _ R3.out) Try.underlying31 rfl HI31.out ?_)
      refine (drop_none a c.d _ (H.out.chg R3.out)).mono ?_
      rintro e w4 ⟨rfl, g4⟩
      have R4 := Lib.hid (R3.out.trans g4)
      clear g4
      go_wp2_with (refine wpList_load_mid_if rfl 31 _ rfl w.heap.size 0 rfl c.d.cells _ (HD.out _ R4.out) Try.underlying31 rfl HI31.out ?_)
      refine (mine_none a c.d _ (H.out.chg R4.out)).mono ?_
      rintro e w5 ⟨rfl, g5⟩
      have R5 := Lib.hid (R4.out.trans g5)
      clear g5
      go_wp2_with fail
      go_roundw
      case rel => exact ⟨k + 1, by omega, by go_num, R5⟩
      case measure => simp [intOf]; omega
    · go_wp2_with fail
      refine (known_any _).mono ?_
      rintro e w' ⟨rfl, g⟩
      have G := Lib.hid (HG.out.trans (HR.out.trans g))
      clear g
      go_wp2
      go_ret
      exact ⟨rfl, G.out⟩

end Go.Proofs.Ytnpmfigcfikdgaa
