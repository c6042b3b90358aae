/-
  Walks over package disk: a file, copied; a disk's fault.
-/
import Derived.Test.YtbgofhbanhanfaaR
import Derived.BigQuiet
import Derived.Outline
import Derived.Laws.CopyOwn
import Derived.Laws.MakeOwn
import Derived.Deep.QuietTactic
namespace Go.Proofs.Ytbgofhbanhanfaa
open Go.RowKit

theorem Try.info5 : (Try.prog.info? 5).map (fun i => (i.zero, i.size, i.bytes)) = some (some (.int .u8 0), 1, 1) := by kernel_rfl

def byteVals (bs : List UInt8) : List Value := bs.map fun x => .int .u8 x.toNat
theorem byteVals_len (bs : List UInt8) : (byteVals bs).length = bs.length := by simp [byteVals]
theorem byteVals_append (a b : List UInt8) : byteVals a ++ byteVals b = byteVals (a ++ b) := by simp [byteVals]
theorem byteVals_take (a : List UInt8) (n : Nat) : (byteVals a).take n = byteVals (a.take n) := by simp [byteVals]
theorem byteVals_drop (a : List UInt8) (n : Nat) : (byteVals a).drop n = byteVals (a.drop n) := by simp [byteVals]
theorem byteVals_one (bs : List UInt8) : ∀ v ∈ byteVals bs, v.oneCell' = true := by
  intro v hv
  simp only [byteVals, List.mem_map] at hv
  obtain ⟨x, _, rfl⟩ := hv
  rfl

theorem fault_nil (f : Int) (w : World) : Calls Try.prog 20 #[.pointer none, .int .i64 f] w fun e w' => e = .returned (.int .i64 1) ∧ w = w' := by
  go_enter Try.func20, Try.ntmps20
  go_wp2
  go_ret
  exact ⟨rfl, rfl⟩

theorem fault_yes (b : Nat) (f : Nat) (hf : f < 2) (w : World) : Calls Try.prog 20 #[.pointer (some ⟨b, 0, none⟩), .int .i64 f] w fun e w' => e = .returned (.int .i64 0) ∧ w = w' := by
  have h1 : decide ((f : Int) < 0) = false := by simp
  have h2 : decide ((2 : Int) ≤ f) = false := by simp; omega
  go_enter Try.func20, Try.ntmps20
  go_wp2
  go_ret
  exact ⟨rfl, rfl⟩

theorem fault_no (b : Nat) (f : Int) (hf : ¬ (0 ≤ f ∧ f < 2)) (w : World) : Calls Try.prog 20 #[.pointer (some ⟨b, 0, none⟩), .int .i64 f] w fun e w' => e = .returned (.int .i64 2) ∧ w = w' := by
  by_cases h : f < 0
  · have h1 : decide (f < 0) = true := by simpa using h
    clear hf h
    go_enter Try.func20, Try.ntmps20
    go_wp2
    go_ret
    exact ⟨rfl, rfl⟩
  · have h1 : decide (f < 0) = false := by simpa using h
    have h2 : decide ((2 : Int) ≤ f) = true := by simp; omega
    clear hf h
    go_enter Try.func20, Try.ntmps20
    go_wp2
    go_ret
    exact ⟨rfl, rfl⟩

theorem run_make_rowN {P : Program} (t e : TypeId) (i : TypeInfo) (z : Value) (ht : P.underlying t = some (.slice e)) (hi : P.info? e = some i) (hz : i.zero = some z)
    (kl kc : IntKind) (n c : Nat) (hnc : n ≤ c) (hbytes : i.bytes * c ≤ 281474976710656) (h63 : c ≤ 9223372036854775807) (w : World) :
    (Instr.makeSlice t (.int kl (n : Int)) (.int kc (c : Int))).run P w = .ok (.slice (some ⟨w.heap.size, 0, none⟩) n c) (w.alloc (.cells (madeCells z.cells (c * i.size)) e)) := by
  have hb : (i.bytes : Int) * (c : Int) ≤ 281474976710656 := by
    have h : ((i.bytes * c : Nat) : Int) ≤ 281474976710656 := by omega
    rwa [Int.natCast_mul] at h
  have hr := run_make (P := P) w t e i z ht hi hz kl kc n c (by omega) (by omega) hb (by omega)
  simp only [Int.toNat_natCast] at hr
  exact hr

theorem bcellB {B : Nat} {W w1 : World} (hb : Below B W w1) : (∀ b o, b < B → w1.cell? ⟨b, o, none⟩ = W.cell? ⟨b, o, none⟩) ∧ (∀ b o, b < B → w1.frozen? ⟨b, o, none⟩ = W.frozen? ⟨b, o, none⟩) :=
  ⟨fun b o h => hb.cell (p := ⟨b, o, none⟩) h, fun b o h => hb.frozen (p := ⟨b, o, none⟩) h⟩

theorem Chg.thenBelow {u v w : World} {B : Nat} {c : Option Nat} (h : Chg c u v) (hb : Below B v w) (hB : u.heap.size ≤ B) : Chg c u w :=
  ⟨hb.os.trans h.os, hb.tape.trans h.tape, hb.output.trans h.output, Nat.le_trans h.size hb.size, fun i hi hn => (hb.block i (by omega)).trans (h.block i hi hn)⟩

theorem splice_whole {α : Type} (L cs : List α) (h : L.length = cs.length) : splice L 0 cs = cs := by
  unfold splice
  rw [List.take_zero, List.nil_append, Nat.zero_add, List.drop_of_length_le (by omega), List.append_nil]

def CopiedPost (w : World) (bs : List UInt8) (s : Int) (e : Ending) (w' : World) : Prop :=
  e = .returned (.agg #[.slice (some ⟨w.heap.size + 1 + 1, 0, none⟩) bs.length bs.length, .int .i64 s]) ∧ BlkL w' (w.heap.size + 1 + 1) (byteVals bs) 5 ∧ Chg none w w'

set_option maxHeartbeats 1000000 in
theorem copied_any (A : Option Addr) (bs : List UInt8) (c : Nat) (s : Int) (w : World) (hr : Reads w w.heap.size 1 A bs.length (byteVals bs)) (hn : bs.length ≤ 1048576) :
    Calls Try.prog 21 #[.agg #[.slice A bs.length c, .int .i64 s]] w (CopiedPost w bs s) := by
  obtain ⟨i0, hi, hz0, hz1, hz2⟩ := info_parts Try.info5
  have hone := byteVals_one bs
  have hlen := byteVals_len bs
  have HO := Lib.hid hone
  have HL := Lib.hid hlen
  have HR := Lib.hid hr
  generalize hcs : byteVals bs = cs at *
  have HC := Lib.hid hcs
  have hmk := fun W => run_make_rowN (P := Try.prog) 26 5 i0 _ Try.underlying26 hi hz0 .i64 .i64 bs.length bs.length (Nat.le_refl _) (by rw [hz2]; omega) (by omega) W
  rw [hz1] at hmk
  generalize hmc : madeCells (Value.int .u8 0).cells (bs.length * 1) = mc at *
  have hms : mc.size = bs.length := by rw [← hmc]; simp [madeCells]
  have HMS := Lib.hid hms
  clear hone hlen hr hcs hmc hms
  go_enter Try.func21, Try.ntmps21
  go_wp2_with (with_reducible refine wpList_copy_splice (o := ⟨some 11, _, _, _, _, _⟩) rfl (.tmp 8) (.tmp 10) 26 26 rfl 5 Try.underlying26 ?d1 (some ⟨w.heap.size + 1 + 1, 0, none⟩) A bs.length bs.length bs.length c ?e1 ?e2 (w.heap.size + 1 + 1) 0 mc.toList 5 ?d2 cs ?d3 ?d4 ?d5 HO.out (w.heap.size + 1 + 1) _ (Below.refl _ _) (Nat.le_refl _) ?_)
  case d1 => kernel_rfl
  case e1 => rfl
  case e2 => rfl
  case d2 =>
    have := heap_alloc_new ((w.alloc (Obj.cells #[Value.slice A bs.length c, Value.int IntKind.i64 s] 43)).alloc (Obj.cells #[Value.slice none 0 0, Value.int IntKind.i64 0] 43)) (.cells mc 5)
    simpa using this
  case d3 => rw [HL.out]; exact (Nat.min_self _).symm
  case d4 =>
    intro h0
    obtain ⟨ad, hA, hb, hc⟩ := (((HR.out.alloc (Nat.le_refl _) (Obj.cells #[Value.slice A bs.length c, Value.int IntKind.i64 s] 43)).alloc (by simp) (Obj.cells #[Value.slice none 0 0, Value.int IntKind.i64 0] 43)).alloc (by simp; omega) (.cells mc 5)).2 (by rw [← HL.out]; exact h0)
    first | exact ⟨rfl, ad, hA, hc⟩ | exact ⟨ad, hA, hc⟩
  case d5 =>
    have h1 : cs.length = bs.length := HL.out
    have h2 : mc.size = bs.length := HMS.out
    have h3 : mc.toList.length = mc.size := Array.length_toList
    show 0 + cs.length ≤ mc.toList.length
    omega
  intro w4 HG hb
  obtain ⟨hc4, hf4⟩ := bcellB hb
  have hz4 := hb.size
  go_wp2_with fail
  have hg4 : BlkL w4 (w.heap.size + 1 + 1) cs 5 := by
    have h1 : cs.length = bs.length := HL.out
    have h2 : mc.size = bs.length := HMS.out
    have h3 : mc.toList.length = mc.size := Array.length_toList
    have := HG.out
    rw [splice_whole _ _ (by omega)] at this
    exact this
  have hch : Chg none w w4 := ((((Chg.refl none w).alloc _).alloc _).alloc _).thenBelow hb (by omega)
  exact bodyPost_ret (v := .agg #[.slice (some ⟨w.heap.size + 1 + 1, 0, none⟩) bs.length bs.length, .int .i64 s]) (by simp [results, Try.results21, go_sem, hc4]) rfl
    ⟨rfl, by rw [HC.out]; exact Blk.setOther (Blk.setOther hg4 _ _ (by simp)) _ _ (by simp), (hch.setNew _ (by simp) _).setNew _ (by simp) _⟩

end Go.Proofs.Ytbgofhbanhanfaa
