/-
  Bytes being written; texts made rows of bytes: carried over.
-/
import Derived.Test.YtbadkkilblgpmaaDoorWA
import Derived.Lib.ConvBytes
import Derived.Lib.AppendStr
namespace Go.Proofs.YtbadkkilblgpmaaDoor
open Go.RowKit

/-- Bytes of the call's own, made since w0. -/
def ByAt (w0 w : World) (A : Option Addr) (n c : Nat) (bs : List UInt8) : Prop := n = bs.length ∧ w.ownsRow w0.heap.size 5 1 (.slice A n c) n (byteVals bs) ∧ Chg none w0 w
theorem own_nilok {w : World} {base n c : Nat} {A : Option Addr} {xs : List Value} (h : w.ownsRow base 5 1 (.slice A n c) n xs) : NilOk A n c := by
  rintro rfl
  rcases h.2 with ⟨h1, h2⟩ | ⟨g, cap, cur, h1, _⟩
  · injection h1 with _ _ h5
    exact ⟨h2, h5⟩
  · injection h1 with h3; cases h3
theorem ByAt.of_post {w0 w w' : World} {bs : List UInt8} {e : Ending} (h : WPost w w.heap.size bs e w') (g : Chg none w0 w) : ∃ A n c, e = .returned (.slice A n c) ∧ ByAt w0 w' A n c bs ∧ Chg none w w' := by
  obtain ⟨A, n, c, h1, h2, h3, h4⟩ := h
  have k : Chg none w w' := ⟨h4.os, h4.tape, h4.output, h4.size, fun k hk _ => h4.block k hk⟩
  exact ⟨A, n, c, h1, ⟨h2, World.ownsRow.mono h3 g.size, g.trans k⟩, k⟩
theorem ByAt.chg {w0 w w' : World} {A : Option Addr} {n c : Nat} {bs : List UInt8} (h : ByAt w0 w A n c bs) (g : Chg none w w') : ByAt w0 w' A n c bs :=
  ⟨h.1, own_chgW h.2.1 g, h.2.2.trans g⟩
theorem put_u {w0 w : World} {A : Option Addr} {n c : Nat} {bs : List UInt8} (m : Nat) (h : ByAt w0 w A n c bs) (hl : bs.length ≤ 100000) (hm : m < 18446744073709551616) :
    Calls Tryd.prog 74 #[.slice A n c, .int .u64 m] w fun e w' => ∃ A' n' c', e = .returned (.slice A' n' c') ∧ ByAt w0 w' A' n' c' (bs ++ form m) ∧ Chg none w w' := by
  obtain ⟨rfl, h2, h3⟩ := h
  exact (appendUint_any A bs c m w (own_nilok h2) (Reads.of_own h2) (by omega) hm).mono fun e w' hp => ByAt.of_post hp h3
theorem put_b {w0 w : World} {A : Option Addr} {n c : Nat} {bs : List UInt8} (Ax : Option Addr) (x : List UInt8) (cx : Nat) (h : ByAt w0 w A n c bs) (hl : bs.length ≤ 100000) (hx : Reads w w.heap.size 1 Ax x.length (byteVals x)) (hxl : x.length ≤ 100000) :
    Calls Tryd.prog 75 #[.slice A n c, .slice Ax x.length cx] w fun e w' => ∃ A' n' c', e = .returned (.slice A' n' c') ∧ ByAt w0 w' A' n' c' (bs ++ row x) ∧ Chg none w w' := by
  obtain ⟨rfl, h2, h3⟩ := h
  exact (appendBytes_any A bs c Ax x cx w (own_nilok h2) (Reads.of_own h2) hx (by omega) (by omega)).mono fun e w' hp => ByAt.of_post hp h3
theorem form_small (n : Nat) (h : n < 18446744073709551616) : (form n).length ≤ 9 := by
  rw [form_len]; have := nb_le n h; omega
/-- A text, made a row of bytes. -/
theorem conv_sb (x : List UInt8) (w : World) : (convert 9 22 (.string ⟨x.toArray⟩)).run Tryd.prog w = .ok (.slice (some ⟨w.heap.size, 0, none⟩) x.length (grownCap w x.length 0 5)) (Lib.bytesWorld w 5 ⟨x.toArray⟩) := by
  have e : (⟨x.toArray⟩ : ByteArray).size = x.length := List.size_toArray
  have h := Lib.run_convert_string_bytes (P := Tryd.prog) w 9 22 5 ⟨x.toArray⟩ Tryd.underlying9 Tryd.underlying22 Tryd.underlying5
  rw [e] at h
  exact h
theorem sb_chg (x : ByteArray) (w : World) : Chg none w (Lib.bytesWorld w 5 x) :=
  ⟨rfl, rfl, rfl, by rw [Lib.bytesWorld_size]; omega, fun i hi _ => Lib.bytesWorld_at_old w 5 x i hi⟩
theorem sb_reads (x : List UInt8) (w : World) : Reads (Lib.bytesWorld w 5 ⟨x.toArray⟩) (Lib.bytesWorld w 5 ⟨x.toArray⟩).heap.size 1 (some ⟨w.heap.size, 0, none⟩) x.length (byteVals x) :=
  ⟨by rw [byteVals_len, Nat.mul_one], fun _ => ⟨_, rfl, by rw [Lib.bytesWorld_size]; exact Nat.lt_succ_self _, fun j u hu => by
    unfold byteVals at hu
    rw [List.getElem?_map, Option.map_eq_some_iff] at hu
    obtain ⟨c, h1, rfl⟩ := hu
    have hj : j < x.length := (List.getElem?_eq_some_iff.1 h1).1
    have e : (⟨x.toArray⟩ : ByteArray).size = x.length := List.size_toArray
    rw [Go.WideShapes.add_plain, Nat.zero_add, Lib.bytesWorld_cell w 5 ⟨x.toArray⟩ j (by rw [e]; exact hj)]
    have : x.getD j 0 = c := by rw [List.getD_eq_getElem?_getD, h1]; rfl
    rw [show (⟨x.toArray⟩ : ByteArray).data.toList.getD j 0 = c from this]⟩⟩
theorem ByAt.app {w0 v w2 : World} {A A2 : Option Addr} {n c k c2 : Nat} {bs y : List UInt8} (h : ByAt w0 v A n c bs) (hk : k = y.length)
    (hown : w2.ownsRow w0.heap.size 5 1 (.slice A2 (n + k) c2) (n + k) (byteVals bs ++ byteVals y)) (hg : v.grownBy w2 (Value.slice A n c).ownBlock) : ByAt w0 w2 A2 (n + k) c2 (bs ++ y) :=
  ⟨by rw [List.length_append, h.1, hk], by rw [← byteVals_append]; exact hown, own_chg h.2.2 h.2.1 (Nat.le_refl _) hg⟩
theorem Blk.past {v w2 : World} {b : Nat} {cs : Array Value} {T : TypeId} {base n : Nat} {val : Value} {xs : List Value} (h : Blk v b cs T) (hT : T ≠ 5) (ho : v.ownsRow base 5 1 val n xs) (g : v.grownBy w2 val.ownBlock) : Blk w2 b cs T := by
  refine Blk.chg h g ?_
  intro e
  rcases ho.2 with ⟨rfl, _⟩ | ⟨g', cap, cur, rfl, _, hg, _⟩
  · cases e
  · have e2 : b = g' := by simpa [Value.ownBlock] using e
    subst e2
    unfold Blk at h
    rw [hg] at h
    injection h with h
    injection h with _ h2
    exact hT h2.symm
theorem strCells_bytes (x : List UInt8) : Lib.strCells ⟨x.toArray⟩ = byteVals x := by
  simp [Lib.strCells, byteVals]
theorem post_chg {w w' : World} {bs : List UInt8} {e : Ending} (h : WPost w w.heap.size bs e w') : ∃ A n c, e = .returned (.slice A n c) ∧ n = bs.length ∧ Reads w' w'.heap.size 1 A n (byteVals bs) ∧ Chg none w w' := by
  obtain ⟨A, n, c, h1, h2, h3, h4⟩ := h
  exact ⟨A, n, c, h1, h2, Reads.of_own h3, ⟨h4.os, h4.tape, h4.output, h4.size, fun k hk _ => h4.block k hk⟩⟩
theorem cut_hi22 (A : Option Addr) (n c hi : Nat) (h1 : hi ≤ c) (w : World) :
    (Instr.sliceAt 22 (.slice A n c) none (some (.int .i64 hi)) none).run Tryd.prog w = .ok (.slice A hi c) w := by
  have u22 := Tryd.underlying22
  have z5 := Tryd.sizeOf5
  have h4 : (hi : Int) ≤ c := by omega
  go_simp
  all_goals (cases A <;> simp [Addr.add])
theorem own_empty5 (w : World) (B : Nat) (hB : B ≤ w.heap.size) : (w.alloc (.cells #[] 5 (0, 0))).ownsRow B 5 1 (.slice (some ⟨w.heap.size, 0, none⟩) 0 0) 0 (byteVals []) :=
  ⟨rfl, .inr ⟨w.heap.size, 0, #[], rfl, hB, heap_alloc_new w _, Nat.le_refl _, by unfold maxLen; decide, rfl, rfl⟩⟩

end Go.Proofs.YtbadkkilblgpmaaDoor
