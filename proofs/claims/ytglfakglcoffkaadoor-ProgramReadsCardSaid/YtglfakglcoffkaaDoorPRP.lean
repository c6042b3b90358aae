/-
  Package program: bytes written and read (plain).
-/
import Derived.Test.YtglfakglcoffkaaDoorPMA
import Derived.Test.YtglfakglcoffkaaDoorWA
namespace Go.Proofs.YtglfakglcoffkaaDoor
open Go.RowKit

def insF (x : Ins) : List UInt8 := form x.op ++ (row x.a ++ (row x.b ++ (row x.c ++ (form x.n.toNat ++ form x.m.toNat))))
def progB (L : List Ins) : List UInt8 := form L.length ++ L.flatMap insF

/-- A number, and where reading goes on: none behind a fault. -/
def numS (bs : List UInt8) (most : Nat) : Option Nat → Nat × Option Nat
  | none => (0, none)
  | some at_ => if (readU bs at_).2.2 = 0 ∧ (readU bs at_).1 ≤ most then ((readU bs at_).1, some (readU bs at_).2.1.toNat) else (0, none)
def txtS (bs : List UInt8) : Option Nat → List UInt8 × Option Nat
  | none => ([], none)
  | some at_ => if (readB bs at_ 40).2.2 = 0 then ((readB bs at_ 40).1, some (readB bs at_ 40).2.1.toNat) else ([], none)
def insS (bs : List UInt8) (s : Option Nat) : Ins × Option Nat :=
  let o := numS bs 255 s
  let a := txtS bs o.2
  let b := txtS bs a.2
  let c := txtS bs b.2
  let n := numS bs 2000 c.2
  let m := numS bs 2000 n.2
  (⟨o.1, a.1, b.1, c.1, n.1, m.1⟩, m.2)
def listS (bs : List UInt8) : Nat → Option Nat → List Ins × Option Nat
  | 0, s => ([], s)
  | k + 1, s => ((listS bs k s).1 ++ [(insS bs (listS bs k s).2).1], (insS bs (listS bs k s).2).2)
def readP (bs : List UInt8) : Option (List Ins) :=
  let n := numS bs 30 (some 0)
  let l := listS bs n.1 n.2
  if l.2 = some bs.length ∧ mayB l.1 = true then some l.1 else none

theorem insS_none (bs : List UInt8) : (insS bs none).2 = none := rfl
theorem listS_len (bs : List UInt8) : ∀ k s, (listS bs k s).1.length = k
  | 0, _ => rfl
  | k + 1, s => by
    show ((listS bs k s).1 ++ [_]).length = k + 1
    rw [List.length_append, listS_len bs k s]; rfl
theorem listS_none (bs : List UInt8) : ∀ k, (listS bs k none).2 = none
  | 0 => rfl
  | k + 1 => by
    show (insS bs (listS bs k none).2).2 = none
    rw [listS_none bs k]; rfl
/-- Behind a fault all is lost. -/
theorem listS_lost {bs : List UInt8} {k : Nat} {s : Option Nat} (h : (listS bs k s).2 = none) : ∀ d, (listS bs (k + d) s).2 = none
  | 0 => h
  | d + 1 => by
    show (insS bs (listS bs (k + d) s).2).2 = none
    rw [listS_lost h d]; rfl
theorem listS_get {bs : List UInt8} {s : Option Nat} {k : Nat} : ∀ {n : Nat}, k < n → (listS bs n s).1[k]? = some (insS bs (listS bs k s).2).1
  | 0, h => absurd h (Nat.not_lt_zero _)
  | n + 1, h => by
    show ((listS bs n s).1 ++ [(insS bs (listS bs n s).2).1])[k]? = _
    rcases Nat.lt_or_ge k n with h1 | h1
    · rw [List.getElem?_append_left (by rw [listS_len]; exact h1), listS_get h1]
    · obtain rfl : k = n := by omega
      rw [List.getElem?_append_right (by rw [listS_len]; omega), listS_len, Nat.sub_self]; rfl
theorem numS_le (bs : List UInt8) (most : Nat) (s : Option Nat) : (numS bs most s).1 ≤ most := by
  cases s with
  | none => exact Nat.zero_le _
  | some a =>
    unfold numS
    dsimp only
    split
    · rename_i h; exact h.2
    · exact Nat.zero_le _
theorem readP_lost {bs : List UInt8} (h : (numS bs 30 (some 0)).2 = none) : readP bs = none := by
  unfold readP
  dsimp only
  rw [h, listS_none, if_neg (fun h => by cases h.1)]
theorem readP_lost_at {bs : List UInt8} {k : Nat} (hk : k < (numS bs 30 (some 0)).1) (h : (insS bs (listS bs k (numS bs 30 (some 0)).2).2).2 = none) : readP bs = none := by
  unfold readP
  dsimp only
  have h1 : (listS bs (k + 1) (numS bs 30 (some 0)).2).2 = none := h
  have h2 := listS_lost h1 ((numS bs 30 (some 0)).1 - (k + 1))
  rw [show k + 1 + ((numS bs 30 (some 0)).1 - (k + 1)) = (numS bs 30 (some 0)).1 by omega] at h2
  rw [h2, if_neg (fun h => by cases h.1)]
theorem readP_op {bs : List UInt8} {k : Nat} (hk : k < (numS bs 30 (some 0)).1) (h : 11 < (insS bs (listS bs k (numS bs 30 (some 0)).2).2).1.op) : readP bs = none := by
  unfold readP
  dsimp only
  have h1 := listS_get (bs := bs) (s := (numS bs 30 (some 0)).2) hk
  have h2 : mayB (listS bs (numS bs 30 (some 0)).1 (numS bs 30 (some 0)).2).1 = false := mayB_no h1 (insB_op (fun h => by omega))
  rw [h2, if_neg (fun h => by cases h.2)]

/-! What is written is read. -/
theorem numS_form (pre rest : List UInt8) (n most : Nat) (h : n < 18446744073709551616) (hm : n ≤ most) : numS (pre ++ (form n ++ rest)) most (some pre.length) = (n, some (pre ++ form n).length) := by
  unfold numS
  dsimp only
  rw [readU_form pre rest n h, if_pos ⟨rfl, hm⟩]
  dsimp only
  rw [Int.toNat_natCast, List.length_append]
theorem txtS_row (pre rest x : List UInt8) (h : x.length ≤ 40) : txtS (pre ++ (row x ++ rest)) (some pre.length) = (x, some (pre ++ row x).length) := by
  have h1 := readB_row pre rest x 40 (by omega)
  unfold txtS
  dsimp only
  rw [h1, if_pos (show (x.length : Int) ≤ 40 by omega), if_pos rfl]
  dsimp only
  rw [Int.toNat_natCast, List.length_append]

end Go.Proofs.YtglfakglcoffkaaDoor
