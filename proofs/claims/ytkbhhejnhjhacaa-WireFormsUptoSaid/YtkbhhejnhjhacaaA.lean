/-
  Bytes as values; the form of a number; Clone and putUint of package wire.
-/
import Derived.Test.YtkbhhejnhjhacaaR
import Derived.Test.YtkbhhejnhjhacaaShelf
import Derived.Outline
import Derived.Lib.BitFns
namespace Go.Proofs.Ytkbhhejnhjhacaa
open Go.RowKit

theorem Try.info5 : (Try.prog.info? 5).map (fun i => (i.zero, i.size, i.bytes)) = some (some (.int .u8 0), 1, 1) := by kernel_rfl

def byteVals (bs : List UInt8) : List Value := bs.map fun x => .int .u8 x.toNat
theorem byteVals_len (bs : List UInt8) : (byteVals bs).length = bs.length := by simp [byteVals]
theorem byteVals_append (a b : List UInt8) : byteVals a ++ byteVals b = byteVals (a ++ b) := by simp [byteVals]
theorem byteVals_take (a : List UInt8) (n : Nat) : (byteVals a).take n = byteVals (a.take n) := by simp [byteVals]
theorem byteVals_drop (a : List UInt8) (n : Nat) : (byteVals a).drop n = byteVals (a.drop n) := by simp [byteVals]
theorem byteVals_one (bs : List UInt8) : ∀ v ∈ byteVals bs, v.oneCell' = true := by
  intro v hv
  simp only [byteVals, List.mem_map] at hv
  obtain ⟨x, _, rfl⟩ := hv
  rfl
theorem byteVals_get {bs : List UInt8} {k : Nat} {c : UInt8} (h : bs[k]? = some c) : (byteVals bs)[k]? = some (.int .u8 c.toNat) := by
  simp [byteVals, h]

/-- How many bytes a number has, without noughts ahead. -/
def nb (n : Nat) : Nat := (Lib.bitLen n + 7) / 8
/-- The last k bytes of n, the highest first. -/
def be : Nat → Nat → List UInt8
  | 0, _ => []
  | k + 1, n => UInt8.ofNat (n / 256 ^ k) :: be k n
def form (n : Nat) : List UInt8 := UInt8.ofNat (nb n) :: be (nb n) n

theorem be_len : ∀ k n, (be k n).length = k
  | 0, _ => rfl
  | k + 1, n => by rw [be, List.length_cons, be_len k n]
theorem be_get : ∀ (k n j : Nat), j < k → (be k n)[j]? = some (UInt8.ofNat (n / 256 ^ (k - 1 - j)))
  | 0, _, _, h => by omega
  | k + 1, n, 0, _ => by rw [be]; simp
  | k + 1, n, j + 1, h => by
    rw [be, List.getElem?_cons_succ, be_get k n j (by omega)]
    congr 4
    omega
theorem bitLen_64 (n : Nat) (h : n < 18446744073709551616) : Lib.bitLen n ≤ 64 := Lib.bitLen_le n 64 (by omega) h
theorem nb_le (n : Nat) (h : n < 18446744073709551616) : nb n ≤ 8 := by
  have := bitLen_64 n h
  unfold nb; omega
theorem form_len (n : Nat) : (form n).length = nb n + 1 := by simp [form, be_len]
theorem be_take_succ (k n j : Nat) (h : j < k) : (be k n).take (j + 1) = (be k n).take j ++ [UInt8.ofNat (n / 256 ^ (k - 1 - j))] := by
  rw [List.take_succ_eq_append_getElem (by rw [be_len]; exact h)]
  congr 2
  have := be_get k n j h
  rw [List.getElem?_eq_getElem (by rw [be_len]; exact h)] at this
  simpa using this

/-- The value of a row of so many: a slice of that length. -/
theorem own_slice {w : World} {b : Nat} {e : TypeId} {size : Nat} {v : Value} {n : Nat} {xs : List Value} (h : w.ownsRow b e size v n xs) : ∃ A c, v = .slice A n c := by
  rcases h.2 with ⟨h1, h2⟩ | ⟨g, cap, cur, h1, _⟩
  · exact ⟨none, 0, by rw [h1, h2]⟩
  · exact ⟨_, cap, h1⟩

/-- A slice of bytes of the call's own. -/
def Own (w : World) (base : Nat) (A : Option Addr) (n c : Nat) (bs : List UInt8) : Prop := n = bs.length ∧ w.ownsRow base 5 1 (.slice A n c) n (byteVals bs)

theorem reads_one (w : World) (x : UInt8) : Reads (w.alloc (.cells #[.int .u8 x.toNat] 5 (0, 0))) (w.alloc (.cells #[.int .u8 x.toNat] 5 (0, 0))).heap.size 1 (some ⟨w.heap.size, 0, none⟩) 1 (byteVals [x]) :=
  ⟨rfl, fun _ => ⟨_, rfl, by simp, fun j u hu => by
    match j, hu with
    | 0, hu =>
      simp only [byteVals, List.map_cons, List.map_nil, List.getElem?_cons_zero, Option.some.injEq] at hu
      subst hu
      rw [Go.WideShapes.add_plain, Nat.zero_add, (Blk.new w _ 5).cell]; rfl⟩⟩

/-- A slice of bytes that is the caller's, as it came. -/
def NilOk (A : Option Addr) (n c : Nat) : Prop := A = none → n = 0 ∧ c = 0

theorem eq_nil22 (w : World) (a : Option Addr) (n c n' c' : Nat) : (binOp .eql 22 (.slice a n c) (.slice none n' c')).run Try.prog w = .ok (.bool a.isNone) w :=
  Lib.run_eql_slice_nil w _ _ a n c n' c' Try.underlying22

/-- What a writer tells: these bytes, in memory of its own. -/
def OwnPost (w : World) (base : Nat) (bs : List UInt8) (e : Ending) (w' : World) : Prop :=
  ∃ A n c, e = .returned (.slice A n c) ∧ n = bs.length ∧ w'.ownsRow base 5 1 (.slice A n c) n (byteVals bs) ∧ Below base w w'

set_option maxHeartbeats 1000000 in
theorem clone24 (A : Option Addr) (bs : List UInt8) (c : Nat) (w : World) (hA : NilOk A bs.length c) (hr : Reads w w.heap.size 1 A bs.length (byteVals bs)) (hn : bs.length ≤ 1000000) :
    Calls Try.prog 24 #[.slice A bs.length c] w (OwnPost w w.heap.size bs) := by
  obtain ⟨i0, hi, hz0, hz1, hz2⟩ := info_parts Try.info5
  have HO := Lib.hid (byteVals_one bs)
  have q22 := eq_nil22
  rcases A with _ | ad
  · obtain ⟨h0, rfl⟩ := hA rfl
    have : bs = [] := List.eq_nil_of_length_eq_zero h0
    subst this
    clear hr HO h0 hA
    go_enter Try.func24, Try.ntmps24
    go_wp2_with fail
    go_ret
    exact ⟨_, _, _, rfl, rfl, World.ownsRow_nil _ _ _ _, Below.refl _ _⟩
  · have hown : (w.alloc (.cells #[] 5 (0, 0))).ownsRow w.heap.size 5 1 (.slice (some ⟨w.heap.size, 0, none⟩) 0 0) 0 [] := by
      refine ⟨rfl, .inr ⟨w.heap.size, 0, #[], rfl, Nat.le_refl _, Blk.new w _ 5, ?_⟩⟩
      simp
    have HR := Lib.hid (hr.alloc (Nat.le_refl _) (.cells #[] 5 (0, 0)))
    have HOWN := Lib.hid hown
    clear hown hr hA
    go_enter Try.func24, Try.ntmps24
    go_wp2_with (at_builtin; refine wpList_append_any _ rfl (.tmp 5) (.tmp 6) 22 rfl w.heap.size 5 i0 (.int .u8 0) 1 1 Try.underlying22 hi hz0 hz1 hz2 rfl (by decide) _ 0 [] rfl HOWN.out w.heap.size (some ad) bs.length c (byteVals bs) rfl HR.out HO.out ?c1 ?c2 ?c3 ?_)
    case c1 => unfold maxLen; omega
    case c2 => omega
    case c3 => simp
    intro v' w1 hown' hgr _
    obtain ⟨A', c', rfl⟩ := own_slice hown'
    try simp only [Nat.zero_add, List.nil_append] at hown'
    have hb : Below w.heap.size w w1 := (((Below.refl _ _).alloc (Nat.le_refl _) _).grown hgr (by simp) (by simp [Value.ownBlock]))
    clear hgr
    go_wp2_with fail
    go_ret
    exact ⟨_, _, _, rfl, rfl, hown', hb⟩

set_option maxHeartbeats 1000000 in
theorem clone27 (A : Option Addr) (bs : List UInt8) (c : Nat) (w : World) (hA : NilOk A bs.length c) (hr : Reads w w.heap.size 1 A bs.length (byteVals bs)) (hn : bs.length ≤ 1000000) :
    Calls Try.prog 27 #[.slice A bs.length c] w (OwnPost w w.heap.size bs) := by
  obtain ⟨i0, hi, hz0, hz1, hz2⟩ := info_parts Try.info5
  have HO := Lib.hid (byteVals_one bs)
  have q22 := eq_nil22
  rcases A with _ | ad
  · obtain ⟨h0, rfl⟩ := hA rfl
    have : bs = [] := List.eq_nil_of_length_eq_zero h0
    subst this
    clear hr HO h0 hA
    go_enter Try.func27, Try.ntmps27
    go_wp2_with fail
    go_ret
    exact ⟨_, _, _, rfl, rfl, World.ownsRow_nil _ _ _ _, Below.refl _ _⟩
  · have hown : (w.alloc (.cells #[] 5 (0, 0))).ownsRow w.heap.size 5 1 (.slice (some ⟨w.heap.size, 0, none⟩) 0 0) 0 [] := by
      refine ⟨rfl, .inr ⟨w.heap.size, 0, #[], rfl, Nat.le_refl _, Blk.new w _ 5, ?_⟩⟩
      simp
    have HR := Lib.hid (hr.alloc (Nat.le_refl _) (.cells #[] 5 (0, 0)))
    have HOWN := Lib.hid hown
    clear hown hr hA
    go_enter Try.func27, Try.ntmps27
    go_wp2_with (at_builtin; refine wpList_append_any _ rfl (.tmp 5) (.tmp 6) 22 rfl w.heap.size 5 i0 (.int .u8 0) 1 1 Try.underlying22 hi hz0 hz1 hz2 rfl (by decide) _ 0 [] rfl HOWN.out w.heap.size (some ad) bs.length c (byteVals bs) rfl HR.out HO.out ?c1 ?c2 ?c3 ?_)
    case c1 => unfold maxLen; omega
    case c2 => omega
    case c3 => simp
    intro v' w1 hown' hgr _
    obtain ⟨A', c', rfl⟩ := own_slice hown'
    try simp only [Nat.zero_add, List.nil_append] at hown'
    have hb : Below w.heap.size w w1 := (((Below.refl _ _).alloc (Nat.le_refl _) _).grown hgr (by simp) (by simp [Value.ownBlock]))
    clear hgr
    go_wp2_with fail
    go_ret
    exact ⟨_, _, _, rfl, rfl, hown', hb⟩

end Go.Proofs.Ytkbhhejnhjhacaa
