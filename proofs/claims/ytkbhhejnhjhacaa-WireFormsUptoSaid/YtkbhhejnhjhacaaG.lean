/-
  Package wire: putBytes, AppendBytes, AppendList; rows of bytes that came in.
-/
import Derived.Test.YtkbhhejnhjhacaaF
namespace Go.Proofs.Ytkbhhejnhjhacaa
open Go.RowKit

/-- A row's form. -/
def row (x : List UInt8) : List UInt8 := form x.length ++ x

theorem row_len (x : List UInt8) (h : x.length ≤ 1000000) : (row x).length ≤ 9 + x.length := by
  have := nb_le x.length (by omega)
  unfold row
  rw [List.length_append, form_len]; omega

set_option maxHeartbeats 2000000 in
theorem putBytes_any (base : Nat) (v : Value) (k : Nat) (bs : List UInt8) (A : Option Addr) (x : List UInt8) (c : Nat) (w : World) (hown : w.ownsRow base 5 1 v k (byteVals bs)) (hb : base ≤ w.heap.size)
    (hr : Reads w base 1 A x.length (byteVals x)) (hl : bs.length ≤ 500000) (hx : x.length ≤ 400000) :
    Calls Try.prog 25 #[v, .slice A x.length c] w (OwnPost w base (bs ++ row x)) := by
  obtain ⟨i0, hi, hz0, hz1, hz2⟩ := info_parts Try.info5
  have HP := Lib.hid (putUint_any base v k bs x.length w hown hb (by omega) (by omega))
  have hnb := nb_le x.length (by omega)
  have hfl : (bs ++ form x.length).length ≤ 500009 := by rw [List.length_append, form_len]; omega
  have HR := Lib.hid hr
  have HO := Lib.hid (byteVals_one x)
  obtain ⟨A0, c0, rfl⟩ := own_slice hown
  clear hown hr
  go_enter Try.func25, Try.ntmps25
  go_wp2_with fail
  refine HP.out.mono ?_
  rintro e w1 ⟨A1, n1, c1, rfl, hn1, hown1, hb1⟩
  have hs1 := hb1.size
  have HR1 := Lib.hid (HR.out.below hb1)
  have HOWN1 := Lib.hid hown1
  have hn1' : n1 ≤ 500009 := by omega
  have HN1 := Lib.hid hn1
  clear hown1 hn1
  go_wp2_with (at_builtin; refine wpList_append_any _ rfl (.tmp 9) (.tmp 10) 22 rfl base 5 i0 (.int .u8 0) 1 1 Try.underlying22 hi hz0 hz1 hz2 rfl (by decide) _ n1 (byteVals (bs ++ form x.length)) rfl HOWN1.out base A x.length c (byteVals x) rfl HR1.out HO.out ?c1 ?c2 ?c3 ?_)
  case c1 => unfold maxLen; omega
  case c2 => omega
  case c3 => omega
  intro v2 w2 hown2 hgr2 _
  rw [byteVals_append, List.append_assoc] at hown2
  have hb2 : Below base w w2 := hb1.grown hgr2 (by omega) (fun g hg => (HOWN1.out.lt g hg).1)
  obtain ⟨A2, c2, rfl⟩ := own_slice hown2
  have hl2 : n1 + x.length = (bs ++ row x).length := by
    rw [HN1.out]; unfold row; simp only [List.length_append]; omega
  have HL2 := Lib.hid hl2
  clear hl2 hgr2
  go_wp2_with fail
  go_ret
  exact ⟨A2, _, c2, rfl, HL2.out, hown2, hb2⟩

set_option maxHeartbeats 1000000 in
theorem appendBytes_any (A : Option Addr) (bs : List UInt8) (c : Nat) (Ax : Option Addr) (x : List UInt8) (cx : Nat) (w : World) (hA : NilOk A bs.length c) (hr : Reads w w.heap.size 1 A bs.length (byteVals bs))
    (hx : Reads w w.heap.size 1 Ax x.length (byteVals x)) (hl : bs.length ≤ 500000) (hxl : x.length ≤ 400000) :
    Calls Try.prog 11 #[.slice A bs.length c, .slice Ax x.length cx] w (OwnPost w w.heap.size (bs ++ row x)) := by
  have HC := Lib.hid (clone24 A bs c w hA hr (by omega))
  have HX := Lib.hid hx
  clear hA hr hx
  go_enter Try.func11, Try.ntmps11
  go_wp2_with fail
  refine HC.out.mono ?_
  rintro e w1 ⟨A1, n1, c1, rfl, hn1, hown1, hb1⟩
  have HP := Lib.hid (putBytes_any w.heap.size _ n1 bs Ax x cx w1 hown1 hb1.size (HX.out.below hb1) hl hxl)
  clear hown1 hn1
  go_wp2_with fail
  refine HP.out.mono ?_
  rintro e w2 ⟨A2, n2, c2, rfl, hn2, hown2, hb2⟩
  have HN2 := Lib.hid hn2
  clear hn2
  go_wp2_with fail
  go_ret
  exact ⟨A2, n2, c2, rfl, HN2.out, hown2, hb1.trans hb2⟩

/-- A row of bytes that came in. -/
structure Row where
  A : Option Addr
  c : Nat
  bs : List UInt8
instance : Inhabited Row := ⟨⟨none, 0, []⟩⟩
def Row.val (r : Row) : Value := .slice r.A r.bs.length r.c
structure Row.okAt (w : World) (B : Nat) (r : Row) : Prop where
  nil : NilOk r.A r.bs.length r.c
  cap : r.bs.length ≤ r.c
  reads : Reads w B 1 r.A r.bs.length (byteVals r.bs)
/-- Rows of bytes, one by one. -/
structure RowsIn (w : World) (B : Nat) (A : Option Addr) (L : List Row) : Prop where
  reads : Reads w B 1 A L.length (L.map Row.val)
  each : ∀ r ∈ L, r.okAt w B

theorem RowsIn.below {w w' : World} {B : Nat} {A : Option Addr} {L : List Row} (h : RowsIn w B A L) (hb : Below B w w') : RowsIn w' B A L :=
  ⟨h.reads.below hb, fun r hr => ⟨(h.each r hr).nil, (h.each r hr).cap, (h.each r hr).reads.below hb⟩⟩
theorem RowsIn.more {w : World} {B B' : Nat} {A : Option Addr} {L : List Row} (h : RowsIn w B A L) (hB : B ≤ B') : RowsIn w B' A L :=
  ⟨h.reads.more hB, fun r hr => ⟨(h.each r hr).nil, (h.each r hr).cap, (h.each r hr).reads.more hB⟩⟩

theorem Reads.plainV {w : World} {B n : Nat} {A : Option Addr} {xs : List Value} (h : Reads w B 1 A n xs) (hn : 0 < n) :
    ∃ b off, A = some ⟨b, off, none⟩ ∧ b < B ∧ ∀ j u, xs[j]? = some u → w.cell? ⟨b, off + j, none⟩ = some u := by
  obtain ⟨ad, rfl, hb, hc⟩ := h.2 hn
  obtain ⟨b, off, spot⟩ := ad
  have hl : 0 < xs.length := by rw [h.1]; omega
  have h0 := hc 0 _ (List.getElem?_eq_getElem hl)
  have hspot : spot = none := by
    have := World.cell?_spot h0
    simpa [Addr.add] using this
  subst hspot
  refine ⟨b, off, rfl, hb, fun j c hj => ?_⟩
  have := hc j _ hj
  rwa [Go.WideShapes.add_plain] at this

/-- How many bytes and rows there are. -/
def rowsLen : List Row → Nat
  | [] => 0
  | r :: L => 1 + r.bs.length + rowsLen L
def flat (L : List Row) : List UInt8 := L.flatMap fun r => row r.bs
/-- A list's form. -/
def listForm (L : List Row) : List UInt8 := form L.length ++ flat L

theorem rowsLen_ge : ∀ L : List Row, L.length ≤ rowsLen L
  | [] => by simp
  | r :: L => by have := rowsLen_ge L; simp [rowsLen]; omega
theorem rowsLen_mem : ∀ (L : List Row) (r : Row), r ∈ L → r.bs.length < rowsLen L
  | [], _, h => by simp at h
  | x :: L, r, h => by
    rcases List.mem_cons.1 h with rfl | h
    · simp [rowsLen]; omega
    · have := rowsLen_mem L r h; simp [rowsLen]; omega
theorem rowsLen_take : ∀ (L : List Row) (k : Nat), rowsLen (L.take k) ≤ rowsLen L
  | [], k => by simp
  | _ :: _, 0 => by simp [rowsLen]
  | r :: L, k + 1 => by have := rowsLen_take L k; simp [rowsLen]; omega
theorem flat_len_le : ∀ (L : List Row), rowsLen L ≤ 1000000 → (flat L).length ≤ 9 * rowsLen L
  | [], _ => by simp [flat]
  | r :: L, h => by
    rw [rowsLen] at *
    have := flat_len_le L (by omega)
    have := row_len r.bs (by omega)
    unfold flat at *
    rw [List.flatMap_cons, List.length_append]; omega
theorem flat_take {L : List Row} {k : Nat} {r : Row} (h : L[k]? = some r) : flat (L.take (k + 1)) = flat (L.take k) ++ row r.bs := by
  obtain ⟨hk, rfl⟩ := List.getElem?_eq_some_iff.1 h
  unfold flat
  rw [List.take_succ_eq_append_getElem hk, List.flatMap_append]
  simp

def PutL (w : World) (base : Nat) (v : Value) (bs : List UInt8) (wr : World) : Prop :=
  (∃ n, wr.ownsRow base 5 1 v n (byteVals bs)) ∧ Below base w wr

set_option maxHeartbeats 4000000 in
theorem appendList_any (A : Option Addr) (bs : List UInt8) (c : Nat) (Al : Option Addr) (L : List Row) (cl : Nat) (w : World) (hA : NilOk A bs.length c) (hr : Reads w w.heap.size 1 A bs.length (byteVals bs))
    (hL : RowsIn w w.heap.size Al L) (hl : bs.length ≤ 100000) (hs : rowsLen L ≤ 2000) :
    Calls Try.prog 12 #[.slice A bs.length c, .slice Al L.length cl] w (OwnPost w w.heap.size (bs ++ listForm L)) := by
  have HC := Lib.hid (clone24 A bs c w hA hr (by omega))
  have HL := Lib.hid hL
  have hll := rowsLen_ge L
  have hnb := nb_le L.length (by omega)
  clear hA hr hL
  go_enter Try.func12, Try.ntmps12
  go_wp2_with fail
  refine HC.out.mono ?_
  rintro e w1 ⟨A1, n1, c1, rfl, hn1, hown1, hb1⟩
  have HP := Lib.hid (putUint_any w.heap.size _ n1 bs L.length w1 hown1 hb1.size (by omega) (by omega))
  clear hown1 hn1
  go_wp2_with fail
  refine HP.out.mono ?_
  rintro e w2 ⟨A2, n2, c2, rfl, hn2, hown2, hb2⟩
  have hrel0 : PutL w w.heap.size (.slice A2 n2 c2) (bs ++ form L.length ++ flat (L.take 0)) w2 := ⟨⟨n2, by simpa [flat] using hown2⟩, hb1.trans hb2⟩
  have HREL0 := Lib.hid hrel0
  clear hn2 hown2 hrel0
  go_wp2_with fail
  go_loopw [5, 7, 16] (fun v5 _ v16 wr => ∃ k : Nat, k ≤ L.length ∧ v16 = .int .i64 k ∧ PutL w w.heap.size v5 (bs ++ form L.length ++ flat (L.take k)) wr) (fun _ _ v16 _ => L.length - (intOf v16).toNat)
  case atStart => exact ⟨0, by omega, rfl, HREL0.out⟩
  case round =>
    obtain ⟨k, hk, rfl, ⟨n3, hown3⟩, hb3⟩ := hrel
    clear HREL0
    obtain ⟨A3, c3, rfl⟩ := own_slice hown3
    have hk9 : (bs ++ form L.length ++ flat (L.take k)).length ≤ 200000 := by
      have h1 := rowsLen_take L k
      have h2 := flat_len_le (L.take k) (by omega)
      rw [List.length_append, List.length_append, form_len]; omega
    by_cases hlt : k < L.length
    · obtain ⟨r, hrk⟩ : ∃ r, L[k]? = some r := ⟨_, List.getElem?_eq_getElem hlt⟩
      have hL3 := HL.out.below hb3
      obtain ⟨b, off, rfl, hbb, hcell⟩ := hL3.reads.plainV (by omega)
      have hck := hcell k _ (by rw [List.getElem?_map, hrk]; rfl)
      have hmem : r ∈ L := List.mem_of_getElem? hrk
      have hrr := (hL3.each r hmem).reads
      have hrl := rowsLen_mem L r hmem
      have HPB := Lib.hid (putBytes_any w.heap.size _ n3 _ r.A r.bs r.c wr hown3 hb3.size hrr (by omega) (by omega))
      have HT := Lib.hid (flat_take hrk)
      unfold Row.val at hck
      clear hown3 hrk hcell hL3 hrr hmem hk9
      go_wp2_with fail
      refine HPB.out.mono ?_
      rintro e w4 ⟨A4, n4, c4, rfl, hn4, hown4, hb4⟩
      have hrel : PutL w w.heap.size (.slice A4 n4 c4) (bs ++ form L.length ++ flat (L.take (k + 1))) w4 := ⟨⟨n4, by rw [HT.out, ← List.append_assoc]; exact hown4⟩, hb3.trans hb4⟩
      have HREL := Lib.hid hrel
      clear hrel hn4 hown4
      go_wp2_with fail
      go_roundw
      case rel => exact ⟨k + 1, by omega, by go_num, HREL.out⟩
      case measure => simp [intOf]; omega
    · obtain rfl : k = L.length := by omega
      rw [List.take_length] at hown3
      have hn3 : n3 = (bs ++ listForm L).length := by
        have := hown3.1
        rw [byteVals_len] at this
        unfold listForm
        rw [← List.append_assoc]; omega
      have HN3 := Lib.hid hn3
      have HOWN3 := Lib.hid hown3
      clear hn3 hown3
      go_wp2_with fail
      go_ret
      exact ⟨A3, n3, c3, rfl, HN3.out, by unfold listForm; rw [← List.append_assoc]; exact HOWN3.out, hb3⟩

end Go.Proofs.Ytkbhhejnhjhacaa
