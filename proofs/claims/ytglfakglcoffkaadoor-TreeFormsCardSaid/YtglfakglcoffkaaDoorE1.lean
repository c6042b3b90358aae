/-
  Package sha: digest.
-/
import Derived.Test.YtglfakglcoffkaaDoorE
import Derived.Deep.MidRow
namespace Go.Proofs.YtglfakglcoffkaaDoor
open Go.RowKit

def zero32 : Array Value := #[Value.int IntKind.u8 0, Value.int IntKind.u8 0, Value.int IntKind.u8 0, Value.int IntKind.u8 0, Value.int IntKind.u8 0, Value.int IntKind.u8 0, Value.int IntKind.u8 0, Value.int IntKind.u8 0, Value.int IntKind.u8 0, Value.int IntKind.u8 0, Value.int IntKind.u8 0, Value.int IntKind.u8 0, Value.int IntKind.u8 0, Value.int IntKind.u8 0, Value.int IntKind.u8 0, Value.int IntKind.u8 0, Value.int IntKind.u8 0, Value.int IntKind.u8 0, Value.int IntKind.u8 0, Value.int IntKind.u8 0, Value.int IntKind.u8 0, Value.int IntKind.u8 0, Value.int IntKind.u8 0, Value.int IntKind.u8 0, Value.int IntKind.u8 0, Value.int IntKind.u8 0, Value.int IntKind.u8 0, Value.int IntKind.u8 0, Value.int IntKind.u8 0, Value.int IntKind.u8 0, Value.int IntKind.u8 0, Value.int IntKind.u8 0]

theorem made_zero (n : Nat) : madeCells (Value.int .u8 0).cells n = (List.replicate n (Value.int .u8 0)).toArray := by
  apply Array.ext
  · simp [size_madeCells]
  · intro i h1 h2
    have h0 : (Value.int .u8 0).cells = #[.int .u8 0] := rfl
    simp [madeCells, h0, Nat.mod_one]

theorem made_pad (n : Nat) : (((Array.replicate (1 + noughts n + 8) (Value.int .u8 0)).setIfInBounds 0 (.int .u8 128)).toList).take ((1 + noughts n) * 1) = byteVals (padHead n) := by
  unfold padHead
  generalize noughts n = k
  have e1 : ((Array.replicate (1 + k + 8) (Value.int .u8 0)).setIfInBounds 0 (.int .u8 128)).toList = .int .u8 128 :: List.replicate (k + 8) (.int .u8 0) := by
    rw [Array.toList_setIfInBounds, Array.toList_replicate, show 1 + k + 8 = (k + 8) + 1 by omega, List.replicate_succ, List.set_cons_zero]
  rw [e1, show (1 + k) * 1 = k + 1 by omega, List.take_succ_cons, List.take_replicate, show min k (k + 8) = k by omega]
  simp [byteVals]

theorem own_chg {u w w' : World} {c : Option Nat} {base : Nat} {e : TypeId} {size : Nat} {v : Value} {n : Nat} {xs : List Value} (h : Chg c u w) (hown : w.ownsRow base e size v n xs) (hb : u.heap.size ≤ base) (g : w.grownBy w' v.ownBlock) : Chg c u w' := by
  cases hv : v.ownBlock with
  | none => rw [hv] at g; exact h.trans (Chg.weaken g)
  | some k => rw [hv] at g; exact Chg.own (b := k) h g (Nat.le_trans hb (hown.lt k hv).1)

def byteV (x : Int) : Value := .int .u8 (x % 256)
theorem wordBytes_vals (x : Int) : byteVals (wordBytes x) = [byteV (x / 16777216), byteV (x / 65536), byteV (x / 256), byteV x] := by
  simp [wordBytes, byteVals, byteOf_val, byteV]
theorem words_take (ws : List Int) (k : Nat) (h : k < ws.length) : wordsBytes (ws.take (k + 1)) = wordsBytes (ws.take k) ++ wordBytes (ws.getD k 0) := by
  rw [List.take_succ_eq_append_getElem h, List.getD_eq_getElem?_getD, List.getElem?_eq_getElem h]
  unfold wordsBytes
  rw [List.flatMap_append, List.flatMap_cons, List.flatMap_nil, List.append_nil]
  rfl
theorem set_four (P : List Value) (z x0 x1 x2 x3 : Value) (k n : Nat) (hP : P.length = 4 * k) :
    ((((P ++ List.replicate (n + 4) z).set (4 * k) x0).set (4 * k + 1) x1).set (4 * k + 2) x2).set (4 * k + 3) x3 = P ++ ([x0, x1, x2, x3] ++ List.replicate n z) := by
  rw [List.replicate_succ, List.replicate_succ, List.replicate_succ, List.replicate_succ]
  rw [List.set_append_right _ _ (by omega), List.set_append_right _ _ (by omega), List.set_append_right _ _ (by omega), List.set_append_right _ _ (by omega), hP, Nat.sub_self,
    show 4 * k + 1 - 4 * k = 1 by omega, show 4 * k + 2 - 4 * k = 2 by omega, show 4 * k + 3 - 4 * k = 3 by omega]
  rfl

theorem src_of_own {w : World} {base n c b : Nat} {A : Option Addr} {bs : List UInt8} (h : w.ownsRow base 5 1 (.slice A n c) n (byteVals bs)) (hb : b < base) : Src w b A bs ∧ n = bs.length ∧ n ≤ c := by
  have hl := h.1
  rw [byteVals_len, Nat.mul_one] at hl
  rcases h.2 with ⟨h1, h2⟩ | ⟨g, cap, cur, h1, h2, h3, h4, h5, h6, h7⟩
  · exact ⟨fun h0 => by omega, hl.symm, by omega⟩
  · injection h1 with e1 e2 e3
    refine ⟨fun _ => ⟨g, 0, e1, by omega, (Array.getElem?_eq_some_iff.1 h3).1, fun j x hj => ?_⟩, hl.symm, by omega⟩
    have := h.cells (g := g) (by rw [e1]; rfl) j _ (byteVals_get hj)
    rwa [Go.WideShapes.add_plain] at this

theorem make22 (nn : Nat) (hn : nn < 1000000) (W : World) : (Instr.makeSlice 22 (.int .i64 (1 + (nn : Int))) (.int .i64 (1 + (nn : Int) + 8))).run Tryd.prog W =
    .ok (.slice (some ⟨W.heap.size, 0, none⟩) (1 + nn) (1 + nn + 8)) (W.alloc (.cells (List.replicate (1 + nn + 8) (.int .u8 0)).toArray 5)) := by
  obtain ⟨i0, hi, hz0, hz1, hz2⟩ := info_parts Tryd.info5
  have hr := run_make (P := Tryd.prog) W 22 5 i0 (.int .u8 0) Tryd.underlying22 hi hz0 .i64 .i64 (1 + (nn : Int)) (1 + (nn : Int) + 8) (by omega) (by omega) (by rw [hz2]; omega) (by omega)
  rw [hr]
  have e1 : (1 + (nn : Int)).toNat = 1 + nn := by omega
  have e2 : (1 + (nn : Int) + 8).toNat = 1 + nn + 8 := by omega
  rw [e1, e2, hz1, Nat.mul_one, made_zero]

set_option maxRecDepth 100000 in
set_option maxHeartbeats 4000000 in
theorem digest_any (b : Nat) (m : List UInt8) (w : World) (hH : HsAt w b m) (hm : m.length < 1000000000000000) (hT : Tabs w) (hb2 : 3 ≤ b) :
    Calls Tryd.prog 55 #[.pointer (some ⟨b, 0, none⟩)] w fun e w' => e = .returned (.agg (byteVals (dig m)).toArray) ∧ Chg (some b) w w' := by
  have hlt := hH.lt
  have c72 := hH.held
  have c73 := hH.taken
  obtain ⟨h0, hh0⟩ : ∃ h0, h0 = m.length % 64 := ⟨_, rfl⟩
  obtain ⟨tk, htk⟩ : ∃ tk, tk = m.length := ⟨_, rfl⟩
  rw [← hh0] at c72
  rw [← htk] at c73
  have hh64 : h0 < 64 := by omega
  have htk1 : tk < 1000000000000000 := by omega
  have hnn : (119 - (h0 : Int)) % 64 = ((noughts m.length : Nat) : Int) := by unfold noughts; omega
  have hnn64 : noughts m.length < 64 := by unfold noughts; omega
  obtain ⟨nn, hn⟩ : ∃ nn, nn = noughts m.length := ⟨_, rfl⟩
  rw [← hn] at hnn hnn64
  have HN := Lib.hid hn
  have HT := Lib.hid htk
  have HH := Lib.hid hh0
  clear hn htk hh0
  go_enter Tryd.func55, Tryd.ntmps55
  go_upto_region 3 with (fail)
  obtain ⟨W1, hW1⟩ : ∃ W1, W1 = w.alloc (.cells zero32 30) := ⟨_, rfl⟩
  have hsr : w.alloc (.cells #[Value.int IntKind.u8 0, Value.int IntKind.u8 0, Value.int IntKind.u8 0, Value.int IntKind.u8 0, Value.int IntKind.u8 0, Value.int IntKind.u8 0, Value.int IntKind.u8 0, Value.int IntKind.u8 0, Value.int IntKind.u8 0, Value.int IntKind.u8 0, Value.int IntKind.u8 0, Value.int IntKind.u8 0, Value.int IntKind.u8 0, Value.int IntKind.u8 0, Value.int IntKind.u8 0, Value.int IntKind.u8 0, Value.int IntKind.u8 0, Value.int IntKind.u8 0, Value.int IntKind.u8 0, Value.int IntKind.u8 0, Value.int IntKind.u8 0, Value.int IntKind.u8 0, Value.int IntKind.u8 0, Value.int IntKind.u8 0, Value.int IntKind.u8 0, Value.int IntKind.u8 0, Value.int IntKind.u8 0, Value.int IntKind.u8 0, Value.int IntKind.u8 0, Value.int IntKind.u8 0, Value.int IntKind.u8 0, Value.int IntKind.u8 0] 30) = W1 := hW1.symm
  rw [hsr]
  have g1 : Chg none w W1 := by rw [hW1]; exact (Chg.refl _ _).alloc _
  have hR : Blk W1 w.heap.size zero32 30 := by rw [hW1]; exact Blk.new _ _ _
  have hs1 : W1.heap.size = w.heap.size + 1 := by rw [hW1]; simp
  have hmk := make22 nn (by omega) W1
  have hH1 := hH.chg g1 (by simp)
  have hT1 := hT.chg g1 (by simp)
  clear hsr hW1 hH hT
  have HS1 := Lib.hid hs1
  have hlt1 : b < W1.heap.size := by omega
  clear hs1
  go_wp2_with fail
  obtain ⟨W3, hW3⟩ : ∃ W3, W3 = W1.alloc (.cells ((Array.replicate (1 + nn + 8) (Value.int .u8 0)).setIfInBounds 0 (Value.int .u8 128)) 5) := ⟨_, rfl⟩
  have hsr : W1.alloc (.cells ((Array.replicate (1 + nn + 8) (Value.int .u8 0)).setIfInBounds 0 (Value.int .u8 128)) 5) = W3 := hW3.symm
  rw [hsr]
  have g3 : Chg none w W3 := by rw [hW3]; exact g1.alloc _
  have g13 : Chg none W1 W3 := by rw [hW3]; exact (Chg.refl _ _).alloc _
  have hown : W3.ownsRow W1.heap.size 5 1 (.slice (some ⟨W1.heap.size, 0, none⟩) (1 + nn) (1 + nn + 8)) (1 + nn) (byteVals (padHead m.length ++ (be 8 (m.length * 8)).take 0)) := by
    refine ⟨?_, .inr ⟨W1.heap.size, 1 + nn + 8, _, rfl, Nat.le_refl _, by rw [hW3]; exact heap_alloc_new _ _, by omega, by unfold maxLen; omega, by simp, ?_⟩⟩
    · rw [byteVals_len, List.take_zero, List.append_nil, padHead_len, ← HN.out]; omega
    · rw [List.take_zero, List.append_nil, HN.out]; exact made_pad _
  have hH3 := hH1.chg g13 (by simp)
  have hT3 := hT1.chg g13 (by simp)
  have hR3 := hR.chg g13 (by simp)
  have hsz3 : W1.heap.size < W3.heap.size := by rw [hW3]; simp
  have HOWN := Lib.hid hown
  clear hsr hW3 hown g13 hH1 hT1 hR hmk
  obtain ⟨i0, hi, hz0, hz1, hz2⟩ := info_parts Tryd.info5
  go_loopw [5, 6] (fun s5 s6 wr => ∃ j : Nat, j ≤ 8 ∧ s6 = .int .i64 (56 - 8 * (j : Int)) ∧ wr.ownsRow W1.heap.size 5 1 s5 (1 + nn + j) (byteVals (padHead m.length ++ (be 8 (m.length * 8)).take j)) ∧ HsAt wr b m ∧ Tabs wr ∧ Blk wr w.heap.size zero32 30 ∧ W1.heap.size < wr.heap.size ∧ Chg none w wr)
    (fun _ s6 _ => (intOf s6 + 8).toNat)
  case atStart => exact ⟨0, by omega, rfl, HOWN.out, hH3, hT3, hR3, hsz3, g3⟩
  case round =>
    obtain ⟨j, hj, rfl, hown, hHj, hTj, hRj, hsj, hgj⟩ := hrel
    obtain ⟨Aj, cj, rfl⟩ := own_slice hown
    clear hH3 hT3 hR3 g3 HOWN c72 c73 hnn
    by_cases hlt8 : j < 8
    · have hbe := be_take_succ 8 (m.length * 8) j hlt8
      rw [show 8 * (8 - 1 - j) = 56 - 8 * j by omega] at hbe
      obtain ⟨x, hx⟩ : ∃ x, x = UInt8.ofNat (m.length * 8 / 2 ^ (56 - 8 * j)) := ⟨_, rfl⟩
      rw [← hx] at hbe
      have hr1 := reads_one wr x
      have hv : (x.toNat : Int) = (tk : Int) * 8 / 2 ^ (56 - 8 * j) % 256 := by
        rw [hx, byte_shr, HT.out]; push_cast; rfl
      rw [hv] at hr1
      have HR1 := Lib.hid hr1
      have HO1 := Lib.hid (byteVals_one [x])
      have HBE := Lib.hid hbe
      have HOWN := Lib.hid hown
      have hjl : j ≤ 8 := hj
      clear hr1 hown hx hv hbe
      go_wp2_with (at_builtin; refine wpList_append_any _ rfl (.tmp 33) (.tmp 38) 22 rfl W1.heap.size 5 i0 (.int .u8 0) 1 1 Tryd.underlying22 hi hz0 hz1 hz2 rfl (by decide) _ (1 + nn + j) (byteVals (padHead m.length ++ (be 8 (m.length * 8)).take j)) rfl (HOWN.out.alloc _) _ _ 1 1 (byteVals [x]) rfl HR1.out HO1.out ?d1 ?d2 ?d3 ?_)
      case d1 => unfold maxLen; omega
      case d2 => omega
      case d3 => simp; omega
      intro v3 w3 hown3 hgr3 _
      rw [byteVals_append, List.append_assoc, ← HBE.out] at hown3
      have gal : Chg none w (wr.alloc (.cells #[.int .u8 ((tk : Int) * 8 / 2 ^ (56 - 8 * j) % 256)] 5)) := hgj.alloc _
      have ga : Chg none wr (wr.alloc (.cells #[.int .u8 ((tk : Int) * 8 / 2 ^ (56 - 8 * j) % 256)] 5)) := (Chg.refl _ _).alloc _
      have g3 := own_chg gal (HOWN.out.alloc _) (by rw [HS1.out]; omega) hgr3
      have gr3 : Chg (Value.slice Aj (1 + nn + j) cj).ownBlock wr w3 := (ga.weaken).trans hgr3
      have hne : ∀ k, k < W1.heap.size → some k ≠ (Value.slice Aj (1 + nn + j) cj).ownBlock := fun k hk e => by
        have := (HOWN.out.lt k e.symm).1
        omega
      have hH3 := hHj.chg gr3 (hne b hlt1)
      have hR3 := hRj.chg gr3 (hne _ (by rw [HS1.out]; omega))
      have hT3 := hTj.chg gr3 (fun k hk => by
        have := (HOWN.out.lt k hk).1
        omega)
      have hsz3 : W1.heap.size < w3.heap.size := Nat.lt_of_lt_of_le hsj gr3.size
      have HOWN3 := Lib.hid hown3
      clear hown3 hgr3 gal ga gr3 hne HR1 HO1
      go_wp2_with fail
      go_roundw
      case rel => exact ⟨j + 1, by omega, by congr 1; omega, HOWN3.out, hH3, hT3, hR3, hsz3, g3⟩
      case measure => simp [intOf]; omega
    · obtain rfl : j = 8 := by omega
      have hgo : decide ((8 : Int) * ((8 : Nat) : Int) ≤ 56) = false := by decide
      have hb8 : (be 8 (m.length * 8)).take 8 = be 8 (m.length * 8) := List.take_of_length_le (by rw [be_len]; omega)
      rw [hb8] at hown
      change wr.ownsRow W1.heap.size 5 1 (.slice Aj (1 + nn + 8) cj) (1 + nn + 8) (byteVals (padOf m.length)) at hown
      obtain ⟨hsrc, hpl, hcap⟩ := src_of_own hown hlt1
      have htk := take_any b m (padOf m.length) Aj cj wr hHj (by omega) hsrc (by omega) hTj hb2
      rw [← hpl] at htk
      have HTK := Lib.hid htk
      clear htk hpl hsrc hown hb8
      go_wp2_with fail
      refine HTK.out.mono ?_
      rintro e w6 ⟨rfl, hH6, g6⟩
      have hT6 := hTj.chg g6 (by simp; omega)
      have hR6 := hRj.chg g6 (by simp; omega)
      have g6' : Chg (some b) w w6 := (hgj.weaken).trans g6
      have hsz6 : W1.heap.size < w6.heap.size := Nat.lt_of_lt_of_le hsj g6.size
      have hlt6 := hH6.lt
      clear g6 hHj hTj hRj hgj HTK
      go_upto_region 11 with (fail)
      obtain ⟨W7, hW7⟩ : ∃ W7, W7 = w6.alloc (.cells zero32 30) := ⟨_, rfl⟩
      have hsr : w6.alloc (.cells #[Value.int IntKind.u8 0, Value.int IntKind.u8 0, Value.int IntKind.u8 0, Value.int IntKind.u8 0, Value.int IntKind.u8 0, Value.int IntKind.u8 0, Value.int IntKind.u8 0, Value.int IntKind.u8 0, Value.int IntKind.u8 0, Value.int IntKind.u8 0, Value.int IntKind.u8 0, Value.int IntKind.u8 0, Value.int IntKind.u8 0, Value.int IntKind.u8 0, Value.int IntKind.u8 0, Value.int IntKind.u8 0, Value.int IntKind.u8 0, Value.int IntKind.u8 0, Value.int IntKind.u8 0, Value.int IntKind.u8 0, Value.int IntKind.u8 0, Value.int IntKind.u8 0, Value.int IntKind.u8 0, Value.int IntKind.u8 0, Value.int IntKind.u8 0, Value.int IntKind.u8 0, Value.int IntKind.u8 0, Value.int IntKind.u8 0, Value.int IntKind.u8 0, Value.int IntKind.u8 0, Value.int IntKind.u8 0, Value.int IntKind.u8 0] 30) = W7 := hW7.symm
      rw [hsr]
      have g67 : Chg none w6 W7 := by rw [hW7]; exact (Chg.refl _ _).alloc _
      have g7 : Chg (some b) w W7 := g6'.trans g67.weaken
      have hD : BlkL W7 w6.heap.size (byteVals (wordsBytes []) ++ List.replicate (32 - 4 * 0) (Value.int .u8 0)) 30 := by rw [hW7]; exact Blk.new _ _ _
      have hH7 := hH6.chg g67 (by simp)
      have hR7 := hR6.chg g67 (by simp)
      have hw8 := hashB_len (padded m) ((padded m).length / 64)
      have hwd : ∀ i, i < 8 → W7.cell? ⟨b, i, none⟩ = some (u32v ((hashB (padded m) ((padded m).length / 64)).getD i 0)) := fun i hi => hH7.word hi
      obtain ⟨ws, hws⟩ : ∃ ws, ws = hashB (padded m) ((padded m).length / 64) := ⟨_, rfl⟩
      rw [← hws] at hw8 hwd
      have HWS : Hid (dig m = wordsBytes ws) := by rw [hws]; rfl
      clear hws hsr hW7 g67 hH6 hR6 g6' hT6 hH7
      obtain ⟨x0, x1, x2, x3, x4, x5, x6, x7, rfl⟩ : ∃ a b c d e f g h, ws = [a, b, c, d, e, f, g, h] := by
        match ws, hw8 with
        | [a, b, c, d, e, f, g, h], _ => exact ⟨a, b, c, d, e, f, g, h, rfl⟩
      have hrange : W7.rangeAt b 0 [.int .u32 x0, .int .u32 x1, .int .u32 x2, .int .u32 x3, .int .u32 x4, .int .u32 x5, .int .u32 x6, .int .u32 x7] := by
        intro j v hj
        have hj8 : j < 8 := (List.getElem?_eq_some_iff.1 hj).1
        rw [Nat.zero_add, hwd j hj8]
        match j, hj8 with
        | 0, _ => exact hj
        | 1, _ => exact hj
        | 2, _ => exact hj
        | 3, _ => exact hj
        | 4, _ => exact hj
        | 5, _ => exact hj
        | 6, _ => exact hj
        | 7, _ => exact hj
      have HRG := Lib.hid hrange
      have HI25 : Hid ((Tryd.prog.info? 25).map (·.size) = some 8) := by show _ = _; kernel_rfl
      clear hrange hwd hw8
      have hszD : w.heap.size < w6.heap.size := by have := HS1.out; omega
      obtain ⟨wo, rfl⟩ : ∃ wo : World, wo = wr := ⟨_, rfl⟩
      generalize hDD : w6.heap.size = D at *
      have hne : w.heap.size ≠ D := by omega
      clear hDD
      go_wp2_with (refine wpList_load_mid rfl 25 _ rfl b 0 rfl [.int .u32 x0, .int .u32 x1, .int .u32 x2, .int .u32 x3, .int .u32 x4, .int .u32 x5, .int .u32 x6, .int .u32 x7] _ HRG.out Tryd.underlying25 rfl HI25.out ?_)
      go_loopw [47] (fun s47 wq => ∃ k : Nat, k ≤ 8 ∧ s47 = .int .i64 k ∧ BlkL wq D (byteVals (wordsBytes ([x0, x1, x2, x3, x4, x5, x6, x7].take k)) ++ List.replicate (32 - 4 * k) (Value.int .u8 0)) 30 ∧ Blk wq w.heap.size zero32 30 ∧ Chg (some b) w wq) (fun s47 _ => 8 - (intOf s47).toNat)
      case atStart => exact ⟨0, by omega, rfl, hD, hR7, g7⟩
      case round =>
        obtain ⟨k, hk, rfl, hDk, hRk, hgk⟩ := hrel
        clear hD hR7 g7 HRG
        by_cases hlt2 : k < 8
        · have ix := index25_at x0 x1 x2 x3 x4 x5 x6 x7 k hlt2
          have hwt := words_take [x0, x1, x2, x3, x4, x5, x6, x7] k hlt2
          have hPl : (byteVals (wordsBytes ([x0, x1, x2, x3, x4, x5, x6, x7].take k))).length = 4 * k := by
            rw [byteVals_len, wordsBytes_len, List.length_take]
            show 4 * min k 8 = 4 * k
            omega
          generalize [x0, x1, x2, x3, x4, x5, x6, x7].getD k 0 = X at *
          have hset := (((BlkL.set hDk (4 * k) (byteV (X / 16777216))).set (4 * k + 1) (byteV (X / 65536))).set (4 * k + 2) (byteV (X / 256))).set (4 * k + 3) (byteV X)
          rw [show 32 - 4 * k = (32 - 4 * (k + 1)) + 4 by omega, set_four _ _ _ _ _ _ _ _ hPl, ← List.append_assoc, ← wordBytes_vals, byteVals_append, ← hwt] at hset
          have hzc : ∀ i, 4 * k ≤ i → i < 4 * k + 4 → wr.cell? ⟨D, i, none⟩ = some (.int .u8 0) := fun i h1 h2 => by
            rw [BlkL.cell hDk, List.getElem?_append_right (by omega), hPl, List.getElem?_replicate, if_pos (by omega)]
          have z0 := hzc (4 * k) (by omega) (by omega)
          have z1 := hzc (4 * k + 1) (by omega) (by omega)
          have z2 := hzc (4 * k + 2) (by omega) (by omega)
          have z3 := hzc (4 * k + 3) (by omega) (by omega)
          have hfz := Blk.frozen hDk
          have HSET := Lib.hid hset
          have HWT := Lib.hid hwt
          have HPL := Lib.hid hPl
          clear hset hzc hwt hPl
          go_wp2_with fail
          go_roundw
          case rel => exact ⟨k + 1, by omega, by go_num, HSET.out, (((hRk.setOther _ _ hne).setOther _ _ hne).setOther _ _ hne).setOther _ _ hne, (((hgk.setNew _ (Nat.le_of_lt hszD) _).setNew _ (Nat.le_of_lt hszD) _).setNew _ (Nat.le_of_lt hszD) _).setNew _ (Nat.le_of_lt hszD) _⟩
          case measure => first | (simp [intOf]; done) | (simp [intOf]; omega)
        · obtain rfl : k = 8 := by omega
          have hd8 : decide (((8 : Nat) : Int) < 8) = false := by decide
          change BlkL wr D (byteVals (wordsBytes [x0, x1, x2, x3, x4, x5, x6, x7]) ++ []) 30 at hDk
          rw [List.append_nil, ← HWS.out] at hDk
          have hcs : (byteVals (dig m)).toArray.size = 32 := by rw [List.size_toArray, byteVals_len, dig_len]
          have hone : (byteVals (dig m)).toArray.all (·.oneCell') = true := Array.all_eq_true_iff_forall_mem.2 (fun v hv => byteVals_one _ v (by simpa using hv))
          have hinf : (Tryd.prog.info? 30).map (·.size) = some (byteVals (dig m)).toArray.size := by rw [hcs]; kernel_rfl
          have HI := Lib.hid hinf
          have HO := Lib.hid hone
          have HC := Lib.hid hcs
          have HZ : zero32.size = 32 := rfl
          clear hinf hone hcs
          go_wp2_with (first | (refine wpList_load_row rfl 30 _ rfl D rfl 30 _ (0, 0) _ hDk Tryd.underlying30 rfl HI.out ?_) | (refine wpList_store_row rfl 30 _ _ rfl w.heap.size (byteVals (dig m)).toArray rfl rfl 30 _ hRk HI.out (by rw [HC.out]; rfl) HO.out ?_))
          refine bodyPost_ret (results_cell_row (p := 2) (ty := 30) Tryd.results55 _ _ w.heap.size 30 (byteVals (dig m)).toArray (0, 0) _ rfl (setRow_heap _ _ _ _ _ _ hRk) Tryd.underlying30 rfl HI.out) rfl ⟨rfl, ?_⟩
          exact Chg.own (b := w.heap.size) hgk ⟨rfl, rfl, rfl, by simp [World.setRow], fun i _ hn => setRow_other _ _ i _ (by simpa using hn)⟩ (Nat.le_refl _)

end Go.Proofs.YtglfakglcoffkaaDoor
