/-
  Package hmac: digest, Tag.
-/
import Derived.Test.YtehpigmcmgfkoaaDoorH2
namespace Go.Proofs.YtehpigmcmgfkoaaDoor
open Go.RowKit

theorem Tryd.info22 : (Tryd.prog.info? 22).map (fun i => (i.zero, i.size, i.bytes)) = some (some (.slice none 0 0), 1, 24) := by kernel_rfl

theorem parts_reads {w : World} {A : Option Addr} {L : List Prt} (h : PartsAt w A L) : Reads w w.heap.size 1 A L.length (L.map Prt.val) :=
  ⟨by simp, fun h0 => by
    obtain ⟨b, off, e, hlt, hc⟩ := h.at_ h0
    refine ⟨_, e, hlt, fun j u hu => ?_⟩
    rw [Go.WideShapes.add_plain]
    rw [List.getElem?_map, Option.map_eq_some_iff] at hu
    obtain ⟨p, h1, rfl⟩ := hu
    exact hc j p h1⟩
theorem parts_of_own {w : World} {base n c : Nat} {A : Option Addr} {L : List Prt} (h : w.ownsRow base 22 1 (.slice A n c) n (L.map Prt.val)) (hok : ∀ p ∈ L, p.ok w) : PartsAt w A L ∧ n = L.length := by
  have hl := h.1
  rw [List.length_map, Nat.mul_one] at hl
  refine ⟨⟨fun h0 => ?_, hok⟩, hl.symm⟩
  rcases h.2 with ⟨h1, h2⟩ | ⟨g, cap, cur, h1, h2, h3, h4, h5, h6, h7⟩
  · omega
  · injection h1 with e1 e2 e3
    refine ⟨g, 0, e1, (Array.getElem?_eq_some_iff.1 h3).1, fun j p hj => ?_⟩
    have := h.cells (g := g) (by rw [e1]; rfl) j p.val (by rw [List.getElem?_map, hj]; rfl)
    rwa [Go.WideShapes.add_plain] at this
theorem prt_one (L : List Prt) : ∀ v ∈ L.map Prt.val, v.oneCell' = true := by
  intro v hv
  obtain ⟨p, _, rfl⟩ := List.mem_map.1 hv
  rfl

set_option maxRecDepth 100000 in
set_option maxHeartbeats 4000000 in
theorem hdig_any (k : List UInt8) (hk : k.length = 64) (A : Option Addr) (L : List Prt) (c : Nat) (w : World) (hA : PartsAt w A L) (hx : (joined L).length < 100000000) (hL : L.length ≤ 1000000) (hT : Tabs w) :
    Calls Tryd.prog 42 #[.agg (byteVals k).toArray, .slice A L.length c] w fun e w' => e = .returned (.agg (byteVals (dig (k ++ joined L))).toArray) ∧ Chg none w w' := by
  obtain ⟨i0, hi, hz0, hz1, hz2⟩ := info_parts Tryd.info22
  obtain ⟨W2, hW2⟩ : ∃ W2, W2 = (w.alloc (.cells (byteVals k).toArray 67)).alloc (.cells zero32 30) := ⟨_, rfl⟩
  have g2 : Chg none w W2 := by rw [hW2]; exact ((Chg.refl _ _).alloc _).alloc _
  have bK : BlkL W2 w.heap.size (byteVals k) 67 := by rw [hW2]; exact Blk.alloc (Blk.new _ _ _) _
  have bR : Blk W2 (w.heap.size + 1) zero32 30 := by
    rw [hW2]
    have h := Blk.new (w.alloc (.cells (byteVals k).toArray 67)) zero32 30
    rw [show (w.alloc (.cells (byteVals k).toArray 67)).heap.size = w.heap.size + 1 by simp] at h
    exact h
  obtain ⟨CK, hCK⟩ : ∃ CK, CK = (byteVals k).toArray := ⟨_, rfl⟩
  rw [← hCK]
  rw [← hCK] at hW2
  have HW : Hid ((w.alloc (.cells CK 67)).alloc (.cells #[Value.int IntKind.u8 0, Value.int IntKind.u8 0, Value.int IntKind.u8 0, Value.int IntKind.u8 0, Value.int IntKind.u8 0, Value.int IntKind.u8 0, Value.int IntKind.u8 0, Value.int IntKind.u8 0, Value.int IntKind.u8 0, Value.int IntKind.u8 0, Value.int IntKind.u8 0, Value.int IntKind.u8 0, Value.int IntKind.u8 0, Value.int IntKind.u8 0, Value.int IntKind.u8 0, Value.int IntKind.u8 0, Value.int IntKind.u8 0, Value.int IntKind.u8 0, Value.int IntKind.u8 0, Value.int IntKind.u8 0, Value.int IntKind.u8 0, Value.int IntKind.u8 0, Value.int IntKind.u8 0, Value.int IntKind.u8 0, Value.int IntKind.u8 0, Value.int IntKind.u8 0, Value.int IntKind.u8 0, Value.int IntKind.u8 0, Value.int IntKind.u8 0, Value.int IntKind.u8 0, Value.int IntKind.u8 0, Value.int IntKind.u8 0] 30) = W2) := hW2.symm
  have hA2 := hA.chg g2
  have hT2 := hT.chg g2 (by simp)
  clear hW2 hA hT hCK
  obtain ⟨k0, kt, rfl⟩ : ∃ a b, k = a :: b := by
    match k, hk with
    | a :: b, _ => exact ⟨a, b, rfl⟩
  have hkt : kt.length = 63 := by simpa using hk
  go_enter Tryd.func42, Tryd.ntmps42
  go_upto_region 1 with (fail)
  have e1 := HW.out
  rw [e1]
  clear e1
  have hpRK : w.heap.size + 1 ≠ w.heap.size := by omega
  obtain ⟨B0, hB0⟩ : ∃ B0, B0 = w.heap.size := ⟨_, rfl⟩
  generalize hpR : w.heap.size + 1 = pR at *
  generalize hpK : w.heap.size = pK at *
  have HPK := Lib.hid hpK
  have HPR := Lib.hid hpR
  clear hpK hpR hB0
  have hA3 : PartsAt (W2.alloc (.cells #[.slice (some ⟨pK, 1, none⟩) 63 63] 22)) A L := hA2.chg ((Chg.refl _ _).alloc _)
  have HRD := Lib.hid (parts_reads hA3)
  have HO1 := Lib.hid (prt_one L)
  have hown : (W2.alloc (.cells #[.slice (some ⟨pK, 1, none⟩) 63 63] 22)).ownsRow W2.heap.size 22 1 (.slice (some ⟨W2.heap.size, 0, none⟩) 1 1) 1 ([(⟨some ⟨pK, 1, none⟩, kt, 63⟩ : Prt)].map Prt.val) := by
    refine ⟨rfl, .inr ⟨W2.heap.size, 1, _, rfl, Nat.le_refl _, heap_alloc_new _ _, Nat.le_refl _, by unfold maxLen; decide, rfl, ?_⟩⟩
    simp [Prt.val, hkt]
  have HOWN := Lib.hid hown
  have gA : Chg none w (W2.alloc (.cells #[.slice (some ⟨pK, 1, none⟩) 63 63] 22)) := g2.alloc _
  have gA2 : Chg none W2 (W2.alloc (.cells #[.slice (some ⟨pK, 1, none⟩) 63 63] 22)) := (Chg.refl _ _).alloc _
  clear hown hA3
  go_wp2_with (at_builtin; refine wpList_append_any _ rfl (.tmp 7) (.tmp 8) 34 rfl W2.heap.size 22 i0 (.slice none 0 0) 1 24 Tryd.underlying34 hi hz0 hz1 hz2 rfl (by decide) _ 1 ([(⟨some ⟨pK, 1, none⟩, kt, 63⟩ : Prt)].map Prt.val) rfl HOWN.out _ A L.length c (L.map Prt.val) rfl HRD.out HO1.out ?d1 ?d2 ?d3 ?_)
  case d1 => unfold maxLen; omega
  case d2 => omega
  case d3 => simp
  intro v3 w3 hown3 hgr3 _
  change w3.ownsRow W2.heap.size 22 1 v3 (1 + L.length) (([(⟨some ⟨pK, 1, none⟩, kt, 63⟩ : Prt)] ++ L).map Prt.val) at hown3
  obtain ⟨A3, c3, rfl⟩ := own_slice hown3
  have g3 : Chg none w w3 := own_chg gA HOWN.out g2.size hgr3
  have g23 : Chg none W2 w3 := own_chg gA2 HOWN.out (Nat.le_refl _) hgr3
  have bK3 := Blk.chg bK g23 (by simp)
  have bR3 := bR.chg g23 (by simp)
  have hT3 := hT2.chg g23 (by simp)
  have hK3 : Txt w3 (some ⟨pK, 1, none⟩) kt := fun _ => ⟨pK, 1, rfl, bK3.lt, fun j x hj => by
    rw [BlkL.cell bK3]
    exact byteVals_get (by rw [Nat.add_comm, List.getElem?_cons_succ]; exact hj)⟩
  obtain ⟨hP3, hl3⟩ := parts_of_own hown3 (fun p hp => by
    rcases List.mem_append.1 hp with h | h
    · obtain rfl := List.mem_singleton.1 h
      exact ⟨hK3, by show kt.length ≤ 63; omega⟩
    · exact (hA2.all p h).chg g23)
  have ck0 : w3.cell? ⟨pK, 0, none⟩ = some (.int .u8 k0.toNat) := by rw [BlkL.cell bK3]; rfl
  have hj : k0 :: joined ([(⟨some ⟨pK, 1, none⟩, kt, 63⟩ : Prt)] ++ L) = k0 :: kt ++ joined L := by
    show k0 :: ((kt ++ joined L)) = _
    rfl
  have hpa := parts_any k0 A3 ([(⟨some ⟨pK, 1, none⟩, kt, 63⟩ : Prt)] ++ L) c3 w3 hP3 (by
    have := congrArg List.length hj
    rw [List.length_cons, List.length_append, List.length_cons] at this
    omega) (by rw [List.length_append, List.length_singleton]; omega) hT3
  rw [hj, ← hl3] at hpa
  have HPA := Lib.hid hpa
  obtain ⟨m, hm⟩ : ∃ m, m = k0 :: kt ++ joined L := ⟨_, rfl⟩
  have HM := Lib.hid hm
  clear hgr3 hown3 HOWN HRD HO1 gA gA2 bK bR hA2 hT2 hK3 hP3 hl3 hj hpa hm
  go_wp2_with fail
  refine HPA.out.mono ?_
  rintro e w4 ⟨rfl, g4⟩
  rw [← HM.out]
  have bR4 := bR3.chg g4 (by simp)
  obtain ⟨hds, hdo⟩ := row_facts (dig m) 32 (dig_len m)
  have HI : Hid ((Tryd.prog.info? 30).map (·.size) = some (byteVals (dig m)).toArray.size) := by rw [hds]; show _ = _; kernel_rfl
  have HZ : Hid (zero32.size = (byteVals (dig m)).toArray.size) := by rw [hds]; rfl
  have HO := Lib.hid hdo
  have g04 := g3.trans g4
  clear hds hdo bR3 g4 bK3 g23 hT3 HPA
  go_wp2_with (refine wpList_store_row rfl 30 _ _ rfl pR (byteVals (dig m)).toArray rfl rfl 30 _ bR4 HI.out HZ.out HO.out ?_)
  refine bodyPost_ret (results_cell_row (p := 4) (ty := 30) Tryd.results42 _ _ pR 30 (byteVals (dig m)).toArray (0, 0) _ rfl (setRow_heap _ _ _ _ _ _ bR4) Tryd.underlying30 rfl HI.out) rfl ⟨by rw [HM.out]; rfl, ?_⟩
  exact Chg.own (b := pR) g04 (chg_setRow _ _ _) (by rw [HPK.out, ← HPR.out]; omega)

end Go.Proofs.YtehpigmcmgfkoaaDoor
