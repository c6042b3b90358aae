/-
  Package program: Bytes.
-/
import Derived.Test.YtglfakglcoffkaaDoorIX
import Derived.Laws.BytesArg
namespace Go.Proofs.YtglfakglcoffkaaDoor
open Go.RowKit

set_option maxHeartbeats 8000000 in
set_option maxRecDepth 100000 in
theorem bytes_no (L : List Ins) (A : Option Addr) (c : Nat) (w : World) (hr : RowsAt w 6 A insCells L) (hx : ∀ x ∈ L, x.fits) (hl : L.length ≤ 9223372036854775807) (hF : Flds w) (hm : mayB L = false) :
    Calls Tryd.prog 34 #[.slice A L.length c] w fun e w' => e = .returned (.tuple #[.slice none 0 0, .int .i64 2]) ∧ Chg none w w' := by
  have HM := Lib.hid (may_any L A c w hr hx hl hF)
  rw [hm] at HM
  clear hr hx hl hF hm
  go_enter Tryd.func34, Tryd.ntmps34
  go_wp2_with fail
  refine HM.out.mono ?_
  rintro e w1 ⟨rfl, g1⟩
  go_wp2_with fail
  go_ret2
  exact ⟨rfl, g1⟩

set_option maxHeartbeats 32000000 in
set_option maxRecDepth 100000 in
theorem bytes_yes (L : List Ins) (A : Option Addr) (c : Nat) (w : World) (hr : RowsAt w 6 A insCells L) (hx : ∀ x ∈ L, x.fits) (hF : Flds w) (hm : mayB L = true) :
    Calls Tryd.prog 34 #[.slice A L.length c] w fun e w' => ∃ A' n c', e = .returned (.tuple #[.slice A' n c', .int .i64 0]) ∧ ByAt w w' A' n c' (progB L) := by
  have hl : L.length ≤ 30 := (mayB_small hm).1
  have HSM := Lib.hid (mayB_small hm).2
  have HMY := Lib.hid (may_any L A c w hr hx (by omega) hF)
  rw [hm] at HMY
  have HR : Hid (∀ v, Chg none w v → RowsAt v 6 A insCells L) := fun v g => hr.chg g
  have HPL : Hid (∀ k, (partB L k).length ≤ 10000) := partB_len hm
  have HU : Hid (∀ (v : World) (A : Option Addr) (n c : Nat) (bs : List UInt8) (m : Nat), ByAt w v A n c bs → bs.length ≤ 20000 → m < 18446744073709551616 →
      Calls Tryd.prog 61 #[.slice A n c, .int .u64 m] v fun e w' => ∃ A' n' c', e = .returned (.slice A' n' c') ∧ ByAt w w' A' n' c' (bs ++ form m) ∧ Chg none v w') := fun v A n c bs m h h1 h2 => put_u m h (by omega) h2
  have HB : Hid (∀ (v : World) (A : Option Addr) (n c : Nat) (bs : List UInt8) (Ax : Option Addr) (x : List UInt8) (cx : Nat), ByAt w v A n c bs → bs.length ≤ 20000 → Reads v v.heap.size 1 Ax x.length (byteVals x) → x.length ≤ 40 →
      Calls Tryd.prog 62 #[.slice A n c, .slice Ax x.length cx] v fun e w' => ∃ A' n' c', e = .returned (.slice A' n' c') ∧ ByAt w w' A' n' c' (bs ++ row x) ∧ Chg none v w') := fun v A n c bs Ax x cx h h1 h2 h3 => put_b Ax x cx h (by omega) h2 (by omega)
  clear hr hx hF hm
  have hwl : IntKind.u64.wrap (L.length : Int) = (L.length : Int) := by rw [IntKind.wrap_u64]; omega
  go_enter Tryd.func34, Tryd.ntmps34
  go_wp2_with fail
  refine HMY.out.mono ?_
  rintro e w1 ⟨rfl, g1⟩
  have B1 : Hid (ByAt w w1 none 0 0 []) := ⟨rfl, World.ownsRow_nil _ _ _ _, g1⟩
  have HU1 := Lib.hid (HU.out w1 none 0 0 [] L.length B1.out (by simp) (by omega))
  clear g1 HMY
  go_wp2_with fail
  refine HU1.out.mono ?_
  rintro e w2 ⟨A2, n2, c2, rfl, hb2, -⟩
  have B2 : Hid (ByAt w w2 A2 n2 c2 (partB L 0)) := by
    show ByAt _ _ _ _ _ _
    have e : partB L 0 = [] ++ form L.length := by unfold partB; simp
    rw [e]; exact hb2
  clear hb2 HU1 B1 hwl
  go_wp2_with fail
  go_loopw [4, 20] (fun s4 s20 wr => ∃ (k : Nat) (A1 : Option Addr) (n1 c1 : Nat), s20 = .int .i64 k ∧ s4 = .slice A1 n1 c1 ∧ Hid (k ≤ L.length) ∧ Hid (ByAt w wr A1 n1 c1 (partB L k))) (fun _ s20 _ => L.length - (intOf s20).toNat)
  case atStart => exact ⟨0, A2, n2, c2, rfl, rfl, Lib.hid (Nat.zero_le _), B2⟩
  case round =>
    obtain ⟨k, A1, n1, c1, rfl, rfl, H1, H2⟩ := hrel
    by_cases hlt : k < L.length
    · have hd : decide ((k : Int) < (L.length : Int)) = true := by rw [decide_eq_true_eq]; omega
      obtain ⟨x, hkx⟩ : ∃ x, L[k]? = some x := ⟨_, List.getElem?_eq_getElem hlt⟩
      have hne : L ≠ [] := by intro e; subst e; simp at hlt
      have HRW := Lib.hid (HR.out wr H2.out.2.2)
      obtain ⟨b, off, rfl, -, -⟩ := HRW.out hne
      obtain ⟨hb, x0, x1, x2, x3, x4, x5⟩ := HRW.out.six hkx
      have HLT := Lib.hid hlt
      have HSX := Lib.hid (HSM.out x (List.mem_of_getElem? hkx))
      have HPS := Lib.hid (partB_succ hkx)
      obtain ⟨V0, hV⟩ : ∃ V0, V0 = wr := ⟨_, rfl⟩
      rw [← hV] at hb x0 x1 x2 x3 x4 x5 H2 ⊢
      clear hV hkx hne HRW HR hlt HSM B2
      obtain ⟨op, sa, sb, sc, xn, xm⟩ := x
      dsimp only at x0 x1 x2 x3 x4 x5
      obtain ⟨xN, rfl⟩ : ∃ xN : Nat, xn = xN := ⟨xn.toNat, by have := HSX.out.n; dsimp only at this; omega⟩
      obtain ⟨xM, rfl⟩ : ∃ xM : Nat, xm = xM := ⟨xm.toNat, by have := HSX.out.m; dsimp only at this; omega⟩
      have hopw : IntKind.u64.wrap (op : Int) = (op : Int) := by have := HSX.out.op; dsimp only at this; rw [IntKind.wrap_u64]; omega
      go_upto_region 7 with fail
      have HG0 : Hid (Chg none V0 (V0.alloc (.cells #[.int .u8 op, .string ⟨sa.toArray⟩, .string ⟨sb.toArray⟩, .string ⟨sc.toArray⟩, .int .i64 (xN : Nat), .int .i64 (xM : Nat)] 61))) := (Chg.refl _ _).alloc _
      have HX0 : Hid (Blk (V0.alloc (.cells #[.int .u8 op, .string ⟨sa.toArray⟩, .string ⟨sb.toArray⟩, .string ⟨sc.toArray⟩, .int .i64 (xN : Nat), .int .i64 (xM : Nat)] 61)) V0.heap.size #[.int .u8 op, .string ⟨sa.toArray⟩, .string ⟨sb.toArray⟩, .string ⟨sc.toArray⟩, .int .i64 (xN : Nat), .int .i64 (xM : Nat)] 61) := blk_newAt _ _ _ rfl
      generalize V0.alloc (.cells #[.int .u8 op, .string ⟨sa.toArray⟩, .string ⟨sb.toArray⟩, .string ⟨sc.toArray⟩, .int .i64 (xN : Nat), .int .i64 (xM : Nat)] 61) = W0 at *
      have B0 := Lib.hid (H2.out.chg HG0.out)
      have HBX : Hid (∀ v, Chg none W0 v → Blk v V0.heap.size #[.int .u8 op, .string ⟨sa.toArray⟩, .string ⟨sb.toArray⟩, .string ⟨sc.toArray⟩, .int .i64 (xN : Nat), .int .i64 (xM : Nat)] 61) := fun v g => HX0.out.chg g (by simp)
      have q0 : W0.cell? ⟨V0.heap.size, 0, none⟩ = some (.int .u8 op) := HX0.out.cell 0
      have HU2 := Lib.hid (HU.out W0 A1 n1 c1 (partB L k) op B0.out (by have := HPL.out k; omega) (by have := HSX.out.op; dsimp only at this; omega))
      clear HX0 HG0 x0 x1 x2 x3 x4 x5 hb H2
      generalize V0.heap.size = PX at *
      go_wp2_with fail
      refine HU2.out.mono ?_
      rintro e v3 ⟨A3, n3, c3, rfl, hb3, hg3⟩
      have B3 : Hid (ByAt w v3 A3 n3 c3 (partB L k ++ (form op ++ ([sa, sb, sc].take 0).flatMap row))) := by
        show ByAt _ _ _ _ _ _
        simpa using hb3
      have G3 := Lib.hid hg3
      have q1 : v3.cell? ⟨PX, 1, none⟩ = some (.string ⟨sa.toArray⟩) := (HBX.out v3 hg3).cell 1
      have q2 : v3.cell? ⟨PX, 2, none⟩ = some (.string ⟨sb.toArray⟩) := (HBX.out v3 hg3).cell 2
      have q3 : v3.cell? ⟨PX, 3, none⟩ = some (.string ⟨sc.toArray⟩) := (HBX.out v3 hg3).cell 3
      clear hb3 hg3 HU2 q0 hopw
      go_wp2_with fail
      clear q1 q2 q3
      go_loopw [4, 36] (fun s4 s36 wq => ∃ (j : Nat) (A4 : Option Addr) (n4 c4 : Nat), s36 = .int .i64 j ∧ s4 = .slice A4 n4 c4 ∧ Hid (j ≤ 3) ∧ Hid (ByAt w wq A4 n4 c4 (partB L k ++ (form op ++ ([sa, sb, sc].take j).flatMap row))) ∧ Hid (Chg none W0 wq)) (fun _ s36 _ => 3 - (intOf s36).toNat)
      case atStart => exact ⟨0, A3, n3, c3, rfl, rfl, Lib.hid (by decide), B3, G3⟩
      case round =>
        obtain ⟨j, A4, n4, c4, rfl, rfl, J1, J2, J3⟩ := hrel
        have hj3 := J1.out
        clear B3 G3
        rcases (show j = 0 ∨ j = 1 ∨ j = 2 ∨ j = 3 by omega) with rfl | rfl | rfl | hje
        · clear hj3
          have ix := fun v => index100_0 v ⟨sa.toArray⟩ ⟨sb.toArray⟩ ⟨sc.toArray⟩
          have cs := fun v => conv_sb sa v
          have hrd := sb_reads sa wr
          have hcg := sb_chg ⟨sa.toArray⟩ wr
          have HB5 := fun cx => HB.out (Lib.bytesWorld wr 5 ⟨sa.toArray⟩) A4 n4 c4 _ (some ⟨wr.heap.size, 0, none⟩) sa cx (J2.out.chg hcg) (by
            have h1 := HPL.out k
            have h2 := form_small op (by have := HSX.out.op; dsimp only at this; omega)
            have h3 := row_len sa (by have := HSX.out.a; dsimp only at this; omega)
            have h4 := row_len sb (by have := HSX.out.b; dsimp only at this; omega)
            have h5 := HSX.out.a
            have h6 := HSX.out.b
            dsimp only at h5 h6
            simp only [List.length_append, List.take_zero, List.flatMap_nil, List.length_nil]
            omega) hrd HSX.out.a
          have HB6 := Lib.hid HB5
          have HCG := Lib.hid (J3.out.trans hcg)
          clear hrd hcg HB5
          go_wp2_with fail
          refine (HB6.out _).mono ?_
          rintro e v5 ⟨A5, n5, c5, rfl, hb5, hg5⟩
          have B5 : Hid (ByAt w v5 A5 n5 c5 (partB L k ++ (form op ++ ([sa, sb, sc].take 1).flatMap row))) := by
            show ByAt _ _ _ _ _ _
            simpa using hb5
          have G5 := Lib.hid (HCG.out.trans hg5)
          clear hb5 hg5 ix cs
          go_wp2_with fail
          go_roundw
          case rel => exact ⟨1, A5, n5, c5, by first | rfl | (simp; done), rfl, Lib.hid (by decide), B5, G5⟩
          case measure => first | omega | (simp only [intOf]; omega) | (simp [intOf]; done)
        · clear hj3
          have ix := fun v => index100_1 v ⟨sa.toArray⟩ ⟨sb.toArray⟩ ⟨sc.toArray⟩
          have cs := fun v => conv_sb sb v
          have hrd := sb_reads sb wr
          have hcg := sb_chg ⟨sb.toArray⟩ wr
          have HB5 := fun cx => HB.out (Lib.bytesWorld wr 5 ⟨sb.toArray⟩) A4 n4 c4 _ (some ⟨wr.heap.size, 0, none⟩) sb cx (J2.out.chg hcg) (by
            have h1 := HPL.out k
            have h2 := form_small op (by have := HSX.out.op; dsimp only at this; omega)
            have h3 := row_len sa (by have := HSX.out.a; dsimp only at this; omega)
            have h4 := row_len sb (by have := HSX.out.b; dsimp only at this; omega)
            have h5 := HSX.out.a
            have h6 := HSX.out.b
            dsimp only at h5 h6
            simp only [List.length_append, List.take_succ_cons, List.take_zero, List.flatMap_cons, List.flatMap_nil, List.length_nil]
            omega) hrd HSX.out.b
          have HB6 := Lib.hid HB5
          have HCG := Lib.hid (J3.out.trans hcg)
          clear hrd hcg HB5
          go_wp2_with fail
          refine (HB6.out _).mono ?_
          rintro e v5 ⟨A5, n5, c5, rfl, hb5, hg5⟩
          have B5 : Hid (ByAt w v5 A5 n5 c5 (partB L k ++ (form op ++ ([sa, sb, sc].take 2).flatMap row))) := by
            show ByAt _ _ _ _ _ _
            simpa using hb5
          have G5 := Lib.hid (HCG.out.trans hg5)
          clear hb5 hg5 ix cs
          go_wp2_with fail
          go_roundw
          case rel => exact ⟨2, A5, n5, c5, by first | rfl | (simp; done), rfl, Lib.hid (by decide), B5, G5⟩
          case measure => first | omega | (simp only [intOf]; omega) | (simp [intOf]; done)
        · clear hj3
          have ix := fun v => index100_2 v ⟨sa.toArray⟩ ⟨sb.toArray⟩ ⟨sc.toArray⟩
          have cs := fun v => conv_sb sc v
          have hrd := sb_reads sc wr
          have hcg := sb_chg ⟨sc.toArray⟩ wr
          have HB5 := fun cx => HB.out (Lib.bytesWorld wr 5 ⟨sc.toArray⟩) A4 n4 c4 _ (some ⟨wr.heap.size, 0, none⟩) sc cx (J2.out.chg hcg) (by
            have h1 := HPL.out k
            have h2 := form_small op (by have := HSX.out.op; dsimp only at this; omega)
            have h3 := row_len sa (by have := HSX.out.a; dsimp only at this; omega)
            have h4 := row_len sb (by have := HSX.out.b; dsimp only at this; omega)
            have h5 := HSX.out.a
            have h6 := HSX.out.b
            dsimp only at h5 h6
            simp only [List.length_append, List.take_succ_cons, List.take_zero, List.flatMap_cons, List.flatMap_nil, List.length_nil]
            omega) hrd HSX.out.c
          have HB6 := Lib.hid HB5
          have HCG := Lib.hid (J3.out.trans hcg)
          clear hrd hcg HB5
          go_wp2_with fail
          refine (HB6.out _).mono ?_
          rintro e v5 ⟨A5, n5, c5, rfl, hb5, hg5⟩
          have B5 : Hid (ByAt w v5 A5 n5 c5 (partB L k ++ (form op ++ ([sa, sb, sc].take 3).flatMap row))) := by
            show ByAt _ _ _ _ _ _
            simpa using hb5
          have G5 := Lib.hid (HCG.out.trans hg5)
          clear hb5 hg5 ix cs
          go_wp2_with fail
          go_roundw
          case rel => exact ⟨3, A5, n5, c5, by first | rfl | (simp; done), rfl, Lib.hid (by decide), B5, G5⟩
          case measure => first | omega | (simp only [intOf]; omega) | (simp [intOf]; done)
        · clear hj3
          have hd3 : decide (j < 3) = false := by rw [decide_eq_false_iff_not]; omega
          have hd4 : decide ((j : Int) < 3) = false := by rw [decide_eq_false_iff_not]; omega
          rw [hje] at J2
          clear hje J1
          have r4 : wr.cell? ⟨PX, 4, none⟩ = some (.int .i64 (xN : Nat)) := (HBX.out wr J3.out).cell 4
          have r5 : wr.cell? ⟨PX, 5, none⟩ = some (.int .i64 (xM : Nat)) := (HBX.out wr J3.out).cell 5
          have J2' : Hid (ByAt w wr A4 n4 c4 (partB L k ++ (form op ++ (row sa ++ (row sb ++ (row sc ++ ([(xN : Int), (xM : Int)].take 0).flatMap fun z => form z.toNat)))))) := by
            show ByAt _ _ _ _ _ _
            simpa using J2.out
          clear J2
          go_wp2_with fail
          clear r4 r5
          go_loopw [4, 49] (fun s4 s49 wq => ∃ (i : Nat) (A7 : Option Addr) (n7 c7 : Nat), s49 = .int .i64 i ∧ s4 = .slice A7 n7 c7 ∧ Hid (i ≤ 2) ∧ Hid (ByAt w wq A7 n7 c7 (partB L k ++ (form op ++ (row sa ++ (row sb ++ (row sc ++ ([(xN : Int), (xM : Int)].take i).flatMap fun z => form z.toNat))))))) (fun _ s49 _ => 2 - (intOf s49).toNat)
          case atStart => exact ⟨0, A4, n4, c4, rfl, rfl, Lib.hid (by decide), J2'⟩
          case round =>
            clear J2' J3
            obtain ⟨i, A7, n7, c7, rfl, rfl, I1, I2⟩ := hrel
            have hi3 := I1.out
            rcases (show i = 0 ∨ i = 1 ∨ i = 2 by omega) with rfl | rfl | rfl
            · clear hi3
              have ix := fun v => index101_0 v xN xM
              have hnn : 0 ≤ (xN : Int) ∧ (xN : Int) ≤ 2000 := HSX.out.n
              have hww : IntKind.u64.wrap ((xN : Nat) : Int) = ((xN : Nat) : Int) := by rw [IntKind.wrap_u64]; omega
              have HU6 := Lib.hid (HU.out wr A7 n7 c7 _ xN I2.out (by
                have h1 := HPL.out k
                have h2 := form_small op (by have := HSX.out.op; dsimp only at this; omega)
                have h3 := row_len sa (by have := HSX.out.a; dsimp only at this; omega)
                have h4 := row_len sb (by have := HSX.out.b; dsimp only at this; omega)
                have h7 := row_len sc (by have := HSX.out.c; dsimp only at this; omega)
                have h5 := HSX.out.a
                have h6 := HSX.out.b
                have h8 := HSX.out.c
                have h10 := HSX.out.n
                have h9 := form_small xN (by dsimp only at h10; omega)
                dsimp only at h5 h6 h8
                simp only [List.length_append, List.take_zero, List.flatMap_nil, List.length_nil]
                omega) (by omega))
              clear hnn
              go_wp2_with fail
              refine HU6.out.mono ?_
              rintro e v8 ⟨A8, n8, c8, rfl, hb8, hg8⟩
              have B8 : Hid (ByAt w v8 A8 n8 c8 (partB L k ++ (form op ++ (row sa ++ (row sb ++ (row sc ++ ([(xN : Int), (xM : Int)].take 1).flatMap fun z => form z.toNat)))))) := by
                show ByAt _ _ _ _ _ _
                simpa using hb8
              clear hb8 hg8 ix hww
              go_wp2_with fail
              go_roundw
              case rel => exact ⟨1, A8, n8, c8, by first | rfl | (simp; done), rfl, Lib.hid (by decide), B8⟩
              case measure => first | omega | (simp only [intOf]; omega) | (simp [intOf]; done)
            · clear hi3
              have ix := fun v => index101_1 v xN xM
              have hnn : 0 ≤ (xM : Int) ∧ (xM : Int) ≤ 2000 := HSX.out.m
              have hww : IntKind.u64.wrap ((xM : Nat) : Int) = ((xM : Nat) : Int) := by rw [IntKind.wrap_u64]; omega
              have HU6 := Lib.hid (HU.out wr A7 n7 c7 _ xM I2.out (by
                have h1 := HPL.out k
                have h2 := form_small op (by have := HSX.out.op; dsimp only at this; omega)
                have h3 := row_len sa (by have := HSX.out.a; dsimp only at this; omega)
                have h4 := row_len sb (by have := HSX.out.b; dsimp only at this; omega)
                have h7 := row_len sc (by have := HSX.out.c; dsimp only at this; omega)
                have h5 := HSX.out.a
                have h6 := HSX.out.b
                have h8 := HSX.out.c
                have h10 := HSX.out.n
                have h9 := form_small xN (by dsimp only at h10; omega)
                dsimp only at h5 h6 h8
                simp only [List.length_append, List.take_succ_cons, List.take_zero, List.flatMap_cons, List.flatMap_nil, List.length_nil, Int.toNat_natCast]
                omega) (by omega))
              clear hnn
              go_wp2_with fail
              refine HU6.out.mono ?_
              rintro e v8 ⟨A8, n8, c8, rfl, hb8, hg8⟩
              have B8 : Hid (ByAt w v8 A8 n8 c8 (partB L k ++ (form op ++ (row sa ++ (row sb ++ (row sc ++ ([(xN : Int), (xM : Int)].take 2).flatMap fun z => form z.toNat)))))) := by
                show ByAt _ _ _ _ _ _
                simpa using hb8
              clear hb8 hg8 ix hww
              go_wp2_with fail
              go_roundw
              case rel => exact ⟨2, A8, n8, c8, by first | rfl | (simp; done), rfl, Lib.hid (by decide), B8⟩
              case measure => first | omega | (simp only [intOf]; omega) | (simp [intOf]; done)
            · clear hi3
              have I2' : Hid (ByAt w wr A7 n7 c7 (partB L (k + 1))) := by
                show ByAt _ _ _ _ _ _
                rw [HPS.out]
                unfold insF
                simpa using I2.out
              clear I2
              go_wp2_with fail
              go_roundw
              case rel => exact ⟨k + 1, A7, n7, c7, by first | rfl | (simp; done), rfl, Lib.hid HLT.out, I2'⟩
              case measure =>
                have := HLT.out
                first | omega | (simp only [intOf]; omega) | (simp [intOf]; omega)
    · have hd : decide (k < L.length) = false := by rw [decide_eq_false_iff_not]; exact hlt
      have I2' : Hid (ByAt w wr A1 n1 c1 (progB L)) := by
        show ByAt _ _ _ _ _ _
        rw [← partB_all (k := k) (by omega)]; exact H2.out
      clear hlt H2
      go_wp2_with fail
      go_ret2
      exact ⟨A1, n1, c1, rfl, I2'.out⟩

end Go.Proofs.YtglfakglcoffkaaDoor
