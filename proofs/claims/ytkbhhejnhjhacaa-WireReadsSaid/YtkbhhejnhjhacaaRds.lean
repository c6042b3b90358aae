/-
  The law WireReads: its walk.
-/
import Derived.Test.YtkbhhejnhjhacaaP
namespace Go.Proofs.Ytkbhhejnhjhacaa
open Go.RowKit

theorem chg_of {B : Nat} {w w' u : World} (h : Chg none u w) (hb : Below B w w') (hB : u.heap.size ≤ B) : Chg none u w' :=
  ⟨hb.os.trans h.os, hb.tape.trans h.tape, hb.output.trans h.output, Nat.le_trans h.size hb.size, fun i hi hn => (hb.block i (by omega)).trans (h.block i hi hn)⟩

theorem own_below {w w' : World} {B base e size n : Nat} {v : Value} {xs : List Value} (h : w.ownsRow base e size v n xs) (hb : Below B w w') (hB : ∀ g, v.ownBlock = some g → g < B) : w'.ownsRow base e size v n xs := by
  refine ⟨h.1, ?_⟩
  rcases h.2 with h1 | ⟨g, cap, cur, h1, h2, h3, h4⟩
  · exact .inl h1
  · exact .inr ⟨g, cap, cur, h1, h2, (hb.block g (hB g (by rw [h1]; rfl))).trans h3, h4⟩

theorem u8_next (y : UInt8) : ((UInt8.ofNat (y.toNat + 1)).toNat : Int) = ((y.toNat : Int) + 1) % 256 := by
  simp

set_option maxRecDepth 100000 in
set_option maxHeartbeats 8000000 in
theorem reads_main (A : Option Addr) (bs : List UInt8) (c : Nat) (place many most : Int) (w : World) (hr : Reads w w.heap.size 1 A bs.length (byteVals bs))
    (hmy : many ≤ 9223372036854775807) (hmo : most ≤ 9223372036854775807) (hl9 : bs.length ≤ 9223372036854775807) :
    Calls Try.prog 4 #[.slice A bs.length c, .int .i64 place, .int .i64 many, .int .i64 most] w fun e w' => e = .returned (.bool true) ∧ Chg none w w' := by
  obtain ⟨i0, hi, hz0, hz1, hz2⟩ := info_parts Try.info5
  by_cases hbig : 2000 < bs.length
  · clear hr
    go_enter Try.func4, Try.ntmps4
    go_wp2_with fail
    refine (known_any _).mono ?_
    rintro e w1 ⟨rfl, g1⟩
    go_wp2_with fail
    go_ret
    exact ⟨rfl, g1⟩
  · have HO := Lib.hid (byteVals_one bs)
    have HR := Lib.hid hr
    have HR0 := Lib.hid (hr.alloc (Nat.le_refl _) (.cells #[] 5 (0, 0)))
    have hown : (w.alloc (.cells #[] 5 (0, 0))).ownsRow w.heap.size 5 1 (.slice (some ⟨w.heap.size, 0, none⟩) 0 0) 0 [] := by
      refine ⟨rfl, .inr ⟨w.heap.size, 0, #[], rfl, Nat.le_refl _, Blk.new w _ 5, ?_⟩⟩
      simp
    have HOWN := Lib.hid hown
    obtain ⟨n, nx, e1, hq⟩ : ∃ n nx er, readU bs place = (n, nx, er) := ⟨_, _, _, rfl⟩
    obtain ⟨x, xn, e2, hq2⟩ : ∃ n nx er, readB bs place most = (n, nx, er) := ⟨_, _, _, rfl⟩
    obtain ⟨ls, ln, e3, hq3⟩ : ∃ n nx er, readL bs place many most = (n, nx, er) := ⟨_, _, _, rfl⟩
    have HQ := Lib.hid hq
    have HQ2 := Lib.hid hq2
    have HQ3 := Lib.hid hq3
    clear hr hown hq hq2 hq3
    go_enter Try.func4, Try.ntmps4
    go_wp2_with (at_builtin; refine wpList_append_any _ rfl (.tmp 36) (.tmp 37) 22 rfl w.heap.size 5 i0 (.int .u8 0) 1 1 Try.underlying22 hi hz0 hz1 hz2 rfl (by decide) _ 0 [] rfl HOWN.out w.heap.size A bs.length c (byteVals bs) rfl HR0.out HO.out ?c1 ?c2 ?c3 ?_)
    case c1 => unfold maxLen; omega
    case c2 => omega
    case c3 => simp
    intro v1 w1 hown1 hgr1 hat1
    obtain ⟨A1, c1, rfl⟩ := own_slice hown1
    have hb1 : Below w.heap.size w w1 := ((Below.refl _ _).alloc (Nat.le_refl _) _).grown hgr1 (by simp) (fun g hg => by simp [Value.ownBlock] at hg; omega)
    try simp only [Nat.zero_add, List.nil_append] at hown1
    have hr1 : Reads w1 w1.heap.size 1 A1 bs.length (byteVals bs) := Reads.of_own hown1
    have hcap1 : bs.length ≤ c1 := own_cap hown1
    have hrb1 := (HR.out.below hb1).more hb1.size
    have hu1 := uint_any A1 bs c1 place w1 hr1 hcap1 (by omega)
    have hu2 := refUint_any A bs c place w1 hrb1 (by omega)
    have hx1 := bytes_any A1 bs c1 place most w1 hr1 hcap1 (by omega) hmo
    rw [HQ.out] at hu1 hu2
    rw [HQ2.out] at hx1
    have HU1 := Lib.hid hu1
    have HU2 := Lib.hid hu2
    have HX1 := Lib.hid hx1
    have HR1 := Lib.hid hr1
    have HRB1 := Lib.hid hrb1
    have g1 : Chg none w w1 := chg_of (Chg.refl none w) hb1 (Nat.le_refl _)
    clear hown1 hgr1 hat1 hr1 hrb1 hu1 hu2 hx1 HR0 HOWN HQ
    go_wp2_with fail
    refine HU1.out.mono ?_
    rintro e w' ⟨rfl, rfl⟩
    go_wp2_with fail
    refine HU2.out.mono ?_
    rintro e w' ⟨rfl, rfl⟩
    go_wp2_with fail
    refine HX1.out.mono ?_
    rintro e w2 ⟨A2, n2, c2, rfl, hn2, hown2, hb2⟩
    dsimp only at hn2 hown2
    have hs2 := hb2.size
    have HOX := Lib.hid hown2
    have HN2 := Lib.hid hn2
    have g2 := chg_of g1 hb2 hb1.size
    have hx2 := refBytes_any A bs c place most w2 ((HRB1.out.below hb2).more hs2) (by omega) hmo
    rw [HQ2.out] at hx2
    have HX2 := Lib.hid hx2
    clear hn2 hown2 hx2 HU1 HU2 HX1
    go_wp2_with fail
    refine HX2.out.mono ?_
    rintro e w3 ⟨A3, n3, c3, rfl, hn3, hown3, hb3⟩
    dsimp only at hn3 hown3
    have hs3 := hb3.size
    have HOY := Lib.hid hown3
    have HN3 := Lib.hid hn3
    have g3 := chg_of g2 hb3 (Nat.le_trans hb1.size hs2)
    have hb13 : Below w1.heap.size w1 w3 := hb2.trans (hb3.mono hs2)
    have hl1 := list_any A1 bs c1 place many most w3 ((HR1.out.below hb13).more (by omega)) hcap1 (by omega) hmy hmo
    rw [HQ3.out] at hl1
    have HL1 := Lib.hid hl1
    clear hn3 hown3 hl1 HX2
    go_wp2_with fail
    refine HL1.out.mono ?_
    rintro e w4 ⟨A4, n4, c4, rows4, rfl, hrw4, hga4, hb4⟩
    dsimp only at hrw4
    have hs4 := hb4.size
    have HG4 := Lib.hid hga4
    have HW4 := Lib.hid hrw4
    have g4 := chg_of g3 hb4 (by have := hb1.size; omega)
    have hb14 : Below w1.heap.size w1 w4 := hb13.trans (hb4.mono (by omega))
    have hl2 := refList_any A bs c place many most w4 ((HRB1.out.below hb14).more (by omega)) (by omega) hmy hmo
    rw [HQ3.out] at hl2
    have HL2 := Lib.hid hl2
    clear hga4 hrw4 hl2 HL1 HQ2 HQ3
    go_wp2_with fail
    refine HL2.out.mono ?_
    rintro e w5 ⟨A5, n5, c5, rows5, rfl, hrw5, hga5, hb5⟩
    dsimp only at hrw5
    have hs5 := hb5.size
    have HW5 := Lib.hid hrw5
    have g5 := chg_of g4 hb5 (by have := hb1.size; omega)
    have hb15 : Below w1.heap.size w1 w5 := hb14.trans (hb5.mono (by omega))
    have hb25 : Below w2.heap.size w2 w5 := (hb3.trans (hb4.mono hs3)).trans (hb5.mono (by omega))
    have hb35 : Below w3.heap.size w3 w5 := hb4.trans (hb5.mono hs4)
    have ox5 := own_below HOX.out hb25 (fun g hg => (HOX.out.lt g hg).2)
    have oy5 := own_below HOY.out hb35 (fun g hg => (HOY.out.lt g hg).2)
    have hga45 := HG4.out.kept hb5
    have cx := conv_own _ ox5
    have cy := conv_own _ oy5
    obtain rfl : n4 = rows4.length := hga45.len
    obtain rfl : n5 = rows5.length := hga5.len
    have hsm := same_any A4 A5 rows4 rows5 c4 c5 w5.heap.size w5 (Nat.le_refl _) hga45.rowsIn hga5.rowsIn (own_max hga45.list) (own_max hga5.list)
    rw [HW4.out, HW5.out, decide_eq_true rfl] at hsm
    have HSM := Lib.hid hsm
    have HOX5 := Lib.hid ox5
    have HG45 := Lib.hid hga45
    have m4 := own_max hga45.list
    have m2 := own_max ox5
    clear ox5 oy5 hga45 hga5 hrw5 hsm HL2 HOX HOY HG4
    go_wp2_with fail
    refine HSM.out.mono ?_
    rintro e w6 ⟨rfl, g6⟩
    have hb6 : Below w5.heap.size w5 w6 := g6.belowNone (Nat.le_refl _)
    have hox6 : SomeOwn w6 w1.heap.size (.slice A2 n2 c2) n2 := ⟨x, HN2.out, own_below HOX5.out hb6 (fun g hg => (HOX5.out.lt g hg).2)⟩
    have hga6 := (HG45.out.kept hb6).some
    have hs6 := hb6.size
    have HOX6 := Lib.hid hox6
    have HG6 := Lib.hid hga6
    clear hox6 hga6 cx cy HSM HOX5 HG45
    go_wp2_with fail
    have hb16 : Below w1.heap.size w1 w6 := hb15.trans (hb6.mono (by omega))
    have g6' : Chg none w w6 := g5.trans g6
    have hw36 : w1.heap.size ≤ w3.heap.size := by omega
    have hw16 : w1.heap.size ≤ w6.heap.size := by omega
    have HB16 := Lib.hid hb16
    have HC6 := Lib.hid g6'
    generalize hH1 : w1.heap.size = H1 at *
    generalize hH3 : w3.heap.size = H3 at *
    have hwH : w.heap.size ≤ H1 := by have := hb1.size; omega
    clear hb1 hb2 hb3 hb4 hb5 hb6 hb13 hb14 hb15 hb16 hb25 hb35 g1 g2 g3 g4 g5 g6 g6' hs2 hs3 hs4 hs5 hs6 hH1 hH3 HN2 HN3 HW4 HW5
    go_loopw [135] (fun v135 wr => ∃ k : Nat, k ≤ n2 ∧ v135 = .int .i64 k ∧ SomeOwn wr H1 (.slice A2 n2 c2) n2 ∧ SGath wr H3 (.slice A4 rows4.length c4) rows4.length rows4 ∧ Below H1 w6 wr) (fun v135 _ => n2 - (intOf v135).toNat)
    case atStart => exact ⟨0, by omega, rfl, HOX6.out, HG6.out, Below.refl _ _⟩
    case round =>
      obtain ⟨k, hk, rfl, hox, hga, hbl⟩ := hrel
      by_cases hlt : k < n2
      · obtain ⟨g, y, rfl, hg1, hg2, hcy, hfy⟩ := hox.at_ hlt
        have hst := And.intro (hox.store g k (UInt8.ofNat (y.toNat + 1))) (hga.store hox hw36 k (UInt8.ofNat (y.toNat + 1)))
        rw [u8_next] at hst
        have hbl' := fun v => hbl.setCell (p := ⟨g, k, none⟩) hg1 v
        have hylt := y.toNat_lt
        have HST := Lib.hid hst
        have HBL := Lib.hid hbl'
        clear hox hga hst hbl'
        go_wp2_with fail
        go_roundw
        case rel => exact ⟨k + 1, by omega, by go_num, HST.out.1, HST.out.2, HBL.out _⟩
        case measure => simp [intOf]; omega
      · obtain rfl : k = n2 := by omega
        clear hox
        have HGA := Lib.hid hga
        clear hga HOX6 HG6
        go_wp2_with fail
        obtain ⟨wo, rfl⟩ : ∃ wo : World, wo = wr := ⟨_, rfl⟩
        go_loopw [147] (fun v147 wr => ∃ j : Nat, j ≤ rows4.length ∧ v147 = .int .i64 j ∧ SGath wr H3 (.slice A4 rows4.length c4) rows4.length rows4 ∧ Below H1 w6 wr) (fun v147 _ => rows4.length - (intOf v147).toNat)
        case atStart => exact ⟨0, by omega, rfl, HGA.out, hbl⟩
        case round =>
          obtain ⟨j, hj, rfl, hga, hbl2⟩ := hrel
          by_cases hlt2 : j < rows4.length
          · obtain ⟨⟨rA, rc, rb⟩, hrj⟩ : ∃ r, rows4[j]? = some r := ⟨_, List.getElem?_eq_getElem hlt2⟩
            obtain ⟨g4, cap4, hv4, hg41, hg42⟩ := hga.list.form (by omega)
            injection hv4 with hA4 _ hc4
            subst hA4 hc4
            have hcl := hga.list.cellAt j (by omega)
            rw [List.getElem?_map, hrj] at hcl
            have hm := m4
            have hrm : (⟨rA, rc, rb⟩ : Row) ∈ rows4 := List.mem_of_getElem? hrj
            have hrmax : rb.length ≤ 9223372036854775807 := by
              obtain ⟨ys, _, ho⟩ := hga.each _ hrm
              exact own_max ho
            have HGA2 := Lib.hid hga
            simp only [Option.map_some] at hcl
            unfold Row.val at hcl
            dsimp only at hcl
            clear hga hrj
            go_wp2_with fail
            clear hcl
            obtain ⟨wp, rfl⟩ : ∃ wp : World, wp = wr := ⟨_, rfl⟩
            go_loopw [153] (fun v153 wr => ∃ a : Nat, a ≤ rb.length ∧ v153 = .int .i64 a ∧ SGath wr H3 (.slice (some ⟨g4, 0, none⟩) rows4.length c4) rows4.length rows4 ∧ Below H1 w6 wr) (fun v153 _ => rb.length - (intOf v153).toNat)
            case atStart => exact ⟨0, by omega, rfl, HGA2.out, hbl2⟩
            case round =>
              obtain ⟨a, ha, rfl, hga3, hbl3⟩ := hrel
              by_cases hlt3 : a < rb.length
              · have hso := hga3.each _ hrm
                unfold Row.val at hso
                dsimp only at hso
                obtain ⟨g, y, rfl, hg1, hg2, hcy, hfy⟩ := hso.at_ hlt3
                have hst := hga3.store hso (Nat.le_refl _) a (UInt8.ofNat (y.toNat + 1))
                rw [u8_next] at hst
                have hbl' := fun v => hbl3.setCell (p := ⟨g, a, none⟩) (by show H1 ≤ g; omega) v
                have hylt := y.toNat_lt
                have HST := Lib.hid hst
                have HBL := Lib.hid hbl'
                clear hso hga3 hst hbl'
                go_wp2_with fail
                go_roundw
                case rel => exact ⟨a + 1, by omega, by go_num, HST.out, HBL.out _⟩
                case measure => simp [intOf]; omega
              · obtain rfl : a = rb.length := by omega
                have HG3 := Lib.hid hga3
                clear hga3
                go_wp2_with fail
                go_roundw
                case rel => exact ⟨j + 1, by omega, by go_num, HG3.out, hbl3⟩
                case measure => simp [intOf]; omega
          · obtain rfl : j = rows4.length := by omega
            have hin := conv_reads wr (c := c1) ((HR1.out.below HB16.out).below hbl2)
            have hbb := conv_reads wr (c := c) ((HRB1.out.below HB16.out).below hbl2)
            have hch := chg_of HC6.out hbl2 hwH
            clear hga
            go_wp2_with fail
            refine (known_any _).mono ?_
            rintro e w9 ⟨rfl, g9⟩
            clear hin hbb
            go_wp2_with fail
            go_ret
            exact ⟨rfl, hch.trans g9⟩

end Go.Proofs.Ytkbhhejnhjhacaa
