/-
  The law MemberMerges: the start of its walk.
-/
import Derived.Test.YtiehbbbncmdchaaT
import Derived.Deep.RegionHeld3
import Derived.BigQuiet
import Derived.Deep.QuietTactic
namespace Go.Proofs.Ytiehbbbncmdchaa
open Go.ChangeShapes Go.WideShapes Go.ChangeAt Go.RowKit
open Go.WideMaps Go.WideElems

set_option maxRecDepth 100000 in
set_option maxHeartbeats 16000000 in
theorem merges_main (c : Nat) (A : Option Addr) (L : List U) (ca : Nat) (D : Option Addr) (X : List U) (cd : Nat) (w : World)
    (hs : 1 < c) (hc : c ≤ 16) (hn : L.length ≤ 60) (hx : X.length ≤ 60) (hA : RowsAt w 3 A U.cells L) (hD : RowsAt w 3 D U.cells X) (hL : ∀ u ∈ L, 0 ≤ u.inc) (hX : ∀ u ∈ X, 0 ≤ u.inc) :
    Calls Try.prog 7 #[.int .i64 c, .slice A L.length ca, .slice D X.length cd] w fun e w' => e = .returned (.bool true) ∧ Chg none w w' := by
  have e1 : decide ((60 : Int) < (L.length : Int)) = false := by simp; omega
  have e2 : decide ((60 : Int) < (X.length : Int)) = false := by simp; omega
  have hN := fun W => new_yes 0 c 0 W (by omega) hc (by omega)
  have hM := fun W => new_yes 1 c 0 W (by omega) hc (by omega)
  have okA := M.fresh_ok 0 c 0 (by omega) hc (by omega)
  have okB := M.fresh_ok 1 c 0 (by omega) hc (by omega)
  have hp0 : Pair c (hearAll (M.fresh 0 c 0) L, hearAll (M.fresh 1 c 0) X) :=
    ⟨hearAll_ok _ _ okA hL, hearAll_ok _ _ okB hX, hearAll_self _ _, hearAll_self _ _, hearAll_count _ _, hearAll_count _ _, hearAll_alive _ _ (fresh_alive _ _ _ (by omega) hc), hearAll_alive _ _ (fresh_alive _ _ _ (by omega) hc)⟩
  generalize hmA : M.fresh 0 c 0 = mA at *
  generalize hmB : M.fresh 1 c 0 = mB at *
  have HMA := Lib.hid hmA
  have HMB := Lib.hid hmB
  have HN := Lib.hid hN
  have HM := Lib.hid hM
  clear hN hM hmA hmB
  go_enter Try.func7, Try.ntmps7
  go_wp2_with fail
  refine (HN.out _).mono ?_
  rintro e w1 ⟨rfl, h1, g1⟩
  go_wp2_with fail
  refine (HM.out _).mono ?_
  rintro e w2 ⟨rfl, h2, g2⟩
  have hz1 := Blk.lt h1
  have hz2 := Blk.lt h2
  have ha2 := h1.chg g2 (by simp)
  go_wp2_with fail
  generalize hB1 : w.heap.size = B1 at *
  generalize hB2 : w1.heap.size = B2 at *
  have hBB : B1 < B2 := by omega
  have gg := g1.trans g2
  go_loopw [45] (fun s45 wr => ∃ k : Nat, k ≤ L.length ∧ s45 = .int .i64 k ∧ MemAt wr B1 (hearAll mA (L.take k)) ∧ MemAt wr B2 mB ∧ Chg none w wr) (fun s45 _ => L.length - (intOf s45).toNat)
  case atStart => exact ⟨0, by omega, rfl, ha2, h2, gg⟩
  case round =>
    obtain ⟨k, hk, rfl, hma, hmb, hg⟩ := hrel
    by_cases hlt : k < L.length
    · have hxk : L[k]? = some L[k] := List.getElem?_eq_getElem hlt
      have htk : L.take (k + 1) = L.take k ++ [L[k]] := List.take_succ_eq_append_getElem hlt
      have hinc := hL L[k] (List.getElem_mem hlt)
      obtain ⟨ba, oa, hAe, hba, hca⟩ := hA.three (by intro h; rw [h, List.length_nil] at hlt; omega)
      obtain ⟨c0, c1, c2⟩ := hca k _ hxk
      have d0 := World.grownBy.cell hg c0 (by simp)
      have d1 := World.grownBy.cell hg c1 (by simp)
      have d2 := World.grownBy.cell hg c2 (by simp)
      have hok := hearAll_ok (L.take k) mA okA (fun u hu => hL u (List.mem_of_mem_take hu))
      have hH := fun W (h : MemAt W B1 (hearAll mA (L.take k))) => hear_take B1 _ L[k] W h hok hinc
      rw [← hearAll_snoc, ← htk] at hH
      generalize L[k] = u at *
      have HH := Lib.hid hH
      clear hxk htk hca hA hD hH c0 c1 c2 hL hX
      subst hAe
      go_wp2_with fail
      refine (HH.out _ hma).mono ?_
      rintro e w3 ⟨cc, xx, rfl, h3, g3⟩
      go_wp2_with fail
      go_roundw
      case rel => exact ⟨k + 1, by omega, by go_num, h3, chg_keep hmb g3 (by omega), hg.own g3 (by omega)⟩
      case measure => simp [intOf]; omega
    · obtain rfl : k = L.length := by omega
      rw [List.take_length] at hma
      go_wp2_with fail
      have hma0 := hma
      have hmb0 := hmb
      have hg0 := hg
      clear hma hmb hg
      obtain ⟨wo, rfl⟩ : ∃ wo : World, wo = wr := ⟨_, rfl⟩
      go_loopw [57] (fun s57 wr => ∃ k : Nat, k ≤ X.length ∧ s57 = .int .i64 k ∧ MemAt wr B2 (hearAll mB (X.take k)) ∧ MemAt wr B1 (hearAll mA L) ∧ Chg none w wr) (fun s57 _ => X.length - (intOf s57).toNat)
      case atStart => exact ⟨0, by omega, rfl, hmb0, hma0, hg0⟩
      case round =>
        obtain ⟨k, hk, rfl, hma, hmb, hg⟩ := hrel
        by_cases hlt : k < X.length
        · have hxk : X[k]? = some X[k] := List.getElem?_eq_getElem hlt
          have htk : X.take (k + 1) = X.take k ++ [X[k]] := List.take_succ_eq_append_getElem hlt
          have hinc := hX X[k] (List.getElem_mem hlt)
          obtain ⟨ba, oa, hAe, hba, hca⟩ := hD.three (by intro h; rw [h, List.length_nil] at hlt; omega)
          obtain ⟨c0, c1, c2⟩ := hca k _ hxk
          have d0 := World.grownBy.cell hg c0 (by simp)
          have d1 := World.grownBy.cell hg c1 (by simp)
          have d2 := World.grownBy.cell hg c2 (by simp)
          have hok := hearAll_ok (X.take k) mB okB (fun u hu => hX u (List.mem_of_mem_take hu))
          have hH := fun W (h : MemAt W B2 (hearAll mB (X.take k))) => hear_take B2 _ X[k] W h hok hinc
          rw [← hearAll_snoc, ← htk] at hH
          generalize X[k] = u at *
          have HH := Lib.hid hH
          clear hxk htk hca hA hD hH c0 c1 c2 hL hX
          subst hAe
          go_wp2_with fail
          refine (HH.out _ hma).mono ?_
          rintro e w3 ⟨cc, xx, rfl, h3, g3⟩
          go_wp2_with fail
          go_roundw
          case rel => exact ⟨k + 1, by omega, by go_num, h3, chg_keep hmb g3 (by omega), hg.own g3 (by omega)⟩
          case measure => simp [intOf]; omega
        · obtain rfl : k = X.length := by omega
          rw [List.take_length] at hma
          have hz1 := Blk.lt hma
          have hw1 : w.heap.size ≤ B1 := Nat.le_of_eq hB1
          clear hA hD
          have HMZ := Lib.hid hB1
          have HMY := Lib.hid hB2
          clear hB1 hB2
          generalize hearAll mA L = a0 at *
          generalize hearAll mB X = b0 at *
          go_wp2_with fail
          refine (all_row B1 a0 c _ hmb hp0.oka hp0.counta).mono ?_
          rintro e w5 ⟨rfl, h5, g5⟩
          go_wp2_with fail
          refine (all_row B2 b0 c _ (hma.chg g5 (by simp)) hp0.okb hp0.countb).mono ?_
          rintro e w6 ⟨rfl, h6, g6⟩
          have hz5 := Blk.lt h5
          have ht0 : Tw w B1 B2 wr.heap.size w5.heap.size a0 b0 a0 b0 w6 := ⟨(hmb.chg g5 (by simp)).chg g6 (by simp), (hma.chg g5 (by simp)).chg g6 (by simp), Blk.chg h5 g6 (by simp), h6, (hg.trans g5).trans g6, hw1, hBB, hz1, by omega⟩
          clear hma hmb hg h5 h6 g5 g6
          generalize wr.heap.size = bx at *
          generalize w5.heap.size = by_ at *
          go_wp2_with fail
          obtain ⟨wo2, rfl⟩ : ∃ wo : World, wo = wr := ⟨_, rfl⟩
          go_loopw [71] (fun s71 wr => ∃ j : Nat, j ≤ 3 ∧ s71 = .int .i64 j ∧ Tw w B1 B2 bx by_ a0 b0 (talkN j (a0, b0)).1 (talkN j (a0, b0)).2 wr) (fun s71 _ => 3 - (intOf s71).toNat)
          case atStart => exact ⟨0, by omega, rfl, ht0⟩
          case round =>
            obtain ⟨j, hj, rfl, ht⟩ := hrel
            have hpj := hp0.talkN j
            by_cases hj3 : j < 3
            · have hnext : talkN (j + 1) (a0, b0) = talk (talkN j (a0, b0)) := rfl
              generalize talkN j (a0, b0) = p at *
              have HNX := Lib.hid hnext
              clear hnext ht0
              obtain ⟨a, b⟩ := p
              dsimp only at ht
              have hoka : a.ok := hpj.oka
              have hokb : b.ok := hpj.okb
              obtain ⟨wo3, rfl⟩ : ∃ wo : World, wo = wr := ⟨_, rfl⟩
              go_wp2_with fail
              refine (all_row B1 a c _ ht.a hoka hpj.counta).mono ?_
              rintro e w7 ⟨rfl, h7, g7⟩
              have ht7 := ht.chg g7
              have hz7 : B2 < wo3.heap.size := Blk.lt ht.b
              generalize wo3.heap.size = ha at *
              clear ht g7
              go_wp2_with fail
              go_loopw [76] (fun s76 wr => ∃ k : Nat, k ≤ c ∧ s76 = .int .i64 k ∧ Tw w B1 B2 bx by_ a0 b0 a (hearAll b (a.row.take k)) wr ∧ BlkL wr ha (a.row.flatMap U.cells) 31) (fun s76 _ => c - (intOf s76).toNat)
              case atStart => exact ⟨0, by omega, rfl, ht7, h7⟩
              case round =>
                obtain ⟨k, hk, rfl, ht, hh⟩ := hrel
                have hlen : a.row.length = c := (M.row_len hoka).trans hpj.counta
                by_cases hlt : k < c
                · have hxk : a.row[k]? = some a.row[k] := List.getElem?_eq_getElem (by omega)
                  have htk : a.row.take (k + 1) = a.row.take k ++ [a.row[k]] := List.take_succ_eq_append_getElem (by omega)
                  have hinc := M.row_inc hoka a.row[k] (List.getElem_mem (by omega))
                  obtain ⟨d0, d1, d2⟩ := at_cells hh hxk
                  have hok := hearAll_ok (a.row.take k) b hokb (fun u hu => M.row_inc hoka u (List.mem_of_mem_take hu))
                  have hH := fun W (h : MemAt W B2 (hearAll b (a.row.take k))) => hear_take B2 _ a.row[k] W h hok hinc
                  rw [← hearAll_snoc, ← htk] at hH
                  generalize a.row[k] = u at *
                  have HH := Lib.hid hH
                  have hzh := Blk.lt hh
                  clear hxk htk hH hlen ht7 h7
                  go_wp2_with fail
                  refine (HH.out _ (MemAt.alloc ht.b _)).mono ?_
                  rintro e w3 ⟨cc, xx, rfl, h3, g3⟩
                  have ht3 := (ht.chg ((Chg.refl _ _).alloc _)).setB h3 g3
                  have hh3 := Blk.chg (Blk.alloc hh _) g3 (by simp; omega)
                  go_wp2_with fail
                  go_roundw
                  case rel => exact ⟨k + 1, by omega, by go_num, ht3, hh3⟩
                  case measure => simp [intOf]; omega
                · obtain rfl : k = c := by omega
                  rw [List.take_of_length_le (Nat.le_of_eq hlen)] at ht
                  have hb1 : hearAll b a.row = told a b := rfl
                  have hpok : (told a b).ok := hpj.talk.okb
                  have hpct : (told a b).count = k := hpj.talk.countb
                  have hnx2 : talk (a, b) = (hearAll a (told a b).row, told a b) := rfl
                  rw [hb1] at ht
                  have HNY := Lib.hid hnx2
                  generalize told a b = b1 at *
                  clear hb1 hnx2 ht7 h7 hh
                  obtain ⟨wo4, rfl⟩ : ∃ wo : World, wo = wr := ⟨_, rfl⟩
                  go_wp2_with fail
                  refine (all_row B2 b1 k _ ht.b hpok hpct).mono ?_
                  rintro e w8 ⟨rfl, h8, g8⟩
                  have ht8 := ht.chg g8
                  have hz8 : B2 < wo4.heap.size := Blk.lt ht.b
                  generalize wo4.heap.size = hb at *
                  clear ht g8
                  go_wp2_with fail
                  go_loopw [87] (fun s87 wr => ∃ i : Nat, i ≤ k ∧ s87 = .int .i64 i ∧ Tw w B1 B2 bx by_ a0 b0 (hearAll a (b1.row.take i)) b1 wr ∧ BlkL wr hb (b1.row.flatMap U.cells) 31) (fun s87 _ => k - (intOf s87).toNat)
                  case atStart => exact ⟨0, by omega, rfl, ht8, h8⟩
                  case round =>
                    obtain ⟨i, hi, rfl, ht, hh⟩ := hrel
                    have hlen2 : b1.row.length = k := (M.row_len hpok).trans hpct
                    by_cases hlt2 : i < k
                    · have hxk : b1.row[i]? = some b1.row[i] := List.getElem?_eq_getElem (by omega)
                      have htk : b1.row.take (i + 1) = b1.row.take i ++ [b1.row[i]] := List.take_succ_eq_append_getElem (by omega)
                      have hinc := M.row_inc hpok b1.row[i] (List.getElem_mem (by omega))
                      obtain ⟨d0, d1, d2⟩ := at_cells hh hxk
                      have hok := hearAll_ok (b1.row.take i) a hoka (fun u hu => M.row_inc hpok u (List.mem_of_mem_take hu))
                      have hH := fun W (h : MemAt W B1 (hearAll a (b1.row.take i))) => hear_take B1 _ b1.row[i] W h hok hinc
                      rw [← hearAll_snoc, ← htk] at hH
                      generalize b1.row[i] = u at *
                      have HH := Lib.hid hH
                      have hzh := Blk.lt hh
                      clear hxk htk hH hlen hlen2 ht8 h8
                      go_wp2_with fail
                      refine (HH.out _ (MemAt.alloc ht.a _)).mono ?_
                      rintro e w3 ⟨cc, xx, rfl, h3, g3⟩
                      have ht3 := (ht.chg ((Chg.refl _ _).alloc _)).setA h3 g3
                      have hh3 := Blk.chg (Blk.alloc hh _) g3 (by simp; omega)
                      go_wp2_with fail
                      go_roundw
                      case rel => exact ⟨i + 1, by omega, by go_num, ht3, hh3⟩
                      case measure => simp [intOf]; omega
                    · obtain rfl : i = k := by omega
                      rw [List.take_of_length_le (Nat.le_of_eq hlen2)] at ht
                      have hn2 : talkN (j + 1) (a0, b0) = (hearAll a b1.row, b1) := HNX.out.trans HNY.out
                      have HN2 := Lib.hid hn2
                      clear hn2 ht8 h8 hlen hlen2
                      go_wp2_with fail
                      go_roundw
                      case rel => exact ⟨j + 1, by omega, by go_num, by rw [HN2.out]; exact ht⟩
                      case measure => simp [intOf]; omega
            · obtain rfl : j = 3 := by omega
              have h3e : talk (talk (talk (a0, b0))) = talkN 3 (a0, b0) := rfl
              generalize talkN 3 (a0, b0) = p at *
              obtain ⟨a, b⟩ := p
              dsimp only at ht
              have hM := fun i (hi : i < c) => merged_rows hp0 hpj h3e hi
              clear h3e ht0
              obtain ⟨wo3, rfl⟩ : ∃ wo : World, wo = wr := ⟨_, rfl⟩
              go_wp2_with fail
              refine (all_row B1 a c _ ht.a hpj.oka hpj.counta).mono ?_
              rintro e w7 ⟨rfl, h7, g7⟩
              have ht7 := ht.chg g7
              clear ht
              go_wp2_with fail
              refine (all_row B2 b c _ ht7.b hpj.okb hpj.countb).mono ?_
              rintro e w8 ⟨rfl, h8, g8⟩
              have hx8 := (ht7.chg g8).x
              have hy8 := (ht7.chg g8).y
              have hg8 := (ht7.chg g8).g
              have hp8 : BlkL w8 wo3.heap.size (a.row.flatMap U.cells) 31 := Blk.chg h7 g8 (by simp)
              clear ht7 h7 g7 g8
              generalize wo3.heap.size = bp at *
              generalize w7.heap.size = bq at *
              have gd31 := Try.guard31
              go_wp2_with fail
              go_loopw [111] (fun s111 wr => ∃ i : Nat, i ≤ c ∧ s111 = .int .i64 i ∧ Chg none w8 wr) (fun s111 _ => c - (intOf s111).toNat)
              case atStart => exact ⟨0, by omega, rfl, Chg.refl _ _⟩
              case round =>
                obtain ⟨i, hic, rfl, gi⟩ := hrel
                by_cases hilt : i < c
                · obtain ⟨x, y, u, v, hx1, hy1, hu1, hv1, hmg⟩ := hM i hilt
                  have hG1 := fun W => refGreater_any x u W
                  have hG2 := fun W => refGreater_any y v W
                  rw [hmg.up] at hG1
                  rw [hmg.uq] at hG2
                  have HG1 := Lib.hid hG1
                  have HG2 := Lib.hid hG2
                  have hF : ∀ w', Chg none w8 w' → (_ ∧ _ ∧ _ ∧ _) ∧ (_ ∧ _ ∧ _ ∧ _) ∧ (_ ∧ _ ∧ _ ∧ _) ∧ (_ ∧ _ ∧ _ ∧ _) ∧ Chg none w8 w' := fun w' g =>
                    ⟨row_keep hx8 hx1 w' g, row_keep hy8 hy1 w' g, row_keep hp8 hu1 w' g, row_keep h8 hv1 w' g, g⟩
                  unfold U.parts at HG1 HG2
                  obtain ⟨xn, xs, xi⟩ := x
                  obtain ⟨yn, ys, yi⟩ := y
                  obtain ⟨un, us, ui⟩ := u
                  obtain ⟨vn, vs, vi⟩ := v
                  dsimp only at hF HG1 HG2
                  have HF := Lib.hid hF
                  clear hG1 hG2 hM hx1 hy1 hu1 hv1 hx8 hy8 hp8 h8 hF
                  go_wp2_with fail
                  go_cut [133] (fun s133 wx => Quiet0 w8 s133 wx)
                  case first =>
                    go_region_held3 (fun w' => (w'.cell? ⟨bx, i * 3, none⟩ = some (.int .i64 xn) ∧ w'.cell? ⟨bx, i * 3 + 1, none⟩ = some (.int .u8 xs) ∧ w'.cell? ⟨bx, i * 3 + 2, none⟩ = some (.int .u64 xi) ∧ bx < w'.heap.size) ∧
                        (w'.cell? ⟨by_, i * 3, none⟩ = some (.int .i64 yn) ∧ w'.cell? ⟨by_, i * 3 + 1, none⟩ = some (.int .u8 ys) ∧ w'.cell? ⟨by_, i * 3 + 2, none⟩ = some (.int .u64 yi) ∧ by_ < w'.heap.size) ∧
                        (w'.cell? ⟨bp, i * 3, none⟩ = some (.int .i64 un) ∧ w'.cell? ⟨bp, i * 3 + 1, none⟩ = some (.int .u8 us) ∧ w'.cell? ⟨bp, i * 3 + 2, none⟩ = some (.int .u64 ui) ∧ bp < w'.heap.size) ∧
                        (w'.cell? ⟨bq, i * 3, none⟩ = some (.int .i64 vn) ∧ w'.cell? ⟨bq, i * 3 + 1, none⟩ = some (.int .u8 vs) ∧ w'.cell? ⟨bq, i * 3 + 2, none⟩ = some (.int .u64 vi) ∧ bq < w'.heap.size) ∧ Chg none w8 w')
                      ((refine HF.out _ ?_; repeat (first | (with_reducible assumption) | (with_reducible refine Chg.drew ?_) | (with_reducible refine Chg.alloc ?_ _))))
                      ((go_at_call 25; first | ((with_reducible refine (HG1.out _).mono ?_); rintro e w7 ⟨rfl, rfl⟩) | ((with_reducible refine (HG2.out _).mono ?_); rintro e w7 ⟨rfl, rfl⟩)))
                    all_goals go_wp2_with fail
                    all_goals go_meet
                    all_goals refine ⟨rfl, ?_⟩
                    all_goals (repeat (first | (with_reducible assumption) | (with_reducible refine Chg.drew ?_) | (with_reducible refine Chg.alloc ?_ _)))
                  case rest =>
                    obtain ⟨rfl, gc⟩ := hcut
                    by_cases hi2 : i < 2
                    · go_wp2_with fail
                      go_roundw
                      case rel => exact ⟨i + 1, by omega, by go_num, gc⟩
                      case measure => simp [intOf]; omega
                    · obtain ⟨e3, e4⟩ := hmg.third (by omega)
                      have hG3 := fun W => refGreater_any ⟨yn, ys, yi⟩ ⟨xn, xs, xi⟩ W
                      cases hgy : greater ⟨yn, ys, yi⟩ ⟨xn, xs, xi⟩ with
                      | true =>
                        rw [wanted_yes hgy] at e3 e4
                        rw [hgy] at hG3
                        unfold U.parts at hG3
                        cases e3
                        cases e4
                        dsimp only at hG3
                        have HG3 := Lib.hid hG3
                        clear hG3 hmg hgy
                        obtain ⟨wd, rfl⟩ : ∃ wd : World, wd = wc := ⟨_, rfl⟩
                        obtain ⟨⟨x0, x1, x2, g1⟩, ⟨y0, y1, y2, g2⟩, ⟨u0, u1, u2, g3⟩, ⟨v0, v1, v2, g4⟩, _⟩ := HF.out wd gc
                        go_wp2_with fail
                        go_cut [148] (fun s148 wx => Quiet2 w8 wd.heap.size #[.int .i64 xn, .int .u8 xs, .int .u64 xi] true s148 wx)
                        case first =>
                          go_region_held3 (fun w' => (w'.cell? ⟨bx, i * 3, none⟩ = some (.int .i64 xn) ∧ w'.cell? ⟨bx, i * 3 + 1, none⟩ = some (.int .u8 xs) ∧ w'.cell? ⟨bx, i * 3 + 2, none⟩ = some (.int .u64 xi) ∧ bx < w'.heap.size) ∧
                              (w'.cell? ⟨by_, i * 3, none⟩ = some (.int .i64 yn) ∧ w'.cell? ⟨by_, i * 3 + 1, none⟩ = some (.int .u8 ys) ∧ w'.cell? ⟨by_, i * 3 + 2, none⟩ = some (.int .u64 yi) ∧ by_ < w'.heap.size) ∧ Chg none w8 w')
                            ((refine (fun h => ⟨(HF.out _ h).1, (HF.out _ h).2.1, h⟩) ?_; repeat (first | (with_reducible assumption) | (with_reducible refine Chg.drew ?_) | (with_reducible refine Chg.alloc ?_ _))))
                            ((go_at_call 25; refine (HG3.out _).mono ?_; rintro e w7 ⟨rfl, rfl⟩))
                          all_goals go_wp2_with fail
                          all_goals go_meet
                          all_goals refine ⟨rfl, ?_, ?_⟩
                          all_goals (repeat (first | (with_reducible assumption) | (with_reducible exact Blk.new _ _ _) | (with_reducible refine Blk.drew ?_) | (with_reducible refine Blk.alloc ?_ _) | (with_reducible refine Chg.drew ?_) | (with_reducible refine Chg.alloc ?_ _)))
                        case rest =>
                          obtain ⟨rfl, hbk, gk⟩ := hcut
                          have hgd := gc.size
                          obtain ⟨⟨x0, x1, x2, g1⟩, ⟨y0, y1, y2, g2⟩, ⟨u0, u1, u2, g3⟩, ⟨v0, v1, v2, g4⟩, _⟩ := HF.out wc gk
                          obtain ⟨b0, b1, b2⟩ := blk_three hbk
                          have z0 := Blk.frozen hbk 0
                          have z1 := Blk.frozen hbk 1
                          have z2 := Blk.frozen hbk 2
                          have n31 := neq31
                          have hset : ∀ a b c, Chg none w8 (((wc.setCell ⟨wd.heap.size, 0, none⟩ a).setCell ⟨wd.heap.size, 1, none⟩ b).setCell ⟨wd.heap.size, 2, none⟩ c) := fun a b c => ((gk.setNew _ hgd a).setNew _ hgd b).setNew _ hgd c
                          have HSET := Lib.hid hset
                          clear hset hgd
                          go_wp2_with fail
                          go_quiet (fail)
                          go_wp2_with fail
                          go_roundw
                          case rel => exact ⟨i + 1, by omega, by go_num, by (repeat (first | (with_reducible assumption) | (with_reducible refine Chg.drewN ?_ _) | (with_reducible refine Chg.drew ?_))); exact HSET.out _ _ _⟩
                          case measure => simp [intOf]; omega
                      | false =>
                        rw [wanted_no hgy] at e3 e4
                        rw [hgy] at hG3
                        unfold U.parts at hG3
                        cases e3
                        cases e4
                        dsimp only at hG3
                        have HG3 := Lib.hid hG3
                        clear hG3 hmg hgy
                        obtain ⟨wd, rfl⟩ : ∃ wd : World, wd = wc := ⟨_, rfl⟩
                        obtain ⟨⟨x0, x1, x2, g1⟩, ⟨y0, y1, y2, g2⟩, ⟨u0, u1, u2, g3⟩, ⟨v0, v1, v2, g4⟩, _⟩ := HF.out wd gc
                        go_wp2_with fail
                        go_cut [148] (fun s148 wx => Quiet2 w8 wd.heap.size #[.int .i64 xn, .int .u8 xs, .int .u64 xi] false s148 wx)
                        case first =>
                          go_region_held3 (fun w' => (w'.cell? ⟨bx, i * 3, none⟩ = some (.int .i64 xn) ∧ w'.cell? ⟨bx, i * 3 + 1, none⟩ = some (.int .u8 xs) ∧ w'.cell? ⟨bx, i * 3 + 2, none⟩ = some (.int .u64 xi) ∧ bx < w'.heap.size) ∧
                              (w'.cell? ⟨by_, i * 3, none⟩ = some (.int .i64 yn) ∧ w'.cell? ⟨by_, i * 3 + 1, none⟩ = some (.int .u8 ys) ∧ w'.cell? ⟨by_, i * 3 + 2, none⟩ = some (.int .u64 yi) ∧ by_ < w'.heap.size) ∧ Chg none w8 w')
                            ((refine (fun h => ⟨(HF.out _ h).1, (HF.out _ h).2.1, h⟩) ?_; repeat (first | (with_reducible assumption) | (with_reducible refine Chg.drew ?_) | (with_reducible refine Chg.alloc ?_ _))))
                            ((go_at_call 25; refine (HG3.out _).mono ?_; rintro e w7 ⟨rfl, rfl⟩))
                          all_goals go_wp2_with fail
                          all_goals go_meet
                          all_goals refine ⟨rfl, ?_, ?_⟩
                          all_goals (repeat (first | (with_reducible assumption) | (with_reducible exact Blk.new _ _ _) | (with_reducible refine Blk.drew ?_) | (with_reducible refine Blk.alloc ?_ _) | (with_reducible refine Chg.drew ?_) | (with_reducible refine Chg.alloc ?_ _)))
                        case rest =>
                          obtain ⟨rfl, hbk, gk⟩ := hcut
                          have hgd := gc.size
                          obtain ⟨⟨x0, x1, x2, g1⟩, ⟨y0, y1, y2, g2⟩, ⟨u0, u1, u2, g3⟩, ⟨v0, v1, v2, g4⟩, _⟩ := HF.out wc gk
                          obtain ⟨b0, b1, b2⟩ := blk_three hbk
                          have z0 := Blk.frozen hbk 0
                          have z1 := Blk.frozen hbk 1
                          have z2 := Blk.frozen hbk 2
                          have n31 := neq31
                          clear hgd
                          go_wp2_with fail
                          go_quiet (fail)
                          go_wp2_with fail
                          go_roundw
                          case rel => exact ⟨i + 1, by omega, by go_num, by (repeat (first | (with_reducible assumption) | (with_reducible refine Chg.drewN ?_ _) | (with_reducible refine Chg.drew ?_)))⟩
                          case measure => simp [intOf]; omega
                · have hI := fun i (hi : i < 2) => hM i (by omega)
                  have hg9 := hg8.trans gi
                  have hx9 := Blk.chg hx8 gi (by simp)
                  have hp9 : BlkL wr bp (a.row.flatMap U.cells) 31 := Blk.chg hp8 gi (by simp)
                  have hq9 : BlkL wr bq (b.row.flatMap U.cells) 31 := Blk.chg h8 gi (by simp)
                  clear hx8 hy8 hp8 h8 hM gi hx9
                  obtain ⟨wo4, rfl⟩ : ∃ wo : World, wo = wr := ⟨_, rfl⟩
                  go_wp2_with fail
                  go_loopw [168] (fun s168 wr => ∃ i : Nat, i ≤ 2 ∧ s168 = .int .i64 i ∧ Chg none wo4 wr) (fun s168 _ => 2 - (intOf s168).toNat)
                  case atStart => exact ⟨0, by omega, rfl, Chg.refl _ _⟩
                  case round =>
                    obtain ⟨i2, hi2, rfl, gi⟩ := hrel
                    by_cases hlt2 : i2 < 2
                    · obtain ⟨x, y, u, v, _, _, hu1, hv1, hmg⟩ := hI i2 hlt2
                      obtain ⟨u0, u1, u2, g3⟩ := row_keep hp9 hu1 wr gi
                      obtain ⟨v0, v1, v2, g4⟩ := row_keep hq9 hv1 wr gi
                      have hown := hmg.own hlt2
                      obtain ⟨un, us, ui⟩ := u
                      obtain ⟨vn, vs, vi⟩ := v
                      dsimp only at u0 u1 u2 v0 v1 v2 hown
                      have n31 := neq31
                      have g5 : i2 < c := by omega
                      clear hu1 hv1 hmg hI
                      by_cases hmx : ui < 1099511627776
                      · obtain ⟨e3, e4⟩ := hown hmx
                        cases e3
                        subst e4
                        have hmd : decide (ui < 1099511627776) = true := by simpa using hmx
                        clear hown
                        go_wp2_with fail
                        go_quiet (fail)
                        go_wp2_with fail
                        go_roundw
                        case rel => exact ⟨i2 + 1, by omega, by go_num, by (repeat (first | (with_reducible assumption) | (with_reducible refine Chg.drewN ?_ _) | (with_reducible refine Chg.drew ?_)))⟩
                        case measure => simp [intOf]; omega
                      · have hmd : decide (ui < 1099511627776) = false := by simpa using hmx
                        clear hown
                        go_wp2_with fail
                        go_quiet (fail)
                        go_wp2_with fail
                        go_roundw
                        case rel => exact ⟨i2 + 1, by omega, by go_num, by (repeat (first | (with_reducible assumption) | (with_reducible refine Chg.drewN ?_ _) | (with_reducible refine Chg.drew ?_)))⟩
                        case measure => simp [intOf]; omega
                    · have hgz := hg9.trans gi
                      go_wp2_with fail
                      refine (known_any _).mono ?_
                      rintro e w9 ⟨rfl, g9⟩
                      go_wp2_with fail
                      go_ret
                      exact ⟨rfl, hgz.trans g9⟩

end Go.Proofs.Ytiehbbbncmdchaa
