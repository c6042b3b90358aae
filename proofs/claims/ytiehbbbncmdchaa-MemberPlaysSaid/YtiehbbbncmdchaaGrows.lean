/-
  The law MemberGrows: its walk.
-/
import Derived.Test.YtiehbbbncmdchaaX
import Derived.Test.YtiehbbbncmdchaaR
import Derived.Deep.DeepCutAuto
import Derived.Deep.CutBlock
import Derived.Deep.RegionHeld3
import Derived.BigQuiet
import Derived.Deep.QuietTactic
namespace Go.Proofs.Ytiehbbbncmdchaa
open Go.RowKit

structure Opn where
  kind : Int
  u : U
instance : Inhabited Opn := ⟨⟨0, default⟩⟩
def Opn.cells (o : Opn) : List Value := .int .i64 o.kind :: o.u.cells

theorem RowsAt.four {w : World} {A : Option Addr} {L : List Opn} (h : RowsAt w 4 A Opn.cells L) (hne : L ≠ []) :
    ∃ b off, A = some ⟨b, off, none⟩ ∧ b < w.heap.size ∧ ∀ i o, L[i]? = some o →
      w.cell? ⟨b, off + i * 4, none⟩ = some (.int .i64 o.kind) ∧ w.cell? ⟨b, off + i * 4 + 1, none⟩ = some (.int .i64 o.u.node) ∧
      w.cell? ⟨b, off + i * 4 + 2, none⟩ = some (.int .u8 o.u.st) ∧ w.cell? ⟨b, off + i * 4 + 3, none⟩ = some (.int .u64 o.u.inc) := by
  obtain ⟨b, off, hA, hb, hc⟩ := h hne
  exact ⟨b, off, hA, hb, fun i o hi => ⟨hc i o hi 0 (by omega), hc i o hi 1 (by omega), hc i o hi 2 (by omega), hc i o hi 3 (by omega)⟩⟩

theorem all_count (b : Nat) (m : M) (c : Nat) (w : World) (hm : MemAt w b m) (ho : m.ok) (hc : m.count = c) :
    Calls Try.prog 23 #[.pointer (some ⟨b, 0, none⟩)] w fun e w' =>
      e = .returned (.slice (some ⟨w.heap.size, 0, none⟩) c c) ∧ BlkL w' w.heap.size ((m.stand.take c).flatMap U.cells) 31 ∧ Chg none w w' := by
  subst hc
  exact all_made b m w hm ho

/-- What stands when an op has been done. -/
structure Mid (s c B a : Nat) (m : M) (w0 wx : World) (m' : M) : Prop where
  mem : MemAt wx B m'
  ok : m'.ok
  alive : m'.alive
  self : m'.self = s
  count : m'.count = c
  grew : Grew m m'
  was : BlkL wx a ((m.stand.take c).flatMap U.cells) 31
  chg : Chg none w0 wx

theorem Blk.four {w : World} {b : Nat} {x y z t : Value} {T : TypeId} (h : Blk w b #[x, y, z, t] T) :
    w.cell? ⟨b, 0, none⟩ = some x ∧ w.cell? ⟨b, 1, none⟩ = some y ∧ w.cell? ⟨b, 2, none⟩ = some z ∧ w.cell? ⟨b, 3, none⟩ = some t := by
  refine ⟨?_, ?_, ?_, ?_⟩ <;> (rw [Blk.cell h]; rfl)

theorem upd_at {w : World} {g : Nat} {L : List U} (h : ∀ i v, (L.flatMap U.cells)[i]? = some v → w.cell? ⟨g, i, none⟩ = some v) {k : Nat} {u : U} (hk : L[k]? = some u) :
    w.cell? ⟨g, k * 3, none⟩ = some (.int .i64 u.node) ∧ w.cell? ⟨g, k * 3 + 1, none⟩ = some (.int .u8 u.st) ∧ w.cell? ⟨g, k * 3 + 2, none⟩ = some (.int .u64 u.inc) := by
  have hh : ∀ j v, j < 3 → u.cells[j]? = some v → w.cell? ⟨g, k * 3 + j, none⟩ = some v := fun j v hj hv => h _ _ (by rw [flat_get U.cells 3 U.cells_len L k j u hk hj]; exact hv)
  exact ⟨hh 0 _ (by omega) rfl, hh 1 _ (by omega) rfl, hh 2 _ (by omega) rfl⟩

/-- The members stand, and nothing that was there has turned. -/
def Stays (w6 : World) (B : Nat) (m' : M) (w' : World) : Prop := MemAt w' B m' ∧ Chg none w6 w'
theorem Stays.mem {w6 w' : World} {B : Nat} {m' : M} (h : Stays w6 B m' w') : MemAt w' B m' := h.1
theorem Stays.chg {w6 w' : World} {B : Nat} {m' : M} (h : Stays w6 B m' w') : Chg none w6 w' := h.2
theorem Stays.alloc {w6 w' : World} {B : Nat} {m' : M} (h : Stays w6 B m' w') (o : Obj) : Stays w6 B m' (w'.alloc o) := ⟨h.1.alloc o, h.2.alloc o⟩
theorem Stays.drew {w6 w' : World} {B : Nat} {m' : M} (h : Stays w6 B m' w') : Stays w6 B m' w'.drew := ⟨h.1, h.2.drew⟩

def Quiet (w6 : World) (s : Value) (wx : World) : Prop := s = .bool false ∧ Chg none w6 wx

def MidEx (s c B a : Nat) (m : M) (w0 wx : World) : Prop := ∃ m', Mid s c B a m w0 wx m'

theorem midOf {s c B a : Nat} {m m' : M} {w w4 w5 wx : World} (hg : Chg none w w4) (h4 : BlkL w4 a ((m.stand.take c).flatMap U.cells) 31) (o : Obj) (h5 : w5 = w4.alloc o) (hms : m.self = s) (hmc : m.count = c)
    (hB : w.heap.size ≤ B) (hne : a ≠ B) (hmem : MemAt wx B m') (hok : m'.ok) (hal : m'.alive) (hgr : Grew m m') (g5 : Chg (some B) w5 wx) : Mid s c B a m w wx m' := by
  subst h5
  exact ⟨hmem, hok, hal, hgr.self.trans hms, hgr.count.trans hmc, hgr, Blk.chg (Blk.alloc h4 o) g5 (by simpa using hne), (hg.alloc o).own g5 hB⟩

theorem hear_lit2 (b : Nat) (m : M) (u : U) (w : World) (hm : MemAt w b m) (ho : m.ok) (hi : 0 ≤ u.inc) (e : Int) (hr : (hear m u).2.2 = e) :
    Calls Try.prog 20 #[.pointer (some ⟨b, 0, none⟩), .agg #[.int .i64 u.node, .int .u8 u.st, .int .u64 u.inc]] w
      fun en w' => ∃ c, en = .returned (.tuple #[.bool c, .int .i64 e]) ∧ MemAt w' b (heard m u) ∧ Chg (some b) w w' :=
  (hear_any b m u w hm ho hi).mono fun _ _ ⟨h1, h2, h3⟩ => ⟨(hear m u).2.1, by rw [h1, hr], h2, h3⟩

set_option maxRecDepth 100000 in
set_option maxHeartbeats 16000000 in
theorem grows_main (s c : Nat) (inc : Int) (A : Option Addr) (L : List Opn) (ca : Nat) (w : World)
    (hs : s < c) (hc : c ≤ 16) (hi : 0 ≤ inc ∧ inc ≤ 1099511627776) (hn : L.length ≤ 100) (hA : RowsAt w 4 A Opn.cells L) (hL : ∀ o ∈ L, 0 ≤ o.u.inc) :
    Calls Try.prog 5 #[.int .i64 s, .int .i64 c, .int .u64 inc, .slice A L.length ca] w fun e w' => e = .returned (.bool true) ∧ Chg none w w' := by
  have e2 : decide ((100 : Int) < (L.length : Int)) = false := by simp; omega
  have hok0 := M.fresh_ok s c inc hs hc hi
  have hal0 := fresh_alive s c inc hs hc
  have hN := fun W => new_yes s c inc W hs hc hi
  have hself : (M.fresh s c inc).self = s := rfl
  have hcount : (M.fresh s c inc).count = c := rfl
  generalize M.fresh s c inc = m0 at *
  have HN := Lib.hid hN
  have HS := Lib.hid hself
  have HC := Lib.hid hcount
  clear hN hself hcount
  go_enter Try.func5, Try.ntmps5
  go_wp2_with fail
  refine (HN.out _).mono ?_
  rintro e w1 ⟨rfl, h1, g1⟩
  have hz1 := Blk.lt h1
  go_wp2_with fail
  generalize hB : w.heap.size = B at *
  have HB := Lib.hid hB
  clear hB
  go_loopw [31] (fun s31 wr => ∃ (k : Nat) (m : M), k ≤ L.length ∧ s31 = .int .i64 k ∧ MemAt wr B m ∧ m.ok ∧ m.alive ∧ m.self = s ∧ m.count = c ∧ Chg none w wr) (fun s31 _ => L.length - (intOf s31).toNat)
  case atStart => exact ⟨0, m0, by omega, rfl, h1, hok0, hal0, HS.out, HC.out, g1⟩
  case round =>
    obtain ⟨k, m, hk, rfl, hm, hok, hal, hms, hmc, hg⟩ := hrel
    obtain ⟨wo, rfl⟩ : ∃ wo : World, wo = wr := ⟨_, rfl⟩
    by_cases hlt : k < L.length
    · have hxk : L[k]? = some L[k] := List.getElem?_eq_getElem hlt
      have hinc := hL L[k] (List.getElem_mem hlt)
      obtain ⟨ba, oa, hAe, hba, hca⟩ := hA.four (by intro h; rw [h, List.length_nil] at hlt; omega)
      obtain ⟨d0, d1, d2, d3⟩ := hca k _ hxk
      generalize L[k] = o at *
      have hAll := all_count B m c wo hm hok hmc
      have hmB := Blk.lt hm
      have HMS := Lib.hid hms
      have HMC := Lib.hid hmc
      clear hxk hca hA hms hmc hL
      subst hAe
      obtain ⟨kind, un, us, ui⟩ := o
      dsimp only at d0 d1 d2 d3 hinc
      go_wp2_with fail
      refine hAll.mono ?_
      rintro e w4 ⟨rfl, h4, g4⟩
      have f0 := World.grownBy.cell (hg.trans g4) d0 (by simp)
      have f1 := World.grownBy.cell (hg.trans g4) d1 (by simp)
      have f2 := World.grownBy.cell (hg.trans g4) d2 (by simp)
      have f3 := World.grownBy.cell (hg.trans g4) d3 (by simp)
      have hm4 : MemAt w4 B m := hm.chg g4 (by simp)
      have hba4 : ba < w4.heap.size := Nat.lt_of_lt_of_le hba (hg.trans g4).size
      have hB4 : B < w4.heap.size := Nat.lt_of_lt_of_le hmB g4.size
      have ho4 : wo.heap.size < w4.heap.size := Blk.lt h4
      clear d0 d1 d2 d3 hAll
      go_upto_block 2 with fail
      have hm5 := hm4.alloc (.cells #[.int .i64 kind, .int .i64 un, .int .u8 us, .int .u64 ui] 33)
      have hBw : w.heap.size ≤ B := Nat.le_of_eq HB.out
      have hab : wo.heap.size ≠ B := by omega
      go_cut [86] (fun _ wx => MidEx s c B wo.heap.size m w wx)
      case first =>
        by_cases hk1 : kind = 1
        · have hb1 : (kind == 1) = true := by simp [hk1]
          clear hk1
          go_wp2_with fail
          refine (suspect_made B m un _ hm5 hok).mono ?_
          rintro e w5 ⟨rfl, h5, g5⟩
          go_wp2_with fail
          go_meet
          exact ⟨_, midOf (hg.trans g4) h4 _ rfl HMS.out HMC.out hBw hab h5 (turn_ok _ _ _ _ hok (by omega)) (turn_alive _ _ _ _ hal) (turn_grew _ _ _ _ (by omega)) g5⟩
        · have hb1 : (kind == 1) = false := by simp [hk1]
          by_cases hk2 : kind = 2
          · have hb2 : (kind == 2) = true := by simp [hk2]
            clear hk1 hk2
            go_wp2_with fail
            refine (kill_made B m un _ hm5 hok).mono ?_
            rintro e w5 ⟨rfl, h5, g5⟩
            go_wp2_with fail
            go_meet
            exact ⟨_, midOf (hg.trans g4) h4 _ rfl HMS.out HMC.out hBw hab h5 (turn_ok _ _ _ _ hok (by omega)) (turn_alive _ _ _ _ hal) (turn_grew _ _ _ _ (by omega)) g5⟩
          · have hb2 : (kind == 2) = false := by simp [hk2]
            have hhe := hear_err m ⟨un, us, ui⟩
            have hend : ∀ wx, MemAt wx B (heard m ⟨un, us, ui⟩) → Chg (some B) (w4.alloc (.cells #[.int .i64 kind, .int .i64 un, .int .u8 us, .int .u64 ui] 33)) wx → MidEx s c B wo.heap.size m w wx := fun wx h5 g5 =>
              ⟨_, midOf (hg.trans g4) h4 _ rfl HMS.out HMC.out hBw hab h5 (heard_ok _ _ hok hinc) (hear_alive _ _ hal) (hear_grew _ _ hok) g5⟩
            have HE := Lib.hid hend
            have hbx := Blk.new w4 #[.int .i64 kind, .int .i64 un, .int .u8 us, .int .u64 ui] 33
            clear hk1 hk2 hend
            by_cases hf : U.fine m ⟨un, us, ui⟩
            · rw [if_pos hf] at hhe
              have hans := hear_answers m ⟨un, us, ui⟩
              have hH := hear_lit2 B m ⟨un, us, ui⟩ _ hm5 hok hinc _ hhe
              dsimp only at hH hans
              obtain ⟨v, hv⟩ := (heard_ok m ⟨un, us, ui⟩ hok hinc).me
              have hmm := heard_ok m ⟨un, us, ui⟩ hok hinc
              have hss : (heard m ⟨un, us, ui⟩).self = s := (heard_self _ _).trans HMS.out
              rw [heard_self] at hv
              generalize heard m ⟨un, us, ui⟩ = m' at *
              have HH := Lib.hid hH
              clear hhe hH
              by_cases hus : un = s
              · have hb3 : (un == (s : Int)) = true := by simp [hus]
                by_cases hst : us = 1
                · have hb4 : (us == 1) = true := by simp [hst]
                  have hb4' : (us != 1) = false := by simp [hst]
                  clear hans hf hus hst
                  go_wp2_with fail
                  refine HH.out.mono ?_
                  rintro e w5 ⟨cc, rfl, h5, g5⟩
                  obtain ⟨k0, k1, k2, k3⟩ := Blk.four (hbx.chg g5 (by simp; omega))
                  go_wp2_with fail
                  go_quiet (fail)
                  go_wp2_with fail
                  go_meet
                  exact HE.out _ (h5.drewN _) (g5.drewN _)
                · have hb4 : (us == 1) = false := by simp [hst]
                  have hb4' : (us != 1) = true := by simp [hst]
                  by_cases hmx : ui < 1099511627776
                  · have hlt2 := hans v hf (hus.trans (by rw [HMS.out])) hst hmx hv
                    have hSe := fun W (h : MemAt W B m') => self_exact B m' v W h hmm (by rw [hss, ← HMS.out]; exact hv)
                    have HSe := Lib.hid hSe
                    have hb5 : decide (v.inc ≤ ui) = false := by simp; omega
                    have hb6 : decide (ui < 1099511627776) = true := by simp; omega
                    obtain ⟨vn, vs, vi⟩ := v
                    unfold U.parts at HSe
                    dsimp only at hlt2 hb5 HSe
                    clear hans hf hus hst hSe hv
                    go_wp2_with fail
                    refine HH.out.mono ?_
                    rintro e w5 ⟨cc, rfl, h5, g5⟩
                    have hz5 : w4.heap.size < w5.heap.size := Blk.lt (hbx.chg g5 (by simp; omega))
                    obtain ⟨k0, k1, k2, k3⟩ := Blk.four (hbx.chg g5 (by simp; omega))
                    go_wp2_with fail
                    have fl2 := field31_2
                    go_region_with ((go_at_call 24; refine (HSe.out _ (by exact h5)).mono ?_; rintro e w6 ⟨rfl, rfl⟩))
                    all_goals go_wp2_with fail
                    all_goals go_meet
                    all_goals exact HE.out _ (by exact (MemAt.alloc h5 _)) (by repeat (first | (with_reducible exact g5) | (with_reducible refine Chg.drew ?_) | (with_reducible refine Chg.alloc ?_ _)))
                  · have hb5 : decide (ui < 1099511627776) = false := by simp; omega
                    clear hans hf hus hst
                    go_wp2_with fail
                    refine HH.out.mono ?_
                    rintro e w5 ⟨cc, rfl, h5, g5⟩
                    obtain ⟨k0, k1, k2, k3⟩ := Blk.four (hbx.chg g5 (by simp; omega))
                    go_wp2_with fail
                    go_quiet (fail)
                    go_wp2_with fail
                    go_meet
                    exact HE.out _ (h5.drewN _) (g5.drewN _)
              · have hb3 : (un == (s : Int)) = false := by simp [hus]
                clear hans hf hus
                go_wp2_with fail
                refine HH.out.mono ?_
                rintro e w5 ⟨cc, rfl, h5, g5⟩
                obtain ⟨k0, k1, k2, k3⟩ := Blk.four (hbx.chg g5 (by simp; omega))
                go_wp2_with fail
                go_quiet (fail)
                go_wp2_with fail
                go_meet
                exact HE.out _ (h5.drewN _) (g5.drewN _)
            · rw [if_neg hf] at hhe
              have hH := hear_lit2 B m ⟨un, us, ui⟩ _ hm5 hok hinc _ hhe
              dsimp only at hH
              generalize heard m ⟨un, us, ui⟩ = m' at *
              clear hf hhe
              go_wp2_with fail
              refine hH.mono ?_
              rintro e w5 ⟨cc, rfl, h5, g5⟩
              go_wp2_with fail
              go_quiet (fail)
              go_wp2_with fail
              go_meet
              exact HE.out _ (h5.drewN _) (g5.drewN _)
      case rest =>
        obtain ⟨m', hmid⟩ := hcut
        obtain ⟨wd, rfl⟩ : ∃ wd : World, wd = wc := ⟨_, rfl⟩
        have hAll2 := all_count B m' c wd hmid.mem hmid.ok hmid.count
        have hlen' := hmid.ok.len
        have hlen := hok.len
        obtain ⟨v, hv⟩ := hmid.ok.me
        have hvs := hmid.alive v hv
        have hSe := fun W (h : MemAt W B m') => self_exact B m' v W h hmid.ok hv
        rw [hmid.self] at hv
        have HSe := Lib.hid hSe
        clear hSe f0 f1 f2 f3 h4 hm4 hm5 hba4 hB4 ho4 g4
        go_wp2_with fail
        refine hAll2.mono ?_
        rintro e w6 ⟨rfl, h6, g6⟩
        have hm6 : MemAt w6 B m' := hmid.mem.chg g6 (by simp)
        have hwas : BlkL w6 wo.heap.size ((m.stand.take c).flatMap U.cells) 31 := Blk.chg hmid.was g6 (by simp)
        have hg6 := hmid.chg.trans g6
        have hz6 := Blk.lt h6
        have hz6' : wd.heap.size < w6.heap.size + 1 := by omega
        have hvt : (m'.stand.take c)[s]? = some v := by rw [List.getElem?_take, if_pos hs]; exact hv
        obtain ⟨a0, a1, a2⟩ := upd_at (fun i' x h => by rw [BlkL.cell h6]; exact h) hvt
        obtain ⟨vn, vs, vi⟩ := v
        unfold U.parts at HSe
        dsimp only at hvs a0 a1 a2 HSe
        subst hvs
        have n31 := neq31
        have gd31 := Try.guard31
        have fl1 := field31_1
        clear hv hvt hAll2
        go_wp2_with fail
        go_cut [119] (fun s119 wx => Quiet w6 s119 wx)
        case first =>
          have g66 : Stays w6 B m' w6 := ⟨hm6, Chg.refl _ _⟩
          go_region_held3 (fun w' => w'.cell? ⟨wd.heap.size, s * 3, none⟩ = some (.int .i64 vn) ∧ w'.cell? ⟨wd.heap.size, s * 3 + 1, none⟩ = some (.int .u8 1) ∧ w'.cell? ⟨wd.heap.size, s * 3 + 2, none⟩ = some (.int .u64 vi) ∧ wd.heap.size < w'.heap.size ∧ Stays w6 B m' w')
            ((refine ⟨?_, ?_, ?_, ?_, ?_⟩ <;> first | (with_reducible assumption) | ((repeat (first | (with_reducible assumption) | (with_reducible refine Stays.drew ?_) | (with_reducible refine Stays.alloc ?_ _))); done) | (simp; omega) | go_keep))
            ((go_at_call 24; refine (HSe.out _ ?_).mono ?_; (first | (· (refine Stays.mem (w6 := w6) ?_; repeat (first | (with_reducible assumption) | (with_reducible refine Stays.drew ?_) | (with_reducible refine Stays.alloc ?_ _)))) | (· (repeat (first | (with_reducible assumption) | (with_reducible refine MemAt.drew ?_) | (with_reducible refine MemAt.alloc ?_ _))))); rintro e w7 ⟨rfl, rfl⟩))
          all_goals go_wp2_with fail
          all_goals go_meet
          all_goals refine ⟨rfl, ?_⟩
          all_goals first
            | (refine Stays.chg (B := B) (m' := m') ?_; repeat (first | (with_reducible assumption) | (with_reducible refine Stays.drew ?_) | (with_reducible refine Stays.alloc ?_ _)))
            | (repeat (first | (with_reducible assumption) | (with_reducible refine Chg.drew ?_) | (with_reducible refine Chg.alloc ?_ _)))
        case rest =>
          obtain ⟨rfl, g7⟩ := hcut
          have hgr := hmid.grew
          have hnode := hmid.ok.node
          have hcm := hmid.count
          have hgall := hg6.trans g7
          have hrel : MemAt wc B m' := hm6.chg g7 (by simp)
          have hnow : BlkL wc wd.heap.size ((m'.stand.take c).flatMap U.cells) 31 := Blk.chg h6 g7 (by simp)
          have hwas7 : BlkL wc wo.heap.size ((m.stand.take c).flatMap U.cells) 31 := Blk.chg hwas g7 (by simp)
          have hGr := fun u v W => refGreater_any u v W
          have HGr := Lib.hid hGr
          have hself' := hmid.self
          have hok' := hmid.ok
          have hal' := hmid.alive
          have HCM := Lib.hid hcm
          have HSM := Lib.hid hself'
          clear hm6 hwas g7 h6 g6 hz6 hz6' a0 a1 a2 HSe hGr hcm hself' hmid n31 gd31 fl1 hg6
          go_wp2_with fail
          go_loopw [122] (fun s122 wr => ∃ i : Nat, i ≤ c ∧ s122 = .int .i64 i ∧ Chg none wc wr) (fun s122 _ => c - (intOf s122).toNat)
          case atStart => exact ⟨0, by omega, rfl, Chg.refl _ _⟩
          case round =>
            obtain ⟨i, hic, rfl, gi⟩ := hrel
            by_cases hilt : i < c
            · have hx1 : (m.stand.take c)[i]? = some ((m.stand.take c)[i]'(by rw [List.length_take]; omega)) := List.getElem?_eq_getElem _
              have hx2 : (m'.stand.take c)[i]? = some ((m'.stand.take c)[i]'(by rw [List.length_take]; omega)) := List.getElem?_eq_getElem _
              generalize (m.stand.take c)[i]'(by rw [List.length_take]; omega) = x at *
              generalize (m'.stand.take c)[i]'(by rw [List.length_take]; omega) = y at *
              obtain ⟨a0, a1, a2⟩ := upd_at (fun i' z h => by rw [BlkL.cell (Blk.chg hwas7 gi (by simp))]; exact h) hx1
              obtain ⟨b0, b1, b2⟩ := upd_at (fun i' z h => by rw [BlkL.cell (Blk.chg hnow gi (by simp))]; exact h) hx2
              rw [List.getElem?_take, if_pos hilt] at hx1 hx2
              have hgf := hgr.stand i x y (by rw [HMC.out]; exact hilt) hx1 hx2
              have hyn := (hnode i y hx2 (by rw [HCM.out]; exact hilt)).1
              have hGG := fun W => HGr.out x y W
              rw [hgf] at hGG
              have HGG := Lib.hid hGG
              obtain ⟨xn, xs, xi⟩ := x
              obtain ⟨yn, ys, yi⟩ := y
              unfold U.parts at HGG
              dsimp only at a0 a1 a2 b0 b1 b2 hyn HGG
              subst hyn
              clear hx1 hx2 hgf hGG
              have hw1 : wo.heap.size < wr.heap.size := Nat.lt_of_lt_of_le (Blk.lt hwas7) gi.size
              have hw2 : wd.heap.size < wr.heap.size := Nat.lt_of_lt_of_le (Blk.lt hnow) gi.size
              have g66 : Quiet wc (.bool false) wr := ⟨rfl, gi⟩
              go_wp2_with fail
              go_region_held3 (fun w' => w'.cell? ⟨wo.heap.size, i * 3, none⟩ = some (.int .i64 xn) ∧ w'.cell? ⟨wo.heap.size, i * 3 + 1, none⟩ = some (.int .u8 xs) ∧ w'.cell? ⟨wo.heap.size, i * 3 + 2, none⟩ = some (.int .u64 xi) ∧
                  w'.cell? ⟨wd.heap.size, i * 3, none⟩ = some (.int .i64 i) ∧ w'.cell? ⟨wd.heap.size, i * 3 + 1, none⟩ = some (.int .u8 ys) ∧ w'.cell? ⟨wd.heap.size, i * 3 + 2, none⟩ = some (.int .u64 yi) ∧
                  wo.heap.size < w'.heap.size ∧ wd.heap.size < w'.heap.size ∧ Chg none wc w')
                ((refine ⟨?_, ?_, ?_, ?_, ?_, ?_, ?_, ?_, ?_⟩ <;> first | ((repeat (first | (with_reducible assumption) | (with_reducible refine Chg.drew ?_) | (with_reducible refine Chg.alloc ?_ _))); done) | (simp; omega) | go_keep))
                ((go_at_call 25; refine (HGG.out _).mono ?_; rintro e w7 ⟨rfl, rfl⟩))
              all_goals go_wp2_with fail
              all_goals go_roundw
              case rel => exact ⟨i + 1, by omega, by go_num, by repeat (first | (with_reducible assumption) | (with_reducible refine Chg.drew ?_) | (with_reducible refine Chg.alloc ?_ _))⟩
              case measure => simp [intOf]; omega
            · have hgz := hgall.trans gi
              have hmz : MemAt wr B m' := MemAt.chg hrel gi (by simp)
              go_wp2_with fail
              go_roundw
              case rel => exact ⟨k + 1, m', by omega, by go_num, hmz, hok', hal', HSM.out, HCM.out, hgz⟩
              case measure => simp [intOf]; omega
    · go_wp2_with fail
      refine (known_any _).mono ?_
      rintro e w6 ⟨rfl, g6⟩
      go_wp2_with fail
      go_ret
      exact ⟨rfl, hg.trans g6⟩

end Go.Proofs.Ytiehbbbncmdchaa
