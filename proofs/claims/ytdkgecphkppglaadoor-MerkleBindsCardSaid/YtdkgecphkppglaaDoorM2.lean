/-
  Package merkle: the chunks of a blob.
-/
import Derived.Test.YtdkgecphkppglaaDoorM1
import Derived.Test.YtdkgecphkppglaaDoorRC
namespace Go.Proofs.YtdkgecphkppglaaDoor
open Go.RowKit

/-- The chunk i of the blob x. -/
def chunkB (x : List UInt8) (i : Nat) : List UInt8 := (x.drop (64 * i)).take (chunkN x.length i)
theorem chunkB_len (x : List UInt8) (i : Nat) (h : 64 * i ≤ x.length) : (chunkB x i).length = chunkN x.length i := by
  unfold chunkB chunkN
  rw [List.length_take, List.length_drop]; omega
theorem cnt_lo {n i : Nat} (h : i < cntN n) : 64 * i ≤ n := by unfold cntN at h; omega
def partPrt (p : Prt) (i : Nat) : Prt := cutPrt p.A p.x p.c (64 * i) (64 * i + chunkN p.x.length i)
theorem partPrt_x (p : Prt) (i : Nat) : (partPrt p i).x = chunkB p.x i := by
  show (p.x.drop (64 * i)).take (64 * i + chunkN p.x.length i - 64 * i) = _
  rw [Nat.add_sub_cancel_left]; rfl
theorem partPrt_ok {w : World} {p : Prt} (h : p.ok w) (i : Nat) (hi : i < cntN p.x.length) : (partPrt p i).ok w :=
  cutPrt_ok h.1 h.2 _ _ (by have := cnt_lo hi; unfold chunkN; omega)

theorem part_any (p : Prt) (i : Nat) (w : World) (hc : p.x.length ≤ p.c) (hi : i < cntN p.x.length) (hn : p.x.length < 1000000000) :
    Calls Tryd.prog 56 #[.slice p.A p.x.length p.c, .int .i64 i] w fun e w' => e = .returned (partPrt p i).val ∧ w = w' := by
  have hlo := cnt_lo hi
  have HL := Lib.hid (chunk_len p.x.length i (by omega) hlo w)
  have hch : 64 * i + chunkN p.x.length i ≤ p.x.length := by unfold chunkN; omega
  have hq : ∀ v : World, (Instr.sliceAt 22 (.slice p.A p.x.length p.c) (some (.int .i64 ((i : Int) * 64))) (some (.int .i64 ((i : Int) * 64 + (chunkN p.x.length i : Nat)))) none).run Tryd.prog v = .ok (partPrt p i).val v := fun v => by
    have h := cut_lo_hi p.A p.x.length p.c (64 * i) (64 * i + chunkN p.x.length i) (by omega) (by omega) v
    have e1 : ((64 * i : Nat) : Int) = (i : Int) * 64 := by omega
    have e2 : ((64 * i + chunkN p.x.length i : Nat) : Int) = (i : Int) * 64 + (chunkN p.x.length i : Nat) := by omega
    rw [e1, e2] at h
    rw [h, Prt.val]
    have e3 : (partPrt p i).x.length = 64 * i + chunkN p.x.length i - 64 * i := by rw [partPrt_x, chunkB_len _ _ hlo]; omega
    rw [e3]
    rfl
  have hcl : chunkN p.x.length i ≤ 64 := by unfold chunkN; omega
  have HQ := Lib.hid hq
  clear hq
  generalize chunkN p.x.length i = cn at *
  generalize hv : (partPrt p i).val = V at *
  clear hv
  have hq := HQ.out
  go_enter Tryd.func56, Tryd.ntmps56
  go_wp2_with fail
  refine HL.out.mono ?_
  rintro e w' ⟨rfl, rfl⟩
  go_wp2_with fail
  go_ret
  exact ⟨rfl, rfl⟩

theorem eq_nil22 (w : World) (a : Option Addr) (n c n' c' : Nat) : (binOp .eql 22 (.slice a n c) (.slice none n' c')).run Tryd.prog w = .ok (.bool a.isNone) w :=
  Lib.run_eql_slice_nil w _ _ a n c n' c' Tryd.underlying22

set_option maxHeartbeats 1000000 in
theorem clone_any (p : Prt) (w : World) (hp : p.ok w) (hn : p.x.length ≤ 1000000) : Calls Tryd.prog 55 #[.slice p.A p.x.length p.c] w (OwnPost w p.x) := by
  obtain ⟨i0, hi, hz0, hz1, hz2⟩ := info_parts Tryd.info5
  have HO := Lib.hid (byteVals_one p.x)
  have q22 := eq_nil22
  obtain ⟨A, x, c⟩ := p
  rcases A with _ | ad
  · have : x = [] := by
      rcases Nat.eq_zero_or_pos x.length with h0 | h0
      · exact List.eq_nil_of_length_eq_zero h0
      · obtain ⟨_, _, e, _⟩ := hp.1 h0; cases e
    subst this
    clear HO hp
    go_enter Tryd.func55, Tryd.ntmps55
    go_wp2_with fail
    go_ret
    exact ⟨none, 0, rfl, World.ownsRow_nil _ _ _ _, Chg.refl _ _⟩
  · have hown : (w.alloc (.cells #[] 5 (0, 0))).ownsRow w.heap.size 5 1 (.slice (some ⟨w.heap.size, 0, none⟩) 0 0) 0 [] := by
      refine ⟨rfl, .inr ⟨w.heap.size, 0, #[], rfl, Nat.le_refl _, heap_alloc_new w _, Nat.le_refl _, by unfold maxLen; decide, rfl, rfl⟩⟩
    have gE : Chg none w (w.alloc (.cells #[] 5 (0, 0))) := (Chg.refl _ _).alloc _
    have HR := Lib.hid (txt_reads (hp.1.chg gE))
    have HOWN := Lib.hid hown
    clear hown hp
    go_enter Tryd.func55, Tryd.ntmps55
    go_wp2_with (at_builtin; refine wpList_append_any _ rfl (.tmp 5) (.tmp 6) 22 rfl w.heap.size 5 i0 (.int .u8 0) 1 1 Tryd.underlying22 hi hz0 hz1 hz2 rfl (by decide) _ 0 [] rfl HOWN.out _ (some ad) x.length c (byteVals x) rfl HR.out HO.out ?c1 ?c2 ?c3 ?_)
    case c1 => unfold maxLen; omega
    case c2 => omega
    intro v' w1 hown' hgr _
    try simp only [Nat.zero_add, List.nil_append] at hown'
    obtain ⟨A', c', rfl⟩ := own_slice hown'
    have g1 := own_chg gE HOWN.out (Nat.le_refl _) hgr
    clear hgr
    go_wp2_with fail
    go_ret
    exact ⟨_, _, rfl, hown', g1⟩

/-- What Chunk tells of a chunk that there is. -/
def ChunkPost (w : World) (bs : List UInt8) (e : Ending) (w' : World) : Prop :=
  ∃ A c, e = .returned (.tuple #[.slice A bs.length c, .int .i64 0]) ∧ w'.ownsRow w.heap.size 5 1 (.slice A bs.length c) bs.length (byteVals bs) ∧ Chg none w w'

theorem chunk_yes (p : Prt) (i : Nat) (w : World) (hp : p.ok w) (hi : i < cntN p.x.length) (hn : p.x.length ≤ 1000000) :
    Calls Tryd.prog 30 #[.slice p.A p.x.length p.c, .int .i64 i] w (ChunkPost w (chunkB p.x i)) := by
  have HI := Lib.hid (ischunk_nat p.x.length i (by omega) w)
  have hid : decide (i < cntN p.x.length) = true := by simpa using hi
  rw [hid] at HI
  have HP := Lib.hid (part_any p i w hp.2 hi (by omega))
  have HC := Lib.hid (clone_any (partPrt p i) w (partPrt_ok hp i hi) (by rw [partPrt_x, chunkB_len _ _ (cnt_lo hi)]; unfold chunkN; omega))
  rw [partPrt_x] at HC
  have hpv : (partPrt p i).val = .slice (partPrt p i).A (chunkB p.x i).length (partPrt p i).c := by rw [Prt.val, partPrt_x]
  rw [hpv] at HP
  clear hid hpv
  generalize (partPrt p i).A = A1 at *
  generalize (partPrt p i).c = c1 at *
  generalize chunkB p.x i = bs at *
  go_enter Tryd.func30, Tryd.ntmps30
  go_wp2_with fail
  refine HI.out.mono ?_
  rintro e w' ⟨rfl, rfl⟩
  go_wp2_with fail
  refine HP.out.mono ?_
  rintro e w' ⟨rfl, rfl⟩
  go_wp2_with fail
  refine HC.out.mono ?_
  rintro e w1 ⟨A2, c2, rfl, hown, g1⟩
  go_wp2_with fail
  go_ret2
  exact ⟨A2, c2, rfl, hown, g1⟩
theorem chunk_no (p : Prt) (i : Int) (w : World) (hi : i < 0 ∨ (cntN p.x.length : Int) ≤ i) (hn : p.x.length ≤ 1000000) :
    Calls Tryd.prog 30 #[.slice p.A p.x.length p.c, .int .i64 i] w fun e w' => e = .returned (.tuple #[.slice none 0 0, .int .i64 6]) ∧ w = w' := by
  have HI : Hid (Calls Tryd.prog 54 #[.int .i64 p.x.length, .int .i64 i] w fun e w' => e = .returned (.bool false) ∧ w = w') := by
    rcases hi with h | h
    · exact ischunk_low _ _ h w
    · obtain ⟨k, rfl⟩ : ∃ k : Nat, i = (k : Int) := ⟨i.toNat, by omega⟩
      have := ischunk_nat p.x.length k (by omega) w
      rwa [show decide (k < cntN p.x.length) = false by simp; omega] at this
  clear hi
  go_enter Tryd.func30, Tryd.ntmps30
  go_wp2_with fail
  refine HI.out.mono ?_
  rintro e w' ⟨rfl, rfl⟩
  go_wp2_with fail
  go_ret2
  exact ⟨rfl, rfl⟩

end Go.Proofs.YtdkgecphkppglaaDoor
