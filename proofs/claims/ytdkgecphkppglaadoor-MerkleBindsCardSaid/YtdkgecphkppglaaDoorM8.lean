/-
  Package merkle: Proof.
-/
import Derived.Test.YtdkgecphkppglaaDoorM7
import Derived.Great.BuildSlice
namespace Go.Proofs.YtdkgecphkppglaaDoor
open Go.RowKit

theorem sib_eq (i : Nat) : i ^^^ 1 = 2 * (i / 2) + (i + 1) % 2 := by
  have h1 : (i ^^^ 1) / 2 = i / 2 := by
    have := Nat.xor_div_two (a := i) (b := 1)
    simpa using this
  have h2 : (i ^^^ 1) % 2 = (i % 2) ^^^ 1 := by
    have := Nat.xor_mod_two_pow (a := i) (b := 1) (n := 1)
    simpa using this
  rcases Nat.mod_two_eq_zero_or_one i with h | h
  · rw [h] at h2
    have h3 : (0 : Nat) ^^^ 1 = 1 := rfl
    omega
  · rw [h] at h2
    have h3 : (1 : Nat) ^^^ 1 = 0 := rfl
    omega
theorem ofInt_i64 (a : Nat) (ha : a < 9223372036854775808) : (BitVec.ofInt 64 (a : Int)).toNat = a := by
  rw [BitVec.ofInt_natCast, BitVec.toNat_ofNat]; exact Nat.mod_eq_of_lt (by omega)
theorem i64_sib (i : Nat) (hi : i < 1000000000000) : bits .xor .i64 (i : Int) 1 = ((i ^^^ 1 : Nat) : Int) := by
  have hs := sib_eq i
  show IntKind.i64.wrap ((BitVec.ofInt 64 (i : Int) ^^^ BitVec.ofInt 64 ((1 : Nat) : Int)).toNat : Int) = _
  rw [BitVec.toNat_xor, ofInt_i64 i (by omega), ofInt_i64 1 (by omega), IntKind.wrap_i64]
  omega

theorem next_shorter (L : List Dg) (h : 1 < L.length) : (nextB L).length < L.length := by rw [nextB_len]; omega
/-- What leads from the place i of a row up. -/
def proofB (L : List Dg) (i : Nat) : List Dg :=
  if _h : 1 < L.length then (if aloneB L.length i = true then [] else [L.getD (i ^^^ 1) zeroDg]) ++ proofB (nextB L) (i / 2) else []
termination_by L.length
decreasing_by exact next_shorter L (by assumption)
theorem proofB_end (L : List Dg) (i : Nat) (h : L.length ≤ 1) : proofB L i = [] := by
  rw [proofB, dif_neg (by omega)]
theorem proofB_step (L : List Dg) (i : Nat) (h : 1 < L.length) : proofB L i = (if aloneB L.length i = true then [] else [L.getD (i ^^^ 1) zeroDg]) ++ proofB (nextB L) (i / 2) := by
  conv => lhs; rw [proofB]
  rw [dif_pos h]

theorem dg_one (L : List Dg) : ∀ v ∈ flat L, v.oneCell' = true := by
  intro v hv
  obtain ⟨d, _, h⟩ := List.mem_flatMap.1 hv
  exact byteVals_one _ v h

theorem fill_dg (d : List UInt8) (hd : d.length = 32) (ie : TypeInfo) (hs : ie.size = 32) :
    Instr.fill (fun i => some (i * ie.size, ie.size)) ((Array.range (1 * ie.size)).map ((Value.agg zero32).cells[· % (Value.agg zero32).cells.size]!)) [(0, .agg (byteVals d).toArray)] = some (byteVals d).toArray := by
  rw [hs]
  match d, hd with
  | [a0, a1, a2, a3, a4, a5, a6, a7, a8, a9, a10, a11, a12, a13, a14, a15, a16, a17, a18, a19, a20, a21, a22, a23, a24, a25, a26, a27, a28, a29, a30, a31], _ => show _ = _; kernel_rfl

/-- What Proof tells of a chunk that there is. -/
def ProofPost (w : World) (L : List Dg) (e : Ending) (w' : World) : Prop :=
  ∃ A c, e = .returned (.tuple #[.slice A L.length c, .int .i64 0]) ∧ w'.ownsRow w.heap.size 30 32 (.slice A L.length c) L.length (flat L) ∧ Chg none w w'

theorem proof_no (p : Prt) (i : Int) (w : World) (hi : i < 0 ∨ (cntN p.x.length : Int) ≤ i) (hn : p.x.length ≤ 1000000) :
    Calls Tryd.prog 31 #[.slice p.A p.x.length p.c, .int .i64 i] w fun e w' => e = .returned (.tuple #[.slice none 0 0, .int .i64 6]) ∧ w = w' := by
  have HI : Hid (Calls Tryd.prog 54 #[.int .i64 p.x.length, .int .i64 i] w fun e w' => e = .returned (.bool false) ∧ w = w') := by
    rcases hi with h | h
    · exact ischunk_low _ _ h w
    · obtain ⟨k, rfl⟩ : ∃ k : Nat, i = (k : Int) := ⟨i.toNat, by omega⟩
      have := ischunk_nat p.x.length k (by omega) w
      rwa [show decide (k < cntN p.x.length) = false by simp; omega] at this
  clear hi
  go_enter Tryd.func31, Tryd.ntmps31
  go_wp2_with fail
  refine HI.out.mono ?_
  rintro e w' ⟨rfl, rfl⟩
  go_wp2_with fail
  go_ret2
  exact ⟨rfl, rfl⟩

set_option maxRecDepth 100000 in
set_option maxHeartbeats 8000000 in
theorem proof_yes (p : Prt) (i : Nat) (w : World) (hp : p.ok w) (hi : i < cntN p.x.length) (hn : p.x.length ≤ 1000000) (hT : Tabs w) :
    Calls Tryd.prog 31 #[.slice p.A p.x.length p.c, .int .i64 i] w (ProofPost w (proofB (leavesB p.x) i)) := by
  obtain ⟨i0, hi0, hz0, hz1, hz2⟩ := info_parts Tryd.info30
  have HI := Lib.hid (ischunk_nat p.x.length i (by omega) w)
  have hid : decide (i < cntN p.x.length) = true := by simpa using hi
  rw [hid] at HI
  have hcn : cntN p.x.length ≤ 1000000 := by unfold cntN; omega
  have hll := leavesB_len p.x
  have HL := Lib.hid (leaves_any p w hp hn hT)
  obtain ⟨L0, hL0⟩ : ∃ L0, L0 = leavesB p.x := ⟨_, rfl⟩
  rw [← hL0] at HL hll ⊢
  obtain ⟨P, hP⟩ : ∃ P, P = proofB L0 i := ⟨_, rfl⟩
  rw [← hP]
  have HP : Hid ([] ++ proofB L0 i = P) := hP.symm
  have hl0 : L0.length ≤ 1000000 := by omega
  have hil : i < L0.length := by omega
  clear hid hL0 hP hi hll hp
  go_enter Tryd.func31, Tryd.ntmps31
  go_wp2_with fail
  refine HI.out.mono ?_
  rintro e w' ⟨rfl, rfl⟩
  go_wp2_with fail
  refine HL.out.mono ?_
  rintro e w1 ⟨b1, rfl, hb1, hge1, g1⟩
  have HGE := Lib.hid hge1
  go_wp2_with fail
  go_loopw [1, 6, 7] (fun s1 s6 s7 wr => ∃ (L : List Dg) (j b : Nat) (acc : List Dg), s1 = .int .i64 j ∧ s7 = .slice (some ⟨b, 0, none⟩) L.length L.length ∧ BlkL wr b (flat L) 30 ∧ wr.ownsRow w.heap.size 30 32 s6 acc.length (flat acc) ∧
      (∀ g, s6.ownBlock = some g → g ≠ b) ∧ j < L.length ∧ acc.length + L.length ≤ 1000000 ∧ Hid (acc ++ proofB L j = P) ∧ Chg none w wr) (fun _ _ s7 _ => sliceLen s7)
  case atStart => exact ⟨L0, i, b1, [], rfl, rfl, hb1, World.ownsRow_nil _ _ _ _, by simp [Value.ownBlock], hil, by simp; omega, HP.out, g1⟩
  case round =>
    obtain ⟨L, j, b, acc, rfl, rfl, hb, hown, hob, hj, hlen, HPj, gj⟩ := hrel
    clear hb1 HP g1
    obtain ⟨A6, c6, rfl⟩ := own_slice hown
    by_cases h1 : 1 < L.length
    · have hst := proofB_step L j h1
      have HAL := Lib.hid (alone_nat L.length j (by omega) (by omega) wr)
      have hsh := next_shorter L h1
      have hnl := nextB_len L
      have hj2 : j / 2 < (nextB L).length := by rw [hnl]; omega
      by_cases hal : aloneB L.length j = true
      · rw [if_pos hal, List.nil_append] at hst
        rw [hal] at HAL
        have HNX := Lib.hid (next_any L b L.length wr hb (by omega) (Nat.le_refl _) (hT.chg gj (by simp)))
        have HST := Lib.hid hst
        have HOWN := Lib.hid hown
        obtain ⟨n, hn'⟩ : ∃ n, n = L.length := ⟨_, rfl⟩
        have HSH := Lib.hid hsh
        have HJ2 := Lib.hid hj2
        clear hst hown hal hnl
        go_wp2_with fail
        refine HAL.out.mono ?_
        rintro e w' ⟨rfl, rfl⟩
        go_wp2_with fail
        refine HNX.out.mono ?_
        rintro e w3 ⟨b3, rfl, hb3, hge3, g3⟩
        have hown3 := HOWN.out.kept g3 (by cases (Value.slice A6 acc.length c6).ownBlock <;> simp)
        have hob3 : ∀ g, (Value.slice A6 acc.length c6).ownBlock = some g → g ≠ b3 := fun g hg => by have := (HOWN.out.lt g hg).2; omega
        have g03 := gj.trans g3
        clear HNX HAL g3
        go_wp2_with fail
        go_roundw
        case rel => exact ⟨nextB L, j / 2, b3, acc, by congr 1, rfl, hb3, hown3, hob3, HJ2.out, by have := HSH.out; omega, by rw [← HST.out]; exact HPj.out, g03⟩
        case measure => simp only [sliceLen]; exact HSH.out
      · have hal' : aloneB L.length j = false := by simpa using hal
        rw [if_neg hal] at hst
        rw [hal'] at HAL
        have hsj : j ^^^ 1 < L.length := by
          have hs := sib_eq j
          unfold aloneB at hal
          simp only [Bool.and_eq_true, decide_eq_true_eq] at hal
          omega
        have hxb := i64_sib j (by omega)
        have hgd : L.getD (j ^^^ 1) zeroDg = L[j ^^^ 1] := by rw [List.getD_eq_getElem?_getD, List.getElem?_eq_getElem hsj]; rfl
        rw [hgd] at hst
        have hr0 := flat_range hb (j ^^^ 1) hsj
        generalize L[j ^^^ 1] = D at *
        generalize j ^^^ 1 = s at *
        unfold dgCells at hr0
        have HR0 := Lib.hid hr0
        have HIl : Hid ((Tryd.prog.info? 30).map (·.size) = some (byteVals D.1).length) := by rw [byteVals_len, D.2]; show _ = _; kernel_rfl
        have HST := Lib.hid hst
        have HOWN := Lib.hid hown
        have HSH := Lib.hid hsh
        have HJ2 := Lib.hid hj2
        have i1 : (s : Int) < (L.length : Int) := by omega
        clear hst hown hal hal' hnl hgd hr0
        go_wp2_with fail
        refine HAL.out.mono ?_
        rintro e w' ⟨rfl, rfl⟩
        have HFD := Lib.hid (fill_dg D.1 D.2 i0 hz1)
        have gA : Chg none wr (wr.alloc (.cells (byteVals D.1).toArray 30)) := (Chg.refl _ _).alloc _
        have HRD : Hid (Reads (wr.alloc (.cells (byteVals D.1).toArray 30)) (wr.alloc (.cells (byteVals D.1).toArray 30)).heap.size 32 (some ⟨wr.heap.size, 0, none⟩) 1 (byteVals D.1)) :=
          ⟨by rw [byteVals_len, D.2], fun _ => ⟨_, rfl, by simp, fun q u hu => by
            rw [Go.WideShapes.add_plain, Nat.zero_add, BlkL.cell (show BlkL _ wr.heap.size (byteVals D.1) 30 from Blk.new _ _ _)]; exact hu⟩⟩
        have HO1 := Lib.hid (byteVals_one D.1)
        go_wp2_with (first
          | (refine wpList_load_mid rfl 30 _ rfl b (s * 32) rfl (byteVals D.1) _ HR0.out Tryd.underlying30 rfl HIl.out ?_)
          | (refine wpList_buildSlice rfl 51 30 1 _ rfl (byteVals D.1).toArray i0 (.agg zero32) Tryd.underlying51 hi0 hz0 (by rw [hz1]; decide) (by rw [hz1]; decide) (by simp only [List.map_toArray, List.map_cons, List.map_nil]; exact HFD.out) ?_)
          | (at_builtin; refine wpList_append_any _ rfl (.tmp 23) (.tmp 29) 51 rfl w.heap.size 30 i0 (.agg zero32) 32 32 Tryd.underlying51 hi0 hz0 hz1 hz2 rfl (by decide) _ acc.length (flat acc) rfl (HOWN.out.alloc _) _ (some ⟨wr.heap.size, 0, none⟩) 1 1 (byteVals D.1) rfl HRD.out HO1.out ?d1 ?d2 ?d3 ?_))
        case d1 => unfold maxLen; omega
        case d2 => omega
        case d3 => have := gj.size; simp; omega
        intro v6 w6 hown6 hgr6 hob6
        have hfa : flat acc ++ byteVals D.1 = flat (acc ++ [D]) := by rw [flat_append]; simp [flat, dgCells]
        have hal1 : (acc ++ [D]).length = acc.length + 1 := by simp
        rw [hfa, ← hal1] at hown6
        have hlt := Blk.lt hb
        have g6 : Chg none w w6 := own_chg (gj.alloc (.cells (byteVals D.1).toArray 30)) (HOWN.out.alloc _) (Nat.le_refl _) hgr6
        have hb6 : BlkL w6 b (flat L) 30 := Blk.chg (Blk.alloc hb (.cells (byteVals D.1).toArray 30)) hgr6 (fun e => hob b e.symm rfl)
        have hob6' : ∀ g, v6.ownBlock = some g → g ≠ b := fun g hg => by
          rcases hob6 with h | h
          · exact hob g (h ▸ hg)
          · rw [h] at hg
            injection hg with hg
            try simp at hg
            omega
        have HNX := Lib.hid (next_any L b L.length w6 hb6 (by omega) (Nat.le_refl _) (hT.chg g6 (by simp)))
        have HOWN6 := Lib.hid hown6
        have HA1 := Lib.hid hal1
        obtain ⟨A7, c7, rfl⟩ := own_slice hown6
        clear hown6 hgr6 hob6 hfa HRD HFD HO1 HR0 gA hal1 hob
        go_wp2_with fail
        refine HNX.out.mono ?_
        rintro e w3 ⟨b3, rfl, hb3, hge3, g3⟩
        have hown3 := HOWN6.out.kept g3 (by cases (Value.slice A7 (acc ++ [D]).length c7).ownBlock <;> simp)
        have hob3 : ∀ g, (Value.slice A7 (acc ++ [D]).length c7).ownBlock = some g → g ≠ b3 := fun g hg => by have := (HOWN6.out.lt g hg).2; omega
        have g03 := g6.trans g3
        clear HNX HAL g3
        go_wp2_with fail
        go_roundw
        case rel => exact ⟨nextB L, j / 2, b3, acc ++ [D], by congr 1, rfl, hb3, by rw [← HA1.out]; exact hown3, by rw [← HA1.out]; exact hob3, HJ2.out, by have := HSH.out; rw [HA1.out]; omega, by
          have h1 := HPj.out
          rw [HST.out] at h1
          rw [List.append_assoc]; exact h1, g03⟩
        case measure => simp only [sliceLen]; exact HSH.out
    · have hl1 : L.length = 1 := by omega
      have hend := HPj.out
      rw [proofB_end L j (by omega), List.append_nil] at hend
      have hnl : decide ((1 : Int) < (L.length : Int)) = false := by simp; omega
      subst hend
      clear HPj hl1
      go_wp2_with fail
      go_ret2
      exact ⟨A6, c6, rfl, hown, gj⟩

end Go.Proofs.YtdkgecphkppglaaDoor
