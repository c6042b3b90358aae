/-
  The document's book of claims: Live (19).
-/
import Derived.Test.YtnpmfigcfikdgaaCD
namespace Go.Proofs.Ytnpmfigcfikdgaa
open Go.RowKit Go.Maps

theorem info78 (e : Ent) : (Try.prog.info? 78).map (·.size) = some (entCells e).length := by rw [entCells_len]; kernel_rfl
theorem info78a (e : Ent) : (Try.prog.info? 78).map (·.size) = some (entCells e).toArray.size := by rw [List.size_toArray]; exact info78 e
theorem ent_one (e : Ent) : (entCells e).toArray.all (·.oneCell') = true := Array.all_eq_true_iff_forall_mem.2 (fun v hv => by
  have hv : v ∈ entCells e := by simpa using hv
  unfold entCells at hv
  rcases List.mem_append.1 hv with h | h
  · have h2 := cl_one e.c.d e.c.node e.c.inc e.c.count e.c.gone
    rw [Array.all_eq_true_iff_forall_mem] at h2
    exact h2 v (by simpa [Cl.cells] using h)
  · rw [List.mem_singleton] at h
    rw [h]; rfl)
def rHit (d : Dig) (n : Int) (now : Int) (o : Ent) : Bool := isPl d n o && decide (now < o.t)
theorem rLiveAt_true {r : Rk} {d : Dig} {now : Int} {n k : Nat} {o : Ent} (h : r.ot[k]? = some o) (hp : rHit d n now o = true) : rLiveAt r d now n = true := List.any_eq_true.2 ⟨o, List.mem_of_getElem? h, hp⟩
theorem rLiveAt_false {r : Rk} {d : Dig} {now : Int} {n : Nat} (h : ∀ (j : Nat) y, j < r.ot.length → r.ot[j]? = some y → rHit d n now y = false) : rLiveAt r d now n = false := by
  unfold rLiveAt
  rw [List.any_eq_false]
  intro o ho hp
  obtain ⟨j, hj, rfl⟩ := List.getElem_of_mem ho
  have := h j _ hj (List.getElem?_eq_getElem hj)
  unfold rHit at this
  rw [this] at hp
  cases hp
set_option maxRecDepth 100000 in
set_option maxHeartbeats 8000000 in
theorem rlive_any (d : Dig) (now : Int) (w : World) (p : Nat) (r : Rk) (v5 v6 : Value) (h : RkAt w p r v5 v6) (hl : r.ot.length ≤ 1000) :
    Calls Try.prog 19 #[.pointer (some ⟨p, 0, none⟩), .agg d.cells.toArray, .int .i64 now] w fun e w' => e = .returned (optPair (rLive r d now)) ∧ Chg none w w' := by
  obtain ⟨W, hW⟩ : ∃ W, W = w.alloc (.cells d.cells.toArray 31) := ⟨_, rfl⟩
  have g0 : Chg none w W := by rw [hW]; exact (Chg.refl _ _).alloc _
  have hb3 : Blk W w.heap.size d.cells.toArray 31 := by rw [hW]; exact Blk.new w _ _
  have h' := h.chg g0
  have HRG : Hid (∀ v, Chg none W v → v.rangeAt w.heap.size 0 d.cells) := Lib.hid fun v hv => rangeAt_chg (rangeAt_blk hb3) hv (by simp)
  obtain ⟨A6, c6, hv6, hc6, hm6⟩ := rows_form h.ot
  have HC : Hid (∀ v, Chg none W v → v.cell? ⟨p, 6, none⟩ = some (.slice A6 r.ot.length c6)) := Lib.hid fun v hv => by rw [← hv6]; exact (h'.chg hv).cells.2.2.2.2.2.2.1
  have HROW : Hid (∀ v, Chg none W v → ∀ k o, r.ot[k]? = some o → ∃ b, A6 = some ⟨b, 0, none⟩ ∧ b < v.heap.size ∧ v.rangeAt b (k * 37) (entCells o)) := Lib.hid fun v hv k o hk => by
    obtain ⟨b, c, hv, -, hb, hr⟩ := rows_at (h'.chg hv).ot hk
    rw [hv6] at hv
    injection hv with e1 e2 e3
    exact ⟨b, e1, hb, hr⟩
  have HW := Lib.hid hW
  have HG0 := Lib.hid g0
  have HI31 := Lib.hid (info31 d)
  have HL := Lib.hid hl
  obtain ⟨z, hz⟩ : ∃ z, rLive r d now = z := ⟨_, rfl⟩
  rw [hz]
  have HZ := Lib.hid hz
  have hg31 := guard31
  clear hW hb3 g0 h h' hv6 hl hz
  go_enter Try.func19, Try.ntmps19
  go_wp2
  rw [← HW.out]
  go_loopw [8, 9, 10] (fun s8 s9 s10 wr => ∃ k : Nat, k ≤ 16 ∧ s8 = .int .i64 k ∧ Hid (∀ j, j < k → rLiveAt r d now j = false) ∧ Hid (Chg none W wr)) (fun i _ _ _ => 16 - (intOf i).toNat)
  case atStart => exact ⟨0, by omega, rfl, Lib.hid (fun j hj => by omega), Lib.hid (Chg.refl _ _)⟩
  case round =>
    obtain ⟨k, hk, rfl, HN, HG⟩ := hrel
    by_cases hlt : k < 16
    · have hlt' : (k : Int) < 16 := by omega
      obtain ⟨wo, rfl⟩ : ∃ wo : World, wo = wr := ⟨_, rfl⟩
      go_wp2
      go_loopw [9, 10] (fun s9 s10 wr => ∃ m : Nat, m ≤ r.ot.length ∧ s9 = .int .i64 m ∧ Hid (∀ (j : Nat) y, j < m → r.ot[j]? = some y → rHit d k now y = false) ∧ Hid (Chg none W wr)) (fun i _ _ => r.ot.length - (intOf i).toNat)
      case atStart => exact ⟨0, by omega, rfl, Lib.hid (fun j y hj => by omega), HG⟩
      case round =>
        obtain ⟨m, hm, rfl, HN2, HG2⟩ := hrel
        have o6 := HC.out wr HG2.out
        by_cases hlt2 : m < r.ot.length
        · have hlt2' : (m : Int) < (r.ot.length : Int) := by omega
          have hml : (m : Int) ≤ 1000 := by have := HL.out; omega
          obtain ⟨o, ho⟩ : ∃ o, r.ot[m]? = some o := ⟨_, List.getElem?_eq_getElem hlt2⟩
          obtain ⟨rb, rfl, hrb, hrg⟩ := HROW.out wr HG2.out m o ho
          have HRGE := Lib.hid hrg
          obtain ⟨wa, hwa⟩ : ∃ v, v = (wr.alloc (.cells #[.int .u8 0, .int .u8 0, .int .u8 0, .int .u8 0, .int .u8 0, .int .u8 0, .int .u8 0, .int .u8 0, .int .u8 0, .int .u8 0, .int .u8 0, .int .u8 0, .int .u8 0, .int .u8 0, .int .u8 0, .int .u8 0, .int .u8 0, .int .u8 0, .int .u8 0, .int .u8 0, .int .u8 0, .int .u8 0, .int .u8 0, .int .u8 0, .int .u8 0, .int .u8 0, .int .u8 0, .int .u8 0, .int .u8 0, .int .u8 0, .int .u8 0, .int .u8 0, .int .i64 0, .int .u64 0, .int .u64 0, .bool false, .int .i64 0] 78)).setRow wr.heap.size (entCells o).toArray := ⟨_, rfl⟩
          have hz := Blk.new wr #[.int .u8 0, .int .u8 0, .int .u8 0, .int .u8 0, .int .u8 0, .int .u8 0, .int .u8 0, .int .u8 0, .int .u8 0, .int .u8 0, .int .u8 0, .int .u8 0, .int .u8 0, .int .u8 0, .int .u8 0, .int .u8 0, .int .u8 0, .int .u8 0, .int .u8 0, .int .u8 0, .int .u8 0, .int .u8 0, .int .u8 0, .int .u8 0, .int .u8 0, .int .u8 0, .int .u8 0, .int .u8 0, .int .u8 0, .int .u8 0, .int .u8 0, .int .u8 0, .int .i64 0, .int .u64 0, .int .u64 0, .bool false, .int .i64 0] 78
          have ga : Chg none wr wa := by rw [hwa]; exact Chg.own ((Chg.refl _ _).alloc _) (chg_setRow _ _ _) (Nat.le_refl _)
          have hbo : Blk wa wr.heap.size (entCells o).toArray 78 := by rw [hwa]; exact setRow_heap _ _ _ _ _ _ hz
          have hrw := rangeAt_blk hbo
          have HDO : Hid (wa.rangeAt wr.heap.size 0 o.c.d.cells) := Lib.hid (ent_dig hrw)
          have n1 : wa.cell? ⟨wr.heap.size, 32, none⟩ = some (.int .i64 o.c.node) := by have := (cl_fields (ent_cl hrw)).1; simpa using this
          have n2 : wa.cell? ⟨wr.heap.size, 36, none⟩ = some (.int .i64 o.t) := by have := ent_t hrw; simpa using this
          have HGA : Hid (Chg none W wa) := Lib.hid (HG2.out.trans ga)
          have HDK : Hid (wa.rangeAt w.heap.size 0 d.cells) := Lib.hid (HRG.out wa HGA.out)
          have HI78 := Lib.hid (info78 o)
          have HI78a := Lib.hid (info78a o)
          have HZ78 : Hid ((#[.int .u8 0, .int .u8 0, .int .u8 0, .int .u8 0, .int .u8 0, .int .u8 0, .int .u8 0, .int .u8 0, .int .u8 0, .int .u8 0, .int .u8 0, .int .u8 0, .int .u8 0, .int .u8 0, .int .u8 0, .int .u8 0, .int .u8 0, .int .u8 0, .int .u8 0, .int .u8 0, .int .u8 0, .int .u8 0, .int .u8 0, .int .u8 0, .int .u8 0, .int .u8 0, .int .u8 0, .int .u8 0, .int .u8 0, .int .u8 0, .int .u8 0, .int .u8 0, .int .i64 0, .int .u64 0, .int .u64 0, .bool false, .int .i64 0] : Array Value).size = (entCells o).toArray.size) := Lib.hid (by rw [show (entCells o).toArray.size = 37 from by rw [List.size_toArray, entCells_len]]; rfl)
          have HO78 := Lib.hid (ent_one o)
          have HIO := Lib.hid (info31 o.c.d)
          have HZB := Lib.hid hz
          have HWA := Lib.hid hwa
          have HST : Hid (∀ j y, j < m + 1 → r.ot[j]? = some y → rHit d k now o = false → rHit d k now y = false) := Lib.hid fun j y hj hy hf => by
            by_cases e : j = m
            · subst e; rw [ho] at hy; cases hy; exact hf
            · exact HN2.out j y (by omega) hy
          have HHO := Lib.hid ho
          clear hz ga hwa hrw hbo hrg ho
          generalize hq1 : dEq o.c.d d = q1
          have he : ∀ v, (binOp .eql 31 (.agg o.c.d.cells.toArray) (.agg d.cells.toArray)).run Try.prog v = .ok (.bool q1) v := fun v => by rw [← hq1]; exact eql31 _ _ v
          cases q1 with
          | false =>
            have HF : Hid (rHit d k now o = false) := Lib.hid (by unfold rHit isPl; rw [hq1]; rfl)
            clear hq1
            go_upto_region 8 with (first
              | (refine wpList_load_mid rfl 78 _ rfl rb (m * 37) rfl (entCells o) _ HRGE.out Try.underlying78 rfl HI78.out ?_)
              | (refine wpList_store_row rfl 78 _ _ rfl wr.heap.size (entCells o).toArray rfl rfl 78 _ HZB.out HI78a.out HZ78.out HO78.out ?_; rw [← HWA.out]))
            go_wp2_with (first
              | (refine wpList_load_mid rfl 31 _ rfl wr.heap.size 0 rfl o.c.d.cells _ HDO.out Try.underlying31 rfl HIO.out ?_)
              | (refine wpList_load_mid rfl 31 _ rfl w.heap.size 0 rfl d.cells _ HDK.out Try.underlying31 rfl HI31.out ?_))
            go_roundw
            case rel => exact ⟨m + 1, by omega, by first | rfl | go_num, Lib.hid (fun j y hj hy => HST.out j y hj hy HF.out), HGA⟩
            case measure => first | omega | (simp only [intOf]; omega) | (simp [intOf]; omega)
          | true =>
            by_cases hq2 : o.c.node = (k : Int)
            · have d2 : (o.c.node == (k : Int)) = true := by rw [beq_iff_eq]; exact hq2
              by_cases hq3 : now < o.t
              · have d3 : decide (now < o.t) = true := decide_eq_true hq3
                have HF : Hid (rHit d k now o = true) := Lib.hid (by unfold rHit isPl; rw [hq1, d2, d3]; rfl)
                have HRES : Hid (rLive r d now = some k) := Lib.hid (find_at hlt (rLiveAt_true HHO.out HF.out) HN.out)
                obtain rfl := HZ.out.symm.trans HRES.out
                clear hq1
                go_upto_region 8 with (first
                  | (refine wpList_load_mid rfl 78 _ rfl rb (m * 37) rfl (entCells o) _ HRGE.out Try.underlying78 rfl HI78.out ?_)
                  | (refine wpList_store_row rfl 78 _ _ rfl wr.heap.size (entCells o).toArray rfl rfl 78 _ HZB.out HI78a.out HZ78.out HO78.out ?_; rw [← HWA.out]))
                go_wp2_with (first
                  | (refine wpList_load_mid rfl 31 _ rfl wr.heap.size 0 rfl o.c.d.cells _ HDO.out Try.underlying31 rfl HIO.out ?_)
                  | (refine wpList_load_mid rfl 31 _ rfl w.heap.size 0 rfl d.cells _ HDK.out Try.underlying31 rfl HI31.out ?_))
                go_ret2
                exact ⟨rfl, HG0.out.trans HGA.out⟩
              · have d3 : decide (now < o.t) = false := decide_eq_false hq3
                have HF : Hid (rHit d k now o = false) := Lib.hid (by unfold rHit; rw [d3, Bool.and_false])
                clear hq1
                go_upto_region 8 with (first
                  | (refine wpList_load_mid rfl 78 _ rfl rb (m * 37) rfl (entCells o) _ HRGE.out Try.underlying78 rfl HI78.out ?_)
                  | (refine wpList_store_row rfl 78 _ _ rfl wr.heap.size (entCells o).toArray rfl rfl 78 _ HZB.out HI78a.out HZ78.out HO78.out ?_; rw [← HWA.out]))
                go_wp2_with (first
                  | (refine wpList_load_mid rfl 31 _ rfl wr.heap.size 0 rfl o.c.d.cells _ HDO.out Try.underlying31 rfl HIO.out ?_)
                  | (refine wpList_load_mid rfl 31 _ rfl w.heap.size 0 rfl d.cells _ HDK.out Try.underlying31 rfl HI31.out ?_))
                go_roundw
                case rel => exact ⟨m + 1, by omega, by first | rfl | go_num, Lib.hid (fun j y hj hy => HST.out j y hj hy HF.out), HGA⟩
                case measure => first | omega | (simp only [intOf]; omega) | (simp [intOf]; omega)
            · have d2 : (o.c.node == (k : Int)) = false := by rw [beq_eq_false_iff_ne]; exact hq2
              have HF : Hid (rHit d k now o = false) := Lib.hid (by unfold rHit isPl; rw [d2, Bool.and_false]; rfl)
              clear hq1
              go_upto_region 8 with (first
                | (refine wpList_load_mid rfl 78 _ rfl rb (m * 37) rfl (entCells o) _ HRGE.out Try.underlying78 rfl HI78.out ?_)
                | (refine wpList_store_row rfl 78 _ _ rfl wr.heap.size (entCells o).toArray rfl rfl 78 _ HZB.out HI78a.out HZ78.out HO78.out ?_; rw [← HWA.out]))
              go_wp2_with (first
                | (refine wpList_load_mid rfl 31 _ rfl wr.heap.size 0 rfl o.c.d.cells _ HDO.out Try.underlying31 rfl HIO.out ?_)
                | (refine wpList_load_mid rfl 31 _ rfl w.heap.size 0 rfl d.cells _ HDK.out Try.underlying31 rfl HI31.out ?_))
              go_roundw
              case rel => exact ⟨m + 1, by omega, by first | rfl | go_num, Lib.hid (fun j y hj hy => HST.out j y hj hy HF.out), HGA⟩
              case measure => first | omega | (simp only [intOf]; omega) | (simp [intOf]; omega)
        · have hml2 : m = r.ot.length := by omega
          subst hml2
          have hdd : ¬ (r.ot.length : Int) < (r.ot.length : Int) := by omega
          have HNN : Hid (∀ j, j < k + 1 → rLiveAt r d now j = false) := Lib.hid fun j hj => by
            by_cases e : j = k
            · subst e; exact rLiveAt_false HN2.out
            · exact HN.out j (by omega)
          go_wp2
          go_roundw
          case rel => exact ⟨k + 1, by omega, by first | rfl | go_num, HNN, HG2⟩
          case measure => first | omega | (simp only [intOf]; omega) | (simp [intOf]; omega)
    · have hkl : k = 16 := by omega
      subst hkl
      have HRES : Hid (rLive r d now = none) := Lib.hid (find_none HN.out)
      obtain rfl := HZ.out.symm.trans HRES.out
      go_wp2
      go_ret2
      exact ⟨rfl, HG0.out.trans HG.out⟩
end Go.Proofs.Ytnpmfigcfikdgaa
