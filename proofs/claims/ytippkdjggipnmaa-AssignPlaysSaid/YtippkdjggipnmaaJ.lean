/-
  Walks over package assign: Next.
-/
import Derived.Test.YtippkdjggipnmaaI
namespace Go.Proofs.Ytippkdjggipnmaa
open Go.RowKit Go.Maps

theorem Pl.ok.mono {p : Pl} {n m : Nat} (h : p.ok n) (hm : n ≤ m) : p.ok m :=
  ⟨h.win, h.tim, h.nc, h.np, h.cks, h.aks, fun x hx => by have := h.de x hx; omega, fun c k => by have := h.ts c k; omega⟩

def lateB (p : Pl) (x : Ck) (now : Int) : Bool := (x.st == 1) && pastB now x.sn p.tim
def sweepK (p : Pl) (now : Int) : Nat → Pl
  | 0 => p
  | k + 1 => if lateB p ((sweepK p now k).ch.getD k default) now then reopenM (sweepK p now k) k else sweepK p now k
def sweepM (p : Pl) (now : Int) : Pl := sweepK p now p.ch.length

theorem sweepK_len (p : Pl) (now : Int) : ∀ k, (sweepK p now k).ch.length = p.ch.length ∧ (sweepK p now k).pe.length = p.pe.length ∧ (sweepK p now k).win = p.win ∧ (sweepK p now k).tim = p.tim ∧ (sweepK p now k).ts = p.ts
  | 0 => ⟨rfl, rfl, rfl, rfl, rfl⟩
  | k + 1 => by
    unfold sweepK
    have h := sweepK_len p now k
    split
    · obtain ⟨h1, h2, h3, h4, h5⟩ := reopenM_len (sweepK p now k) k
      exact ⟨h1.trans h.1, h2.trans h.2.1, h3.trans h.2.2.1, h4.trans h.2.2.2.1, h5.trans h.2.2.2.2⟩
    · exact h

theorem sweepK_ok {p : Pl} {n : Nat} (now : Int) (h : p.ok n) : ∀ k, k ≤ p.ch.length → (sweepK p now k).ok (n + k)
  | 0, _ => h
  | k + 1, hk => by
    have ih := sweepK_ok now h k (by omega)
    have hl := (sweepK_len p now k).1
    unfold sweepK
    split
    · rename_i hlate
      obtain ⟨x, hx⟩ : ∃ x, (sweepK p now k).ch[k]? = some x := ⟨_, List.getElem?_eq_getElem (by omega)⟩
      rw [getD_of hx] at hlate
      unfold lateB at hlate
      exact reopenM_ok ih hx (by have := (Bool.and_eq_true _ _ ▸ hlate).1; simpa using this)
    · exact ih.mono (by omega)

def nextM (p : Pl) (now : Int) : Pl × Option (Nat × Nat) :=
  match leastM (sweepM p now) with
  | none => (sweepM p now, none)
  | some c => match fitM (sweepM p now) c with
    | none => (sweepM p now, none)
    | some k => (askAt (sweepM p now) c k now, some (c, k))

def next3 (o : Option (Nat × Nat)) : Value := match o with
  | none => .tuple #[.int .i64 0, .int .i64 0, .bool false]
  | some (c, k) => .tuple #[.int .i64 c, .int .i64 k, .bool true]

theorem least_some {p : Pl} {c : Nat} (h : leastM p = some c) : ∃ x, p.ch[c]? = some x ∧ x.st = 0 := by
  obtain ⟨h1, h2, _⟩ := List.findIdx?_eq_some_iff_getElem.1 h
  exact ⟨_, List.getElem?_eq_getElem h1, by simpa using h2⟩

theorem fit_lt {p : Pl} {c k : Nat} (h : fitM p c = some k) : k < p.pe.length := fitK_lt p c _ k h

theorem nextM_ok {p : Pl} {n : Nat} {now : Int} (h : p.ok n) (hnow : I64 now) : (nextM p now).1.ok (n + 101) := by
  have hs := sweepK_ok now h p.ch.length (Nat.le_refl _)
  have hnc := h.nc
  unfold nextM
  split
  · exact hs.mono (by omega)
  · rename_i c hc
    split
    · exact hs.mono (by omega)
    · rename_i k hk
      obtain ⟨x, hx, h0⟩ := least_some hc
      exact (askAt_ok hs hx h0 (fit_lt hk) hnow).mono (by omega)

theorem nextM_len (p : Pl) (now : Int) : (nextM p now).1.ch.length = p.ch.length ∧ (nextM p now).1.pe.length = p.pe.length ∧ (nextM p now).1.win = p.win ∧ (nextM p now).1.tim = p.tim := by
  obtain ⟨h1, h2, h3, h4, h5⟩ := sweepK_len p now p.ch.length
  unfold nextM
  split
  · exact ⟨h1, h2, h3, h4⟩
  · split
    · exact ⟨h1, h2, h3, h4⟩
    · exact ⟨(List.length_set).trans h1, (List.length_set).trans h2, h3, h4⟩

def NPost (w : World) (q : Qb) (n : Nat) (r : Pl × Option (Nat × Nat)) (e : Ending) (w' : World) : Prop := e = .returned (next3 r.2) ∧ PlanAt w' q n r.1 ∧ Kept q.has w w'

/-- Behind the sweep: the rest, in whatever case. -/
theorem next_none1 {p : Pl} {now : Int} (h : leastM (sweepM p now) = none) : nextM p now = (sweepM p now, none) := by unfold nextM; rw [h]
theorem next_none2 {p : Pl} {now : Int} {c : Nat} (h : leastM (sweepM p now) = some c) (h2 : fitM (sweepM p now) c = none) : nextM p now = (sweepM p now, none) := by unfold nextM; rw [h]; simp only [h2]
theorem next_some {p : Pl} {now : Int} {c k : Nat} (h : leastM (sweepM p now) = some c) (h2 : fitM (sweepM p now) c = some k) : nextM p now = (askAt (sweepM p now) c k now, some (c, k)) := by unfold nextM; rw [h]; simp only [h2]

def NextRel (w : World) (q : Qb) (n : Nat) (p : Pl) (now : Int) (k : Nat) (wr : World) : Prop := PlanAt wr q (n + k) (sweepK p now k) ∧ Kept q.has w wr ∧ w.heap.size ≤ wr.heap.size

set_option maxRecDepth 100000 in
set_option maxHeartbeats 4000000 in
theorem next_any (now : Int) (w : World) (q : Qb) (n : Nat) (p : Pl) (h : PlanAt w q n p) (ho : p.ok n) (hn : n < 900000000000) (hnow : I64 now) :
    Calls Try.prog 13 #[.pointer (some ⟨q.b, 0, none⟩), .int .i64 now] w (NPost w q (n + 101) (nextM p now)) := by
  have HM := Lib.hid (h.made ho)
  obtain ⟨c1, c2, o0, o1, o2, o3, o4, fz⟩ := h.open
  have hnc := ho.nc
  have htim := ho.tim
  have hlb := h.lt (g := q.b) (.inl rfl)
  have hlc := h.lt (g := q.c) (.inr (.inl rfl))
  have HO := Lib.hid ho
  have HNOW := Lib.hid hnow
  have H0 := Lib.hid h
  have HSL := Lib.hid (sweepK_len p now)
  have HSO := Lib.hid (sweepK_ok now ho)
  obtain ⟨L, hL⟩ : ∃ L, p.ch.length = L := ⟨_, rfl⟩
  rw [hL] at o2 hnc
  have HL := Lib.hid hL
  clear hL h ho hnow o3 o4
  go_enter Try.func13, Try.ntmps13
  go_wp2_with fail
  refine HM.out.mono ?_
  rintro e w' ⟨rfl, rfl⟩
  go_wp2
  go_loopw [16] (fun i wr => ∃ k : Nat, k ≤ L ∧ i = .int .i64 k ∧ Hid (NextRel w q n p now k wr)) (fun i _ => L - (intOf i).toNat)
  case atStart => exact ⟨0, Nat.zero_le _, rfl, Lib.hid ⟨H0.out, Kept.refl _ _, Nat.le_refl _⟩⟩
  case round =>
    obtain ⟨k, hk, rfl, HR⟩ := hrel
    obtain ⟨hp, hkp, hz⟩ := HR.out
    by_cases hlt : k < L
    · obtain ⟨x, hx⟩ : ∃ x, (sweepK p now k).ch[k]? = some x := ⟨_, List.getElem?_eq_getElem (by rw [(HSL.out k).1, HL.out]; exact hlt)⟩
      obtain ⟨x0, x1, x2, xf⟩ := hp.chunk hx
      obtain ⟨d1, d2, -, y1, -, -, -, yf⟩ := hp.open
      rw [(HSL.out k).2.2.2.1] at y1
      have hlb' : q.b < wr.heap.size := by omega
      have hlc' : q.c < wr.heap.size := by omega
      have hxo := (HSO.out k (by rw [HL.out]; exact hk)).cks x (List.mem_of_getElem? hx)
      have HP := Lib.hid hp
      have HK := Lib.hid hkp
      have HX := Lib.hid hx
      have hga := getD_of hx
      by_cases h1 : x.st = 1
      · have e1 : (x.st == 1) = true := by simp [h1]
        have hsn : I64 x.sn := by
          unfold Ck.ok at hxo
          rcases hxo with ⟨a, _⟩ | ⟨_, _, _, b⟩ | ⟨a, _⟩
          · exfalso; omega
          · exact b
          · exfalso; omega
        have HPA : Hid (∀ W, Calls Try.prog 27 #[.int .i64 now, .int .i64 x.sn, .int .i64 p.tim] W fun e w' => e = .returned (.bool (pastB now x.sn p.tim)) ∧ W = w') :=
          Lib.hid fun W => past_any now x.sn p.tim W HNOW.out.1 HNOW.out.2 hsn.1 hsn.2 (by omega) (by omega)
        have H1 := Lib.hid h1
        obtain ⟨z, hzz⟩ : ∃ z, pastB now x.sn p.tim = z := ⟨_, rfl⟩
        rw [hzz] at HPA
        cases z
        · have HS : Hid (sweepK p now (k + 1) = sweepK p now k) := Lib.hid (by rw [sweepK, hga]; unfold lateB; rw [hzz]; simp)
          clear hx hga h1 hxo hp hkp hzz HR hsn
          go_wp2
          go_quiet ((go_at_call 27; refine (HPA.out _).mono (fun _ _ h => ⟨h.1, _, h.2.symm⟩)))
          go_wp2
          go_roundw
          case rel => exact ⟨k + 1, by omega, by go_num, Lib.hid ⟨by rw [HS.out]; exact (((PlanAt.alloc HP.out _).drewN _).mono (by omega)), (HK.out.alloc _).drewN _, by simp [World.drewN]; omega⟩⟩
          case measure => simp [intOf]; omega
        · have HS : Hid (sweepK p now (k + 1) = reopenM (sweepK p now k) k) := Lib.hid (by rw [sweepK, hga]; unfold lateB; rw [hzz, e1]; rfl)
          have HRO : Hid (∀ W, PlanAt W q (n + k) (sweepK p now k) → Calls Try.prog 28 #[.pointer (some ⟨q.b, 0, none⟩), .int .i64 k] W fun e w' => e = .returned (.tuple #[]) ∧ RPost W q (n + k + 1) (reopenM (sweepK p now k) k) w') :=
            Lib.hid fun W hW => reopen_any k W q (n + k) _ x hW (HSO.out k (by rw [HL.out]; exact hk)) (by omega) HX.out H1.out
          have HAD : Hid (∀ o m, PlanAt ((wr.alloc o).drewN m) q (n + k) (sweepK p now k)) := Lib.hid fun o m => (PlanAt.alloc HP.out _).drewN _
          clear hx hga h1 hxo hp hkp hzz HR hsn
          go_wp2
          go_quiet ((go_at_call 27; refine (HPA.out _).mono (fun _ _ h => ⟨h.1, _, h.2.symm⟩)))
          go_wp2_with fail
          refine (HRO.out _ (HAD.out _ _)).mono ?_
          rintro e w2 ⟨rfl, hp2, hk2, hz2⟩
          have HP2 := Lib.hid hp2
          have HK2 := Lib.hid hk2
          have hz3 : wr.heap.size + 1 ≤ w2.heap.size := by simpa [World.drewN] using hz2
          clear hp2 hk2 hz2
          go_wp2
          go_roundw
          case rel => exact ⟨k + 1, by omega, by go_num, Lib.hid ⟨by rw [HS.out]; exact HP2.out, ((HK.out.alloc _).drewN _).trans HK2.out, by omega⟩⟩
          case measure => simp [intOf]; omega
      · have e1 : (x.st == 1) = false := by simp [h1]
        have HS : Hid (sweepK p now (k + 1) = sweepK p now k) := Lib.hid (by rw [sweepK, hga]; unfold lateB; rw [e1]; simp)
        clear hx hga h1 hxo hp hkp HR
        go_wp2
        go_quiet (fail)
        go_wp2
        go_roundw
        case rel => exact ⟨k + 1, by omega, by go_num, Lib.hid ⟨by rw [HS.out]; exact (((PlanAt.alloc HP.out _).drewN _).mono (by omega)), (HK.out.alloc _).drewN _, by simp [World.drewN]; omega⟩⟩
        case measure => simp [intOf]; omega
    · have hkL : k = p.ch.length := by rw [HL.out]; omega
      have hso := HSO.out k (by rw [HL.out]; exact hk)
      have hsl := HSL.out k
      have hE : sweepK p now k = sweepM p now := by unfold sweepM; rw [hkL]
      rw [hE] at hp hso hsl
      have hso1 := hso.mono (m := n + 100) (by omega)
      have hp1 := hp.mono (m := n + 100) (by omega)
      have HLE := Lib.hid (least_any wr q (n + 100) _ hp1 hso1)
      have HNN := Lib.hid (next_none1 (p := p) (now := now))
      have HK := Lib.hid hkp
      have HP1 := Lib.hid hp1
      have HS1 := Lib.hid hso1
      have HL1 := Lib.hid (fun c => least_some (p := sweepM p now) (c := c))
      have HN2 := Lib.hid (fun c => next_none2 (p := p) (now := now) (c := c))
      have HN3 := Lib.hid (fun c k => next_some (p := p) (now := now) (c := c) (k := k))
      have hchl : (sweepM p now).ch.length ≤ 100 := hso.nc
      obtain ⟨lo, hlo⟩ : ∃ lo, leastM (sweepM p now) = lo := ⟨_, rfl⟩
      rw [hlo] at HLE
      have HLO := Lib.hid hlo
      clear hkL hso hsl hE hp hso1 hp1 hkp HR hlo
      go_wp2_with fail
      refine HLE.out.mono ?_
      rintro e w1 ⟨rfl, hg1⟩
      have HG1 := Lib.hid hg1
      clear hg1
      cases lo with
      | none =>
        have HE := Lib.hid (HNN.out HLO.out)
        unfold optPair
        go_wp2
        go_ret3
        exact ⟨by rw [HE.out]; rfl, by rw [HE.out]; exact (PlanAt.chg HP1.out HG1.out).mono (by omega), HK.out.chg HG1.out⟩
      | some c =>
        obtain ⟨y, hy, hy0⟩ := HL1.out c HLO.out
        have hc100 : c < 100 := by have := (List.getElem?_eq_some_iff.1 hy).1; omega
        have HFI := Lib.hid (fit_any c w1 q (n + 100) _ (PlanAt.chg HP1.out HG1.out) HS1.out hc100)
        obtain ⟨fo, hfo⟩ : ∃ fo, fitM (sweepM p now) c = fo := ⟨_, rfl⟩
        rw [hfo] at HFI
        have HFO := Lib.hid hfo
        have HY := Lib.hid hy
        clear hy hy0 hfo
        unfold optPair
        go_wp2_with fail
        refine HFI.out.mono ?_
        rintro e w2 ⟨rfl, hg2⟩
        have HG2 := Lib.hid (HG1.out.trans hg2)
        clear hg2
        cases fo with
        | none =>
          have HE := Lib.hid (HN2.out c HLO.out HFO.out)
          unfold optPair
          go_wp2
          go_ret3
          exact ⟨by rw [HE.out]; rfl, by rw [HE.out]; exact (PlanAt.chg HP1.out HG2.out).mono (by omega), HK.out.chg HG2.out⟩
        | some k2 =>
          have HE := Lib.hid (HN3.out c k2 HLO.out HFO.out)
          have HA := Lib.hid (ask_any c k2 now w2 q (n + 100) _ y (PlanAt.chg HP1.out HG2.out) HS1.out (by omega) HY.out (fit_lt HFO.out))
          unfold optPair
          go_wp2_with fail
          refine HA.out.mono ?_
          rintro e w3 ⟨rfl, hp3, hk3⟩
          have HP3 := Lib.hid hp3
          have HK3 := Lib.hid ((HK.out.chg HG2.out).trans hk3)
          clear hp3 hk3
          go_wp2
          go_ret3
          exact ⟨by rw [HE.out]; rfl, by rw [HE.out]; exact HP3.out, HK3.out⟩

end Go.Proofs.Ytippkdjggipnmaa
