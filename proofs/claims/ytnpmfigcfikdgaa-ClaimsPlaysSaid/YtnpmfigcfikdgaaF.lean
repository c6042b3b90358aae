/-
  Walks over package claims: leases that have run out are forgotten.
-/
import Derived.Test.YtnpmfigcfikdgaaE
namespace Go.Proofs.Ytnpmfigcfikdgaa
open Go.RowKit Go.Maps

theorem key_cells {v : Value} {l : Lit} (h : keyOf Try.prog 71 v = some l) : ∃ xs : Array Value, v = .agg xs ∧ xs.size = 33 ∧ xs.all (·.oneCell') = true := by
  obtain ⟨xs, L, rfl, hl, _⟩ := keyOf_top wide71 h
  have ht : Try.prog.tiled 4 71 = true := by kernel_rfl
  have hc := cells_of_lits 4 71 ht _ _ _ hl
  refine ⟨xs, rfl, ?_, ?_⟩
  · unfold Program.keyLits at hl
    simp only [Try.underlying71] at hl
    split at hl
    · rename_i h1
      have := h1.1
      rw [show Try.prog.cellsOf 71 = 33 from by kernel_rfl] at this
      simpa using this
    · cases hl
  · rw [Array.all_eq_true_iff_forall_mem]
    intro x hx
    rw [← Array.mem_toList_iff, hc] at hx
    obtain ⟨y, _, rfl⟩ := List.mem_map.1 hx
    cases y <;> rfl

theorem I64.of_wf {n : Int} (h : (Lit.int .i64 n).wf = true) : I64 n := by
  simp [Lit.wf, IntKind.min, IntKind.max, IntKind.signed, IntKind.bits] at h
  exact h

def forgetF (f : Dig × Int → Option Int) (now ttl : Int) : Dig × Int → Option Int := fun i => match f i with | none => none | some x => if pastB now x ttl then none else some x

theorem sameKey_iff {k : TypeId} (K : Keyed Try.prog k) {a : Lit} {v : Value} (h : keyOf Try.prog k v = some a) (b : Lit) : b.sameKey a = true ↔ b = a := by
  constructor
  · exact WideAt.sameKey_eq
  · rintro rfl; exact WideAt.sameKey_self (K.key h)

/-- What stands at each round's head. -/
def ForRel (w : World) (q : Qk) (n : Nat) (B : Bk) (now : Int) (r : Nat) (wr : World) : Prop :=
  ∃ (D : DataW Unit) (left : Lit → Bool) (cnt : Nat), wr.ranges Try.prog 71 (plainElem Try.prog 3) q.e r n D left cnt ∧
    (∀ i : Dig × Int, I64 i.2 → Told (intE .i64) D (klP i.1 i.2) (if left (klP i.1 i.2) then B.lea i else forgetF B.lea now B.ttl i)) ∧ Chg (some q.e) w wr ∧ w.heap.size < wr.heap.size

theorem told_some {α : Type} {enc : α → DataW Unit} {D : DataW Unit} {kl : Lit} {o : Option α} {x : α} (inj : ∀ x y, enc x = enc y → x = y) (h : Told enc D kl o) (ha : ∀ z, D.atKey kl z = enc x) : o = some x := by
  cases o with
  | none =>
    have h1 := (atKey_of_not_has h .nil).symm.trans (ha .nil)
    have h2 := (atKey_of_not_has h (.ptr .nil)).symm.trans (ha (.ptr .nil))
    exact absurd (h1.trans h2.symm) (by simp)
  | some y => rw [inj _ _ ((h .nil).symm.trans (ha .nil))]

theorem chg_iter {w a b : World} {e r : Nat} (h : Chg (some e) w a) (k : a.grownBy b (some r)) (hr : w.heap.size ≤ r) : Chg (some e) w b :=
  World.grownBy.andThen h k (fun j hj => by injection hj with hj; exact .inl (hj ▸ hr))

set_option maxRecDepth 100000 in
set_option maxHeartbeats 8000000 in
theorem forget_any (now : Int) (w : World) (q : Qk) (n : Nat) (B : Bk) (h : BookAt w q n B) (ho : B.ok n) (hnow : I64 now) :
    Calls Try.prog 29 #[.pointer (some ⟨q.b, 0, none⟩), .int .i64 now] w fun e w' => e = .returned (.tuple #[]) ∧ BookAt w' q n { B with lea := forgetF B.lea now B.ttl } ∧ Chg (some q.e) w w' := by
  obtain ⟨-, -, -, -, -, o5, -, -, o8, -⟩ := h.open
  have hne := h.bne.2.2
  have hlt := h.lt (g := q.e) (.inr (.inr (.inr rfl)))
  have hlb := h.lt (g := q.b) (.inl rfl)
  obtain ⟨D0, hown, hf⟩ := h.lea
  have hown' : w.ownsMap Try.prog 71 (plainElem Try.prog 3) q.e n D0 := hown
  have HF0 := Lib.hid hf
  have HPA := Lib.hid (fun (x : Int) (hx : I64 x) W => past_any now x B.ttl W hnow hx ⟨by have := ho.ttl; omega, by have := ho.ttl; omega⟩)
  have HH := Lib.hid h
  clear h ho hnow hf hown
  go_enter Try.func29, Try.ntmps29
  go_wp2_with (at_range; refine wpList_range_own _ rfl _ 57 rfl 71 3 law71 Try.underlying57 (plainElem Try.prog 3) q.e n D0 rfl hown' ?_; intro w0 hrg0 hg0 hs0)
  go_frame
  have hrel0 : ForRel w q n B now w.heap.size w0 := by
    refine ⟨D0, _, _, hrg0, fun i hi => ?_, hg0.but _, by omega⟩
    have ht := HF0.out i hi
    cases hh : Maps.has D0 (klP i.1 i.2) with
    | true => rw [if_pos rfl]; exact ht
    | false =>
      rw [if_neg (by simp)]
      have : B.lea i = none := by
        cases hl : B.lea i with
        | none => rfl
        | some x =>
          exfalso
          have h1 : Told leaS.enc D0 (leaS.kl i) (some x) := by rw [← hl]; exact ht
          have h2 : D0.atKey (klP i.1 i.2) .nil = intE .i64 x := h1 .nil
          rw [atKey_of_not_has hh] at h2
          cases h2
      unfold forgetF
      rw [this]
      exact hh
  have HR0 := Lib.hid hrel0
  clear hrel0 hrg0 hg0 hs0 hown' HF0
  go_loopw [] (fun wr => Hid (ForRel w q n B now w.heap.size wr)) (fun wr => wr.rangeLeft q.e w.heap.size)
  case atStart => exact HR0
  case round =>
    obtain ⟨D, left, cnt, hrg, hto, hch, hsz⟩ := hrel.out
    have HTO := Lib.hid hto
    have HCH := Lib.hid hch
    have HRG := Lib.hid hrg
    clear hto hch hrel HR0
    go_wp2_with (at_next; refine wpList_next_ranges _ rfl _ rfl 71 law71 (plainElem Try.prog 3) (fun v : Value => v) (fun x : Int => .int .i64 x) (fun key kl _ => ⟨key, rfl⟩) (fun v y hv => by obtain ⟨c, rfl, _⟩ := plainElem_int_inv Try.underlying3 hv; exact ⟨c, rfl⟩) q.e w.heap.size n D left cnt rfl hrg ?_ ?_)
    · intro hc0 hl0
      have hfin : BookAt wr q n { B with lea := forgetF B.lea now B.ttl } := by
        refine HH.out.setLea HCH.out ⟨D, hrg.owns, fun i hi => ?_⟩ (Nat.le_refl _)
        have := HTO.out i hi
        rw [hl0, if_neg (by simp)] at this
        exact this
      have HF := Lib.hid hfin
      clear hl0 hc0 hrg hfin HRG
      go_wp2
      go_end0
      exact ⟨rfl, HF.out, HCH.out⟩
    · intro x c kl y y2 w1 cnt1 hkey hlx hR hat hrg1 hlt1 hg1 hs1 hen
      obtain ⟨c', ec, ey, hwc⟩ := plainElem_int_inv Try.underlying3 hR
      cases ey
      cases ec
      have hic : I64 c := I64.of_wf hwc
      have HIN : Hid (∀ i : Dig × Int, I64 i.2 → klP i.1 i.2 = kl → B.lea i = some c) := Lib.hid fun i hi e => by
        have := HTO.out i hi
        rw [e, hlx, if_pos rfl] at this
        exact told_some (fun _ _ h => intE_inj h) this hat
      obtain ⟨xs, rfl, hxs, hall⟩ := key_cells hkey
      have HCH1 : Hid (Chg (some q.e) w w1) := Lib.hid (chg_iter HCH.out hg1 (Nat.le_refl _))
      have hm0 : wr.rangeLeft q.e w.heap.size = cnt := HRG.out.left_eq
      have hne1 : q.e ≠ w.heap.size := by omega
      have hsz1 : w.heap.size < w1.heap.size := by omega
      obtain ⟨w2, hw2⟩ : ∃ w2, w2 = (w1.alloc (.cells #[.int .u8 0, .int .u8 0, .int .u8 0, .int .u8 0, .int .u8 0, .int .u8 0, .int .u8 0, .int .u8 0, .int .u8 0, .int .u8 0, .int .u8 0, .int .u8 0, .int .u8 0, .int .u8 0, .int .u8 0, .int .u8 0, .int .u8 0, .int .u8 0, .int .u8 0, .int .u8 0, .int .u8 0, .int .u8 0, .int .u8 0, .int .u8 0, .int .u8 0, .int .u8 0, .int .u8 0, .int .u8 0, .int .u8 0, .int .u8 0, .int .u8 0, .int .u8 0, .int .i64 0] 71)).setRow w1.heap.size xs := ⟨_, rfl⟩
      have g2 : Chg none w1 w2 := by
        rw [hw2]
        exact Kept.toChg (((Kept.of_chg ((Chg.refl none w1).alloc _)).mono (fun _ e => by cases e)).then (Kept.of_chg (chg_setRow _ w1.heap.size xs)) (fun g e => .inr (by injection e with e; omega)))
      have HCH2 : Hid (Chg (some q.e) w w2) := Lib.hid (HCH1.out.trans (g2.but _))
      have HRG2 := Lib.hid (hrg1.kept (row := none) g2 (by simp) (by simp))
      have hb71 : (w1.alloc (.cells #[.int .u8 0, .int .u8 0, .int .u8 0, .int .u8 0, .int .u8 0, .int .u8 0, .int .u8 0, .int .u8 0, .int .u8 0, .int .u8 0, .int .u8 0, .int .u8 0, .int .u8 0, .int .u8 0, .int .u8 0, .int .u8 0, .int .u8 0, .int .u8 0, .int .u8 0, .int .u8 0, .int .u8 0, .int .u8 0, .int .u8 0, .int .u8 0, .int .u8 0, .int .u8 0, .int .u8 0, .int .u8 0, .int .u8 0, .int .u8 0, .int .u8 0, .int .u8 0, .int .i64 0] 71)).heap[w1.heap.size]? = some (.cells #[.int .u8 0, .int .u8 0, .int .u8 0, .int .u8 0, .int .u8 0, .int .u8 0, .int .u8 0, .int .u8 0, .int .u8 0, .int .u8 0, .int .u8 0, .int .u8 0, .int .u8 0, .int .u8 0, .int .u8 0, .int .u8 0, .int .u8 0, .int .u8 0, .int .u8 0, .int .u8 0, .int .u8 0, .int .u8 0, .int .u8 0, .int .u8 0, .int .u8 0, .int .u8 0, .int .u8 0, .int .u8 0, .int .u8 0, .int .u8 0, .int .u8 0, .int .u8 0, .int .i64 0] 71 (0, 0)) := Blk.new w1 _ _
      have hrow2 : Blk w2 w1.heap.size xs 71 := by rw [hw2]; exact setRow_heap _ _ _ _ _ _ hb71
      have hi71 : (Try.prog.info? 71).map (·.size) = some xs.size := by rw [hxs]; kernel_rfl
      have hi71' : (Try.prog.info? 71).map (·.size) = some xs.toList.length := by rw [Array.length_toList]; exact hi71
      have hw12 : w2.heap.size = w1.heap.size + 1 := by rw [hw2]; simp [World.setRow]
      rw [hs1] at hb71 hw2 hrow2 hw12
      have o5' := World.grownBy.cell HCH2.out o5 (by simp; exact hne)
      have o8' := World.grownBy.cell HCH2.out o8 (by simp; exact hne)
      have HB71 := Lib.hid hb71
      have HI71 := Lib.hid hi71
      have HI71' := Lib.hid hi71'
      have HALL := Lib.hid hall
      have HRX : Hid (∀ v, Chg (some q.e) w2 v → v.rangeAt wr.heap.size 0 xs.toList) := Lib.hid fun v hv => rangeAt_chg (rangeAt_blk (by simpa using hrow2)) hv (by simp; omega)
      have HXS := Lib.hid hxs
      have HPX := Lib.hid (HPA.out c hic)
      have HKEY := Lib.hid hkey
      have HW2 := Lib.hid hw2
      clear hrg hrg1 hg1 hb71 hi71 hi71' hall hkey hlx hR hat g2 hrow2 hwc hic hw2
      obtain ⟨z, hz⟩ : ∃ z, pastB now c B.ttl = z := ⟨_, rfl⟩
      rw [hz] at HPX
      have HZ := Lib.hid hz
      clear hz
      go_wp2_with (refine wpList_store_row rfl 71 _ _ rfl wr.heap.size xs rfl rfl 71 #[.int .u8 0, .int .u8 0, .int .u8 0, .int .u8 0, .int .u8 0, .int .u8 0, .int .u8 0, .int .u8 0, .int .u8 0, .int .u8 0, .int .u8 0, .int .u8 0, .int .u8 0, .int .u8 0, .int .u8 0, .int .u8 0, .int .u8 0, .int .u8 0, .int .u8 0, .int .u8 0, .int .u8 0, .int .u8 0, .int .u8 0, .int .u8 0, .int .u8 0, .int .u8 0, .int .u8 0, .int .u8 0, .int .u8 0, .int .u8 0, .int .u8 0, .int .u8 0, .int .i64 0] HB71.out HI71.out (by rw [HXS.out]; rfl) HALL.out ?_; rw [← HW2.out])
      clear hen
      refine (HPX.out _).mono ?_
      rintro e w' ⟨rfl, rfl⟩
      cases z with
      | true =>
        have hS0 : Chg none w2 w2.drew := (Chg.refl _ _).drew
        have HDR : Hid (∀ ty, ∃ w9 cnt9, (Builtin.delete_ #[57, 71] ty #[.map (some q.e), .agg xs]).run Try.prog w2.drew = .ok (.tuple #[]) w9 ∧ w9.ranges Try.prog 71 (plainElem Try.prog 3) q.e w.heap.size n (D.del kl) (fun z => left z && !z.sameKey kl) cnt9 ∧ cnt9 ≤ cnt1 ∧ w2.drew.mapTurned w9 q.e) := Lib.hid fun ty => by
          obtain ⟨w9, cnt9, h1, h2, h3, h4⟩ := (HRG2.out.kept (row := none) hS0 (by simp) (by simp)).drop law71 Try.underlying57 HKEY.out ty
          rw [strike_twice] at h2
          exact ⟨w9, cnt9, h1, h2, h3, h4⟩
        go_wp2
        have hS1 : Chg (some q.e) w2 w2.drew := hS0.but _
        refine wp_region_held_drew (S := fun v => Chg (some q.e) w2 v) (by kernel_rfl) hS1 (fun _ => ?_)
        refine wpAnyH_take (i := 0) (oi := ⟨some 23, _, _, _, _, _⟩) (v := ?_) rfl (by kernel_rfl) (by kernel_rfl) (by kernel_rfl) (fun _ _ _ h => h) (Or.inl ⟨by rfl, ?_⟩) (by assumption) ?_
        rotate_left
        · intro v hSv; (try dsimp only at hSv); skip; go_simp; (try with_reducible rfl)
        try simp only [Act.put, List.setIfInBounds_toArray, List.set_cons_zero, List.set_cons_succ]
        refine wpAnyH_take (i := 1) (oi := ⟨some 24, _, _, _, _, _⟩) (v := ?_) rfl (by kernel_rfl) (by kernel_rfl) (by kernel_rfl) (fun _ _ _ h => h) (Or.inl ⟨by rfl, ?_⟩) (by assumption) ?_
        rotate_left
        · intro v hSv; (try dsimp only at hSv); skip; go_simp; (try with_reducible rfl)
        try simp only [Act.put, List.setIfInBounds_toArray, List.set_cons_zero, List.set_cons_succ]
        refine wpAnyH_take (i := 2) (oi := ⟨some 25, _, _, _, _, _⟩) (v := ?_) rfl (by kernel_rfl) (by kernel_rfl) (by kernel_rfl) (fun _ _ _ h => h) (Or.inl ⟨by rfl, ?_⟩) (by assumption) ?_
        rotate_left
        · intro v hSv; (try dsimp only at hSv); skip; go_simp; (try with_reducible rfl)
        try simp only [Act.put, List.setIfInBounds_toArray, List.set_cons_zero, List.set_cons_succ]
        refine wpAnyH_take (i := 3) (oi := ⟨some 26, _, _, _, _, _⟩) (v := .map (some q.e)) rfl (by kernel_rfl) (by kernel_rfl) (by kernel_rfl) (fun _ _ _ h => h) (Or.inl ⟨by rfl, ?_⟩) (by assumption) ?_
        · intro v hSv; have z := World.grownBy.cell hSv o8' (by simp; exact hne); go_simp
        try simp only [Act.put, List.setIfInBounds_toArray, List.set_cons_zero, List.set_cons_succ]
        refine wpAnyH_take (i := 4) (oi := ⟨some 27, _, _, _, _, _⟩) (v := .agg (xs.toList).toArray) rfl (by kernel_rfl) (by kernel_rfl) (by kernel_rfl) (fun _ _ _ h => h) (yieldsIf_load_mid (by rfl) 71 _ rfl wr.heap.size 0 rfl (xs.toList) _ (fun v h => HRX.out v h) Try.underlying71 rfl HI71'.out) (by assumption) ?_
        try simp only [Act.put, List.setIfInBounds_toArray, List.set_cons_zero, List.set_cons_succ]
        refine wpAnyH_ready (rs := [5]) (by kernel_rfl) (by simp) ?_
        refine AllReadyH.cons (o := ⟨none, _, _, _, _, _⟩) rfl (fun K hK => ?_) (AllReadyH.nil)
        obtain ⟨w9, cnt9, hr9, hrg9, hle9, htu9⟩ := HDR.out 0
        have hS9 : Chg (some q.e) w2 w9 := hS1.trans htu9.grown
        go_simp
        (try rw [hr9])
        (try go_simp)
        refine hK.out _ _ hS9 (fun _ => ?_)
        clear hK K
        refine wpAnyH_done (by kernel_rfl) ?_ _
        go_wp2
        go_roundw
        case rel =>
          refine Lib.hid ⟨_, _, cnt9, hrg9, fun i hi => ?_, HCH2.out.trans hS9, by have := hS9.size; omega⟩
          have ht := HTO.out i hi
          by_cases e : klP i.1 i.2 = kl
          · have hl := HIN.out i hi e
            rw [if_neg (by rw [e, WideAt.sameKey_self (law71.key HKEY.out)]; simp)]
            have : forgetF B.lea now B.ttl i = none := by unfold forgetF; rw [hl]; simp only; rw [HZ.out]; rfl
            rw [this, e]
            exact Told.del
          · rw [show (klP i.1 i.2).sameKey kl = false from by
              cases h : (klP i.1 i.2).sameKey kl
              · rfl
              · exact absurd (WideAt.sameKey_eq h) e]
            simp only [Bool.not_false, Bool.and_true]
            exact ht.delOther e
        case measure => rw [hrg9.left_eq, hm0]; omega
      | false =>
        go_wp2
        go_roundw
        case rel =>
          refine Lib.hid ⟨D, _, cnt1, HRG2.out, fun i hi => ?_, HCH2.out, by omega⟩
          have ht := HTO.out i hi
          by_cases e : klP i.1 i.2 = kl
          · have hl := HIN.out i hi e
            rw [if_neg (by rw [e, WideAt.sameKey_self (law71.key HKEY.out)]; simp)]
            have : B.lea i = forgetF B.lea now B.ttl i := by unfold forgetF; rw [hl]; simp only; rw [HZ.out]; simp
            rw [← this]
            have ht' := ht
            by_cases hl' : left (klP i.1 i.2) = true
            · rw [if_pos hl'] at ht'; exact ht'
            · rw [if_neg hl', ← this] at ht'; exact ht'
          · rw [show (klP i.1 i.2).sameKey kl = false from by
              cases h : (klP i.1 i.2).sameKey kl
              · rfl
              · exact absurd (WideAt.sameKey_eq h) e]
            simpa using ht
        case measure => rw [HRG2.out.left_eq, hm0]; exact hlt1

end Go.Proofs.Ytnpmfigcfikdgaa
