/-
  The document's journal: Read.
-/
import Derived.Test.YthkghjkgmfjmoaaDoorJD
namespace Go.Proofs.YthkghjkgmfjmoaaDoor
open Go.RowKit

theorem own_blk_ne {w : World} {base base' e e' size size' n n' : Nat} {v v' : Value} {xs xs' : List Value} (h : w.ownsRow base e size v n xs) (h' : w.ownsRow base' e' size' v' n' xs') (hne : e ≠ e') :
    v.ownBlock = none ∨ v.ownBlock ≠ v'.ownBlock := by
  rcases h.2 with ⟨rfl, _⟩ | ⟨g, cap, cur, rfl, _, hh, _⟩
  · left; rfl
  · right
    rcases h'.2 with ⟨rfl, _⟩ | ⟨g', cap', cur', rfl, _, hh', _⟩
    · simp [Value.ownBlock]
    · intro he
      have : g = g' := by simpa [Value.ownBlock] using he
      subst this
      rw [hh] at hh'
      injection hh' with hh'
      injection hh' with _ ht
      exact hne ht
theorem reads_val (w : World) (v : Value) : Reads (w.alloc (.cells #[v] 22 (0, 0))) (w.alloc (.cells #[v] 22 (0, 0))).heap.size 1 (some ⟨w.heap.size, 0, none⟩) 1 [v] :=
  ⟨rfl, fun _ => ⟨_, rfl, by simp, fun j u hu => by
    match j, hu with
    | 0, hu =>
      simp only [List.getElem?_cons_zero, Option.some.injEq] at hu
      subst hu
      rw [Go.WideShapes.add_plain, Nat.zero_add, (Blk.new w _ 22).cell]; rfl⟩⟩
theorem own_on {w w' : World} {base e size n : Nat} {v : Value} {xs : List Value} (h : w.ownsRow base e size v n xs) (g : Chg none w w') : w'.ownsRow base e size v n xs :=
  h.kept g (by cases v.ownBlock <;> simp)

/-- The document's Read, between two records. -/
structure RefSt (w : World) (bs : List UInt8) (xs : List RecE) (A : Option Addr) (c k : Nat) (W : World) : Prop where
  list : W.ownsRow w.heap.size 22 1 (.slice A xs.length c) xs.length (xs.map RecE.val)
  own : ∀ r ∈ xs, W.ownsRow w.heap.size 5 1 r.val r.x.length (byteVals r.x)
  all : xs.map (·.x) ++ (readJ bs k).1 = (readJ bs 0).1
  last : (readJ bs k).2 = (readJ bs 0).2
  here : lastQ xs = k
  few : xs.length ≤ k
  most : k ≤ bs.length
  chg : Chg none w W
  rise : xs.Pairwise RecE.ahead
theorem RefSt.on {w W W' : World} {bs : List UInt8} {xs : List RecE} {A : Option Addr} {c k : Nat} (h : RefSt w bs xs A c k W) (g : Chg none W W') : RefSt w bs xs A c k W' :=
  ⟨own_on h.list g, fun r hr => own_on (h.own r hr) g, h.all, h.last, h.here, h.few, h.most, h.chg.trans g, h.rise⟩
theorem RefSt.told {w W : World} {bs : List UInt8} {xs : List RecE} {A : Option Addr} {c k : Nat} (h : RefSt w bs xs A c k W) (hn : recJ bs k = none) :
    ReadTold w bs (.returned (.tuple #[.slice A xs.length c, .int .i64 k])) W := by
  have hr := readJ_none hn
  refine ⟨xs, A, c, ?_, h.list, ⟨h.own, ?_, ?_, h.rise⟩, h.chg⟩
  · rw [← h.last, hr]
  · rw [← h.all, hr, List.append_nil]
  · rw [h.here, ← h.last, hr]
theorem RefSt.step {w W V : World} {bs : List UInt8} {xs : List RecE} {A A' : Option Addr} {c c' k : Nat} {r : RecE} (h : RefSt w bs xs A c k W) (hrec : recJ bs k = some (r.x, r.q))
    (hown : W.ownsRow w.heap.size 5 1 r.val r.x.length (byteVals r.x)) (hrise : (xs ++ [r]).Pairwise RecE.ahead) (hlist : V.ownsRow w.heap.size 22 1 (.slice A' (xs.length + 1) c') (xs.length + 1) (xs.map RecE.val ++ [r.val]))
    (hg : (W.alloc (.cells #[r.val] 22)).grownBy V (Value.slice A xs.length c).ownBlock) : RefSt w bs (xs ++ [r]) A' c' r.q V := by
  have hlt := recJ_lt hrec
  have hs := readJ_some hrec
  have hfew := h.few
  refine ⟨?_, fun q hq => ?_, ?_, ?_, lastQ_snoc _ _, ?_, hlt.2, ?_, hrise⟩
  · rw [List.length_append, List.length_singleton, List.map_append]; exact hlist
  · rcases List.mem_append.1 hq with hq | hq
    · exact ((h.own q hq).alloc _).kept hg (own_blk_ne ((h.own q hq).alloc (.cells #[r.val] 22)) (h.list.alloc _) (by decide))
    · rw [List.mem_singleton] at hq
      subst hq
      exact (hown.alloc _).kept hg (own_blk_ne (hown.alloc (.cells #[q.val] 22)) (h.list.alloc _) (by decide))
  · rw [List.map_append, List.append_assoc, ← h.all, hs]; rfl
  · rw [← h.last, hs]
  · rw [List.length_append, List.length_singleton]; omega
  · exact own_chg ((h.chg).alloc _) (h.list.alloc _) (Nat.le_refl _) hg

set_option maxRecDepth 100000 in
set_option maxHeartbeats 16000000 in
theorem refread_any (px : Nat) (p : Prt) (w : World) (hh : HashAt w px) (hp : p.ok w) (hl : p.x.length ≤ 400000) :
    Calls Tryd.prog 22 #[.pointer (some ⟨px, 0, none⟩), .slice p.A p.x.length p.c] w (ReadTold w p.x) := by
  obtain ⟨i0, hi, hz0, hz1, hz2⟩ := info_parts Tryd.info22
  have HPP : Hid (∀ v, Chg none w v → p.ok v) := fun v g => hp.chg g
  have HHH : Hid (∀ v, Chg none w v → HashAt v px) := fun v g => hh.chg g (by simp)
  have HLE := Lib.hid (Nat.le_refl w.heap.size)
  have hst : RefSt w p.x [] none 0 0 w := ⟨World.ownsRow_nil _ _ _ _, fun r hr => (by cases hr), rfl, rfl, rfl, Nat.le_refl _, Nat.zero_le _, Chg.refl _ _, List.Pairwise.nil⟩
  have HST := Lib.hid hst
  clear hh hp hst
  go_enter Tryd.func22, Tryd.ntmps22
  go_wp2_with fail
  go_loopw [6, 7] (fun s6 s7 wr => ∃ (xs : List RecE) (A : Option Addr) (c k : Nat), s6 = .slice A xs.length c ∧ s7 = .int .i64 k ∧ RefSt w p.x xs A c k wr) (fun _ s7 _ => p.x.length + 1 - (intOf s7).toNat)
  case atStart => exact ⟨[], none, 0, 0, rfl, rfl, HST.out⟩
  case round =>
    obtain ⟨xs, A, c, k, rfl, rfl, hS⟩ := hrel
    have hk := hS.most
    have hfew := hS.few
    have hpo := HPP.out wr hS.chg
    have HB := Lib.hid (refBytes_any p.A p.x p.c (k : Int) 8000 wr (txt_reads hpo.1) (by omega) (by decide))
    have HS := Lib.hid hS
    obtain ⟨y, next, er, hq⟩ : ∃ y next er, readB p.x k 8000 = (y, next, er) := ⟨_, _, _, rfl⟩
    have e1 : (readB p.x k 8000).1 = y := by rw [hq]
    have e3 : (readB p.x k 8000).2.2 = er := by rw [hq]
    rw [hq] at HB
    clear hS hpo hq
    by_cases he : er = 0
    rotate_left
    · have HREC := Lib.hid (recJ_err (bs := p.x) (k := k) (by rw [e3]; exact he))
      have d1 : (er != 0) = true := by simpa using he
      have d2 : er ≠ 0 := he
      clear e1 e3 he hk hfew
      go_wp2_with fail
      refine HB.out.mono ?_
      rintro e w1 ⟨A1, n1, c1, rfl, _, _, hb1⟩
      have hT := Lib.hid ((HS.out.on (below_chg hb1)).told HREC.out)
      clear hb1 HB HS
      go_wp2_with fail
      go_ret2
      exact hT.out
    subst he
    by_cases hm : mayJ y = true
    rotate_left
    · have hm' : mayJ y = false := by simpa using hm
      have HREC := Lib.hid (recJ_small (bs := p.x) (k := k) e1 hm')
      have HMY : Hid (∀ (v : World) (A : Option Addr) (c : Nat), Calls Tryd.prog 18 #[.slice A y.length c] v fun e w' => e = .returned (.bool false) ∧ w' = v) := fun v A c => by rw [← hm']; exact may_any A y c v
      clear e1 e3 hk hfew hm hm'
      go_wp2_with fail
      refine HB.out.mono ?_
      rintro e w1 ⟨A1, n1, c1, rfl, hn1, _, hb1⟩
      replace hn1 : n1 = y.length := hn1
      subst hn1
      have hT := Lib.hid ((HS.out.on (below_chg hb1)).told HREC.out)
      clear hb1 HB HS
      go_wp2_with fail
      refine (HMY.out _ _ _).mono ?_
      rintro e w2 ⟨rfl, rfl⟩
      go_wp2_with fail
      go_ret2
      exact hT.out
    have HMY : Hid (∀ (v : World) (A : Option Addr) (c : Nat), Calls Tryd.prog 18 #[.slice A y.length c] v fun e w' => e = .returned (.bool true) ∧ w' = v) := fun v A c => by rw [← hm]; exact may_any A y c v
    have hyl : y.length ≤ 8000 := by unfold mayJ at hm; simp only [Bool.and_eq_true, decide_eq_true_eq] at hm; exact hm.2
    have hrec := recJ_ref e1 hm
    have HFM : Hid (∀ (v : World) (A : Option Addr) (c : Nat), Chg none w v → Txt v A y → y.length ≤ c → Calls Tryd.prog 19 #[.pointer (some ⟨px, 0, none⟩), .slice A y.length c] v (OwnPost v (formJ y))) := fun v A c g h hc => refform_any px ⟨A, y, c⟩ v (HHH.out v g) ⟨h, hc⟩ (by show y.length ≤ 400000; omega)
    have hfl := formJ_len y
    have hrl := row_len y (by omega)
    have HLB : Hid ((formJ y).length ≤ 9000) := by show (formJ y).length ≤ 9000; omega
    obtain ⟨F, hF⟩ : ∃ F, F = formJ y := ⟨_, rfl⟩
    rw [← hF] at hrec HFM HLB
    have hflb := HLB.out
    have hw : IntKind.i64.wrap ((p.x.length : Int) - (k : Int)) = (p.x.length : Int) - (k : Int) := by rw [IntKind.wrap_i64]; omega
    have hw2 : IntKind.i64.wrap ((k : Int) + (F.length : Int)) = (k : Int) + (F.length : Int) := by rw [IntKind.wrap_i64]; omega
    have HCV : Hid (∀ v A j c (z : List UInt8), Txt v A z → j = z.length → (convert 22 9 (.slice A j c)).run Tryd.prog v = .ok (.string ⟨z.toArray⟩) v) := fun v A j c z h e => by subst e; exact conv_reads v (txt_reads h)
    clear e1 e3 hm hyl hfl hrl hF
    go_wp2_with fail
    refine HB.out.mono ?_
    rintro e w1 ⟨A1, n1, c1, rfl, hn1, hown1, hb1⟩
    replace hn1 : n1 = y.length := hn1
    subst hn1
    have hS1 := HS.out.on (below_chg hb1)
    have hT1 := own_txt hown1
    have HF1 := Lib.hid (HFM.out w1 A1 c1 hS1.chg hT1.1 hT1.2.2)
    have HS1 := Lib.hid hS1
    have HRISE : Hid (∀ q : Nat, ∀ _ : Unit, (xs ++ [(⟨A1, y, c1, q⟩ : RecE)]).Pairwise RecE.ahead) := fun q _ => rise_snoc (r := ⟨A1, y, c1, q⟩) HS.out.rise HS.out.own hown1
    have HOWN1 : Hid (w1.ownsRow w.heap.size 5 1 (.slice A1 y.length c1) y.length (byteVals y)) := World.ownsRow.mono hown1 HS.out.chg.size
    clear hb1 HB HS hown1 hS1 hT1 HFM
    go_wp2_with fail
    refine (HMY.out _ _ _).mono ?_
    rintro e w2 ⟨rfl, rfl⟩
    go_wp2_with fail
    refine HF1.out.mono ?_
    rintro e w3 ⟨A2, c2, rfl, hown2, g3⟩
    have HS3 := Lib.hid (HS1.out.on g3)
    have HOWN3 := Lib.hid (own_on HOWN1.out g3)
    have HT3 := Lib.hid (own_txt hown2).1
    have HP3 := Lib.hid (HPP.out w3 (HS1.out.chg.trans g3))
    clear hown2 g3 HS1 HOWN1 HF1 HMY HHH
    go_upto_region 7 with fail
    have hS0 : Txt w3.drew A2 F ∧ Txt w3.drew p.A p.x := ⟨HT3.out.chg (Chg.refl none w3).drew, HP3.out.1.chg (Chg.refl none w3).drew⟩
    have HS4 : Hid (RefSt w p.x xs A c k w3.drew) := HS3.out.on (Chg.refl none w3).drew
    have HOWN4 : Hid (w3.drew.ownsRow w.heap.size 5 1 (.slice A1 y.length c1) y.length (byteVals y)) := own_on HOWN3.out (Chg.refl none w3).drew
    have hpc := HP3.out.2
    clear HS3 HOWN3 HT3 HP3
    by_cases hs : (p.x.length : Int) - (k : Int) < (F.length : Int)
    · have d1 : decide ((p.x.length : Int) - (k : Int) < (F.length : Int)) = true := by rw [decide_eq_true_eq]; exact hs
      have HT := Lib.hid (HS4.out.told (by rw [hrec, if_neg (by omega)]))
      clear hrec hs hpc hflb hfew HOWN4 HS4
      refine wp_region_held_drew (S := fun w' => Txt w' A2 F ∧ Txt w' p.A p.x) (by kernel_rfl) hS0 (fun _ => ?_)
      generalize w3.drew = v0 at *
      refine wpAnyH_take (i := 0) (oi := ⟨some 31, _, _, _, _, _⟩) (v := ?_) rfl (by kernel_rfl) (by kernel_rfl) (by kernel_rfl) (fun _ _ _ h => h) (Or.inl ⟨by rfl, ?_⟩) (by assumption) ?_
      rotate_left
      · intro w hSw; (try dsimp only at hSw); go_simp; (try with_reducible rfl)
      try simp only [Act.put, List.setIfInBounds_toArray, List.set_cons_zero, List.set_cons_succ]
      refine wpAnyH_take (i := 1) (oi := ⟨some 32, _, _, _, _, _⟩) (v := ?_) rfl (by kernel_rfl) (by kernel_rfl) (by kernel_rfl) (fun _ _ _ h => h) (Or.inl ⟨by rfl, ?_⟩) (by assumption) ?_
      rotate_left
      · intro w hSw; (try dsimp only at hSw); go_simp; (try with_reducible rfl)
      try simp only [Act.put, List.setIfInBounds_toArray, List.set_cons_zero, List.set_cons_succ]
      refine wpAnyH_take (i := 2) (oi := ⟨some 33, _, _, _, _, _⟩) (v := ?_) rfl (by kernel_rfl) (by kernel_rfl) (by kernel_rfl) (fun _ _ _ h => h) (Or.inl ⟨by rfl, ?_⟩) (by assumption) ?_
      rotate_left
      · intro w hSw; (try dsimp only at hSw); go_simp; (try with_reducible rfl)
      try simp only [Act.put, List.setIfInBounds_toArray, List.set_cons_zero, List.set_cons_succ]
      refine wpAnyH_take (i := 3) (oi := ⟨some 34, _, _, _, _, _⟩) (v := ?_) rfl (by kernel_rfl) (by kernel_rfl) (by kernel_rfl) (fun _ _ _ h => h) (Or.inl ⟨by rfl, ?_⟩) (by assumption) ?_
      rotate_left
      · intro w hSw; (try dsimp only at hSw); go_simp; (try with_reducible rfl)
      try simp only [Act.put, List.setIfInBounds_toArray, List.set_cons_zero, List.set_cons_succ]
      refine wpAnyH_take (i := 4) (oi := ⟨some 35, _, _, _, _, _⟩) (v := ?_) rfl (by kernel_rfl) (by kernel_rfl) (by kernel_rfl) (fun _ _ _ h => h) (Or.inl ⟨by rfl, ?_⟩) (by assumption) ?_
      rotate_left
      · intro w hSw; (try dsimp only at hSw); go_simp; (try with_reducible rfl)
      try simp only [Act.put, List.setIfInBounds_toArray, List.set_cons_zero, List.set_cons_succ]
      refine wpAnyH_take (i := 5) (oi := ⟨some 36, _, _, _, _, _⟩) (v := ?_) rfl (by kernel_rfl) (by kernel_rfl) (by kernel_rfl) (fun _ _ _ h => h) (Or.inl ⟨by rfl, ?_⟩) (by assumption) ?_
      rotate_left
      · intro w hSw; (try dsimp only at hSw); go_simp; (try with_reducible rfl)
      try simp only [Act.put, List.setIfInBounds_toArray, List.set_cons_zero, List.set_cons_succ]
      refine wpAnyH_take (i := 6) (oi := ⟨some 37, _, _, _, _, _⟩) (v := ?_) rfl (by kernel_rfl) (by kernel_rfl) (by kernel_rfl) (fun _ _ _ h => h) (Or.inl ⟨by rfl, ?_⟩) (by assumption) ?_
      rotate_left
      · intro w hSw; (try dsimp only at hSw); go_simp; (try with_reducible rfl)
      try simp only [Act.put, List.setIfInBounds_toArray, List.set_cons_zero, List.set_cons_succ]
      refine wpAnyH_take (i := 7) (oi := ⟨some 38, _, _, _, _, _⟩) (v := ?_) rfl (by kernel_rfl) (by kernel_rfl) (by kernel_rfl) (fun _ _ _ h => h) (Or.inl ⟨by rfl, ?_⟩) (by assumption) ?_
      rotate_left
      · intro w hSw; (try dsimp only at hSw); go_simp; (try with_reducible rfl)
      try simp only [Act.put, List.setIfInBounds_toArray, List.set_cons_zero, List.set_cons_succ]
      refine wpAnyH_take (i := 8) (oi := ⟨some 39, _, _, _, _, _⟩) (v := undef) rfl (by kernel_rfl) (by kernel_rfl) (by kernel_rfl) (fun _ _ _ h => h) (Or.inr ⟨by rfl, rfl⟩) (by assumption) ?_
      try simp only [Act.put, List.setIfInBounds_toArray, List.set_cons_zero, List.set_cons_succ]
      refine wpAnyH_take (i := 9) (oi := ⟨some 40, _, _, _, _, _⟩) (v := undef) rfl (by kernel_rfl) (by kernel_rfl) (by kernel_rfl) (fun _ _ _ h => h) (Or.inr ⟨by rfl, rfl⟩) (by assumption) ?_
      try simp only [Act.put, List.setIfInBounds_toArray, List.set_cons_zero, List.set_cons_succ]
      refine wpAnyH_take (i := 10) (oi := ⟨some 41, _, _, _, _, _⟩) (v := undef) rfl (by kernel_rfl) (by kernel_rfl) (by kernel_rfl) (fun _ _ _ h => h) (Or.inr ⟨by rfl, rfl⟩) (by assumption) ?_
      try simp only [Act.put, List.setIfInBounds_toArray, List.set_cons_zero, List.set_cons_succ]
      refine wpAnyH_take (i := 11) (oi := ⟨some 42, _, _, _, _, _⟩) (v := undef) rfl (by kernel_rfl) (by kernel_rfl) (by kernel_rfl) (fun _ _ _ h => h) (Or.inr ⟨by rfl, rfl⟩) (by assumption) ?_
      try simp only [Act.put, List.setIfInBounds_toArray, List.set_cons_zero, List.set_cons_succ]
      refine wpAnyH_take (i := 12) (oi := ⟨some 43, _, _, _, _, _⟩) (v := undef) rfl (by kernel_rfl) (by kernel_rfl) (by kernel_rfl) (fun _ _ _ h => h) (Or.inr ⟨by rfl, rfl⟩) (by assumption) ?_
      try simp only [Act.put, List.setIfInBounds_toArray, List.set_cons_zero, List.set_cons_succ]
      refine wpAnyH_take (i := 13) (oi := ⟨some 44, _, _, _, _, _⟩) (v := undef) rfl (by kernel_rfl) (by kernel_rfl) (by kernel_rfl) (fun _ _ _ h => h) (Or.inr ⟨by rfl, rfl⟩) (by assumption) ?_
      try simp only [Act.put, List.setIfInBounds_toArray, List.set_cons_zero, List.set_cons_succ]
      refine wpAnyH_take (i := 14) (oi := ⟨some 45, _, _, _, _, _⟩) (v := undef) rfl (by kernel_rfl) (by kernel_rfl) (by kernel_rfl) (fun _ _ _ h => h) (Or.inr ⟨by rfl, rfl⟩) (by assumption) ?_
      try simp only [Act.put, List.setIfInBounds_toArray, List.set_cons_zero, List.set_cons_succ]
      refine wpAnyH_take (i := 15) (oi := ⟨some 46, _, _, _, _, _⟩) (v := undef) rfl (by kernel_rfl) (by kernel_rfl) (by kernel_rfl) (fun _ _ _ h => h) (Or.inr ⟨by rfl, rfl⟩) (by assumption) ?_
      try simp only [Act.put, List.setIfInBounds_toArray, List.set_cons_zero, List.set_cons_succ]
      refine wpAnyH_take (i := 16) (oi := ⟨some 47, _, _, _, _, _⟩) (v := undef) rfl (by kernel_rfl) (by kernel_rfl) (by kernel_rfl) (fun _ _ _ h => h) (Or.inr ⟨by rfl, rfl⟩) (by assumption) ?_
      try simp only [Act.put, List.setIfInBounds_toArray, List.set_cons_zero, List.set_cons_succ]
      refine wpAnyH_take (i := 17) (oi := ⟨some 48, _, _, _, _, _⟩) (v := undef) rfl (by kernel_rfl) (by kernel_rfl) (by kernel_rfl) (fun _ _ _ h => h) (Or.inr ⟨by rfl, rfl⟩) (by assumption) ?_
      try simp only [Act.put, List.setIfInBounds_toArray, List.set_cons_zero, List.set_cons_succ]
      refine wpAnyH_take (i := 18) (oi := ⟨some 49, _, _, _, _, _⟩) (v := undef) rfl (by kernel_rfl) (by kernel_rfl) (by kernel_rfl) (fun _ _ _ h => h) (Or.inr ⟨by rfl, rfl⟩) (by assumption) ?_
      try simp only [Act.put, List.setIfInBounds_toArray, List.set_cons_zero, List.set_cons_succ]
      refine wpAnyH_take (i := 19) (oi := ⟨some 50, _, _, _, _, _⟩) (v := ?_) rfl (by kernel_rfl) (by kernel_rfl) (by kernel_rfl) (fun _ _ _ h => h) (Or.inl ⟨by rfl, ?_⟩) (by assumption) ?_
      rotate_left
      · intro w hSw; (try dsimp only at hSw); go_simp; (try with_reducible rfl)
      try simp only [Act.put, List.setIfInBounds_toArray, List.set_cons_zero, List.set_cons_succ]
      refine wpAnyH_done (by kernel_rfl) ?_ _
      try simp only [Act.put]
      go_wp2_with fail
      go_ret2
      exact HT.out
    have d1 : decide ((p.x.length : Int) - (k : Int) < (F.length : Int)) = false := by rw [decide_eq_false_iff_not]; exact hs
    obtain ⟨AQ, hAQ⟩ : ∃ AQ, AQ = if p.c = k then p.A else p.A.map (·.add k) := ⟨_, rfl⟩
    obtain ⟨G, hG⟩ : ∃ G, G = (p.x.drop k).take F.length := ⟨_, rfl⟩
    have hGl : F.length = G.length := by rw [hG, List.length_take, List.length_drop]; omega
    have HGL := Lib.hid hGl
    have HTQ : Hid (∀ v, Txt v p.A p.x → Txt v AQ G) := fun v h => by rw [hAQ, hG]; exact (h.cut hpc).first F.length
    have HCU : Hid (∀ v : World, (Instr.sliceAt 22 (.slice p.A p.x.length p.c) (some (.int .i64 k)) (some (.int .i64 ((k : Int) + (F.length : Int)))) none).run Tryd.prog v = .ok (.slice AQ F.length (p.c - k)) v) := fun v => by
      have := cut_lo_hi p.A p.x.length p.c k (k + F.length) (by omega) (by omega) v
      rw [← hAQ, show k + F.length - k = F.length by omega] at this
      rw [show ((k : Int) + (F.length : Int)) = ((k + F.length : Nat) : Int) by omega]
      exact this
    rw [← hG] at hrec
    clear hAQ hG hGl
    by_cases hc : G = F
    rotate_left
    · have HT := Lib.hid (HS4.out.told (by rw [hrec, if_neg (fun h => hc h.2)]))
      have HNE : Hid ((F == G) = false) := by show (F == G) = false; rw [beq_eq_false_iff_ne]; exact fun h => hc h.symm
      clear hrec hs hpc hflb hfew HOWN4 HS4 hc
      refine wp_region_held_drew (S := fun w' => Txt w' A2 F ∧ Txt w' p.A p.x) (by kernel_rfl) hS0 (fun _ => ?_)
      generalize w3.drew = v0 at *
      refine wpAnyH_take (i := 0) (oi := ⟨some 31, _, _, _, _, _⟩) (v := ?_) rfl (by kernel_rfl) (by kernel_rfl) (by kernel_rfl) (fun _ _ _ h => h) (Or.inl ⟨by rfl, ?_⟩) (by assumption) ?_
      rotate_left
      · intro w hSw; (try dsimp only at hSw); go_simp; (try with_reducible rfl)
      try simp only [Act.put, List.setIfInBounds_toArray, List.set_cons_zero, List.set_cons_succ]
      refine wpAnyH_take (i := 1) (oi := ⟨some 32, _, _, _, _, _⟩) (v := ?_) rfl (by kernel_rfl) (by kernel_rfl) (by kernel_rfl) (fun _ _ _ h => h) (Or.inl ⟨by rfl, ?_⟩) (by assumption) ?_
      rotate_left
      · intro w hSw; (try dsimp only at hSw); go_simp; (try with_reducible rfl)
      try simp only [Act.put, List.setIfInBounds_toArray, List.set_cons_zero, List.set_cons_succ]
      refine wpAnyH_take (i := 2) (oi := ⟨some 33, _, _, _, _, _⟩) (v := ?_) rfl (by kernel_rfl) (by kernel_rfl) (by kernel_rfl) (fun _ _ _ h => h) (Or.inl ⟨by rfl, ?_⟩) (by assumption) ?_
      rotate_left
      · intro w hSw; (try dsimp only at hSw); go_simp; (try with_reducible rfl)
      try simp only [Act.put, List.setIfInBounds_toArray, List.set_cons_zero, List.set_cons_succ]
      refine wpAnyH_take (i := 3) (oi := ⟨some 34, _, _, _, _, _⟩) (v := ?_) rfl (by kernel_rfl) (by kernel_rfl) (by kernel_rfl) (fun _ _ _ h => h) (Or.inl ⟨by rfl, ?_⟩) (by assumption) ?_
      rotate_left
      · intro w hSw; (try dsimp only at hSw); go_simp; (try with_reducible rfl)
      try simp only [Act.put, List.setIfInBounds_toArray, List.set_cons_zero, List.set_cons_succ]
      refine wpAnyH_take (i := 4) (oi := ⟨some 35, _, _, _, _, _⟩) (v := ?_) rfl (by kernel_rfl) (by kernel_rfl) (by kernel_rfl) (fun _ _ _ h => h) (Or.inl ⟨by rfl, ?_⟩) (by assumption) ?_
      rotate_left
      · intro w hSw; (try dsimp only at hSw); go_simp; (try with_reducible rfl)
      try simp only [Act.put, List.setIfInBounds_toArray, List.set_cons_zero, List.set_cons_succ]
      refine wpAnyH_take (i := 5) (oi := ⟨some 36, _, _, _, _, _⟩) (v := ?_) rfl (by kernel_rfl) (by kernel_rfl) (by kernel_rfl) (fun _ _ _ h => h) (Or.inl ⟨by rfl, ?_⟩) (by assumption) ?_
      rotate_left
      · intro w hSw; (try dsimp only at hSw); go_simp; (try with_reducible rfl)
      try simp only [Act.put, List.setIfInBounds_toArray, List.set_cons_zero, List.set_cons_succ]
      refine wpAnyH_take (i := 6) (oi := ⟨some 37, _, _, _, _, _⟩) (v := ?_) rfl (by kernel_rfl) (by kernel_rfl) (by kernel_rfl) (fun _ _ _ h => h) (Or.inl ⟨by rfl, ?_⟩) (by assumption) ?_
      rotate_left
      · intro w hSw; (try dsimp only at hSw); go_simp; (try with_reducible rfl)
      try simp only [Act.put, List.setIfInBounds_toArray, List.set_cons_zero, List.set_cons_succ]
      refine wpAnyH_take (i := 7) (oi := ⟨some 38, _, _, _, _, _⟩) (v := ?_) rfl (by kernel_rfl) (by kernel_rfl) (by kernel_rfl) (fun _ _ _ h => h) (Or.inl ⟨by rfl, ?_⟩) (by assumption) ?_
      rotate_left
      · intro w hSw; (try dsimp only at hSw); go_simp; (try with_reducible rfl)
      try simp only [Act.put, List.setIfInBounds_toArray, List.set_cons_zero, List.set_cons_succ]
      refine wpAnyH_take (i := 8) (oi := ⟨some 39, _, _, _, _, _⟩) (v := ?_) rfl (by kernel_rfl) (by kernel_rfl) (by kernel_rfl) (fun _ _ _ h => h) (Or.inl ⟨by rfl, ?_⟩) (by assumption) ?_
      rotate_left
      · intro w hSw; (try dsimp only at hSw); go_simp; (try with_reducible rfl)
      try simp only [Act.put, List.setIfInBounds_toArray, List.set_cons_zero, List.set_cons_succ]
      refine wpAnyH_take (i := 9) (oi := ⟨some 40, _, _, _, _, _⟩) (v := .string ⟨F.toArray⟩) rfl (by kernel_rfl) (by kernel_rfl) (by kernel_rfl) (fun _ _ _ h => h) (Or.inl ⟨by rfl, ?_⟩) (by assumption) ?_
      · intro w hSw; have hcx := HCV.out w A2 F.length c2 F hSw.1 rfl; go_simp
      try simp only [Act.put, List.setIfInBounds_toArray, List.set_cons_zero, List.set_cons_succ]
      refine wpAnyH_take (i := 10) (oi := ⟨some 41, _, _, _, _, _⟩) (v := ?_) rfl (by kernel_rfl) (by kernel_rfl) (by kernel_rfl) (fun _ _ _ h => h) (Or.inl ⟨by rfl, ?_⟩) (by assumption) ?_
      rotate_left
      · intro w hSw; (try dsimp only at hSw); go_simp; (try with_reducible rfl)
      try simp only [Act.put, List.setIfInBounds_toArray, List.set_cons_zero, List.set_cons_succ]
      refine wpAnyH_take (i := 11) (oi := ⟨some 42, _, _, _, _, _⟩) (v := ?_) rfl (by kernel_rfl) (by kernel_rfl) (by kernel_rfl) (fun _ _ _ h => h) (Or.inl ⟨by rfl, ?_⟩) (by assumption) ?_
      rotate_left
      · intro w hSw; (try dsimp only at hSw); go_simp; (try with_reducible rfl)
      try simp only [Act.put, List.setIfInBounds_toArray, List.set_cons_zero, List.set_cons_succ]
      refine wpAnyH_take (i := 12) (oi := ⟨some 43, _, _, _, _, _⟩) (v := ?_) rfl (by kernel_rfl) (by kernel_rfl) (by kernel_rfl) (fun _ _ _ h => h) (Or.inl ⟨by rfl, ?_⟩) (by assumption) ?_
      rotate_left
      · intro w hSw; (try dsimp only at hSw); go_simp; (try with_reducible rfl)
      try simp only [Act.put, List.setIfInBounds_toArray, List.set_cons_zero, List.set_cons_succ]
      refine wpAnyH_take (i := 13) (oi := ⟨some 44, _, _, _, _, _⟩) (v := ?_) rfl (by kernel_rfl) (by kernel_rfl) (by kernel_rfl) (fun _ _ _ h => h) (Or.inl ⟨by rfl, ?_⟩) (by assumption) ?_
      rotate_left
      · intro w hSw; (try dsimp only at hSw); go_simp; (try with_reducible rfl)
      try simp only [Act.put, List.setIfInBounds_toArray, List.set_cons_zero, List.set_cons_succ]
      refine wpAnyH_take (i := 14) (oi := ⟨some 45, _, _, _, _, _⟩) (v := ?_) rfl (by kernel_rfl) (by kernel_rfl) (by kernel_rfl) (fun _ _ _ h => h) (Or.inl ⟨by rfl, ?_⟩) (by assumption) ?_
      rotate_left
      · intro w hSw; (try dsimp only at hSw); go_simp; (try with_reducible rfl)
      try simp only [Act.put, List.setIfInBounds_toArray, List.set_cons_zero, List.set_cons_succ]
      refine wpAnyH_take (i := 15) (oi := ⟨some 46, _, _, _, _, _⟩) (v := ?_) rfl (by kernel_rfl) (by kernel_rfl) (by kernel_rfl) (fun _ _ _ h => h) (Or.inl ⟨by rfl, ?_⟩) (by assumption) ?_
      rotate_left
      · intro w hSw; (try dsimp only at hSw); go_simp; (try with_reducible rfl)
      try simp only [Act.put, List.setIfInBounds_toArray, List.set_cons_zero, List.set_cons_succ]
      refine wpAnyH_take (i := 16) (oi := ⟨some 47, _, _, _, _, _⟩) (v := .slice AQ F.length (p.c - k)) rfl (by kernel_rfl) (by kernel_rfl) (by kernel_rfl) (fun _ _ _ h => h) (Or.inl ⟨by rfl, ?_⟩) (by assumption) ?_
      · intro w hSw; have hcx := HCU.out w; go_simp
      try simp only [Act.put, List.setIfInBounds_toArray, List.set_cons_zero, List.set_cons_succ]
      refine wpAnyH_take (i := 17) (oi := ⟨some 48, _, _, _, _, _⟩) (v := .string ⟨G.toArray⟩) rfl (by kernel_rfl) (by kernel_rfl) (by kernel_rfl) (fun _ _ _ h => h) (Or.inl ⟨by rfl, ?_⟩) (by assumption) ?_
      · intro w hSw; have hcx := HCV.out w AQ F.length (p.c - k) G (HTQ.out w hSw.2) HGL.out; go_simp
      try simp only [Act.put, List.setIfInBounds_toArray, List.set_cons_zero, List.set_cons_succ]
      refine wpAnyH_take (i := 18) (oi := ⟨some 49, _, _, _, _, _⟩) (v := .bool true) rfl (by kernel_rfl) (by kernel_rfl) (by kernel_rfl) (fun _ _ _ h => h) (Or.inl ⟨by rfl, ?_⟩) (by assumption) ?_
      · intro w hSw; have hne := HNE.out; go_simp
      try simp only [Act.put, List.setIfInBounds_toArray, List.set_cons_zero, List.set_cons_succ]
      refine wpAnyH_take (i := 19) (oi := ⟨some 50, _, _, _, _, _⟩) (v := ?_) rfl (by kernel_rfl) (by kernel_rfl) (by kernel_rfl) (fun _ _ _ h => h) (Or.inl ⟨by rfl, ?_⟩) (by assumption) ?_
      rotate_left
      · intro w hSw; (try dsimp only at hSw); go_simp; (try with_reducible rfl)
      try simp only [Act.put, List.setIfInBounds_toArray, List.set_cons_zero, List.set_cons_succ]
      refine wpAnyH_done (by kernel_rfl) ?_ _
      try simp only [Act.put]
      go_wp2_with fail
      go_ret2
      exact HT.out
    · have hrec : recJ p.x k = some (y, k + F.length) := by rw [hrec, if_pos ⟨by omega, hc⟩]
      have HREC := Lib.hid hrec
      have HFEW : Hid (xs.length ≤ 400000) := Nat.le_trans hfew (by omega)
      have HPOS : Hid (k < k + F.length ∧ k + F.length ≤ p.x.length) := by have := recJ_lt hrec; show _ ∧ _; omega
      subst hc
      clear hrec hs hpc hflb hfew
      refine wp_region_held_drew (S := fun w' => Txt w' A2 G ∧ Txt w' p.A p.x) (by kernel_rfl) hS0 (fun _ => ?_)
      generalize w3.drew = v0 at *
      refine wpAnyH_take (i := 0) (oi := ⟨some 31, _, _, _, _, _⟩) (v := ?_) rfl (by kernel_rfl) (by kernel_rfl) (by kernel_rfl) (fun _ _ _ h => h) (Or.inl ⟨by rfl, ?_⟩) (by assumption) ?_
      rotate_left
      · intro w hSw; (try dsimp only at hSw); go_simp; (try with_reducible rfl)
      try simp only [Act.put, List.setIfInBounds_toArray, List.set_cons_zero, List.set_cons_succ]
      refine wpAnyH_take (i := 1) (oi := ⟨some 32, _, _, _, _, _⟩) (v := ?_) rfl (by kernel_rfl) (by kernel_rfl) (by kernel_rfl) (fun _ _ _ h => h) (Or.inl ⟨by rfl, ?_⟩) (by assumption) ?_
      rotate_left
      · intro w hSw; (try dsimp only at hSw); go_simp; (try with_reducible rfl)
      try simp only [Act.put, List.setIfInBounds_toArray, List.set_cons_zero, List.set_cons_succ]
      refine wpAnyH_take (i := 2) (oi := ⟨some 33, _, _, _, _, _⟩) (v := ?_) rfl (by kernel_rfl) (by kernel_rfl) (by kernel_rfl) (fun _ _ _ h => h) (Or.inl ⟨by rfl, ?_⟩) (by assumption) ?_
      rotate_left
      · intro w hSw; (try dsimp only at hSw); go_simp; (try with_reducible rfl)
      try simp only [Act.put, List.setIfInBounds_toArray, List.set_cons_zero, List.set_cons_succ]
      refine wpAnyH_take (i := 3) (oi := ⟨some 34, _, _, _, _, _⟩) (v := ?_) rfl (by kernel_rfl) (by kernel_rfl) (by kernel_rfl) (fun _ _ _ h => h) (Or.inl ⟨by rfl, ?_⟩) (by assumption) ?_
      rotate_left
      · intro w hSw; (try dsimp only at hSw); go_simp; (try with_reducible rfl)
      try simp only [Act.put, List.setIfInBounds_toArray, List.set_cons_zero, List.set_cons_succ]
      refine wpAnyH_take (i := 4) (oi := ⟨some 35, _, _, _, _, _⟩) (v := ?_) rfl (by kernel_rfl) (by kernel_rfl) (by kernel_rfl) (fun _ _ _ h => h) (Or.inl ⟨by rfl, ?_⟩) (by assumption) ?_
      rotate_left
      · intro w hSw; (try dsimp only at hSw); go_simp; (try with_reducible rfl)
      try simp only [Act.put, List.setIfInBounds_toArray, List.set_cons_zero, List.set_cons_succ]
      refine wpAnyH_take (i := 5) (oi := ⟨some 36, _, _, _, _, _⟩) (v := ?_) rfl (by kernel_rfl) (by kernel_rfl) (by kernel_rfl) (fun _ _ _ h => h) (Or.inl ⟨by rfl, ?_⟩) (by assumption) ?_
      rotate_left
      · intro w hSw; (try dsimp only at hSw); go_simp; (try with_reducible rfl)
      try simp only [Act.put, List.setIfInBounds_toArray, List.set_cons_zero, List.set_cons_succ]
      refine wpAnyH_take (i := 6) (oi := ⟨some 37, _, _, _, _, _⟩) (v := ?_) rfl (by kernel_rfl) (by kernel_rfl) (by kernel_rfl) (fun _ _ _ h => h) (Or.inl ⟨by rfl, ?_⟩) (by assumption) ?_
      rotate_left
      · intro w hSw; (try dsimp only at hSw); go_simp; (try with_reducible rfl)
      try simp only [Act.put, List.setIfInBounds_toArray, List.set_cons_zero, List.set_cons_succ]
      refine wpAnyH_take (i := 7) (oi := ⟨some 38, _, _, _, _, _⟩) (v := ?_) rfl (by kernel_rfl) (by kernel_rfl) (by kernel_rfl) (fun _ _ _ h => h) (Or.inl ⟨by rfl, ?_⟩) (by assumption) ?_
      rotate_left
      · intro w hSw; (try dsimp only at hSw); go_simp; (try with_reducible rfl)
      try simp only [Act.put, List.setIfInBounds_toArray, List.set_cons_zero, List.set_cons_succ]
      refine wpAnyH_take (i := 8) (oi := ⟨some 39, _, _, _, _, _⟩) (v := ?_) rfl (by kernel_rfl) (by kernel_rfl) (by kernel_rfl) (fun _ _ _ h => h) (Or.inl ⟨by rfl, ?_⟩) (by assumption) ?_
      rotate_left
      · intro w hSw; (try dsimp only at hSw); go_simp; (try with_reducible rfl)
      try simp only [Act.put, List.setIfInBounds_toArray, List.set_cons_zero, List.set_cons_succ]
      refine wpAnyH_take (i := 9) (oi := ⟨some 40, _, _, _, _, _⟩) (v := .string ⟨G.toArray⟩) rfl (by kernel_rfl) (by kernel_rfl) (by kernel_rfl) (fun _ _ _ h => h) (Or.inl ⟨by rfl, ?_⟩) (by assumption) ?_
      · intro w hSw; have hcx := HCV.out w A2 G.length c2 G hSw.1 rfl; go_simp
      try simp only [Act.put, List.setIfInBounds_toArray, List.set_cons_zero, List.set_cons_succ]
      refine wpAnyH_take (i := 10) (oi := ⟨some 41, _, _, _, _, _⟩) (v := ?_) rfl (by kernel_rfl) (by kernel_rfl) (by kernel_rfl) (fun _ _ _ h => h) (Or.inl ⟨by rfl, ?_⟩) (by assumption) ?_
      rotate_left
      · intro w hSw; (try dsimp only at hSw); go_simp; (try with_reducible rfl)
      try simp only [Act.put, List.setIfInBounds_toArray, List.set_cons_zero, List.set_cons_succ]
      refine wpAnyH_take (i := 11) (oi := ⟨some 42, _, _, _, _, _⟩) (v := ?_) rfl (by kernel_rfl) (by kernel_rfl) (by kernel_rfl) (fun _ _ _ h => h) (Or.inl ⟨by rfl, ?_⟩) (by assumption) ?_
      rotate_left
      · intro w hSw; (try dsimp only at hSw); go_simp; (try with_reducible rfl)
      try simp only [Act.put, List.setIfInBounds_toArray, List.set_cons_zero, List.set_cons_succ]
      refine wpAnyH_take (i := 12) (oi := ⟨some 43, _, _, _, _, _⟩) (v := ?_) rfl (by kernel_rfl) (by kernel_rfl) (by kernel_rfl) (fun _ _ _ h => h) (Or.inl ⟨by rfl, ?_⟩) (by assumption) ?_
      rotate_left
      · intro w hSw; (try dsimp only at hSw); go_simp; (try with_reducible rfl)
      try simp only [Act.put, List.setIfInBounds_toArray, List.set_cons_zero, List.set_cons_succ]
      refine wpAnyH_take (i := 13) (oi := ⟨some 44, _, _, _, _, _⟩) (v := ?_) rfl (by kernel_rfl) (by kernel_rfl) (by kernel_rfl) (fun _ _ _ h => h) (Or.inl ⟨by rfl, ?_⟩) (by assumption) ?_
      rotate_left
      · intro w hSw; (try dsimp only at hSw); go_simp; (try with_reducible rfl)
      try simp only [Act.put, List.setIfInBounds_toArray, List.set_cons_zero, List.set_cons_succ]
      refine wpAnyH_take (i := 14) (oi := ⟨some 45, _, _, _, _, _⟩) (v := ?_) rfl (by kernel_rfl) (by kernel_rfl) (by kernel_rfl) (fun _ _ _ h => h) (Or.inl ⟨by rfl, ?_⟩) (by assumption) ?_
      rotate_left
      · intro w hSw; (try dsimp only at hSw); go_simp; (try with_reducible rfl)
      try simp only [Act.put, List.setIfInBounds_toArray, List.set_cons_zero, List.set_cons_succ]
      refine wpAnyH_take (i := 15) (oi := ⟨some 46, _, _, _, _, _⟩) (v := ?_) rfl (by kernel_rfl) (by kernel_rfl) (by kernel_rfl) (fun _ _ _ h => h) (Or.inl ⟨by rfl, ?_⟩) (by assumption) ?_
      rotate_left
      · intro w hSw; (try dsimp only at hSw); go_simp; (try with_reducible rfl)
      try simp only [Act.put, List.setIfInBounds_toArray, List.set_cons_zero, List.set_cons_succ]
      refine wpAnyH_take (i := 16) (oi := ⟨some 47, _, _, _, _, _⟩) (v := .slice AQ G.length (p.c - k)) rfl (by kernel_rfl) (by kernel_rfl) (by kernel_rfl) (fun _ _ _ h => h) (Or.inl ⟨by rfl, ?_⟩) (by assumption) ?_
      · intro w hSw; have hcx := HCU.out w; go_simp
      try simp only [Act.put, List.setIfInBounds_toArray, List.set_cons_zero, List.set_cons_succ]
      refine wpAnyH_take (i := 17) (oi := ⟨some 48, _, _, _, _, _⟩) (v := .string ⟨G.toArray⟩) rfl (by kernel_rfl) (by kernel_rfl) (by kernel_rfl) (fun _ _ _ h => h) (Or.inl ⟨by rfl, ?_⟩) (by assumption) ?_
      · intro w hSw; have hcx := HCV.out w AQ G.length (p.c - k) G (HTQ.out w hSw.2) HGL.out; go_simp
      try simp only [Act.put, List.setIfInBounds_toArray, List.set_cons_zero, List.set_cons_succ]
      refine wpAnyH_take (i := 18) (oi := ⟨some 49, _, _, _, _, _⟩) (v := .bool false) rfl (by kernel_rfl) (by kernel_rfl) (by kernel_rfl) (fun _ _ _ h => h) (Or.inl ⟨by rfl, ?_⟩) (by assumption) ?_
      · intro w hSw; go_simp
      try simp only [Act.put, List.setIfInBounds_toArray, List.set_cons_zero, List.set_cons_succ]
      refine wpAnyH_take (i := 19) (oi := ⟨some 50, _, _, _, _, _⟩) (v := ?_) rfl (by kernel_rfl) (by kernel_rfl) (by kernel_rfl) (fun _ _ _ h => h) (Or.inl ⟨by rfl, ?_⟩) (by assumption) ?_
      rotate_left
      · intro w hSw; (try dsimp only at hSw); go_simp; (try with_reducible rfl)
      try simp only [Act.put, List.setIfInBounds_toArray, List.set_cons_zero, List.set_cons_succ]
      refine wpAnyH_done (by kernel_rfl) ?_ _
      try simp only [Act.put]
      have HR1 := Lib.hid (reads_val v0 (.slice A1 y.length c1))
      have HO1 : Hid (∀ u ∈ [Value.slice A1 y.length c1], u.oneCell' = true) := by intro u hu; simp at hu; subst hu; rfl
      have HSZ : Hid (w.heap.size ≤ (v0.alloc (.cells #[.slice A1 y.length c1] 22)).heap.size) := by have := HS4.out.chg.size; show _ ≤ _; simp; omega
      go_wp2_with (at_builtin; refine wpList_append_any _ rfl (.tmp 53) (.tmp 55) 34 rfl w.heap.size 22 i0 (.slice none 0 0) 1 24 Tryd.underlying34 hi hz0 hz1 hz2 rfl (by decide) _ xs.length (xs.map RecE.val) rfl (HS4.out.list.alloc _) _ _ 1 1 [.slice A1 y.length c1] rfl HR1.out HO1.out (by have := HFEW.out; unfold maxLen; omega) (by have := HFEW.out; omega) HSZ.out ?_)
      intro v6 w6 hown6 hgr6 _
      obtain ⟨A6, c6, rfl⟩ := own_slice hown6
      have hnew := RefSt.step (r := ⟨A1, y, c1, k + G.length⟩) HS4.out HREC.out HOWN4.out (HRISE.out _ ()) hown6 hgr6
      have HNEW := Lib.hid hnew
      clear hown6 hgr6 hnew HR1 HO1 HSZ HS4 HOWN4
      go_wp2_with fail
      go_roundw
      case rel => exact ⟨_, A6, c6, k + G.length, by rw [List.length_append, List.length_singleton], by go_num, HNEW.out⟩
      case measure =>
        have := HPOS.out
        simp [intOf]; omega

end Go.Proofs.YthkghjkgmfjmoaaDoor
