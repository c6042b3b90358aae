/-
  Package tree: Below.
-/
import Derived.Test.YtbadkkilblgpmaaDoorTU
namespace Go.Proofs.YtbadkkilblgpmaaDoor
open Go.RowKit

theorem ba_extract (s : List UInt8) (i j : Nat) : (⟨s.toArray⟩ : ByteArray).extract i j = ⟨((s.drop i).take (j - i)).toArray⟩ := by
  apply ByteArray.ext
  simp
set_option maxHeartbeats 4000000 in
theorem hasp_any (s p : List UInt8) (w : World) : Calls Tryd.prog 201 #[.string ⟨s.toArray⟩, .string ⟨p.toArray⟩] w fun e w' => e = .returned (.bool (decide (p.length ≤ s.length) && s.take p.length == p)) ∧ w' = w := by
  by_cases h : p.length ≤ s.length
  · have d1 : decide ((p.length : Int) ≤ (s.length : Int)) = true := by rw [decide_eq_true_eq]; omega
    have d2 : decide (p.length ≤ s.length) = true := by rw [decide_eq_true_eq]; omega
    have h2 : (p.length : Int) ≤ (s.length : Int) := by omega
    have he := ba_extract s 0 p.length
    rw [List.drop_zero, Nat.sub_zero] at he
    rw [d2, Bool.true_and]
    go_enter Tryd.func201, Tryd.ntmps201
    go_wp2_with fail
    go_ret
    exact ⟨by first | rfl | (rw [he]; rfl) | (simp only [he]; rfl), rfl⟩
  · have d1 : decide ((p.length : Int) ≤ (s.length : Int)) = false := by rw [decide_eq_false_iff_not]; omega
    have d2 : decide (p.length ≤ s.length) = false := by rw [decide_eq_false_iff_not]; omega
    rw [d2, Bool.false_and]
    go_enter Tryd.func201, Tryd.ntmps201
    go_wp2_with fail
    go_ret
    exact ⟨rfl, rfl⟩
/-- Does s begin with p? -/
def prefB (s p : List UInt8) : Bool := decide (p.length ≤ s.length) && s.take p.length == p
set_option maxHeartbeats 4000000 in
theorem cut60 (s p : List UInt8) (w : World) : Calls Tryd.prog 156 #[.string ⟨s.toArray⟩, .string ⟨p.toArray⟩] w fun e w' => e = .returned (.tuple #[.string ⟨(if prefB s p then s.drop p.length else s).toArray⟩, .bool (prefB s p)]) ∧ w' = w := by
  have HP := Lib.hid (fun v => hasp_any s p v)
  by_cases h : prefB s p = true
  · have hle : p.length ≤ s.length := by unfold prefB at h; rw [Bool.and_eq_true, decide_eq_true_eq] at h; exact h.1
    have h' : (decide (p.length ≤ s.length) && s.take p.length == p) = true := h
    rw [h'] at HP
    rw [h, if_pos rfl]
    have d1 : decide ((p.length : Int) ≤ (s.length : Int)) = true := by rw [decide_eq_true_eq]; omega
    have h2 : (p.length : Int) ≤ (s.length : Int) := by omega
    have he := ba_extract s p.length s.length
    have ht : (s.drop p.length).take (s.length - p.length) = s.drop p.length := List.take_of_length_le (by rw [List.length_drop]; exact Nat.le_refl _)
    rw [ht] at he
    clear h h' ht
    go_enter Tryd.func156, Tryd.ntmps156
    go_wp2_with fail
    refine (HP.out _).mono ?_
    rintro e w' ⟨rfl, rfl⟩
    go_wp2_with fail
    go_ret2
    exact ⟨rfl, rfl⟩
  · have h0 : prefB s p = false := by simpa using h
    have h' : (decide (p.length ≤ s.length) && s.take p.length == p) = false := h0
    rw [h'] at HP
    rw [h0, if_neg (by decide)]
    clear h h0 h'
    go_enter Tryd.func156, Tryd.ntmps156
    go_wp2_with fail
    refine (HP.out _).mono ?_
    rintro e w' ⟨rfl, rfl⟩
    go_wp2_with fail
    go_ret2
    exact ⟨rfl, rfl⟩
set_option maxHeartbeats 4000000 in
theorem cut46 (s p : List UInt8) (w : World) : Calls Tryd.prog 111 #[.string ⟨s.toArray⟩, .string ⟨p.toArray⟩] w fun e w' => e = .returned (.tuple #[.string ⟨(if prefB s p then s.drop p.length else s).toArray⟩, .bool (prefB s p)]) ∧ w' = w := by
  have HP := Lib.hid (fun v => cut60 s p v)
  generalize (if prefB s p then s.drop p.length else s) = r at *
  generalize prefB s p = q at *
  go_enter Tryd.func111, Tryd.ntmps111
  go_wp2_with fail
  refine (HP.out _).mono ?_
  rintro e w' ⟨rfl, rfl⟩
  go_wp2_with fail
  go_ret2
  exact ⟨rfl, rfl⟩

/-! A list of files of the call's own, grown by append. -/
theorem filCells_len (f : Fil) : (filCells f).length = 2 := rfl
theorem filCells_one {L : List Fil} : ∀ u ∈ L.flatMap filCells, u.oneCell' = true := by
  intro u hu
  obtain ⟨x, -, hx⟩ := List.mem_flatMap.1 hu
  simp only [filCells, List.mem_cons, List.not_mem_nil, or_false] at hx
  rcases hx with rfl | rfl <;> rfl
theorem reads_lit38 (w : World) (L : List Fil) : Reads (w.alloc (.cells (L.flatMap filCells).toArray 91 (0, 0))) (w.alloc (.cells (L.flatMap filCells).toArray 91 (0, 0))).heap.size 2 (some ⟨w.heap.size, 0, none⟩) L.length (L.flatMap filCells) :=
  ⟨flat_len filCells 2 filCells_len L, fun _ => ⟨_, rfl, by simp, fun j u hu => by
    rw [Go.WideShapes.add_plain, Nat.zero_add, (Blk.new w _ 91).cell, ← hu]; simp⟩⟩
theorem rows_of_own38 {w : World} {B n c : Nat} {A : Option Addr} {L : List Fil} (h : w.ownsRow B 91 2 (.slice A n c) n (L.flatMap filCells)) : RowsAt w 2 A filCells L ∧ n = L.length ∧ n ≤ c := by
  have hl := h.1
  rw [flat_len filCells 2 filCells_len] at hl
  have hn : n = L.length := by omega
  rcases h.2 with ⟨h1, h2⟩ | ⟨g, cap, cur, h1, h2, h3, h4, h5, h6, h7⟩
  · exact ⟨fun hne => absurd (List.eq_nil_of_length_eq_zero (by omega)) hne, hn, by omega⟩
  · injection h1 with e1 e2 e3
    refine ⟨fun _ => ⟨g, 0, e1, (Array.getElem?_eq_some_iff.1 h3).1, fun i x hi j hj => ?_⟩, hn, by omega⟩
    have hf := flat_get filCells 2 filCells_len L i j x hi hj
    have hj6 : j < (filCells x).length := hj
    rw [List.getElem?_eq_getElem hj6] at hf ⊢
    have := h.cells (g := g) (by rw [e1]; rfl) _ _ hf
    rwa [Go.WideShapes.add_plain] at this
theorem own_apart {w : World} {b b' n n' e' s' : Nat} {v v' : Value} {xs xs' : List Value} (h : w.ownsRow b 5 1 v n xs) (h' : w.ownsRow b' e' s' v' n' xs') (he : e' ≠ 5) : v.ownBlock = none ∨ v.ownBlock ≠ v'.ownBlock := by
  rcases h.2 with ⟨rfl, _⟩ | ⟨g, cap, cur, rfl, _, hg, _⟩
  · exact .inl rfl
  · right
    intro e
    rcases h'.2 with ⟨rfl, _⟩ | ⟨g', cap', cur', rfl, _, hg', _⟩
    · cases e
    · have e2 : g = g' := by simpa [Value.ownBlock] using e
      subst e2
      rw [hg] at hg'
      injection hg' with hg'
      injection hg' with _ h2
      exact he h2.symm
/-- Files of the call's own, in a row of its own. -/
structure OwnL (w0 w : World) (A : Option Addr) (c : Nat) (M : List Fil) : Prop where
  row : w.ownsRow w0.heap.size 91 2 (.slice A M.length c) M.length (M.flatMap filCells)
  own : ∀ m ∈ M, w.ownsRow w0.heap.size 5 1 (.slice m.A m.x.length m.c) m.x.length (byteVals m.x)
  chg : Chg none w0 w
theorem OwnL.on {w0 w w' : World} {A : Option Addr} {c : Nat} {M : List Fil} (h : OwnL w0 w A c M) (g : Chg none w w') : OwnL w0 w' A c M :=
  ⟨World.ownsRow.kept h.row g (by cases (Value.slice A M.length c).ownBlock <;> simp), fun m hm => own_chgW (h.own m hm) g, h.chg.trans g⟩
theorem OwnL.tree {w0 w : World} {A : Option Addr} {c : Nat} {M : List Fil} (h : OwnL w0 w A c M) (hp : ∀ m ∈ M, m.p.length ≤ 9223372036854775807) : TreeAt w A M :=
  ⟨(rows_of_own38 h.row).1, fun m hm => own_fil (h.own m hm) (hp m hm)⟩
theorem OwnL.app {w0 w w' : World} {A A' : Option Addr} {c c' : Nat} {M : List Fil} {m : Fil} (h : OwnL w0 w A c M) (hm : w.ownsRow w0.heap.size 5 1 (.slice m.A m.x.length m.c) m.x.length (byteVals m.x))
    (hr : w'.ownsRow w0.heap.size 91 2 (.slice A' (M.length + 1) c') (M.length + 1) (M.flatMap filCells ++ filCells m)) (g : w.grownBy w' (Value.slice A M.length c).ownBlock) : OwnL w0 w' A' c' (M ++ [m]) := by
  refine ⟨?_, fun k hk => ?_, own_chg h.chg h.row (Nat.le_refl _) g⟩
  · rw [List.length_append, List.length_singleton, List.flatMap_append]
    simpa using hr
  · rcases List.mem_append.1 hk with h1 | h1
    · exact World.ownsRow.kept (h.own k h1) g (own_apart (h.own k h1) h.row (by decide))
    · rw [List.mem_singleton.1 h1]
      exact World.ownsRow.kept hm g (own_apart hm h.row (by decide))

/-- What is below dir, by what is left of the paths. -/
def belowK (dir : List UInt8) (L : List (List UInt8 × List UInt8)) : List (List UInt8 × List UInt8) :=
  (L.filter fun f => prefB f.1 (dir ++ [47])).map fun f => (f.1.drop (dir.length + 1), f.2)
theorem belowK_step {dir : List UInt8} {L : List (List UInt8 × List UInt8)} {k : Nat} {f : List UInt8 × List UInt8} (h : L[k]? = some f) :
    belowK dir (L.take (k + 1)) = belowK dir (L.take k) ++ (if prefB f.1 (dir ++ [47]) then [(f.1.drop (dir.length + 1), f.2)] else []) := by
  unfold belowK
  rw [List.take_add_one, h]
  simp only [Option.toList_some, List.filter_append, List.map_append]
  congr 1
  by_cases hp : prefB f.1 (dir ++ [47]) = true
  · simp [hp]
  · have : prefB f.1 (dir ++ [47]) = false := by simpa using hp
    simp [this]

set_option maxHeartbeats 16000000 in
set_option maxRecDepth 100000 in
theorem below_yes (L : List Fil) (A : Option Addr) (c : Nat) (dir : List UInt8) (w : World) (hT : TreeAt w A L) (hm : mayT L = true) (hd : pathB dir = true) :
    Calls Tryd.prog 64 #[.slice A L.length c, .string ⟨dir.toArray⟩] w fun e w' => ∃ A' c' M, e = .returned (.slice A' M.length c') ∧ OwnL w w' A' c' M ∧ M.map (fun m => (m.p, m.x)) = belowK dir (L.map fun m => (m.p, m.x)) ∧ M.length ≤ L.length ∧ ∀ m ∈ M, m.p.length ≤ 40 := by
  obtain ⟨i0, hi, hz0, hz1, hz2⟩ := info_parts Tryd.info91
  obtain ⟨h16, hfl, -, -⟩ := mayT_parts hm
  have HM := Lib.hid (mayt_any L A c w hT (by omega))
  have HD := Lib.hid (fun v => ispath_any dir v (by have := (path_len hd).2; omega))
  rw [hm] at HM
  rw [hd] at HD
  have HT : Hid (∀ v, Chg none w v → TreeAt v A L) := fun v g => hT.chg g
  have HPL : Hid (∀ f ∈ L, f.p.length ≤ 40 ∧ f.x.length ≤ 2000) := fun f hf => ⟨(path_len (hfl f hf).1).2, (hfl f hf).2⟩
  have HDL : Hid (dir.length ≤ 40) := (path_len hd).2
  have HL16 := Lib.hid h16
  clear hT hm hd hfl h16
  go_enter Tryd.func64, Tryd.ntmps64
  go_wp2_with fail
  refine HM.out.mono ?_
  rintro e w1 ⟨rfl, g1⟩
  have HDD := Lib.hid (HD.out w1)
  have G1 := Lib.hid g1
  clear g1
  go_wp2_with fail
  refine HDD.out.mono ?_
  rintro e w2 ⟨rfl, g2⟩
  have HO0 : Hid (OwnL w w2 none 0 []) := ⟨World.ownsRow_nil _ _ _ _, fun m h => (by cases h), G1.out.trans g2⟩
  clear g2 HD HM HDD
  go_wp2_with fail
  go_loopw [5, 20] (fun s5 s20 wr => ∃ (k : Nat) (A1 : Option Addr) (c1 : Nat) (M : List Fil), s20 = .int .i64 k ∧ s5 = .slice A1 M.length c1 ∧ Hid (k ≤ L.length) ∧ Hid (OwnL w wr A1 c1 M) ∧ Hid (M.map (fun m => (m.p, m.x)) = belowK dir ((L.map fun m => (m.p, m.x)).take k) ∧ M.length ≤ k ∧ ∀ m ∈ M, m.p.length ≤ 40)) (fun _ s20 _ => L.length - (intOf s20).toNat)
  case atStart => exact ⟨0, none, 0, [], rfl, rfl, Lib.hid (Nat.zero_le _), HO0, Lib.hid ⟨rfl, Nat.le_refl _, fun m h => (by cases h)⟩⟩
  case round =>
    obtain ⟨k, A1, c1, M, rfl, rfl, H1, H2, H3⟩ := hrel
    by_cases hlt : k < L.length
    · have hdd : decide ((k : Int) < (L.length : Int)) = true := by rw [decide_eq_true_eq]; omega
      obtain ⟨x, hkx⟩ : ∃ x, L[k]? = some x := ⟨_, List.getElem?_eq_getElem hlt⟩
      have hne : L ≠ [] := by intro e; subst e; simp at hlt
      have HRW := Lib.hid (HT.out wr H2.out.chg)
      obtain ⟨b, off, rfl, -, -⟩ := HRW.out.1 hne
      obtain ⟨hb, x0, x1⟩ := HRW.out.1.two hkx
      have HLT := Lib.hid hlt
      have HTX : Hid (∀ v, Chg none w v → x.ok v) := fun v g => (HT.out v g).2 x (List.mem_of_getElem? hkx)
      have HXL := Lib.hid (HPL.out x (List.mem_of_getElem? hkx))
      have HBS := Lib.hid (belowK_step (dir := dir) (L := L.map fun m => (m.p, m.x)) (k := k) (f := (x.p, x.x)) (by rw [List.getElem?_map, hkx]; rfl))
      have h16 := HL16.out
      have hdl40 := HDL.out
      have hs1 : ¬ 9223372036854775807 < dir.length + 1 := by omega
      obtain ⟨V0, hV⟩ : ∃ V0, V0 = wr := ⟨_, rfl⟩
      rw [← hV] at hb x0 x1 H2 ⊢
      clear hV hkx hne HRW HT hlt HO0 HPL
      obtain ⟨fp, fA, fx, fc⟩ := x
      dsimp only at x0 x1 HXL HBS
      have hc1 : (⟨dir.toArray⟩ : ByteArray) ++ (⟨#[47]⟩ : ByteArray) = ⟨(dir ++ [47]).toArray⟩ := ba_append dir [47]
      have HCT := Lib.hid (fun v => cut46 fp (dir ++ [47]) v)
      have hdl : (dir ++ [47]).length = dir.length + 1 := by simp
      rw [hdl] at HCT
      go_upto_region 7 with fail
      have HG0 : Hid (Chg none V0 (V0.alloc (.cells #[.string ⟨fp.toArray⟩, .slice fA fx.length fc] 91))) := (Chg.refl _ _).alloc _
      have HX0 : Hid (Blk (V0.alloc (.cells #[.string ⟨fp.toArray⟩, .slice fA fx.length fc] 91)) V0.heap.size #[.string ⟨fp.toArray⟩, .slice fA fx.length fc] 91) := Blk.new _ _ _
      generalize V0.alloc (.cells #[.string ⟨fp.toArray⟩, .slice fA fx.length fc] 91) = W0 at *
      have HO1 := Lib.hid (H2.out.on HG0.out)
      have q0 : W0.cell? ⟨V0.heap.size, 0, none⟩ = some (.string ⟨fp.toArray⟩) := HX0.out.cell 0
      have q1 : W0.cell? ⟨V0.heap.size, 1, none⟩ = some (.slice fA fx.length fc) := HX0.out.cell 1
      clear HX0 HG0 x0 x1 hb H2 hdl
      generalize V0.heap.size = PX at *
      by_cases hp : prefB fp (dir ++ [47]) = true
      rotate_left
      · have hp' : prefB fp (dir ++ [47]) = false := by simpa using hp
        rw [hp', if_neg (by decide), List.append_nil] at HBS
        rw [hp', if_neg (by decide)] at HCT
        clear hp hp' hdl40
        go_wp2_with fail
        refine (HCT.out _).mono ?_
        rintro e v1 ⟨rfl, rfl⟩
        clear q0 q1
        go_wp2_with fail
        go_roundw
        case rel => exact ⟨k + 1, A1, c1, M, by first | rfl | (simp; done), rfl, Lib.hid HLT.out, HO1, Lib.hid ⟨by rw [HBS.out]; exact H3.out.1, by have := H3.out.2.1; omega, H3.out.2.2⟩⟩
        case measure =>
          have := HLT.out
          first | omega | (simp only [intOf]; omega) | (simp [intOf]; omega)
      · rw [hp, if_pos rfl] at HBS
        rw [hp, if_pos rfl] at HCT
        have HCL := Lib.hid (clone27 fA fx fc W0 (HTX.out W0 HO1.out.chg).nil (txt_reads (HTX.out W0 HO1.out.chg).t) (by have := HXL.out.2; omega))
        clear hp hdl40
        go_wp2_with fail
        refine (HCT.out _).mono ?_
        rintro e v1 ⟨rfl, rfl⟩
        go_wp2_with fail
        refine HCL.out.mono ?_
        rintro e v2 ⟨A2, n2, c2, rfl, rfl, hown2, hb2⟩
        have k2 : Chg none v1 v2 := ⟨hb2.os, hb2.tape, hb2.output, hb2.size, fun k hk _ => hb2.block k hk⟩
        have HO2 := Lib.hid (HO1.out.on k2)
        have HW2 := Lib.hid (World.ownsRow.mono hown2 HO1.out.chg.size)
        obtain ⟨rp, hrp⟩ : ∃ rp, rp = fp.drop (dir.length + 1) := ⟨_, rfl⟩
        rw [← hrp] at HBS ⊢
        have HRP : Hid (rp.length ≤ 40) := by have := HXL.out.1; show _ ≤ _; rw [hrp, List.length_drop]; omega
        have HFI : Hid (∀ v : World, Reads (v.alloc (.cells #[.string ⟨rp.toArray⟩, .slice A2 fx.length c2] 91)) (v.alloc (.cells #[.string ⟨rp.toArray⟩, .slice A2 fx.length c2] 91)).heap.size 2 (some ⟨v.heap.size, 0, none⟩) 1 (filCells ⟨rp, A2, fx, c2⟩)) := fun v => by
          have h := reads_lit38 v [⟨rp, A2, fx, c2⟩]
          simp only [List.flatMap_cons, List.flatMap_nil, List.append_nil, List.length_cons, List.length_nil, Nat.zero_add] at h
          exact h
        have HON : Hid (∀ u ∈ filCells ⟨rp, A2, fx, c2⟩, u.oneCell' = true) := fun u hu => filCells_one (L := [⟨rp, A2, fx, c2⟩]) u (by simpa using hu)
        have HSE : Hid (∀ ob : Obj, w.heap.size ≤ (v2.alloc ob).heap.size) := fun ob => (HO2.out.chg.alloc ob).size
        have HML : Hid (M.length ≤ 16) := by have h1 := H3.out.2.1; have h2 := HLT.out; show _ ≤ _; omega
        clear hown2 hb2 k2 hrp q0 q1 HCL HCT
        go_wp2_with (at_builtin; refine wpList_append_any _ rfl (.tmp 33) (.tmp 39) 40 rfl w.heap.size 91 i0 (.agg #[.string ⟨#[]⟩, .slice none 0 0]) 2 40 Tryd.underlying40 hi hz0 hz1 hz2 rfl (by decide) _ M.length (M.flatMap filCells) rfl (HO2.out.row.alloc _) _ (some ⟨v2.heap.size, 0, none⟩) 1 1 _ rfl (HFI.out v2) HON.out (by have := HML.out; unfold maxLen; omega) (by have := HML.out; omega) (HSE.out _) ?_)
        intro v3 w3 hown3 hgr3 _
        obtain ⟨A3, c3, rfl⟩ := own_slice hown3
        have HO3 := Lib.hid ((HO2.out.on ((Chg.refl none v2).alloc _)).app (m := ⟨rp, A2, fx, c2⟩) (HW2.out.alloc _) hown3 hgr3)
        have HLN : Hid ((M ++ [(⟨rp, A2, fx, c2⟩ : Fil)]).length = M.length + 1) := by show _ = _; simp
        clear hown3 hgr3 HFI HON HSE HO2 HW2
        rw [← HLN.out]
        go_wp2_with fail
        go_roundw
        case rel => exact ⟨k + 1, A3, c3, M ++ [⟨rp, A2, fx, c2⟩], by first | rfl | (simp; done), rfl, Lib.hid HLT.out, HO3, Lib.hid ⟨by rw [HBS.out, List.map_append, H3.out.1]; rfl, by have h1 := H3.out.2.1; rw [HLN.out]; omega, fun m hm => by
          rcases List.mem_append.1 hm with h | h
          · exact H3.out.2.2 m h
          · rw [List.mem_singleton.1 h]; exact HRP.out⟩⟩
        case measure =>
          have := HLT.out
          first | omega | (simp only [intOf]; omega) | (simp [intOf]; omega)
    · have hdd : decide (k < L.length) = false := by rw [decide_eq_false_iff_not]; exact hlt
      have hd2 : decide ((k : Int) < (L.length : Int)) = false := by rw [decide_eq_false_iff_not]; omega
      have HE : Hid (M.map (fun m => (m.p, m.x)) = belowK dir (L.map fun m => (m.p, m.x)) ∧ M.length ≤ L.length ∧ ∀ m ∈ M, m.p.length ≤ 40) := by
        refine ⟨?_, by have := H3.out.2.1; have := H1.out; omega, H3.out.2.2⟩
        rw [H3.out.1, List.take_of_length_le (by rw [List.length_map]; omega)]
      clear hlt HT HO0
      go_wp2_with fail
      go_ret
      exact ⟨A1, c1, M, rfl, H2.out, HE.out⟩

end Go.Proofs.YtbadkkilblgpmaaDoor
