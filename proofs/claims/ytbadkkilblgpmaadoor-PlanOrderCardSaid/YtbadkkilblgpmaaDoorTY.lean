/-
  Package tree: With.
-/
import Derived.Test.YtbadkkilblgpmaaDoorTX
namespace Go.Proofs.YtbadkkilblgpmaaDoor
open Go.RowKit

theorem OwnT.ownL {w0 w : World} {g n : Nat} {M : List Fil} (h : OwnT w0 w g M) (hc : CapAt w g n) (hn : M.length ≤ n) (hM : n ≤ 1000) : OwnL w0 w (some ⟨g, 0, none⟩) n M := by
  obtain ⟨cs, h1, h2, h3⟩ := h.blk
  obtain ⟨cs', h1', hz⟩ := hc
  have e : cs' = cs := by
    unfold Blk at h1 h1'
    rw [h1] at h1'
    injection h1' with h1'
    injection h1' with h1'
    exact h1'.symm
  subst e
  refine ⟨⟨flat_len filCells 2 filCells_len M, .inr ⟨g, n, cs', rfl, h.base, h1, hn, by unfold maxLen; omega, hz, ?_⟩⟩, h.own, h.chg⟩
  refine List.ext_getElem? fun j => ?_
  rcases Nat.lt_or_ge j (M.length * 2) with hj | hj
  · rw [List.getElem?_take_of_lt hj, Array.getElem?_toList]
    obtain ⟨m, hm⟩ : ∃ m, M[j / 2]? = some m := ⟨_, List.getElem?_eq_getElem (by omega)⟩
    have hf := flat_get filCells 2 filCells_len M (j / 2) (j % 2) m hm (Nat.mod_lt _ (by decide))
    rw [show j / 2 * 2 + j % 2 = j by omega] at hf
    rw [hf]
    obtain ⟨k1, k2⟩ := h3 _ _ hm
    rcases (show j % 2 = 0 ∨ j % 2 = 1 by omega) with e | e
    · rw [show j / 2 * 2 = j by omega] at k1
      rw [k1, e]; rfl
    · rw [show j / 2 * 2 + 1 = j by omega] at k2
      rw [k2, e]; rfl
  · rw [List.getElem?_eq_none (by rw [List.length_take]; omega), List.getElem?_eq_none (by rw [flat_len filCells 2 filCells_len]; omega)]
theorem OwnL.ownT {w0 w : World} {g c : Nat} {M : List Fil} (h : OwnL w0 w (some ⟨g, 0, none⟩) c M) : OwnT w0 w g M := by
  rcases h.row.2 with ⟨h1, _⟩ | ⟨g', cap, cur, h1, h2, h3, h4, h5, h6, h7⟩
  · injection h1 with h1; cases h1
  · injection h1 with h1
    injection h1 with h1
    injection h1 with h1
    subst h1
    refine ⟨⟨cur, h3, by omega, fun i m hm => ?_⟩, h.own, h2, h.chg⟩
    have hi := (List.getElem?_eq_some_iff.1 hm).1
    have g0 := flat_get filCells 2 filCells_len M i 0 m hm (by decide)
    have g1 := flat_get filCells 2 filCells_len M i 1 m hm (by decide)
    rw [← h7, List.getElem?_take_of_lt (by omega), Array.getElem?_toList] at g0 g1
    exact ⟨g0, g1⟩
theorem OwnL.some_ {w0 w : World} {A : Option Addr} {c : Nat} {M : List Fil} (h : OwnL w0 w A c M) (hne : 0 < M.length) : ∃ g, A = some ⟨g, 0, none⟩ := by
  rcases h.row.2 with ⟨_, h1⟩ | ⟨g', cap, cur, h1, _⟩
  · omega
  · injection h1 with h1
    exact ⟨g', h1⟩

set_option maxHeartbeats 8000000 in
set_option maxRecDepth 100000 in
theorem with_no (L : List Fil) (A : Option Addr) (c : Nat) (path : List UInt8) (xv : Value) (w : World) (hT : TreeAt w A L) (hl : L.length ≤ 9223372036854775807) (hd : path.length ≤ 9223372036854775807) (hm : (mayT L && pathB path) = false) :
    Calls Tryd.prog 65 #[.slice A L.length c, .string ⟨path.toArray⟩, xv] w fun e w' => e = .returned (.tuple #[.slice none 0 0, .int .i64 2]) ∧ Chg none w w' := by
  have HM := Lib.hid (fun v (g : Chg none w v) => mayt_any L A c v (hT.chg g) hl)
  have HD := Lib.hid (fun v => ispath_any path v hd)
  have HG0 : Hid (Chg none w (w.alloc (.cells #[.string ⟨path.toArray⟩] 9))) := (Chg.refl _ _).alloc _
  have HB0 : Hid (Blk (w.alloc (.cells #[.string ⟨path.toArray⟩] 9)) w.heap.size #[.string ⟨path.toArray⟩] 9) := Blk.new _ _ _
  clear hT hl hd
  by_cases h1 : mayT L = true
  · have h2 : pathB path = false := by rw [h1, Bool.true_and] at hm; exact hm
    rw [h1] at HM
    rw [h2] at HD
    clear hm h1 h2
    go_enter Tryd.func65, Tryd.ntmps65
    go_wp2_with fail
    refine (HM.out _ HG0.out).mono ?_
    rintro e w1 ⟨rfl, g1⟩
    have y0 : w1.cell? ⟨w.heap.size, 0, none⟩ = some (.string ⟨path.toArray⟩) := (HB0.out.chg g1 (by simp)).cell 0
    have HDD := Lib.hid (HD.out w1)
    have G1 := Lib.hid (HG0.out.trans g1)
    clear g1
    go_wp2_with fail
    refine HDD.out.mono ?_
    rintro e w2 ⟨rfl, g2⟩
    have G2 := Lib.hid (G1.out.trans g2)
    clear g2
    go_wp2_with fail
    go_ret2
    exact ⟨rfl, G2.out⟩
  · have h2 : mayT L = false := by simpa using h1
    rw [h2] at HM
    clear hm h1 h2
    go_enter Tryd.func65, Tryd.ntmps65
    go_wp2_with fail
    refine (HM.out _ HG0.out).mono ?_
    rintro e w1 ⟨rfl, g1⟩
    have G1 := Lib.hid (HG0.out.trans g1)
    clear g1
    go_wp2_with fail
    go_ret2
    exact ⟨rfl, G1.out⟩

/-- What With puts together. -/
def withK (path x : List UInt8) (K : List (List UInt8 × List UInt8)) : List (List UInt8 × List UInt8) := (K.filter fun f => f.1 != path) ++ [(path, x)]

set_option maxHeartbeats 16000000 in
set_option maxRecDepth 100000 in
theorem with_yes (L : List Fil) (A : Option Addr) (c : Nat) (path : List UInt8) (Ax : Option Addr) (x : List UInt8) (cx : Nat) (w : World) (hT : TreeAt w A L) (hm : mayT L = true) (hd : pathB path = true)
    (hx : Txt w Ax x) (hn : NilOk Ax x.length cx) (hxl : x.length ≤ 1000000) :
    Calls Tryd.prog 65 #[.slice A L.length c, .string ⟨path.toArray⟩, .slice Ax x.length cx] w (ToldK w (withK path x (keys L))) := by
  obtain ⟨i0, hi, hz0, hz1, hz2⟩ := info_parts Tryd.info91
  obtain ⟨h16, hfl, -, -⟩ := mayT_parts hm
  have HUP : Hid ((keys L).Pairwise fun a b => a.1 ≠ b.1) := ((mayT_iff L).1 hm).1.2.2.1
  have HM := Lib.hid (fun v (g : Chg none w v) => mayt_any L A c v (hT.chg g) (by omega))
  have HD := Lib.hid (fun v => ispath_any path v (by have := (path_len hd).2; omega))
  rw [hm] at HM
  rw [hd] at HD
  have HCP := Lib.hid (fun v (g : Chg none w v) => copied_any L A c v (hT.chg g) (by omega) (fun f hf => by have := (hfl f hf).2; omega))
  have HPL : Hid (∀ f ∈ L, f.p.length ≤ 40) := fun f hf => (path_len (hfl f hf).1).2
  have HDL : Hid (path.length ≤ 40) := (path_len hd).2
  have HL16 := Lib.hid h16
  have HCX := Lib.hid (fun v (g : Chg none w v) => clone27 Ax x cx v hn (txt_reads (hx.chg g)) hxl)
  have HG0 : Hid (Chg none w (w.alloc (.cells #[.string ⟨path.toArray⟩] 9))) := (Chg.refl _ _).alloc _
  have HB0 : Hid (Blk (w.alloc (.cells #[.string ⟨path.toArray⟩] 9)) w.heap.size #[.string ⟨path.toArray⟩] 9) := Blk.new _ _ _
  clear hT hm hd hfl h16 hx hn hxl
  go_enter Tryd.func65, Tryd.ntmps65
  go_wp2_with fail
  refine (HM.out _ HG0.out).mono ?_
  rintro e w1 ⟨rfl, g1⟩
  have HB1 := Lib.hid (HB0.out.chg g1 (by simp))
  have y0 : w1.cell? ⟨w.heap.size, 0, none⟩ = some (.string ⟨path.toArray⟩) := HB1.out.cell 0
  have HDD := Lib.hid (HD.out w1)
  have G1 := Lib.hid (HG0.out.trans g1)
  clear g1 HG0 HB0
  go_wp2_with fail
  refine HDD.out.mono ?_
  rintro e w2 ⟨rfl, g2⟩
  have G2 := Lib.hid (G1.out.trans g2)
  have HB2 := Lib.hid (HB1.out.chg g2 (by simp))
  have HC2 := Lib.hid (HCP.out w2 G2.out)
  clear g2 HCP HD HM HDD HB1 G1 y0
  go_wp2_with fail
  refine HC2.out.mono ?_
  rintro e w3 ⟨g, M, rfl, hcp⟩
  have HML : Hid (M.length = L.length) := hcp.len
  have HMK : Hid (keys M = keys L) := keys_same hcp.len hcp.same
  have HO3 : Hid (OwnT w w3 g M) := by
    have h := hcp.ownT
    exact ⟨h.blk, fun m hm => World.ownsRow.mono (h.own m hm) G2.out.size, Nat.le_trans G2.out.size h.base, G2.out.trans h.chg⟩
  have HC3 : Hid (CapAt w3 g M.length) := by
    obtain ⟨cs, h1, h2, -⟩ := hcp.blk
    exact ⟨cs, h1, by rw [h2, hcp.len]⟩
  have HB3 := Lib.hid (HB2.out.chg hcp.chg (by simp))
  have HMP : Hid (∀ m ∈ M, m.p.length ≤ 40) := fun m hm => by
    have h : keyF m ∈ keys L := by rw [← HMK.out]; exact List.mem_map.2 ⟨m, hm, rfl⟩
    obtain ⟨f, hf, he⟩ := List.mem_map.1 h
    have : m.p = f.p := (congrArg Prod.fst he).symm
    rw [this]; exact HPL.out f hf
  have HDE := Lib.hid (delete_any w w3 g w.heap.size M path HO3.out HC3.out HB3.out (by rw [HMK.out]; exact HUP.out) (by rw [HML.out]; exact HL16.out) HMP.out)
  rw [HML.out] at HDE
  clear hcp HC2 HB2
  go_wp2_with fail
  refine HDE.out.mono ?_
  rintro e w4 ⟨M', rfl, hO4, hC4, hl4, hk4, hb4, hsub⟩
  have HO4 := Lib.hid (hO4.ownL hC4 hl4 (by have := HL16.out; omega))
  have HK4 : Hid (keys M' = (keys L).filter fun f => f.1 != path) := by show _ = _; rw [hk4, HMK.out]
  have HL4 : Hid (M'.length ≤ 16) := by have := HL16.out; show _ ≤ _; omega
  have HP4 : Hid (∀ m ∈ M', m.p.length ≤ 40) := fun m hm => HMP.out m (hsub m hm)
  have HGG : Hid (Chg none w w4) := hO4.chg
  have HXX := Lib.hid (HCX.out w4.drew HGG.out.drew)
  obtain ⟨PX, HPX⟩ : ∃ PX, Hid (w.heap.size = PX) := ⟨_, rfl⟩
  rw [HPX.out] at hb4
  have hS4 : Blk w4.drew PX #[.string ⟨path.toArray⟩] 9 := hb4.drew
  clear hO4 hC4 hl4 hk4 hb4 hsub HDE HO3 HC3 HB3 HCX
  rw [HPX.out]
  go_wp2_with fail
  refine wp_region_held_drew (S := fun v => Blk v PX #[.string ⟨path.toArray⟩] 9) (by kernel_rfl) hS4 (fun _ => ?_)
  refine wpAnyH_take (i := 0) (oi := ⟨some 21, _, _, _, _, _⟩) (v := ?_) rfl (by kernel_rfl) (by kernel_rfl) (by kernel_rfl) (fun _ _ _ h => h) (Or.inl ⟨by rfl, ?_⟩) (by assumption) ?_
  rotate_left
  · intro w hSw; (try dsimp only at hSw); go_simp; (try with_reducible rfl)
  try simp only [Act.put, List.setIfInBounds_toArray, List.set_cons_zero, List.set_cons_succ]
  refine wpAnyH_take (i := 1) (oi := ⟨some 22, _, _, _, _, _⟩) (v := .string ⟨path.toArray⟩) rfl (by kernel_rfl) (by kernel_rfl) (by kernel_rfl) (fun _ _ _ h => h) (Or.inl ⟨by rfl, ?_⟩) (by assumption) ?_
  · intro v hSv; have z : v.cell? ⟨PX, 0, none⟩ = some (.string ⟨path.toArray⟩) := hSv.cell 0; go_simp
  try simp only [Act.put, List.setIfInBounds_toArray, List.set_cons_zero, List.set_cons_succ]
  refine wpAnyH_take (i := 2) (oi := ⟨some 23, _, _, _, _, _⟩) (v := ?_) rfl (by kernel_rfl) (by kernel_rfl) (by kernel_rfl) (fun _ _ _ h => h) (Or.inl ⟨by rfl, ?_⟩) (by assumption) ?_
  rotate_left
  · intro w hSw; (try dsimp only at hSw); go_simp; (try with_reducible rfl)
  try simp only [Act.put, List.setIfInBounds_toArray, List.set_cons_zero, List.set_cons_succ]
  refine wpAnyH_ready (rs := [3]) (by kernel_rfl) (by simp) ?_
  refine AllReadyH.cons (o := ⟨some 24, _, _, _, _, _⟩) rfl (fun K hK => ?_) (AllReadyH.nil)
  go_simp
  go_at_call 112
  refine HXX.out.mono ?_
  rintro e v1 ⟨A1, n1, c1, rfl, rfl, hown1, hb1⟩
  have k1 : Chg none w4.drew v1 := ⟨hb1.os, hb1.tape, hb1.output, hb1.size, fun k hk _ => hb1.block k hk⟩
  have hS5 := hS4.chg k1 (by simp)
  have HO5 := Lib.hid (HO4.out.on ((Chg.refl none w4).drew.trans k1))
  have HW5 := Lib.hid (World.ownsRow.mono hown1 HGG.out.drew.size)
  clear hown1 hb1 k1 HO4
  go_wp2_with fail
  refine hK.out _ _ hS5 (fun _ => ?_)
  clear hK K
  try simp only [Act.put, List.setIfInBounds_toArray, List.set_cons_zero, List.set_cons_succ]
  refine wpAnyH_take (i := 4) (oi := ⟨some 25, _, _, _, _, _⟩) (v := ?_) rfl (by kernel_rfl) (by kernel_rfl) (by kernel_rfl) (fun _ _ _ h => h) (Or.inl ⟨by rfl, ?_⟩) (by assumption) ?_
  rotate_left
  · intro w hSw; (try dsimp only at hSw); go_simp; (try with_reducible rfl)
  try simp only [Act.put, List.setIfInBounds_toArray, List.set_cons_zero, List.set_cons_succ]
  refine wpAnyH_ready (rs := [5]) (by kernel_rfl) (by simp) ?_
  refine AllReadyH.cons (o := ⟨some 26, _, _, _, _, _⟩) rfl (fun K hK => ?_) (AllReadyH.nil)
  go_simp
  have hS6 : Blk (v1.alloc (.cells #[.string ⟨path.toArray⟩, .slice A1 x.length c1] 91)) PX #[.string ⟨path.toArray⟩] 9 := hS5.alloc _
  have HO6 := Lib.hid (HO5.out.on ((Chg.refl none v1).alloc (.cells #[.string ⟨path.toArray⟩, .slice A1 x.length c1] 91)))
  have HW6 := Lib.hid (own_chgW HW5.out ((Chg.refl none v1).alloc (.cells #[.string ⟨path.toArray⟩, .slice A1 x.length c1] 91)))
  have HR6 : Hid (Reads (v1.alloc (.cells #[.string ⟨path.toArray⟩, .slice A1 x.length c1] 91)) (v1.alloc (.cells #[.string ⟨path.toArray⟩, .slice A1 x.length c1] 91)).heap.size 2 (some ⟨v1.heap.size, 0, none⟩) 1 (filCells ⟨path, A1, x, c1⟩)) := by
    have h := reads_lit38 v1 [⟨path, A1, x, c1⟩]
    simp only [List.flatMap_cons, List.flatMap_nil, List.append_nil, List.length_cons, List.length_nil, Nat.zero_add] at h
    exact h
  have HON : Hid (∀ u ∈ filCells ⟨path, A1, x, c1⟩, u.oneCell' = true) := fun u hu => filCells_one (L := [⟨path, A1, x, c1⟩]) u (by simpa using hu)
  refine hK.out _ _ hS6 (fun _ => ?_)
  clear hK K HO5 HW5
  generalize v1.alloc (.cells #[.string ⟨path.toArray⟩, .slice A1 x.length c1] 91) = v2 at *
  try simp only [Act.put, List.setIfInBounds_toArray, List.set_cons_zero, List.set_cons_succ]
  refine wpAnyH_ready (rs := [6]) (by kernel_rfl) (by simp) ?_
  refine AllReadyH.cons (o := ⟨some 27, _, _, _, _, _⟩) rfl (fun K hK => ?_) (AllReadyH.nil)
  have hs1 : M'.length + 1 ≤ maxLen := by have := HL4.out; unfold maxLen; omega
  have hs2 : (M'.length + 1) * 40 ≤ 140737488355328 := by have := HL4.out; omega
  refine step_append_any _ rfl (.tmp 21) (.tmp 26) 40 rfl w.heap.size 91 i0 (.agg #[.string ⟨#[]⟩, .slice none 0 0]) 2 40 Tryd.underlying40 hi hz0 hz1 hz2 rfl (by decide) (.slice (some ⟨g, 0, none⟩) M'.length L.length) M'.length (M'.flatMap filCells) ?y2 HO6.out.row v2.heap.size (some ⟨v1.heap.size, 0, none⟩) 1 1 (filCells ⟨path, A1, x, c1⟩) ?y3 HR6.out HON.out hs1 hs2 HO6.out.chg.size ?_
  case y2 => first | rfl | simp [Act.eval, Act.put]
  case y3 => first | rfl | simp [Act.eval, Act.put]
  intro v3 w5 hown5 hgr5 _
  obtain ⟨A5, c5, rfl⟩ := own_slice hown5
  have HO7 := Lib.hid (HO6.out.app (m := ⟨path, A1, x, c1⟩) HW6.out hown5 hgr5)
  have HLN : Hid ((M' ++ [(⟨path, A1, x, c1⟩ : Fil)]).length = M'.length + 1) := by show _ = _; simp
  have hS7 : Blk w5 PX #[.string ⟨path.toArray⟩] 9 := by
    refine hS6.chg hgr5 ?_
    intro e
    rcases HO6.out.row.2 with ⟨h1, _⟩ | ⟨g', cap, cur, h1, _, hg, _⟩
    · rw [h1] at e; cases e
    · rw [h1] at e
      have e2 : PX = g' := by simpa [Value.ownBlock] using e
      subst e2
      unfold Blk at hS6
      rw [hg] at hS6
      injection hS6 with h
      injection h with _ h2
      exact absurd h2 (by decide)
  clear hown5 hgr5 HR6 HON hs1 hs2 HW6
  refine hK.out _ _ hS7 (fun _ => ?_)
  clear hK K
  try simp only [Act.put, List.setIfInBounds_toArray, List.set_cons_zero, List.set_cons_succ]
  obtain ⟨g5, rfl⟩ := HO7.out.some_ (by rw [HLN.out]; omega)
  have hh := held_any2 w w5 g5 c5 (M' ++ [⟨path, A1, x, c1⟩]) HO7.out.ownT (by rw [HLN.out]; have := HL4.out; omega) (fun m hm => by
    rcases List.mem_append.1 hm with h | h
    · have := HP4.out m h; omega
    · rw [List.mem_singleton.1 h]; have := HDL.out; show path.length ≤ _; omega)
  rw [HLN.out] at hh
  have HH := Lib.hid hh
  have HTK : Hid (∀ e w', ToldH w g5 c5 (M' ++ [⟨path, A1, x, c1⟩]) e w' → ToldK w (withK path x (keys L)) e w') := fun e w' h => h.toldK (by
    unfold withK
    rw [← HK4.out]
    unfold keys
    rw [List.map_append]
    exact List.Perm.refl _)
  clear hh
  refine wpAnyH_ready (rs := [7]) (by kernel_rfl) (by simp) ?_
  refine AllReadyH.cons (o := ⟨some 28, _, _, _, _, _⟩) rfl (fun K hK => ?_) (AllReadyH.nil)
  go_simp
  go_at_call 116
  refine HH.out.mono ?_
  rintro e w9 ⟨h9, hc9⟩
  have HBR := Lib.hid (HTK.out e w9 h9)
  have hne : PX ≠ g5 := by
    obtain ⟨cs, h1, -, -⟩ := HO7.out.ownT.blk
    rintro rfl
    unfold Blk at hS7 h1
    rw [h1] at hS7
    injection hS7 with h
    injection h with _ h2
    exact absurd h2 (by decide)
  have hS9 : Blk w9 PX #[.string ⟨path.toArray⟩] 9 := hS7.chg hc9 (by intro e; injection e with e; exact hne e)
  obtain ⟨M'', -, -, -, -, -, hend⟩ := h9
  clear hne hc9
  rcases hend with ⟨hm9, rfl⟩ | ⟨hm9, rfl⟩
  all_goals
    clear hm9
    go_wp2_with fail
    refine hK.out _ _ hS9 (fun _ => ?_)
    clear hK K
    try simp only [Act.put, List.setIfInBounds_toArray, List.set_cons_zero, List.set_cons_succ]
    refine wpAnyH_take (i := 8) (oi := ⟨some 29, _, _, _, _, _⟩) (v := ?_) rfl (by kernel_rfl) (by kernel_rfl) (by kernel_rfl) (fun _ _ _ h => h) (Or.inl ⟨by rfl, ?_⟩) (by assumption) ?_
    rotate_left
    · intro w hSw; (try dsimp only at hSw); go_simp; (try with_reducible rfl)
    try simp only [Act.put, List.setIfInBounds_toArray, List.set_cons_zero, List.set_cons_succ]
    refine wpAnyH_take (i := 9) (oi := ⟨some 30, _, _, _, _, _⟩) (v := ?_) rfl (by kernel_rfl) (by kernel_rfl) (by kernel_rfl) (fun _ _ _ h => h) (Or.inl ⟨by rfl, ?_⟩) (by assumption) ?_
    rotate_left
    · intro w hSw; (try dsimp only at hSw); go_simp; (try with_reducible rfl)
    try simp only [Act.put, List.setIfInBounds_toArray, List.set_cons_zero, List.set_cons_succ]
    refine wpAnyH_take (i := 10) (oi := ⟨some 6, _, _, _, _, _⟩) (v := ?_) rfl (by kernel_rfl) (by kernel_rfl) (by kernel_rfl) (fun _ _ _ h => h) (Or.inl ⟨by rfl, ?_⟩) (by assumption) ?_
    rotate_left
    · intro w hSw; (try dsimp only at hSw); go_simp; (try with_reducible rfl)
    try simp only [Act.put, List.setIfInBounds_toArray, List.set_cons_zero, List.set_cons_succ]
    refine wpAnyH_take (i := 11) (oi := ⟨some 7, _, _, _, _, _⟩) (v := ?_) rfl (by kernel_rfl) (by kernel_rfl) (by kernel_rfl) (fun _ _ _ h => h) (Or.inl ⟨by rfl, ?_⟩) (by assumption) ?_
    rotate_left
    · intro w hSw; (try dsimp only at hSw); go_simp; (try with_reducible rfl)
    try simp only [Act.put, List.setIfInBounds_toArray, List.set_cons_zero, List.set_cons_succ]
    refine wpAnyH_done (by kernel_rfl) ?_ _
    try simp only [Act.put]
    go_wp2_with fail
    go_ret2
    exact HBR.out

end Go.Proofs.YtbadkkilblgpmaaDoor
