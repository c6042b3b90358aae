/-
  Package tree: Join; what Under tells, by what stands in it.
-/
import Derived.Test.YtbadkkilblgpmaaDoorTY
namespace Go.Proofs.YtbadkkilblgpmaaDoor
open Go.RowKit

theorem under_told (L : List Fil) (A : Option Addr) (c : Nat) (dir : List UInt8) (w : World) (hT : TreeAt w A L) (hm : mayT L = true) (hd : pathB dir = true) :
    Calls Tryd.prog 72 #[.slice A L.length c, .string ⟨dir.toArray⟩] w (ToldK w (underK dir (keys L))) :=
  (under_yes L A c dir w hT hm hd).mono fun e w' h => by
    obtain ⟨g, M, hl, hs, ht⟩ := h
    refine ht.toldK ?_
    have e1 : keys (M.map (putDir dir)) = underK dir (keys L) := by rw [← keys_same hl hs]; exact keys_put dir M
    rw [e1]

/-- Does the tree hold the path? -/
def hasT (L : List Fil) (path : List UInt8) : Bool := L.any fun f => f.p == path
set_option maxHeartbeats 4000000 in
theorem contains_any (L : List Fil) (A : Option Addr) (c : Nat) (path : List UInt8) (b : Nat) (w : World) (hT : TreeAt w A L) (hl : L.length ≤ 1000) (hb : ∀ v, Chg none w v → b < v.heap.size ∧ v.cell? ⟨b, 0, none⟩ = some (.string ⟨path.toArray⟩)) :
    Calls Tryd.prog 199 #[.slice A L.length c, .func (.func 200) #[] #[.pointer (some ⟨b, 0, none⟩)]] w fun e w' => e = .returned (.bool (hasT L path)) ∧ Chg none w w' := by
  have HI := Lib.hid (index48 L A c path b w hT hl hb)
  clear hT hl hb
  go_enter Tryd.func199, Tryd.ntmps199
  go_wp2_with fail
  refine HI.out.mono ?_
  rintro e w1 ⟨z, rfl, g1, hix⟩
  have G1 := Lib.hid g1
  clear g1 HI
  rcases hix with ⟨rfl, hno⟩ | ⟨i, f, rfl, hif, hfp, -⟩
  · have HR : Hid (hasT L path = false) := by
      show _ = _
      unfold hasT
      rw [List.any_eq_false]
      intro f hf
      simpa using hno f hf
    clear hno
    go_wp2_with fail
    go_ret
    exact ⟨by rw [HR.out]; rfl, G1.out⟩
  · have HR : Hid (hasT L path = true) := by
      show _ = _
      unfold hasT
      rw [List.any_eq_true]
      exact ⟨f, List.mem_of_getElem? hif, by simpa using hfp⟩
    have h0 : (0 : Int) ≤ (i : Int) := by omega
    clear hif hfp
    go_wp2_with fail
    go_ret
    exact ⟨by rw [HR.out]; first | rfl | simp, G1.out⟩

set_option maxHeartbeats 8000000 in
set_option maxRecDepth 100000 in
theorem join_no (L N : List Fil) (A B : Option Addr) (c d : Nat) (w : World) (hL : TreeAt w A L) (hN : TreeAt w B N) (hl : L.length ≤ 9223372036854775807) (hn : N.length ≤ 9223372036854775807) (hm : (mayT L && mayT N) = false) :
    Calls Tryd.prog 152 #[.slice A L.length c, .slice B N.length d] w fun e w' => e = .returned (.tuple #[.slice none 0 0, .int .i64 2]) ∧ Chg none w w' := by
  have HM := Lib.hid (mayt_any L A c w hL hl)
  have HD := Lib.hid (fun v (g : Chg none w v) => mayt_any N B d v (hN.chg g) hn)
  clear hL hN hl hn
  by_cases h1 : mayT L = true
  · have h2 : mayT N = false := by rw [h1, Bool.true_and] at hm; exact hm
    rw [h1] at HM
    rw [h2] at HD
    clear hm h1 h2
    go_enter Tryd.func152, Tryd.ntmps152
    go_wp2_with fail
    refine HM.out.mono ?_
    rintro e w1 ⟨rfl, g1⟩
    have HDD := Lib.hid (HD.out w1 g1)
    have G1 := Lib.hid g1
    clear g1
    go_wp2_with fail
    refine HDD.out.mono ?_
    rintro e w2 ⟨rfl, g2⟩
    have G2 := Lib.hid (G1.out.trans g2)
    clear g2
    go_wp2_with fail
    go_ret2
    exact ⟨rfl, G2.out⟩
  · have h2 : mayT L = false := by simpa using h1
    rw [h2] at HM
    clear hm h1 h2
    go_enter Tryd.func152, Tryd.ntmps152
    go_wp2_with fail
    refine HM.out.mono ?_
    rintro e w1 ⟨rfl, g1⟩
    go_wp2_with fail
    go_ret2
    exact ⟨rfl, g1⟩

/-- Is there a path that both have? -/
def meetsT (L N : List Fil) : Prop := ∃ f ∈ N, hasT L f.p = true
/-- What Join tells of two trees that may be. -/
def ToldJ (w : World) (L N : List Fil) (e : Ending) (w' : World) : Prop :=
  (meetsT L N ∧ e = .returned (.tuple #[.slice none 0 0, .int .i64 7]) ∧ Chg none w w') ∨ (¬ meetsT L N ∧ ToldK w (keys L ++ keys N) e w')

theorem OwnL.app2 {w0 w w' : World} {A A' : Option Addr} {c c' : Nat} {M N : List Fil} (h : OwnL w0 w A c M) (hm : ∀ m ∈ N, w.ownsRow w0.heap.size 5 1 (.slice m.A m.x.length m.c) m.x.length (byteVals m.x))
    (hr : w'.ownsRow w0.heap.size 91 2 (.slice A' (M.length + N.length) c') (M.length + N.length) (M.flatMap filCells ++ N.flatMap filCells)) (g : w.grownBy w' (Value.slice A M.length c).ownBlock) : OwnL w0 w' A' c' (M ++ N) := by
  refine ⟨?_, fun k hk => ?_, own_chg h.chg h.row (Nat.le_refl _) g⟩
  · rw [List.length_append, List.flatMap_append]
    exact hr
  · rcases List.mem_append.1 hk with h1 | h1
    · exact World.ownsRow.kept (h.own k h1) g (own_apart (h.own k h1) h.row (by decide))
    · exact World.ownsRow.kept (hm k h1) g (own_apart (hm k h1) h.row (by decide))

set_option maxHeartbeats 16000000 in
set_option maxRecDepth 100000 in
theorem join_yes (L N : List Fil) (A B : Option Addr) (c d : Nat) (w : World) (hL : TreeAt w A L) (hN : TreeAt w B N) (hm : mayT L = true) (hn : mayT N = true) :
    Calls Tryd.prog 152 #[.slice A L.length c, .slice B N.length d] w (ToldJ w L N) := by
  obtain ⟨i0, hi, hz0, hz1, hz2⟩ := info_parts Tryd.info91
  obtain ⟨hL16, hfl, -, -⟩ := mayT_parts hm
  obtain ⟨hN16, hfn, -, -⟩ := mayT_parts hn
  have HM := Lib.hid (mayt_any L A c w hL (by omega))
  have HD := Lib.hid (fun v (g : Chg none w v) => mayt_any N B d v (hN.chg g) (by omega))
  rw [hm] at HM
  rw [hn] at HD
  have HCA := Lib.hid (fun v (g : Chg none w v) => copied_any L A c v (hL.chg g) (by omega) (fun f hf => by have := (hfl f hf).2; omega))
  have HCB := Lib.hid (fun v (g : Chg none w v) => copied_any N B d v (hN.chg g) (by omega) (fun f hf => by have := (hfn f hf).2; omega))
  have HPL : Hid (∀ f ∈ L, f.p.length ≤ 40) := fun f hf => (path_len (hfl f hf).1).2
  have HPN : Hid (∀ f ∈ N, f.p.length ≤ 40) := fun f hf => (path_len (hfn f hf).1).2
  have HL16 := Lib.hid hL16
  have HN16 := Lib.hid hN16
  have HLT : Hid (∀ v, Chg none w v → TreeAt v A L) := fun v g => hL.chg g
  have HNT : Hid (∀ v, Chg none w v → TreeAt v B N) := fun v g => hN.chg g
  clear hL hN hm hn hfl hfn hL16 hN16
  go_enter Tryd.func152, Tryd.ntmps152
  go_wp2_with fail
  refine HM.out.mono ?_
  rintro e w1 ⟨rfl, g1⟩
  have HDD := Lib.hid (HD.out w1 g1)
  have G1 := Lib.hid g1
  clear g1 HD HM
  go_wp2_with fail
  refine HDD.out.mono ?_
  rintro e w2 ⟨rfl, g2⟩
  have G2 := Lib.hid (G1.out.trans g2)
  clear g2 HDD G1
  go_wp2_with fail
  go_loopw [18] (fun s18 wr => ∃ k : Nat, s18 = .int .i64 k ∧ Hid (k ≤ N.length ∧ ∀ (j : Nat) f, j < k → N[j]? = some f → hasT L f.p = false) ∧ Hid (Chg none w wr)) (fun s18 _ => N.length - (intOf s18).toNat)
  case atStart => exact ⟨0, rfl, Lib.hid ⟨Nat.zero_le _, fun j f h => absurd h (Nat.not_lt_zero _)⟩, G2⟩
  case round =>
    obtain ⟨k, rfl, H1, H2⟩ := hrel
    by_cases hlt : k < N.length
    · have hd : decide ((k : Int) < (N.length : Int)) = true := by rw [decide_eq_true_eq]; omega
      obtain ⟨x, hkx⟩ : ∃ x, N[k]? = some x := ⟨_, List.getElem?_eq_getElem hlt⟩
      have hne : N ≠ [] := by intro e; subst e; simp at hlt
      have HRW := Lib.hid (HNT.out wr H2.out)
      obtain ⟨b, off, rfl, -, -⟩ := HRW.out.1 hne
      obtain ⟨hb, x0, x1⟩ := HRW.out.1.two hkx
      have HLK := Lib.hid hlt
      have HKX := Lib.hid hkx
      have h16 := HN16.out
      have hlk := hlt
      obtain ⟨fp, fA, fx, fc⟩ := x
      dsimp only at x0 x1
      have HG1 : Hid (Chg none w (wr.alloc (.cells #[.string ⟨fp.toArray⟩, .slice fA fx.length fc] 91))) := H2.out.alloc _
      have HB1 : Hid (Blk (wr.alloc (.cells #[.string ⟨fp.toArray⟩, .slice fA fx.length fc] 91)) wr.heap.size #[.string ⟨fp.toArray⟩, .slice fA fx.length fc] 91) := Blk.new _ _ _
      have HCO := Lib.hid (contains_any L A c fp wr.heap.size _ (HLT.out _ HG1.out) (by have := HL16.out; omega) (fun v g => ⟨(HB1.out.chg g (by simp)).lt, (HB1.out.chg g (by simp)).cell 0⟩))
      clear hkx hne HRW hlt HCA HCB G2
      by_cases hp : hasT L fp = true
      · rw [hp] at HCO
        have HP : Hid (meetsT L N) := ⟨_, List.mem_of_getElem? HKX.out, hp⟩
        clear hp HLT HNT
        go_wp2_with fail
        refine HCO.out.mono ?_
        rintro e w3 ⟨rfl, g3⟩
        have G3 := Lib.hid (HG1.out.trans g3)
        clear g3
        go_wp2_with fail
        go_ret2
        exact .inl ⟨HP.out, rfl, G3.out⟩
      · have hp' : hasT L fp = false := by simpa using hp
        rw [hp'] at HCO
        have HP := Lib.hid hp'
        clear hp hp' HLT HNT
        go_wp2_with fail
        refine HCO.out.mono ?_
        rintro e w3 ⟨rfl, g3⟩
        have G3 := Lib.hid (HG1.out.trans g3)
        clear g3
        go_wp2_with fail
        go_roundw
        case rel => exact ⟨k + 1, by first | rfl | (simp; done), Lib.hid ⟨HLK.out, fun j f hj hf => by
          rcases Nat.lt_or_ge j k with h | h
          · exact H1.out.2 j f h hf
          · obtain rfl : j = k := by omega
            obtain rfl := Option.some.inj (HKX.out.symm.trans hf)
            exact HP.out⟩, G3⟩
        case measure =>
          have := HLK.out
          first | omega | (simp only [intOf]; omega) | (simp [intOf]; omega)
    · have hd : decide (k < N.length) = false := by rw [decide_eq_false_iff_not]; exact hlt
      have hd2 : decide ((k : Int) < (N.length : Int)) = false := by rw [decide_eq_false_iff_not]; omega
      have HNM : Hid (¬ meetsT L N) := fun ⟨f, hf, hh⟩ => by
        obtain ⟨j, hj, rfl⟩ := List.mem_iff_getElem.1 hf
        rw [H1.out.2 j N[j] (Nat.lt_of_lt_of_le hj (Nat.not_lt.1 hlt)) (List.getElem?_eq_getElem hj)] at hh
        cases hh
      have HC1 := Lib.hid (HCA.out wr H2.out)
      clear hlt HLT HNT HCA G2
      go_wp2_with fail
      refine HC1.out.mono ?_
      rintro e w3 ⟨g, M, rfl, hcp⟩
      have G3 := Lib.hid (H2.out.trans hcp.chg)
      have HMK : Hid (keys M = keys L) := keys_same hcp.len hcp.same
      have HML : Hid (M.length = L.length) := hcp.len
      have HO3 : Hid (OwnT w w3 g M) := by
        have h := hcp.ownT
        exact ⟨h.blk, fun m hm => World.ownsRow.mono (h.own m hm) H2.out.size, Nat.le_trans H2.out.size h.base, H2.out.trans h.chg⟩
      have HT3 : Hid (CapAt w3 g M.length) := by
        obtain ⟨cs, h1, h2, -⟩ := hcp.blk
        exact ⟨cs, h1, by rw [h2, hcp.len]⟩
      have HC2 := Lib.hid (HCB.out w3 G3.out)
      clear hcp HC1 HCB
      go_wp2_with fail
      refine HC2.out.mono ?_
      rintro e w4 ⟨g4, M4, rfl, hcp⟩
      have HMK4 : Hid (keys M4 = keys N) := keys_same hcp.len hcp.same
      have HML4 : Hid (M4.length = N.length) := hcp.len
      have HW4 : Hid (∀ m ∈ M4, w4.ownsRow w.heap.size 5 1 (.slice m.A m.x.length m.c) m.x.length (byteVals m.x)) := fun m hm => World.ownsRow.mono (hcp.own m hm) G3.out.size
      have HO4 := Lib.hid ((HO3.out.ownL HT3.out (Nat.le_refl _) (by rw [HML.out]; have := HL16.out; omega)).on hcp.chg)
      have HR4 : Hid (Reads w4 w4.heap.size 2 (some ⟨g4, 0, none⟩) M4.length (M4.flatMap filCells)) := by
        have h4 : CapAt w4 g4 M4.length := by
          obtain ⟨cs, h1, h2, -⟩ := hcp.blk
          exact ⟨cs, h1, by rw [h2, hcp.len]⟩
        exact Reads.of_own (hcp.ownT.ownL h4 (Nat.le_refl _) (by rw [hcp.len]; have := HN16.out; omega)).row
      have HPM : Hid (∀ m ∈ M ++ M4, m.p.length ≤ 40) := fun m hm => by
        have h : keyF m ∈ keys L ++ keys N := by
          rw [← HMK.out, ← HMK4.out]; unfold keys; rw [← List.map_append]; exact List.mem_map.2 ⟨m, hm, rfl⟩
        rcases List.mem_append.1 h with h | h
        · obtain ⟨f, hf, he⟩ := List.mem_map.1 h
          have : m.p = f.p := (congrArg Prod.fst he).symm
          rw [this]; exact HPL.out f hf
        · obtain ⟨f, hf, he⟩ := List.mem_map.1 h
          have : m.p = f.p := (congrArg Prod.fst he).symm
          rw [this]; exact HPN.out f hf
      have HSE : Hid (w.heap.size ≤ w4.heap.size) := (G3.out.trans hcp.chg).size
      have HON : Hid (∀ u ∈ M4.flatMap filCells, u.oneCell' = true) := filCells_one
      clear hcp HC2 HO3 HT3
      rw [← HML.out, ← HML4.out]
      go_wp2_with (at_builtin; refine wpList_append_any _ rfl (.tmp 27) (.tmp 29) 40 rfl w.heap.size 91 i0 (.agg #[.string ⟨#[]⟩, .slice none 0 0]) 2 40 Tryd.underlying40 hi hz0 hz1 hz2 rfl (by decide) _ M.length (M.flatMap filCells) rfl HO4.out.row _ (some ⟨g4, 0, none⟩) M4.length M4.length _ rfl HR4.out HON.out (by have h1 := HL16.out; have h2 := HN16.out; have h3 := HML.out; have h4 := HML4.out; unfold maxLen; omega) (by have h1 := HL16.out; have h2 := HN16.out; have h3 := HML.out; have h4 := HML4.out; omega) HSE.out ?_)
      intro v5 w5 hown5 hgr5 hob5
      obtain ⟨A5, c5, rfl⟩ := own_slice hown5
      have HO5 := Lib.hid (HO4.out.app2 HW4.out hown5 hgr5)
      have hA5 : ∃ g5, A5 = some ⟨g5, 0, none⟩ := by
        rcases hown5.2 with ⟨h1, _⟩ | ⟨g', cap, cur, h1, _⟩
        · injection h1 with h1
          subst h1
          rcases hob5 with h | h <;> simp [Value.ownBlock] at h
        · injection h1 with h1
          exact ⟨g', h1⟩
      obtain ⟨g5, rfl⟩ := hA5
      have hh := held_any w w5 g5 c5 (M ++ M4) HO5.out.ownT (by rw [List.length_append, HML.out, HML4.out]; have h1 := HL16.out; have h2 := HN16.out; omega) (fun m hm => by have := HPM.out m hm; omega)
      rw [List.length_append] at hh
      have HH := Lib.hid hh
      have HTK : Hid (∀ e w', ToldH w g5 c5 (M ++ M4) e w' → ToldJ w L N e w') := fun e w' h => .inr ⟨HNM.out, h.toldK (by
        rw [← HMK.out, ← HMK4.out]
        unfold keys
        rw [List.map_append])⟩
      clear hh hown5 hgr5 hob5 HR4 HON HSE HO4 HW4 HO5
      go_wp2_with fail
      refine HH.out.mono ?_
      rintro e w9 h9
      have HBR := Lib.hid (HTK.out e w9 h9)
      obtain ⟨M'', -, -, -, -, -, hend⟩ := h9
      rcases hend with ⟨hm9, rfl⟩ | ⟨hm9, rfl⟩
      all_goals
        clear hm9
        go_wp2_with fail
        go_ret2
        exact HBR.out

end Go.Proofs.YtbadkkilblgpmaaDoor
