/-
  GraphNames, of any targets.
-/
import Derived.Test.YtbadkkilblgpmaaDoorHF
namespace Go.Proofs.YtbadkkilblgpmaaDoor
open Go.RowKit Go.Maps

theorem Tryd.info77 : (Tryd.prog.info? 77).map (fun i => (i.zero, i.size, i.bytes)) = some (some (.agg #[.string ⟨#[]⟩, .slice none 0 0, .int .i64 0, .slice none 0 0]), 4, 72) := by kernel_rfl
theorem own_rowsK {α : Type} {w : World} {b k : Nat} {e : TypeId} {A : Option Addr} {L : List α} {c : Nat} {f : α → List Value} (hf : ∀ a, (f a).length = k) (h : w.ownsRow b e k (.slice A L.length c) L.length (L.flatMap f)) : RowsAt w k A f L ∧ L.length ≤ c ∧ c ≤ maxLen := by
  rcases h.2 with ⟨h1, h0⟩ | ⟨g, cap, cur, h1, _, hg, hn, hm, _⟩
  · injection h1 with e1 e2 e3
    have hL : L = [] := List.eq_nil_of_length_eq_zero h0
    subst e3 hL
    exact ⟨fun hne => absurd rfl hne, Nat.le_refl _, Nat.zero_le _⟩
  · injection h1 with e1 e2 e3
    subst e1 e3
    refine ⟨fun _ => ⟨g, 0, rfl, (Array.getElem?_eq_some_iff.1 hg).1, fun i a hi j hj => ?_⟩, hn, hm⟩
    have hl := (List.getElem?_eq_some_iff.1 hi).1
    have h2 : i * k + j < L.length * k := by have : (i + 1) * k ≤ L.length * k := Nat.mul_le_mul_right _ hl; rw [Nat.succ_mul] at this; omega
    rw [Nat.zero_add, h.cellAt (i * k + j) h2, flat_get f k hf L i j a hi hj]
theorem tgt_len (t : Tgt) : (tgtCells t).length = 4 := rfl
theorem tgts_of {w w2 : World} {b c : Nat} {A A2 : Option Addr} {L : List Tgt} (hT : TgtsAt w2 A2 L) (g : Chg none w2 w) (h : w.ownsRow b 77 4 (.slice A L.length c) L.length (L.reverse.flatMap tgtCells)) : TgtsAt w A L.reverse ∧ L.length ≤ c := by
  have hl : L.length = L.reverse.length := List.length_reverse.symm
  rw [hl] at h
  obtain ⟨h1, h2, -⟩ := own_rowsK tgt_len h
  exact ⟨⟨h1, fun t ht => (hT.2 t (List.mem_reverse.1 ht)).chg g⟩, by rw [hl]; exact h2⟩
theorem mayL_conv (L : List Tgt) (h20 : L.length ≤ 20) (hm : ∀ t ∈ L, mayTgt t = true) (hd : L.Pairwise fun a b => a.n ≠ b.n) : mayL L = true := by
  unfold mayL
  rw [Bool.and_eq_true, decide_eq_true_eq, List.all_eq_true]
  refine ⟨h20, fun i hi => ?_⟩
  have hi : i < L.length := by simpa using hi
  unfold tgtOk
  rw [Bool.and_eq_true, List.getD_eq_getElem?_getD, List.getElem?_eq_getElem hi, Bool.not_eq_true']
  refine ⟨hm _ (List.getElem_mem hi), ?_⟩
  unfold hasN
  rw [List.any_eq_false]
  intro x hx e
  rw [beq_iff_eq] at e
  obtain ⟨j, hj, rfl⟩ := List.mem_take_iff_getElem.1 hx
  exact List.pairwise_iff_getElem.1 hd j i (by omega) hi (by omega) e
theorem cmp_eq (x y : List UInt8) (h1 : ¬ cmpB x y < 0) (h2 : ¬ cmpB y x < 0) : x = y := by
  rcases cmp_tot x y with h | h | h
  · exact absurd h h1
  · exact h
  · exact absurd h h2
theorem OrdO.lt {L : List Tgt} {want : List UInt8} {n : Int} {o : List Nat} (h : OrdO L want n o) : ∀ i ∈ o, i < L.length := by
  rcases h.codes with rfl | ⟨rfl, _⟩
  · exact h.whole.2.1.lt
  · exact fun _ h => absurd h List.not_mem_nil
/-- The places of names in an order. -/
def plc (L : List Tgt) (o : List Nat) : Nat → List UInt8 → Int
  | 0 => fun _ => 0
  | k + 1 => updS (plc L o k) (nmAt L (o.getD k 0)) k
theorem plc_at {L : List Tgt} {want : List UInt8} {o : List Nat} (h : Whole L want o) {m i : Nat} (hm : o[m]? = some i) : ∀ k, m < k → k ≤ o.length → plc L o k (nmAt L i) = m
  | 0, hk, _ => absurd hk (Nat.not_lt_zero _)
  | k + 1, hk, hl => by
    have hk2 : o[k]? = some (o.getD k 0) := by rw [List.getD_eq_getElem?_getD, List.getElem?_eq_getElem (by omega)]; rfl
    unfold plc updS
    by_cases e : nmAt L i = nmAt L (o.getD k 0)
    · rw [if_pos e]
      have := h.dis m k i _ hm hk2 e
      omega
    · rw [if_neg e]
      have hne : m ≠ k := by
        intro e2
        subst e2
        rw [hk2] at hm
        cases hm
        exact e rfl
      exact plc_at h hm k (by omega) (by omega)
def nms (L : List Tgt) (o : List Nat) : List (List UInt8) := o.map (nmAt L)
theorem nms_take {L : List Tgt} {o : List Nat} {k i : Nat} (h : o[k]? = some i) : addAll [] (nms L (o.take (k + 1))) = addS (addAll [] (nms L (o.take k))) (nmAt L i) := by
  unfold nms addAll
  rw [List.take_add_one, h, Option.toList_some, List.map_append, List.foldl_append]
  rfl
theorem nms_mem {L : List Tgt} {o : List Nat} {m i : Nat} (h : o[m]? = some i) : nmAt L i ∈ addAll [] (nms L o) := by
  rw [addAll_mem]
  exact .inl (List.mem_map_of_mem (List.mem_of_getElem? h))
theorem turn_get {L : List Tgt} {o : List Nat} {k i : Nat} (h : o[k]? = some i) : (o.map (turnI L))[k]? = some (turnI L i) := by
  rw [List.getElem?_map, h]; rfl
theorem turn_lt {L : List Tgt} {i : Nat} (h : i < L.length) : turnI L i < L.length := by unfold turnI; omega

set_option maxHeartbeats 64000000 in
set_option maxRecDepth 100000 in
theorem gnames_any (L : List Tgt) (A : Option Addr) (c : Nat) (want : List UInt8) (w : World) (hT : TgtsAt w A L) (hF : Flds w) (hl : L.length ≤ 9223372036854775807) (hcap : L.length ≤ c) (hsz : L.length * 72 ≤ 140737488355328) (hm : want.length ≤ 9223372036854775807) :
    Calls Tryd.prog 15 #[.slice A L.length c, .string ⟨want.toArray⟩] w fun e w' => e = .returned (.bool true) ∧ Chg none w w' := by
  have HT : Hid (∀ v, Chg none w v → TgtsAt v A L) := Lib.hid fun v g => hT.chg g
  have HKN : Hid (∀ v, Chg none w v → Calls Tryd.prog 49 #[] v fun e w' => e = .returned (.bool true) ∧ Chg none v w') := Lib.hid fun v g => known15 v (hF.chg g)
  have HGR : Hid (Calls Tryd.prog 48 #[.slice A L.length c, .slice (some ⟨w.heap.size, 0, none⟩) 1 1] (w.alloc (.cells #[.string ⟨want.toArray⟩] 9)) fun e w' => ∃ g : Bool, e = .returned (.bool g) ∧ Chg none w w') :=
    Lib.hid ((great48 L A c _ 1 [want] _ (hT.chg ((Chg.refl _ _).alloc _)) hl (strs_lit1 hm) (by show 1 ≤ _; decide)).mono fun e w' ⟨g, h1, h2⟩ => ⟨g, h1, ((Chg.refl _ _).alloc _).trans h2⟩)
  have HOR : Hid (∀ d v, Chg none w v → d.length ≤ 9223372036854775807 → Calls Tryd.prog 51 #[.slice A L.length c, .string ⟨d.toArray⟩] v (OrdP v L d)) := Lib.hid fun d v g hd => order_any L A c d v (hT.chg g) (hF.chg g) hl hcap hd
  have HOB : Hid (∀ B d v, Chg none w v → TgtsAt v B L.reverse → L.length ≤ d → Calls Tryd.prog 51 #[.slice B L.length d, .string ⟨want.toArray⟩] v (OrdP v L.reverse want)) := Lib.hid fun B d v g hb hd => by
    have h := order_any L.reverse B d want v hb (hF.chg g) (by rw [List.length_reverse]; exact hl) (by rw [List.length_reverse]; exact hd) hm
    rw [List.length_reverse] at h
    exact h
  have HWL := Lib.hid hm
  have HSZ := Lib.hid hsz
  obtain ⟨i0, hi0, hz0, hz1, hz2⟩ := info_parts Tryd.info77
  clear hT hF hl hcap hm hsz
  go_enter Tryd.func15, Tryd.ntmps15
  go_wp2_with fail
  refine HGR.out.mono ?_
  rintro e w1 ⟨g, rfl, g1⟩
  have G1 := Lib.hid g1
  clear g1 HGR
  cases g with
  | true =>
    go_wp2_with fail
    refine (HKN.out _ G1.out).mono ?_
    rintro e wk ⟨rfl, gk⟩
    have Gk := Lib.hid (G1.out.trans gk)
    clear gk
    go_wp2_with fail
    go_ret
    exact ⟨rfl, Gk.out⟩
  | false =>
    have hsz := HSZ.out
    obtain ⟨p, hp⟩ : ∃ p, p = w1.heap.size := ⟨_, rfl⟩
    have HP := Lib.hid hp
    clear hp
    go_upto_region 5 with fail
    go_loopw [5, 28] (fun s5 i wr => ∃ (k : Nat) (A5 : Option Addr) (c5 : Nat), k ≤ L.length ∧ i = .int .i64 k ∧ s5 = .slice A5 k c5 ∧ Hid (wr.ownsRow p 77 4 (.slice A5 k c5) k ((L.reverse.take k).flatMap tgtCells) ∧ Chg none w1 wr)) (fun _ i _ => L.length - (intOf i).toNat)
    case atStart => exact ⟨0, none, 0, Nat.zero_le _, rfl, rfl, Lib.hid ⟨World.ownsRow_nil _ _ _ _, Chg.refl _ _⟩⟩
    case round =>
      obtain ⟨k, A5, c5, hk, rfl, rfl, HR⟩ := hrel
      by_cases hlt : k < L.length
      · have hdd : decide ((k : Int) < (L.length : Int)) = true := by rw [decide_eq_true_eq]; omega
        have hdd2 : decide (k < L.length) = true := by rw [decide_eq_true_eq]; omega
        obtain ⟨q, hq⟩ : ∃ q, q = L.length - 1 - k := ⟨_, rfl⟩
        obtain ⟨t, hkt⟩ : ∃ t, L[q]? = some t := ⟨_, List.getElem?_eq_getElem (by omega)⟩
        have hT9 := HT.out wr (G1.out.trans HR.out.2)
        obtain ⟨bL, off, rfl, hbL, x0, x1, x2, x3⟩ := hT9.one hkt
        have HTK : Hid ((L.reverse.take (k + 1)).flatMap tgtCells = (L.reverse.take k).flatMap tgtCells ++ tgtCells t) := Lib.hid (by
          rw [List.take_add_one, List.getElem?_reverse hlt, ← hq, hkt, Option.toList_some, List.flatMap_append]
          simp)
        have hw1 : IntKind.i64.wrap ((L.length : Int) - 1) = (L.length : Int) - 1 := by rw [IntKind.wrap_i64]; omega
        have hw2 : IntKind.i64.wrap ((L.length : Int) - 1 - (k : Int)) = (q : Int) := by rw [IntKind.wrap_i64]; omega
        have hql : (q : Int) < (L.length : Int) := by omega
        have hs1 : k + 1 ≤ maxLen := by unfold maxLen; omega
        have hs2 : (k + 1) * 72 ≤ 140737488355328 := by omega
        have hpw : p ≤ wr.heap.size := by rw [HP.out]; exact HR.out.2.size
        have HLT := Lib.hid hlt
        obtain ⟨tn, tA, tD, tcap, tf, tB, tP, tdd⟩ := t
        unfold tgtCells at HTK
        dsimp only at *
        have HRG : Hid (wr.rangeAt bL (off + q * 4) [.string ⟨tn.toArray⟩, .slice tA tD.length tcap, .int .i64 tf, .slice tB tP.length tdd]) := Lib.hid (fun j v hj => by
          match j, hj with
          | 0, hj => cases hj; exact x0
          | 1, hj => cases hj; exact x1
          | 2, hj => cases hj; exact x2
          | 3, hj => cases hj; exact x3)
        have HRR : Hid (Reads (wr.alloc (.cells #[.string ⟨tn.toArray⟩, .slice tA tD.length tcap, .int .i64 tf, .slice tB tP.length tdd] 77)) (wr.heap.size + 1) 4 (some ⟨wr.heap.size, 0, none⟩) 1 [.string ⟨tn.toArray⟩, .slice tA tD.length tcap, .int .i64 tf, .slice tB tP.length tdd]) := Lib.hid ⟨rfl, fun _ => ⟨_, rfl, Nat.lt_succ_self _, fun j u hu => by
            rw [Go.WideShapes.add_plain, Blk.cell (Blk.new wr _ _)]
            simpa using hu⟩⟩
        have HO9 : Hid (∀ u ∈ [Value.string ⟨tn.toArray⟩, .slice tA tD.length tcap, .int .i64 tf, .slice tB tP.length tdd], u.oneCell' = true) := Lib.hid (by intro u hu; simp at hu; rcases hu with rfl | rfl | rfl | rfl <;> rfl)
        have HI77 : Hid ((Tryd.prog.info? 77).map (·.size) = some [Value.string ⟨tn.toArray⟩, .slice tA tD.length tcap, .int .i64 tf, .slice tB tP.length tdd].length) := Lib.hid (by show _ = some 4; kernel_rfl)
        clear hkt hlt hT9 hq
        go_upto_region 8 with (first
          | (refine wpList_load_mid rfl 77 _ rfl bL (off + q * 4) rfl [.string ⟨tn.toArray⟩, .slice tA tD.length tcap, .int .i64 tf, .slice tB tP.length tdd] _ HRG.out Tryd.underlying77 rfl HI77.out ?_)
          | (refine wpList_append_any _ rfl (.tmp 31) (.tmp 40) 63 rfl p 77 i0 (.agg #[.string ⟨#[]⟩, .slice none 0 0, .int .i64 0, .slice none 0 0]) 4 72 Tryd.underlying63 hi0 hz0 hz1 hz2 rfl (by decide) (.slice A5 k c5) k _ rfl (HR.out.1.alloc _) _ (some ⟨wr.heap.size, 0, none⟩) 1 1 [.string ⟨tn.toArray⟩, .slice tA tD.length tcap, .int .i64 tf, .slice tB tP.length tdd] rfl HRR.out HO9.out hs1 hs2 (by simp; omega) ?_
             intro v6 w6 hown6 hgr6 _
             have HG6 := Lib.hid (Chg.ownRow (HR.out.2.alloc (.cells #[.string ⟨tn.toArray⟩, .slice tA tD.length tcap, .int .i64 tf, .slice tB tP.length tdd] 77)) hgr6 (fun x hx => by have := (HR.out.1.lt x hx).1; have := HP.out; omega))
             obtain ⟨A6, c6, rfl⟩ := own_slice hown6
             have HO6 : Hid (w6.ownsRow p 77 4 (.slice A6 (k + 1) c6) (k + 1) ((L.reverse.take (k + 1)).flatMap tgtCells)) := Lib.hid (by
               unfold tgtCells
               rw [HTK.out]
               exact hown6)
             clear hown6 hgr6))
        go_wp2_with fail
        go_roundw
        case rel => exact ⟨k + 1, A6, c6, by have := HLT.out; omega, by first | rfl | go_num, rfl, Lib.hid ⟨HO6.out, HG6.out⟩⟩
        case measure => have := HLT.out; first | omega | (simp only [intOf]; omega) | (simp [intOf]; omega)
      · have hkl : k = L.length := by omega
        subst hkl
        have hdd : decide ((L.length : Int) < (L.length : Int)) = false := by rw [decide_eq_false_iff_not]; omega
        have hdd2 : decide (L.length < L.length) = false := by rw [decide_eq_false_iff_not]; omega
        have hown := HR.out.1
        rw [List.take_of_length_le (by rw [List.length_reverse]; exact Nat.le_refl _)] at hown
        obtain ⟨w2, hw2⟩ : ∃ w2 : World, w2 = wr := ⟨_, rfl⟩
        subst hw2
        have G2 := Lib.hid (G1.out.trans HR.out.2)
        have HBK : Hid (∀ v, Chg none w2 v → TgtsAt v A5 L.reverse) := Lib.hid fun v g => (tgts_of (HT.out w (Chg.refl _ _)) G2.out hown).1.chg g
        have HBC : Hid (L.length ≤ c5) := Lib.hid (tgts_of (HT.out w (Chg.refl _ _)) G2.out hown).2
        clear hlt hk HR hown
        go_wp2_with fail
        refine (HOR.out want _ G2.out HWL.out).mono ?_
        intro e w3 hord
        obtain ⟨A7, c7, o, n, rfl, g3, r3, ho⟩ := hord.out
        have G23 := Lib.hid g3
        have G3 := Lib.hid (G2.out.trans g3)
        clear g3 hord
        go_wp2_with fail
        refine (HOB.out _ _ _ G3.out (HBK.out _ G23.out) HBC.out).mono ?_
        intro e w4 hord
        obtain ⟨A9, c9, p9, m, rfl, g4, r4, hob⟩ := hord.out
        obtain ⟨hnm, hp9⟩ := ord_turn mayL_conv cmp_eq ho hob
        subst hnm hp9
        have G4 := Lib.hid (G3.out.trans g4)
        have G24 := Lib.hid (G23.out.trans g4)
        have HR7 : Hid (RowsAt w4 1 A7 natC o) := Lib.hid (RowsAt.chg r3 g4)
        have HR9 := Lib.hid r4
        have HO := Lib.hid ho
        have hpl : (o.map (turnI L)).length = o.length := List.length_map _
        have hnn : (n != n) = false := by simp
        have hll : ((o.length : Int) != (o.length : Int)) = false := by simp
        clear g4 hord hob r3 r4 ho G23
        rw [hpl]
        go_upto_region 14 with fail
        have hol20 : o.length ≤ 20 := by
          rcases HO.out.codes with rfl | ⟨rfl, _⟩
          · obtain ⟨h1, -, h2⟩ := HO.out.whole
            exact Nat.le_trans h2 (mayL_of h1).1
          · exact Nat.zero_le _
        go_loopw [67] (fun i wr => ∃ k : Nat, k ≤ o.length ∧ i = .int .i64 k ∧ Hid (Chg none w4 wr)) (fun i _ => o.length - (intOf i).toNat)
        case atStart => exact ⟨0, Nat.zero_le _, rfl, Lib.hid (Chg.refl _ _)⟩
        case round =>
          obtain ⟨k, hk, rfl, HR⟩ := hrel
          by_cases hlt : k < o.length
          · have hdd : decide ((k : Int) < (o.length : Int)) = true := by rw [decide_eq_true_eq]; omega
            have hdd2 : decide (k < o.length) = true := by rw [decide_eq_true_eq]; omega
            have hlti : (k : Int) < (o.length : Int) := by omega
            obtain ⟨at_, hat⟩ : ∃ x, o[k]? = some x := ⟨_, List.getElem?_eq_getElem hlt⟩
            have hatl : at_ < L.length := HO.out.lt at_ (List.mem_of_getElem? hat)
            obtain ⟨t, hkt⟩ : ∃ t, L[at_]? = some t := ⟨_, List.getElem?_eq_getElem hatl⟩
            have hkt2 := turn_at hkt
            have hat2 := turn_get (L := L) hat
            have htl := turn_lt hatl
            have hL : L.reverse.length = L.length := List.length_reverse
            obtain ⟨ba, oa, hA7, hba, y0⟩ := one_nat (RowsAt.chg HR7.out HR.out) hat
            obtain ⟨bc, oc, hA9, hbc, y1⟩ := one_nat (RowsAt.chg HR9.out HR.out) hat2
            obtain ⟨bL, off, hA, hbL, x0, -⟩ := (HT.out wr (G4.out.trans HR.out)).one hkt
            obtain ⟨bB, ofB, hA5, hbB, z0, -⟩ := (HBK.out wr (G24.out.trans HR.out)).one hkt2
            generalize turnI L at_ = ti at *
            have hati : (at_ : Int) < (L.length : Int) := by omega
            have htii : (ti : Int) < (L.length : Int) := by omega
            have hsn : (t.n != t.n) = false := by simp
            generalize t.n = tn at *
            have HLT := Lib.hid hlt
            have HG := Lib.hid HR.out.drew
            subst hA7 hA9 hA hA5
            clear hat hkt hlt hkt2 hat2 hL HR
            go_wp2_with fail
            go_region
            go_wp2_with fail
            go_roundw
            case rel => exact ⟨k + 1, by have := HLT.out; omega, by first | rfl | go_num, HG⟩
            case measure => have := HLT.out; first | omega | (simp only [intOf]; omega) | (simp [intOf]; omega)
          · have hkl : k = o.length := by omega
            subst hkl
            have hdd : decide ((o.length : Int) < (o.length : Int)) = false := by rw [decide_eq_false_iff_not]; omega
            have hdd2 : decide (o.length < o.length) = false := by rw [decide_eq_false_iff_not]; omega
            obtain ⟨w5, hw5⟩ : ∃ w5 : World, w5 = wr := ⟨_, rfl⟩
            subst hw5
            have G45 := Lib.hid HR.out
            have G5 := Lib.hid (G4.out.trans HR.out)
            clear hlt hk HR
            rcases HO.out.codes with rfl | ⟨rfl, hn⟩
            · obtain ⟨hmay, hw, hol⟩ := HO.out.whole
              obtain ⟨h20, hall, hdis⟩ := mayL_of hmay
              have hpos : 0 < o.length := List.length_pos_iff.2 hw.ne
              have HW := Lib.hid hw
              have HALL := Lib.hid hall
              have H20 : Hid (o.length ≤ 20 ∧ L.length ≤ 20) := Lib.hid ⟨Nat.le_trans hol h20, h20⟩
              have hz0' : ((o.length : Int) == 0) = false := by rw [beq_eq_false_iff_ne]; omega
              have hz1' : (o.length == 0) = false := by rw [beq_eq_false_iff_ne]; omega
              clear hmay hw hall hdis
              have hmk := run_makeMap (P := Tryd.prog) 75 w5
              go_upto_region 24 with fail
              obtain ⟨mb, hmb⟩ : ∃ mb, mb = w5.heap.size := ⟨_, rfl⟩
              rw [← hmb]
              obtain ⟨W5, hW5⟩ : ∃ W, W = w5.alloc (.map #[] 0) := ⟨_, rfl⟩
              have HM5 : Hid (MapS W5 mb 0 (fun _ => 0) [] ∧ Chg none w5 W5) := Lib.hid (by rw [hW5, hmb]; exact ⟨MapS.new w5, (Chg.refl _ _).alloc _⟩)
              rw [← hW5]
              have HMB := Lib.hid hmb
              clear hmb hW5 hmk
              go_upto_region 25 with fail
              go_loopw [97] (fun i wr => ∃ k : Nat, k ≤ o.length ∧ i = .int .i64 k ∧ Hid (MapS wr mb k (plc L o k) (addAll [] (nms L (o.take k))) ∧ Chg none w5 wr)) (fun i _ => o.length - (intOf i).toNat)
              case atStart => exact ⟨0, Nat.zero_le _, rfl, HM5⟩
              case round =>
                obtain ⟨k, hk, rfl, HR⟩ := hrel
                by_cases hlt : k < o.length
                · have hdd : decide ((k : Int) < (o.length : Int)) = true := by rw [decide_eq_true_eq]; omega
                  have hdd2 : decide (k < o.length) = true := by rw [decide_eq_true_eq]; omega
                  have hlti : (k : Int) < (o.length : Int) := by omega
                  obtain ⟨at_, hat⟩ : ∃ x, o[k]? = some x := ⟨_, List.getElem?_eq_getElem hlt⟩
                  have hatl : at_ < L.length := HW.out.lt at_ (List.mem_of_getElem? hat)
                  obtain ⟨t, hkt⟩ : ∃ t, L[at_]? = some t := ⟨_, List.getElem?_eq_getElem hatl⟩
                  have hnl := ((HT.out wr (G5.out.trans HR.out.2)).2 t (List.mem_of_getElem? hkt)).nl
                  obtain ⟨ba, oa, hA7, hba, y0⟩ := one_nat (RowsAt.chg HR7.out (G45.out.trans HR.out.2)) hat
                  obtain ⟨bL, off, hA, hbL, x0, -⟩ := (HT.out wr (G5.out.trans HR.out.2)).one hkt
                  have hati : (at_ : Int) < (L.length : Int) := by omega
                  obtain ⟨W4, hput, hm4, g4⟩ := HR.out.1.put (by have := H20.out; unfold maxLen; omega) t.n hnl k (wf_k (by have := H20.out; omega))
                  have HEND : Hid (MapS W4 mb (k + 1) (plc L o (k + 1)) (addAll [] (nms L (o.take (k + 1)))) ∧ Chg none w5 W4) := Lib.hid ⟨by
                    rw [nms_take hat]
                    unfold plc
                    rw [List.getD_eq_getElem?_getD, hat, Option.getD_some, nmAt_get hkt]
                    exact hm4, Chg.own HR.out.2 g4 (Nat.le_of_eq HMB.out.symm)⟩
                  have hbw : mb < wr.heap.size := HR.out.1.lt
                  have HLT := Lib.hid hlt
                  generalize t.n = tn at *
                  subst hA7 hA
                  clear hat hkt hlt hm4 g4 HR
                  go_wp2_with fail
                  go_roundw
                  case rel => exact ⟨k + 1, by have := HLT.out; omega, by first | rfl | go_num, HEND⟩
                  case measure => have := HLT.out; first | omega | (simp only [intOf]; omega) | (simp [intOf]; omega)
                · have hkl : k = o.length := by omega
                  subst hkl
                  have hdd : decide ((o.length : Int) < (o.length : Int)) = false := by rw [decide_eq_false_iff_not]; omega
                  have hdd2 : decide (o.length < o.length) = false := by rw [decide_eq_false_iff_not]; omega
                  obtain ⟨w6, hw6⟩ : ∃ w6 : World, w6 = wr := ⟨_, rfl⟩
                  subst hw6
                  have hmap := HR.out.1
                  rw [List.take_of_length_le (Nat.le_refl _)] at hmap
                  have HMAP := Lib.hid hmap
                  have G46 := Lib.hid (G45.out.trans HR.out.2)
                  have G6 := Lib.hid (G5.out.trans HR.out.2)
                  clear hlt hk HR hmap
                  obtain ⟨kl, hkl⟩ : ∃ kl, kl + 1 = o.length := ⟨o.length - 1, by omega⟩
                  obtain ⟨at_, hat⟩ : ∃ x, o[kl]? = some x := ⟨_, List.getElem?_eq_getElem (by omega)⟩
                  have hatl : at_ < L.length := HW.out.lt at_ (List.mem_of_getElem? hat)
                  obtain ⟨t, hkt⟩ : ∃ t, L[at_]? = some t := ⟨_, List.getElem?_eq_getElem hatl⟩
                  have hT6 := HT.out w6 G6.out
                  obtain ⟨ba, oa, hA7, hba, y0⟩ := one_nat (RowsAt.chg HR7.out G46.out) hat
                  obtain ⟨bL, off, hA, hbL, -, x1, -, -⟩ := hT6.one hkt
                  have HDS : Hid (∀ v, Chg none w6 v → StrsAt v t.A t.D) := Lib.hid fun v g => (hT6.2 t (List.mem_of_getElem? hkt)).deps.chg g
                  have hd5 : t.D.length ≤ 5 := (HALL.out t (List.mem_of_getElem? hkt) |> fun h => by
                    unfold mayTgt at h
                    rw [Bool.and_eq_true, Bool.and_eq_true] at h
                    exact (dep_name h.2.1).1)
                  have HDEP : Hid (∀ d ∈ t.D, ∀ g cc, OrdO L d g cc → g = 0 ∧ ∀ x ∈ cc, ∃ m : Nat, m < kl ∧ o[m]? = some x) := Lib.hid fun d hd g cc h => dep_ahead HO.out hat hkl (by rw [dpAt_get hkt]; exact hd) h
                  have hati : (at_ : Int) < (L.length : Int) := by omega
                  have hw1 : IntKind.i64.wrap ((o.length : Int) - 1) = (kl : Int) := by rw [IntKind.wrap_i64]; omega
                  have hkli : (kl : Int) < (o.length : Int) := by omega
                  have HKL := Lib.hid hkl
                  subst hA7
                  obtain ⟨tn, tA, tD, tcap, tf, tB, tP, tdd⟩ := t
                  dsimp only at *
                  clear hat hkt hT6 hkl
                  have HA := Lib.hid hA
                  rw [hA]
                  clear hA
                  go_upto_region 30 with fail
                  rw [← HA.out]
                  go_loopw [15, 16, 17, 18, 19, 20, 122, 136] (fun s15 s16 s17 s18 s19 s20 i s136 wr => ∃ j : Nat, j ≤ tD.length ∧ i = .int .i64 j ∧ Hid (Chg none w6 wr)) (fun _ _ _ _ _ _ i _ _ => tD.length - (intOf i).toNat)
                  case atStart => exact ⟨0, Nat.zero_le _, rfl, Lib.hid (Chg.refl _ _)⟩
                  case round =>
                    obtain ⟨j, hj, rfl, HG⟩ := hrel
                    by_cases hjt : j < tD.length
                    · have hdj : decide ((j : Int) < (tD.length : Int)) = true := by rw [decide_eq_true_eq]; omega
                      have hdj2 : decide (j < tD.length) = true := by rw [decide_eq_true_eq]; omega
                      have hjti : (j : Int) < (tD.length : Int) := by omega
                      obtain ⟨s, hjs⟩ : ∃ s, tD[j]? = some s := ⟨_, List.getElem?_eq_getElem hjt⟩
                      have hsl := (HDS.out wr HG.out).2 s (List.mem_of_getElem? hjs)
                      obtain ⟨bd, od, rfl, hbd, y1⟩ := (HDS.out wr HG.out).one hjs
                      have HJT := Lib.hid hjt
                      have HDS2 := Lib.hid (HDEP.out s (List.mem_of_getElem? hjs))
                      have HSL := Lib.hid hsl
                      clear hjs hjt hsl
                      go_wp2_with fail
                      refine (HOR.out s _ (G6.out.trans HG.out) HSL.out).mono ?_
                      intro e w7 hord
                      obtain ⟨A16, c16, cc, g, rfl, g7, r7, hoc⟩ := hord.out
                      have hdeps := HDS2.out g cc hoc
                      obtain rfl := hdeps.1
                      have HC := Lib.hid hdeps.2
                      have HCL := Lib.hid hoc.lt
                      have hccl : cc.length ≤ L.length := hoc.whole.2.2
                      have G67 := Lib.hid (HG.out.trans g7)
                      have HR16 := Lib.hid r7
                      clear hord hoc hdeps g7 r7 HG
                      go_upto_region 36 with fail
                      go_loopw [18, 19, 20, 136] (fun s18 s19 s20 i wr => ∃ q : Nat, q ≤ cc.length ∧ i = .int .i64 q ∧ w7 = wr) (fun _ _ _ i _ => cc.length - (intOf i).toNat)
                      case atStart => exact ⟨0, Nat.zero_le _, rfl, rfl⟩
                      case round =>
                        obtain ⟨q, hq, rfl, rfl⟩ := hrel
                        by_cases hqc : q < cc.length
                        · have hdq : decide ((q : Int) < (cc.length : Int)) = true := by rw [decide_eq_true_eq]; omega
                          have hdq2 : decide (q < cc.length) = true := by rw [decide_eq_true_eq]; omega
                          have hqci : (q : Int) < (cc.length : Int) := by omega
                          obtain ⟨x, hqx⟩ : ∃ x, cc[q]? = some x := ⟨_, List.getElem?_eq_getElem hqc⟩
                          have hxl := HCL.out x (List.mem_of_getElem? hqx)
                          obtain ⟨m, hmk, hom⟩ := HC.out x (List.mem_of_getElem? hqx)
                          obtain ⟨tx, hkx⟩ : ∃ t, L[x]? = some t := ⟨_, List.getElem?_eq_getElem hxl⟩
                          have hT7 := HT.out w7 (G6.out.trans G67.out)
                          obtain ⟨bc, oc, hA16, hbc, y5⟩ := one_nat HR16.out hqx
                          obtain ⟨bX, offX, hAX, hbX, x5, -⟩ := hT7.one hkx
                          have hnl := (hT7.2 tx (List.mem_of_getElem? hkx)).nl
                          have hlk := (HMAP.out.chg G67.out).look_ok tx.n hnl
                          have hpm := plc_at HW.out hom o.length (by have := HKL.out; omega) (Nat.le_refl _)
                          have hin := nms_mem (L := L) hom
                          rw [nmAt_get hkx] at hpm hin
                          rw [hpm, decide_eq_true hin] at hlk
                          have hxi : (x : Int) < (L.length : Int) := by omega
                          have hmk2 : ¬ (kl : Int) ≤ (m : Int) := by omega
                          have hmk3 : decide ((kl : Int) ≤ (m : Int)) = false := decide_eq_false hmk2
                          have hw1' : IntKind.i64.wrap ((o.length : Int) - 1) = (kl : Int) := hw1
                          have HQC := Lib.hid hqc
                          generalize tx.n = txn at *
                          subst hA16
                          rw [hAX]
                          clear hqx hqc hom hkx hT7 hpm hin
                          go_wp2_with fail
                          go_roundw
                          case rel => exact ⟨q + 1, by have := HQC.out; omega, by first | rfl | go_num, by first | rfl | trivial⟩
                          case measure => have := HQC.out; first | omega | (simp only [intOf]; omega) | (simp [intOf]; omega)
                        · have hql : q = cc.length := by omega
                          subst hql
                          have hdq : decide ((cc.length : Int) < (cc.length : Int)) = false := by rw [decide_eq_false_iff_not]; omega
                          have hdq2 : decide (cc.length < cc.length) = false := by rw [decide_eq_false_iff_not]; omega
                          clear hqc
                          go_wp2_with fail
                          go_roundw
                          case rel => exact ⟨j + 1, by have := HJT.out; omega, by first | rfl | go_num, G67⟩
                          case measure => have := HJT.out; first | omega | (simp only [intOf]; omega) | (simp [intOf]; omega)
                    · have hjl : j = tD.length := by omega
                      subst hjl
                      have hdj : decide ((tD.length : Int) < (tD.length : Int)) = false := by rw [decide_eq_false_iff_not]; omega
                      have hdj2 : decide (tD.length < tD.length) = false := by rw [decide_eq_false_iff_not]; omega
                      have GK := Lib.hid (G6.out.trans HG.out)
                      clear hjt HG
                      go_wp2_with fail
                      refine (HKN.out _ GK.out).mono ?_
                      rintro e wk ⟨rfl, gk⟩
                      have Gk := Lib.hid (GK.out.trans gk)
                      clear gk
                      go_wp2_with fail
                      go_ret
                      exact ⟨rfl, Gk.out⟩
            · have hne : (n != 0) = true := by rcases hn with rfl | rfl | rfl <;> decide
              clear hn
              go_wp2_with fail
              refine (HKN.out _ G5.out).mono ?_
              rintro e wk ⟨rfl, gk⟩
              have Gk := Lib.hid (G5.out.trans gk)
              clear gk
              go_wp2_with fail
              go_ret
              exact ⟨rfl, Gk.out⟩
end Go.Proofs.YtbadkkilblgpmaaDoor
