/-
  GraphEnds, of any targets.
-/
import Derived.Test.YtbadkkilblgpmaaDoorGX2
namespace Go.Proofs.YtbadkkilblgpmaaDoor
open Go.RowKit Go.Maps

theorem anyM_iff {f : List UInt8 → Int} {D : List (List UInt8)} : anyM f D = true ↔ ∃ s, s ∈ D ∧ 0 < f s := by
  unfold anyM
  rw [List.any_eq_true]
  simp only [decide_eq_true_eq]
theorem mark1_pos {f : List UInt8 → Int} {t : Tgt} {s : List UInt8} : 0 < mark1 f t s ↔ 0 < f s ∨ (s = t.n ∧ ∃ d, d ∈ t.D ∧ 0 < f d) := by
  unfold mark1
  by_cases h : anyM f t.D = true
  · rw [if_pos h]
    unfold updS
    by_cases e : s = t.n
    · rw [if_pos e]
      exact ⟨fun _ => .inr ⟨e, anyM_iff.1 h⟩, fun _ => by decide⟩
    · rw [if_neg e]
      exact ⟨.inl, fun h2 => h2.elim id fun h3 => absurd h3.1 e⟩
  · rw [if_neg h]
    exact ⟨.inl, fun h2 => h2.elim id fun h3 => absurd (anyM_iff.2 h3.2) h⟩
/-- The marks of h are those of f and of g. -/
def AddM (f g h : List UInt8 → Int) : Prop := ∀ s, 0 < h s ↔ (0 < f s ∨ 0 < g s)
theorem AddM.mark1 {f g h : List UInt8 → Int} (hh : AddM f g h) (t : Tgt) : AddM (mark1 f t) (mark1 g t) (mark1 h t) := fun s => by
  rw [mark1_pos, mark1_pos, mark1_pos, hh s]
  constructor
  · rintro ((h1 | h1) | ⟨e, d, hd, h1⟩)
    · exact .inl (.inl h1)
    · exact .inr (.inl h1)
    · rcases (hh d).1 h1 with h2 | h2
      · exact .inl (.inr ⟨e, d, hd, h2⟩)
      · exact .inr (.inr ⟨e, d, hd, h2⟩)
  · rintro ((h1 | ⟨e, d, hd, h1⟩) | (h1 | ⟨e, d, hd, h1⟩))
    · exact .inl (.inl h1)
    · exact .inr ⟨e, d, hd, (hh d).2 (.inl h1)⟩
    · exact .inl (.inr h1)
    · exact .inr ⟨e, d, hd, (hh d).2 (.inr h1)⟩
theorem AddM.markL (L : List Tgt) : ∀ {f g h : List UInt8 → Int}, AddM f g h → AddM (markL f L) (markL g L) (markL h L) := by
  induction L with
  | nil => exact id
  | cons t L ih => exact fun hh => ih (hh.mark1 t)
theorem AddM.markN (L : List Tgt) {f g h : List UInt8 → Int} (hh : AddM f g h) : ∀ k, AddM (markN L k f) (markN L k g) (markN L k h)
  | 0 => hh
  | k + 1 => (AddM.markN L hh k).markL L
theorem updAll_pos : ∀ (S : List (List UInt8)) (f : List UInt8 → Int) (s : List UInt8), 0 < updAll f S s ↔ s ∈ S ∨ 0 < f s
  | [], f, s => by unfold updAll; simp
  | x :: S, f, s => by
    show 0 < updAll (updS f x 1) S s ↔ _
    rw [updAll_pos S, List.mem_cons]
    unfold updS
    by_cases e : s = x
    · rw [if_pos e]
      exact ⟨fun _ => .inl (.inl e), fun _ => .inr (by decide)⟩
    · rw [if_neg e]
      exact ⟨fun h => h.elim (fun h => .inl (.inr h)) .inr, fun h => h.elim (fun h => h.elim (fun h => absurd h e) .inl) .inr⟩
theorem dirty_add (L : List Tgt) (a b : List UInt8) : AddM (dirtyF L [a]) (dirtyF L [b]) (dirtyF L [a, b]) := by
  refine AddM.markN L (fun s => ?_) L.length
  simp only [updAll_pos, List.mem_cons, List.not_mem_nil, or_false]
  constructor
  · rintro ((h | h) | h)
    · exact .inl (.inl h)
    · exact .inr (.inl h)
    · exact absurd h (by decide)
  · rintro ((h | h) | (h | h))
    · exact .inl (.inl h)
    · exact absurd h (by decide)
    · exact .inl (.inr h)
    · exact absurd h (by decide)
theorem markN_none (L : List Tgt) : ∀ k, markN L k (fun _ => 0) = fun _ => 0 := by
  have h1 : ∀ L : List Tgt, markL (fun _ => 0) L = fun _ => 0 := by
    intro L
    induction L with
    | nil => rfl
    | cons t L ih =>
      show markL (mark1 (fun _ => 0) t) L = _
      have e : mark1 (fun _ => 0) t = fun _ => 0 := by
        unfold mark1
        rw [if_neg]
        intro h
        obtain ⟨s, -, h2⟩ := anyM_iff.1 h
        exact absurd h2 (by decide)
      rw [e]
      exact ih
  intro k
  induction k with
  | zero => rfl
  | succ k ih =>
    show markL (markN L k _) L = _
    rw [ih]
    exact h1 L
theorem sortS_nil : sortS [] = [] := by unfold sortS; simp
theorem dirty_none (L : List Tgt) : dirtyL L [] = [] := by
  unfold dirtyL dirtyF
  rw [show updAll (fun _ => 0) [] = fun _ => 0 from rfl, markN_none]
  unfold namesF
  rw [List.filter_eq_nil_iff.2 (fun t _ => by simp)]
  exact sortS_nil
theorem markL_mono (L : List Tgt) : ∀ {f : List UInt8 → Int} {s : List UInt8}, 0 < f s → 0 < markL f L s := by
  induction L with
  | nil => exact id
  | cons t L ih => exact fun h => ih (mark1_pos.2 (.inl h))
theorem markN_mono (L : List Tgt) {f : List UInt8 → Int} {s : List UInt8} (h : 0 < f s) : ∀ k, 0 < markN L k f s
  | 0 => h
  | k + 1 => markL_mono L (markN_mono L h k)
theorem dirty_all (L : List Tgt) : (dirtyL L (L.map (·.n))).length = L.length := by
  unfold dirtyL
  rw [(sortS_perm _).length_eq]
  unfold namesF
  rw [List.length_map, List.filter_eq_self.2]
  intro t ht
  rw [decide_eq_true_eq]
  exact markN_mono L ((updAll_pos _ _ _).2 (.inl (List.mem_map_of_mem ht))) L.length
theorem dirty_mem {L : List Tgt} {S : List (List UInt8)} {s : List UInt8} : s ∈ dirtyL L S ↔ (∃ t, t ∈ L ∧ t.n = s) ∧ 0 < dirtyF L S s := by
  unfold dirtyL
  rw [(sortS_perm _).mem_iff]
  unfold namesF
  rw [List.mem_map]
  constructor
  · rintro ⟨t, ht, rfl⟩
    rw [List.mem_filter, decide_eq_true_eq] at ht
    exact ⟨⟨t, ht.1, rfl⟩, ht.2⟩
  · rintro ⟨⟨t, ht, rfl⟩, h⟩
    exact ⟨t, List.mem_filter.2 ⟨ht, by rw [decide_eq_true_eq]; exact h⟩, rfl⟩
theorem dirty_both {L : List Tgt} {a b s : List UInt8} : s ∈ dirtyL L [a, b] ↔ s ∈ dirtyL L [a] ++ dirtyL L [b] := by
  rw [List.mem_append, dirty_mem, dirty_mem, dirty_mem, dirty_add L a b s]
  constructor
  · rintro ⟨h, h1 | h1⟩
    · exact .inl ⟨h, h1⟩
    · exact .inr ⟨h, h1⟩
  · rintro (⟨h, h1⟩ | ⟨h, h1⟩)
    · exact ⟨h, .inl h1⟩
    · exact ⟨h, .inr h1⟩
theorem dirty_nodup {L : List Tgt} (hdis : L.Pairwise fun a b => a.n ≠ b.n) (S : List (List UInt8)) : (dirtyL L S).Nodup := by
  unfold dirtyL
  rw [(sortS_perm _).nodup_iff]
  unfold namesF
  rw [List.Nodup, List.pairwise_map]
  exact hdis.sublist List.filter_sublist
def addAll (K S : List (List UInt8)) : List (List UInt8) := S.foldl addS K
theorem addAll_step {K S : List (List UInt8)} {k : Nat} {s : List UInt8} (h : S[k]? = some s) : addAll K (S.take (k + 1)) = addS (addAll K (S.take k)) s := by
  unfold addAll
  rw [List.take_add_one, h, List.foldl_append]
  rfl
theorem addAll_mem : ∀ (S K : List (List UInt8)) (s : List UInt8), s ∈ addAll K S ↔ s ∈ S ∨ s ∈ K
  | [], K, s => by unfold addAll; simp
  | x :: S, K, s => by
    show s ∈ addAll (addS K x) S ↔ _
    rw [addAll_mem S, mem_addS, List.mem_cons]
    constructor
    · rintro (h | h | h)
      · exact .inl (.inr h)
      · exact .inl (.inl h)
      · exact .inr h
    · rintro ((h | h) | h)
      · exact .inr (.inl h)
      · exact .inl h
      · exact .inr (.inr h)
theorem addAll_nodup : ∀ (S K : List (List UInt8)), K.Nodup → (addAll K S).Nodup
  | [], _, h => h
  | x :: S, K, h => by
    show (addAll (addS K x) S).Nodup
    refine addAll_nodup S _ ?_
    unfold addS
    split
    · exact h
    · rename_i hx
      exact List.nodup_cons.2 ⟨hx, h⟩
/-- As many keys as names. -/
theorem both_len {L : List Tgt} (hdis : L.Pairwise fun a b => a.n ≠ b.n) (a b : List UInt8) : (addAll [] (dirtyL L [a] ++ dirtyL L [b])).length = (dirtyL L [a, b]).length := by
  refine List.Perm.length_eq ((List.perm_ext_iff_of_nodup (addAll_nodup _ _ List.nodup_nil) (dirty_nodup hdis _)).2 fun s => ?_)
  rw [addAll_mem, dirty_both]
  simp

open Go.RowKit Go.Maps

theorem dirty_may (L : List Tgt) (A : Option Addr) (c : Nat) (S : List (List UInt8)) (B : Option Addr) (d : Nat) (w : World) (hT : TgtsAt w A L) (hS : StrsAt w B S) (hF : Flds w) (hl : L.length ≤ 9223372036854775807) (hcap : L.length ≤ c) (hsl : S.length ≤ 1000000000000000) (hm : mayL L = true) :
    Calls Tryd.prog 53 #[.slice A L.length c, .slice B S.length d] w fun e w' => ∃ A c, e = .returned (.tuple #[.slice A (dirtyL L S).length c, .int .i64 0]) ∧ Chg none w w' ∧ RowsAt w' 1 A strC (dirtyL L S) := by
  refine (dirty_any L A c S B d w hT hS hF hl hcap hsl).mono fun e w' h => ?_
  obtain ⟨A, c, R, n, rfl, hg, hr, h1 | h1, -⟩ := h
  · exact absurd h1.1 (by rw [hm]; decide)
  · obtain ⟨-, rfl, rfl⟩ := h1
    exact ⟨A, c, rfl, hg, hr⟩
theorem strs_lit1 {v : World} {s : List UInt8} (hs : s.length ≤ 9223372036854775807) : StrsAt (v.alloc (.cells #[.string ⟨s.toArray⟩] 9)) (some ⟨v.heap.size, 0, none⟩) [s] :=
  ⟨row_blk (Blk.new v _ _) rfl (fun _ => rfl), fun x hx => by rw [List.mem_singleton] at hx; rw [hx]; exact hs⟩
theorem strs_lit2 {v : World} {a b : List UInt8} (ha : a.length ≤ 9223372036854775807) (hb : b.length ≤ 9223372036854775807) : StrsAt (v.alloc (.cells #[.string ⟨a.toArray⟩, .string ⟨b.toArray⟩] 9)) (some ⟨v.heap.size, 0, none⟩) [a, b] :=
  ⟨row_blk (Blk.new v _ _) rfl (fun _ => rfl), fun x hx => by
    simp only [List.mem_cons, List.not_mem_nil, or_false] at hx
    rcases hx with rfl | rfl
    · exact ha
    · exact hb⟩
theorem dirty_short {L : List Tgt} {S : List (List UInt8)} {s : List UInt8} {w : World} {A : Option Addr} (hT : TgtsAt w A L) (h : s ∈ dirtyL L S) : s.length ≤ 9223372036854775807 := by
  obtain ⟨⟨t, ht, rfl⟩, -⟩ := dirty_mem.1 h
  exact (hT.2 t ht).nl
theorem dirty_len {L : List Tgt} {S : List (List UInt8)} : (dirtyL L S).length ≤ L.length := by
  unfold dirtyL
  rw [(sortS_perm _).length_eq]
  exact namesF_len _ _

set_option maxHeartbeats 64000000 in
set_option maxRecDepth 100000 in
theorem ends_any (L : List Tgt) (A : Option Addr) (c : Nat) (a b : List UInt8) (w : World) (hT : TgtsAt w A L) (hF : Flds w) (hl : L.length ≤ 9223372036854775807) (hcap : L.length ≤ c) (ha : a.length ≤ 9223372036854775807) (hb : b.length ≤ 9223372036854775807) :
    Calls Tryd.prog 16 #[.slice A L.length c, .string ⟨a.toArray⟩, .string ⟨b.toArray⟩] w fun e w' => e = .returned (.bool true) ∧ Chg none w w' := by
  have HT : Hid (∀ v, Chg none w v → TgtsAt v A L) := Lib.hid fun v g => hT.chg g
  have HFL : Hid (∀ v, Chg none w v → Flds v) := Lib.hid fun v g => hF.chg g
  have HKN : Hid (∀ v, Chg none w v → Calls Tryd.prog 49 #[] v fun e w' => e = .returned (.bool true) ∧ Chg none v w') := Lib.hid fun v g => known15 v (hF.chg g)
  have HA := Lib.hid ha
  have HB := Lib.hid hb
  have HGR : Hid (Calls Tryd.prog 48 #[.slice A L.length c, .slice (some ⟨w.heap.size, 0, none⟩) 2 2] (w.alloc (.cells #[.string ⟨a.toArray⟩, .string ⟨b.toArray⟩] 9)) fun e w' => ∃ g : Bool, e = .returned (.bool g) ∧ Chg none w w') :=
    Lib.hid ((great48 L A c _ 2 [a, b] _ (hT.chg ((Chg.refl _ _).alloc _)) hl (strs_lit2 ha hb) (by show 2 ≤ _; decide)).mono fun e w' ⟨g, h1, h2⟩ => ⟨g, h1, ((Chg.refl _ _).alloc _).trans h2⟩)
  have HDA : Hid (∀ S B d v, Chg none w v → StrsAt v B S → S.length ≤ 1000000000000000 → mayL L = true → Calls Tryd.prog 53 #[.slice A L.length c, .slice B S.length d] v fun e w' => ∃ A c, e = .returned (.tuple #[.slice A (dirtyL L S).length c, .int .i64 0]) ∧ Chg none v w' ∧ RowsAt w' 1 A strC (dirtyL L S)) :=
    Lib.hid fun S B d v g hS hs hm => dirty_may L A c S B d v (hT.chg g) hS (hF.chg g) hl hcap hs hm
  have HD0 : Hid (∀ v, Chg none w v → Calls Tryd.prog 53 #[.slice A L.length c, .slice none 0 0] v (DirP v L [])) :=
    Lib.hid fun v g => dirty_any L A c [] none 0 v (hT.chg g) ⟨fun h => absurd rfl h, fun s h => by cases h⟩ (hF.chg g) hl hcap (by decide)
  obtain ⟨i0, hi0, hz0, hz1, hz2⟩ := info_parts Tryd.info9
  clear hT hF hl hcap ha hb
  go_enter Tryd.func16, Tryd.ntmps16
  go_wp2_with fail
  refine HGR.out.mono ?_
  rintro e w1 ⟨g, rfl, g1⟩
  have G1 := Lib.hid g1
  clear g1 HGR
  cases g with
  | true =>
    go_wp2_with fail
    refine (HKN.out _ G1.out).mono ?_
    rintro e wk ⟨rfl, gk⟩
    have Gk := Lib.hid (G1.out.trans gk)
    clear gk
    go_wp2_with fail
    go_ret
    exact ⟨rfl, Gk.out⟩
  | false =>
    go_wp2_with fail
    refine (HD0.out _ G1.out).mono ?_
    rintro e w2 ⟨A7, c7, R, n, rfl, g2, -, hh, -⟩
    have G2 := Lib.hid (G1.out.trans g2)
    clear g2 G1 HD0
    rcases hh with ⟨-, rfl, rfl⟩ | ⟨hmay, rfl, rfl⟩
    · have hne2 : ((2 : Int) != 0) = true := by decide
      go_wp2_with fail
      refine (HKN.out _ G2.out).mono ?_
      rintro e wk ⟨rfl, gk⟩
      have Gk := Lib.hid (G2.out.trans gk)
      clear gk
      go_wp2_with fail
      go_ret
      exact ⟨rfl, Gk.out⟩
    · have hn0 : (dirtyL L []).length = 0 := by rw [dirty_none]; rfl
      rw [hn0]
      obtain ⟨h20, -, hdis⟩ := mayL_of hmay
      have H20 := Lib.hid h20
      have HMY := Lib.hid hmay
      have HDIS := Lib.hid hdis
      have HALL := Lib.hid (dirty_all L)
      have HBL := Lib.hid (both_len hdis a b)
      clear hmay hdis hn0
      obtain ⟨p, hp⟩ : ∃ p, p = w2.heap.size := ⟨_, rfl⟩
      have HP := Lib.hid hp
      clear hp
      go_wp2_with fail
      go_loopw [9, 40] (fun s9 i wr => ∃ (k : Nat) (A9 : Option Addr) (c9 : Nat), k ≤ L.length ∧ i = .int .i64 k ∧ s9 = .slice A9 k c9 ∧ Hid (wr.ownsRow p 9 1 (.slice A9 k c9) k ((L.map (·.n)).take k |>.flatMap strC) ∧ Chg none w2 wr)) (fun _ i _ => L.length - (intOf i).toNat)
      case atStart => exact ⟨0, none, 0, Nat.zero_le _, rfl, rfl, Lib.hid ⟨World.ownsRow_nil _ _ _ _, Chg.refl _ _⟩⟩
      case round =>
        obtain ⟨k, A9, c9, hk, rfl, rfl, HR⟩ := hrel
        by_cases hlt : k < L.length
        · have hdd : decide ((k : Int) < (L.length : Int)) = true := by rw [decide_eq_true_eq]; omega
          have hdd2 : decide (k < L.length) = true := by rw [decide_eq_true_eq]; omega
          obtain ⟨t, hkt⟩ : ∃ t, L[k]? = some t := ⟨_, List.getElem?_eq_getElem hlt⟩
          obtain ⟨bL, off, rfl, hbL, x0, -, -, -⟩ := (HT.out wr (G2.out.trans HR.out.2)).one hkt
          have HLT := Lib.hid hlt
          have HRR : Hid (∀ W : World, Reads (W.alloc (.cells #[.string ⟨t.n.toArray⟩] 9)) (W.heap.size + 1) 1 (some ⟨W.heap.size, 0, none⟩) 1 [.string ⟨t.n.toArray⟩]) := Lib.hid fun W => ⟨rfl, fun _ => ⟨_, rfl, Nat.lt_succ_self _, fun j u hu => by
            rw [Go.WideShapes.add_plain, Blk.cell (Blk.new W _ _)]
            simpa using hu⟩⟩
          have HO9 := Lib.hid (show ∀ u ∈ [Value.string ⟨t.n.toArray⟩], u.oneCell' = true by intro u hu; simp at hu; subst hu; rfl)
          have hs1 : k + 1 ≤ maxLen := by have := H20.out; unfold maxLen; omega
          have hs2 : (k + 1) * 16 ≤ 140737488355328 := by have := H20.out; omega
          have HTK : Hid ((L.map (·.n)).take (k + 1) = (L.map (·.n)).take k ++ [t.n]) := Lib.hid (by rw [List.take_add_one, List.getElem?_map, hkt]; rfl)
          have hpw : p ≤ wr.heap.size := by rw [HP.out]; exact HR.out.2.size
          clear hkt hlt
          go_upto_region 11 with (first
            | (refine wpList_append_any _ rfl (.tmp 43) (.tmp 49) 64 rfl p 9 i0 (.string ⟨#[]⟩) 1 16 Tryd.underlying64 hi0 hz0 hz1 hz2 rfl (by decide) (.slice A9 k c9) k _ rfl (HR.out.1.alloc _) _ (some ⟨wr.heap.size, 0, none⟩) 1 1 [.string ⟨t.n.toArray⟩] rfl (HRR.out wr) HO9.out hs1 hs2 (by simp; omega) ?_
               intro v6 w6 hown6 hgr6 _
               have HG6 := Lib.hid (Chg.ownRow (HR.out.2.alloc (.cells #[.string ⟨t.n.toArray⟩] 9)) hgr6 (fun x hx => by have := (HR.out.1.lt x hx).1; have := HP.out; omega))
               obtain ⟨A6, c6, rfl⟩ := own_slice hown6
               have HO6 : Hid (w6.ownsRow p 9 1 (.slice A6 (k + 1) c6) (k + 1) ((L.map (·.n)).take (k + 1) |>.flatMap strC)) := Lib.hid (by
                 rw [HTK.out, List.flatMap_append]
                 exact hown6)
               clear hown6 hgr6))
          go_wp2_with fail
          go_roundw
          case rel => exact ⟨k + 1, A6, c6, by have := HLT.out; omega, by first | rfl | go_num, rfl, Lib.hid ⟨HO6.out, HG6.out⟩⟩
          case measure => have := HLT.out; first | omega | (simp only [intOf]; omega) | (simp [intOf]; omega)
        · have hkl : k = L.length := by omega
          subst hkl
          have hdd : decide ((L.length : Int) < (L.length : Int)) = false := by rw [decide_eq_false_iff_not]; omega
          have hdd2 : decide (L.length < L.length) = false := by rw [decide_eq_false_iff_not]; omega
          have hml : (L.map (·.n)).length = L.length := List.length_map _
          have hown := HR.out.1
          rw [List.take_of_length_le (by rw [hml]; exact Nat.le_refl _)] at hown
          have HS3 : Hid (StrsAt wr A9 (L.map (·.n))) := Lib.hid ⟨(own_rowsAt (fun _ => rfl) (by rw [hml]; exact hown)).1, fun s hs => by
            obtain ⟨t, ht, rfl⟩ := List.mem_map.1 hs
            exact ((HT.out w (Chg.refl _ _)).2 t ht).nl⟩
          have G3 := Lib.hid (G2.out.trans HR.out.2)
          have HD1 := Lib.hid (HDA.out (L.map (·.n)) A9 c9 wr G3.out HS3.out (by rw [hml]; have := H20.out; omega) HMY.out)
          rw [hml, HALL.out] at HD1
          obtain ⟨w3, hw3⟩ : ∃ w3 : World, w3 = wr := ⟨_, rfl⟩
          subst hw3
          clear hlt hown hk HR HS3 hml
          go_wp2_with fail
          refine HD1.out.mono ?_
          rintro e w4 ⟨A11, c11, rfl, g4, -⟩
          have G4 := Lib.hid (G3.out.trans g4)
          clear g4 G3 HD1
          have HD2 := Lib.hid (HDA.out [a] _ 1 _ (G4.out.alloc _) (strs_lit1 HA.out) (by show 1 ≤ _; decide) HMY.out)
          go_wp2_with fail
          refine HD2.out.mono ?_
          rintro e w5 ⟨A13, c13, rfl, g5, r5⟩
          have G5 := Lib.hid ((G4.out.alloc (.cells #[.string ⟨a.toArray⟩] 9)).trans g5)
          have HR5 : Hid (∀ v, Chg none w5 v → RowsAt v 1 A13 strC (dirtyL L [a])) := Lib.hid fun v g => RowsAt.chg r5 g
          clear g5 r5 HD2 G4
          have HD3 := Lib.hid (HDA.out [b] _ 1 _ (G5.out.alloc _) (strs_lit1 HB.out) (by show 1 ≤ _; decide) HMY.out)
          go_wp2_with fail
          refine HD3.out.mono ?_
          rintro e w6 ⟨A15, c15, rfl, g6, r6⟩
          have G56 := Lib.hid (((Chg.refl none w5).alloc (.cells #[.string ⟨b.toArray⟩] 9)).trans g6)
          have HR6 : Hid (∀ v, Chg none w6 v → RowsAt v 1 A15 strC (dirtyL L [b])) := Lib.hid fun v g => RowsAt.chg r6 g
          clear g6 r6 HD3
          have G6 := Lib.hid (G5.out.trans G56.out)
          have HD4 := Lib.hid (HDA.out [a, b] _ 2 _ (G6.out.alloc _) (strs_lit2 HA.out HB.out) (by show 2 ≤ _; decide) HMY.out)
          go_wp2_with fail
          refine HD4.out.mono ?_
          rintro e w7 ⟨A17, c17, rfl, g7, r7⟩
          have G67 := Lib.hid (((Chg.refl none w6).alloc (.cells #[.string ⟨a.toArray⟩, .string ⟨b.toArray⟩] 9)).trans g7)
          have HR7 : Hid (∀ v, Chg none w7 v → RowsAt v 1 A17 strC (dirtyL L [a, b])) := Lib.hid fun v g => RowsAt.chg r7 g
          have G7 := Lib.hid (G6.out.trans G67.out)
          have HX7 := Lib.hid (HR5.out w7 (G56.out.trans G67.out))
          have HY7 := Lib.hid (HR6.out w7 G67.out)
          clear g7 r7 HD4 HR5 HR6 G56 G67 G5 G6
          have HXS : Hid (∀ s ∈ dirtyL L [a] ++ dirtyL L [b], s.length ≤ 9223372036854775807) := Lib.hid fun s hs => (List.mem_append.1 hs).elim (dirty_short (HT.out w (Chg.refl _ _))) (dirty_short (HT.out w (Chg.refl _ _)))
          have HXB : Hid (∀ s, s ∈ dirtyL L [a, b] → s ∈ dirtyL L [a] ++ dirtyL L [b]) := Lib.hid fun s hs => dirty_both.1 hs
          have HXL : Hid ((dirtyL L [a]).length ≤ 20 ∧ (dirtyL L [b]).length ≤ 20 ∧ (dirtyL L [a, b]).length ≤ 20) := Lib.hid ⟨Nat.le_trans dirty_len H20.out, Nat.le_trans dirty_len H20.out, Nat.le_trans dirty_len H20.out⟩
          generalize dirtyL L [a] = X at *
          generalize dirtyL L [b] = Y at *
          generalize dirtyL L [a, b] = Z at *
          have hmk := run_makeMap (P := Tryd.prog) 75 w7
          go_upto_region 19 with fail
          obtain ⟨mb, hmb⟩ : ∃ mb, mb = w7.heap.size := ⟨_, rfl⟩
          rw [← hmb]
          obtain ⟨W8, hW8⟩ : ∃ W, W = w7.alloc (.map #[] 0) := ⟨_, rfl⟩
          have HM8 : Hid (MapS W8 mb 0 (fun _ => 0) [] ∧ Chg none w7 W8) := Lib.hid (by rw [hW8, hmb]; exact ⟨MapS.new w7, (Chg.refl _ _).alloc _⟩)
          rw [← hW8]
          have HMB := Lib.hid hmb
          clear hmb hW8 hmk
          have hm8 := HM8.out.1.lt
          have HQ0 : Hid (QAt (W8.alloc (.cells #[] 9)) (mb + 1) (.slice (some ⟨W8.heap.size, 0, none⟩) 0 0) []) := Lib.hid ⟨W8.heap.size, 0, 0, rfl, hm8, by simp, Nat.le_refl _, Nat.zero_le _, fun j h => absurd h (Nat.not_lt_zero _), fun j s h => by cases h⟩
          have hx8 : RowsAt (W8.alloc (.cells #[] 9)) 1 A13 strC X := RowsAt.chg HX7.out (HM8.out.2.alloc _)
          have hb8 : mb + 1 ≤ (W8.alloc (.cells #[] 9)).heap.size := by simp; omega
          have hsm1 : ([] : List (List UInt8)).length + X.length ≤ 100000 := by have := HXL.out.1; simp; omega
          have hsm2 : ([] ++ X).length + Y.length ≤ 100000 := by have := HXL.out; simp; omega
          go_upto_region 20 with (first
            | (refine wpList_push _ rfl (.tmp 107) (.tmp 108) rfl (mb + 1) (.slice (some ⟨W8.heap.size, 0, none⟩) 0 0) [] rfl HQ0.out hb8 A13 X c13 rfl hx8 hsm1 ?_
               intro v9 w9 hq9 hgr9 hb9
               have HG9 : Hid (Chg none w7 w9) := Lib.hid (Chg.ownRow (HM8.out.2.alloc (.cells #[] 9)) hgr9 (fun x hx => by have := (HQ0.out.lt x hx).1; have := HMB.out; omega))
               have HM9 : Hid (MapS w9 mb 0 (fun _ => 0) []) := Lib.hid ((HM8.out.1.chg ((Chg.refl _ _).alloc (.cells #[] 9))).kept hgr9 (fun e => by have := (HQ0.out.lt _ e.symm).1; omega))
               have HQ9 := Lib.hid hq9
               have hy9 : RowsAt w9 1 A15 strC Y := RowsAt.chg HY7.out HG9.out
               have hb9' : mb + 1 ≤ w9.heap.size := by have := HM9.out.lt; omega
               clear hq9 hgr9 hb9)
            | (refine wpList_push _ rfl (.tmp 109) (.tmp 110) rfl (mb + 1) v9 ([] ++ X) rfl HQ9.out hb9' A15 Y c15 rfl hy9 hsm2 ?_
               intro v10 w10 hq10 hgr10 hb10
               have HG10 : Hid (Chg none w7 w10) := Lib.hid (Chg.ownRow HG9.out hgr10 (fun x hx => by have := (HQ9.out.lt x hx).1; have := HMB.out; omega))
               have HM10 : Hid (MapS w10 mb 0 (fun _ => 0) []) := Lib.hid (HM9.out.kept hgr10 (fun e => by have := (HQ9.out.lt _ e.symm).1; omega))
               have HQ10 : Hid (QAt w10 (mb + 1) v10 (X ++ Y)) := Lib.hid hq10
               obtain ⟨qb, qo, qc, hv10⟩ := HQ10.out.form
               subst hv10
               clear hq10 hgr10 hb10))
          have hxl := HXL.out
          have hqb : mb + 1 ≤ qb := (HQ10.out.lt qb rfl).1
          go_loopw [113] (fun i wr => ∃ k : Nat, k ≤ X.length + Y.length ∧ i = .int .i64 k ∧ Hid (MapS wr mb k (updAll (fun _ => 0) ((X ++ Y).take k)) (addAll [] ((X ++ Y).take k)) ∧ QAt wr (mb + 1) (.slice (some ⟨qb, qo, none⟩) (X ++ Y).length qc) (X ++ Y) ∧ Chg none w7 wr)) (fun i _ => X.length + Y.length - (intOf i).toNat)
          case atStart => exact ⟨0, Nat.zero_le _, rfl, Lib.hid ⟨HM10.out, HQ10.out, HG10.out⟩⟩
          case round =>
            obtain ⟨k, hk, rfl, HR⟩ := hrel
            by_cases hlt : k < X.length + Y.length
            · have hdd : decide ((k : Int) < (X.length : Int) + (Y.length : Int)) = true := by rw [decide_eq_true_eq]; omega
              have hdd2 : decide (k < X.length + Y.length) = true := by rw [decide_eq_true_eq]; omega
              have hkb : (k : Int) ≤ 1000 := by omega
              have hlti : (k : Int) < (X.length : Int) + (Y.length : Int) := by omega
              have hltn : k < X.length + Y.length := hlt
              have hkn : k < (X ++ Y).length := by rw [List.length_append]; exact hlt
              obtain ⟨s, hks⟩ : ∃ s, (X ++ Y)[k]? = some s := ⟨_, List.getElem?_eq_getElem hkn⟩
              obtain ⟨b0, o0, cp0, he0, x0⟩ := HR.out.2.1.cells hks
              obtain ⟨⟨rfl, rfl⟩, rfl⟩ : (qb = b0 ∧ qo = o0) ∧ qc = cp0 := by simpa using he0
              obtain ⟨W4, hput, hm4, g4⟩ := HR.out.1.put (by unfold maxLen; omega) s (HXS.out s (List.mem_of_getElem? hks)) 1 (by decide)
              have HEND : Hid (MapS W4 mb (k + 1) (updAll (fun _ => 0) ((X ++ Y).take (k + 1))) (addAll [] ((X ++ Y).take (k + 1))) ∧ QAt W4 (mb + 1) (.slice (some ⟨qb, qo, none⟩) (X ++ Y).length qc) (X ++ Y) ∧ Chg none w7 W4) := Lib.hid ⟨by rw [updAll_step hks, addAll_step hks]; exact hm4, HR.out.2.1.kept g4 (by simp only [Value.ownBlock]; intro e; have := Option.some.inj e; omega), Chg.own HR.out.2.2 g4 (Nat.le_of_eq HMB.out.symm)⟩
              have HLT := Lib.hid hlt
              have hbw : mb < wr.heap.size := HR.out.1.lt
              clear hks he0 hm4 g4 hlt HR
              go_wp2_with fail
              go_roundw
              case rel => exact ⟨k + 1, by have := HLT.out; omega, by first | rfl | go_num, HEND⟩
              case measure => have := HLT.out; first | omega | (simp only [intOf]; omega) | (simp [intOf]; omega)
            · have hkl : k = X.length + Y.length := by omega
              subst hkl
              have hdd : decide (((X.length + Y.length : Nat) : Int) < (X.length : Int) + (Y.length : Int)) = false := by rw [decide_eq_false_iff_not]; omega
              have hdd2 : decide (X.length + Y.length < X.length + Y.length) = false := by rw [decide_eq_false_iff_not]; omega
              have hdd3 : decide ((X.length : Int) + (Y.length : Int) < (X.length : Int) + (Y.length : Int)) = false := by rw [decide_eq_false_iff_not]; omega
              have hmap := HR.out.1
              rw [List.take_of_length_le (by rw [List.length_append]; exact Nat.le_refl _)] at hmap
              have hlen := hmap.len 3
              rw [HBL.out] at hlen
              obtain ⟨w11, hw11⟩ : ∃ w11 : World, w11 = wr := ⟨_, rfl⟩
              subst hw11
              have G11 := Lib.hid (G7.out.trans HR.out.2.2)
              have HZ11 := Lib.hid (HR7.out w11 HR.out.2.2)
              have HMAP := Lib.hid hmap
              clear hlt hk HR hmap
              go_upto_region 27 with fail
              go_loopw [127] (fun i wr => ∃ k : Nat, k ≤ Z.length ∧ i = .int .i64 k ∧ w11 = wr) (fun i _ => Z.length - (intOf i).toNat)
              case atStart => exact ⟨0, Nat.zero_le _, rfl, rfl⟩
              case round =>
                obtain ⟨k, hk, rfl, rfl⟩ := hrel
                by_cases hlt : k < Z.length
                · have hdd : decide ((k : Int) < (Z.length : Int)) = true := by rw [decide_eq_true_eq]; omega
                  have hdd2 : decide (k < Z.length) = true := by rw [decide_eq_true_eq]; omega
                  have hkb : (k : Int) ≤ 1000 := by omega
                  have hlti : (k : Int) < (Z.length : Int) := by omega
                  obtain ⟨s, hks⟩ : ∃ s, Z[k]? = some s := ⟨_, List.getElem?_eq_getElem hlt⟩
                  have hsm := HXB.out s (List.mem_of_getElem? hks)
                  obtain ⟨bz, oz, rfl, hbz, x0⟩ := (show StrsAt w11 A17 Z from ⟨HZ11.out, fun s hs => HXS.out s (HXB.out s hs)⟩).one hks
                  have hlook := HMAP.out.look s (HXS.out s hsm)
                  have hpos : 0 < updAll (fun _ => 0) (X ++ Y) s := (updAll_pos _ _ _).2 (.inl hsm)
                  generalize updAll (fun _ => 0) (X ++ Y) s = z at *
                  have e1 : (z == 0) = false := by rw [beq_eq_false_iff_ne]; omega
                  have HLT := Lib.hid hlt
                  clear hks hsm hpos
                  go_wp2_with fail
                  go_roundw
                  case rel => exact ⟨k + 1, by have := HLT.out; omega, by first | rfl | go_num, by first | rfl | trivial⟩
                  case measure => have := HLT.out; first | omega | (simp only [intOf]; omega) | (simp [intOf]; omega)
                · have hdd : decide ((k : Int) < (Z.length : Int)) = false := by rw [decide_eq_false_iff_not]; omega
                  have hdd2 : decide (k < Z.length) = false := by rw [decide_eq_false_iff_not]; omega
                  go_wp2_with fail
                  refine (HKN.out _ G11.out).mono ?_
                  rintro e wk ⟨rfl, gk⟩
                  have Gk := Lib.hid (G11.out.trans gk)
                  clear gk
                  go_wp2_with fail
                  go_ret
                  exact ⟨rfl, Gk.out⟩

end Go.Proofs.YtbadkkilblgpmaaDoor
