/-
  Package graph: Order walked; the law's known.
-/
import Derived.Test.YtbadkkilblgpmaaDoorShelfI
import Derived.WalkMore
import Derived.Test.YtbadkkilblgpmaaDoorGX1
namespace Go.Proofs.YtbadkkilblgpmaaDoor
open Go.RowKit Go.Maps

set_option maxHeartbeats 8000000 in
theorem clo97 (L : List Tgt) (A : Option Addr) (c bx i j : Nat) (s t : Tgt) (W : World) (hT : TgtsAt W A L) (hi : L[i]? = some s) (hj : L[j]? = some t) (hl : L.length ≤ 1000) (hc : W.cell? ⟨bx, 0, none⟩ = some (.slice A L.length c)) :
    Calls Tryd.prog 97 #[.int .i64 i, .int .i64 j, .pointer (some ⟨bx, 0, none⟩)] W fun e w' => e = .returned (.int .i64 (cmpB s.n t.n)) ∧ ∃ q os', w' = Go.Sort.grow (W.drewN q) os' := by
  have HC := Lib.hid (fun v => Tryd.strings_Compare ⟨s.n.toArray⟩ ⟨t.n.toArray⟩ v)
  have hz : Lib.compareBytes (⟨s.n.toArray⟩ : ByteArray).data.toList (⟨t.n.toArray⟩ : ByteArray).data.toList = cmpB s.n t.n := rfl
  rw [hz] at HC
  clear hz
  obtain ⟨bL, off, rfl, hbL, x0, x1, x2, x3⟩ := hT.one hi
  obtain ⟨bL2, off2, e, hbL2, y0, y1, y2, y3⟩ := hT.one hj
  obtain ⟨rfl, rfl⟩ : bL = bL2 ∧ off = off2 := by simpa using e
  have hil := (List.getElem?_eq_some_iff.1 hi).1
  have hjl := (List.getElem?_eq_some_iff.1 hj).1
  have hil2 : (i : Int) < (L.length : Int) := by omega
  have hjl2 : (j : Int) < (L.length : Int) := by omega
  have hib : (i : Int) ≤ 1000 := by omega
  have hjb : (j : Int) ≤ 1000 := by omega
  clear x1 x2 x3 y1 y2 y3 e hT hi hj hbL2
  generalize s.n = sn at *
  generalize t.n = tn at *
  generalize cmpB sn tn = r at *
  generalize L.length = n at *
  go_enter Tryd.func97, Tryd.ntmps97
  go_upto_region 1 with fail
  go_region_with (go_at_call 98; refine (HC.out _).mono ?_; rintro e w' ⟨rfl, rfl⟩)
  all_goals
    go_wp2_with fail
    go_ret
    exact ⟨rfl, 1, #[], by rw [Go.Sort.grow_empty]; rfl⟩

open Go.RowKit Go.Maps

theorem putRow_chgG {α : Type} [Inhabited α] {enc : α → Value} {w : World} {g o n : Nat} {d : Array α} {os : Array Obj} : Chg (some g) w (Go.Sort.grow (Go.Sort.putRow enc (Go.Sort.ahead w n) g o d) os) := by
  refine ⟨rfl, rfl, rfl, by rw [Go.Sort.size_grow, Go.Sort.size_putRow]; exact Nat.le_add_right _ _, fun i hi hn => ?_⟩
  unfold Go.Sort.grow Go.Sort.putRow Go.Sort.mapBlock Go.Sort.ahead
  show (Array.modify w.heap g _ ++ os)[i]? = w.heap[i]?
  rw [Array.getElem?_append_left (by simpa using hi), Array.getElem?_modify, if_neg (fun e => hn (by rw [e]))]

/-- The name at a place. -/
def nmAt (L : List Tgt) (i : Nat) : List UInt8 := ((L[i]?).map (·.n)).getD []
theorem nmAt_get {L : List Tgt} {i : Nat} {t : Tgt} (h : L[i]? = some t) : nmAt L i = t.n := by unfold nmAt; rw [h]; rfl
def cfN (L : List Tgt) (x y : Fin L.length) : Int := cmpB (nmAt L x.val) (nmAt L y.val)
theorem swoN (L : List Tgt) : Go.Sort.SWO (ltOf (cfN L)) where
  irrefl x := by unfold ltOf cfN; rw [cmp_self]; rfl
  trans x y z h1 h2 := by
    unfold ltOf cfN at *
    rw [decide_eq_true_eq] at *
    exact cmp_trans _ _ _ h1 h2
  ntrans x y z h1 h2 := by
    unfold ltOf cfN at *
    rw [decide_eq_false_iff_not] at *
    intro h3
    rcases cmp_tot (nmAt L x.val) (nmAt L y.val) with h | h | h
    · exact h1 h
    · rw [h] at h3; exact h2 h3
    · exact h2 (cmp_trans _ _ _ h h3)
def encN (L : List Tgt) (x : Fin L.length) : Value := .int .i64 x.val
def finsOf (L : List Tgt) : (nd : List Nat) → (∀ i ∈ nd, i < L.length) → List (Fin L.length)
  | [], _ => []
  | i :: nd, h => ⟨i, h i List.mem_cons_self⟩ :: finsOf L nd fun j hj => h j (List.mem_cons_of_mem _ hj)
theorem finsOf_val (L : List Tgt) : ∀ (nd : List Nat) (h : ∀ i ∈ nd, i < L.length), (finsOf L nd h).map Fin.val = nd
  | [], _ => rfl
  | i :: nd, h => by
    show i :: (finsOf L nd _).map Fin.val = i :: nd
    rw [finsOf_val L nd]
/-- Sorted by names. -/
def SortedBy (L : List Tgt) (nd nd' : List Nat) : Prop := nd'.Perm nd ∧ nd'.Pairwise fun i j => ¬ cmpB (nmAt L j) (nmAt L i) < 0
theorem natC_flat (nd : List Nat) : nd.flatMap natC = nd.map fun i => Value.int .i64 (i : Nat) := by
  induction nd with
  | nil => rfl
  | cons d ds ih => rw [List.flatMap_cons, ih]; rfl

set_option maxHeartbeats 4000000 in
set_option maxRecDepth 100000 in
theorem sort96 (L : List Tgt) (A : Option Addr) (c bx B : Nat) (A5 : Option Addr) (c5 : Nat) (nd : List Nat) (w : World) (hl : L.length ≤ 1000) (hlt : ∀ i ∈ nd, i < L.length) (hne : nd ≠ []) (hdis : L.Pairwise fun a b => a.n ≠ b.n)
    (hown : w.ownsRow B 3 1 (.slice A5 nd.length c5) nd.length (nd.flatMap natC)) (hnl : nd.length ≤ 1000)
    (hT : ∀ W, (∀ u, Chg none u w → u.heap.size ≤ B → Chg none u W) → TgtsAt W A L ∧ W.cell? ⟨bx, 0, none⟩ = some (.slice A L.length c)) :
    Calls Tryd.prog 96 #[.slice A5 nd.length c5, .func (.func 97) #[] #[.pointer (some ⟨bx, 0, none⟩)]] w fun e w' => e = .returned (.tuple #[]) ∧ ∃ nd', SortedBy L nd nd' ∧ RowsAt w' 1 A5 natC nd' ∧ ∀ u, Chg none u w → u.heap.size ≤ B → Chg none u w' := by
  rcases hown.2 with ⟨-, h0⟩ | ⟨g, cap, cur, h1, hB, hg, hn, hm, hs, ht⟩
  · exact absurd (List.eq_nil_of_length_eq_zero h0) hne
  injection h1 with hA _ hc
  subst hA hc
  have hglt : g < w.heap.size := (Array.getElem?_eq_some_iff.1 hg).1
  have hL0 : 0 < L.length := by
    cases nd with
    | nil => exact absurd rfl hne
    | cons i nd => exact Nat.lt_of_le_of_lt (Nat.zero_le _) (hlt i List.mem_cons_self)
  haveI : Inhabited (Fin L.length) := ⟨⟨0, hL0⟩⟩
  obtain ⟨D, hD⟩ : ∃ D, D = finsOf L nd hlt := ⟨_, rfl⟩
  have hDv : D.map Fin.val = nd := by rw [hD]; exact finsOf_val L nd hlt
  have hDl : D.length = nd.length := by rw [← hDv, List.length_map]
  have hH : Go.Sort.Holds (encN L) w g 0 D.toArray := fun j hj => by
    have hj : j < D.length := by simpa using hj
    obtain ⟨x, hx⟩ : ∃ x, D[j]? = some x := ⟨_, List.getElem?_eq_getElem hj⟩
    have hx2 : nd[j]? = some x.val := by rw [← hDv, List.getElem?_map, hx]; rfl
    have h2 := flat_get natC 1 (fun _ => rfl) nd j 0 x.val hx2 (by omega)
    rw [← ht, List.getElem?_take, if_pos (by omega)] at h2
    constructor
    · have e : D.toArray[j]! = x := by
        rw [getElem!_def]
        simp only [List.getElem?_toArray]
        rw [hx]
      rw [e]
      have h3 : cur[0 + j]? = some (.int .i64 x.val) := by simpa [natC] using h2
      simp only [World.cell?, hg, h3]
      rfl
    · simp [World.frozen?, hg]
  have hsz : D.toArray.size = nd.length := by simp [hDl]
  have eg : ∀ args w, (callFunc 97 args).run Tryd.prog w = .ok (.enter 97 args) w := enters_of Tryd.func97 (by kernel_rfl) rfl
  have hmono : ∀ W, Chg (some g) w W → ∀ u, Chg none u w → u.heap.size ≤ B → Chg none u W := fun W k u hu hb => Chg.own hu k (by omega)
  have hcmp : Go.Proofs.CmpLays1 Tryd.prog 97 #[.pointer (some ⟨bx, 0, none⟩)] (encN L) (cfN L) g 0 D.toArray.size w := fun m os dk hs x y => by
    obtain ⟨hTW, hcW⟩ := hT (Go.Proofs.sortWorld (encN L) w g 0 m dk os) (hmono _ putRow_chgG)
    obtain ⟨s, hs⟩ : ∃ s, L[x.val]? = some s := ⟨_, List.getElem?_eq_getElem x.isLt⟩
    obtain ⟨t, ht⟩ : ∃ t, L[y.val]? = some t := ⟨_, List.getElem?_eq_getElem y.isLt⟩
    have := clo97 L A c bx x.val y.val s t _ hTW hs ht hl hcW
    have e : cfN L x y = cmpB s.n t.n := by unfold cfN; rw [nmAt_get hs, nmAt_get ht]
    rw [e]
    exact this
  have hTot : ∀ x y : Fin L.length, (ltOf (cfN L)) x y = false → (ltOf (cfN L)) y x = false → x = y := fun x y h1 h2 => by
    unfold ltOf cfN at h1 h2
    rw [decide_eq_false_iff_not] at h1 h2
    obtain ⟨s, hs⟩ : ∃ s, L[x.val]? = some s := ⟨_, List.getElem?_eq_getElem x.isLt⟩
    obtain ⟨t, ht⟩ : ∃ t, L[y.val]? = some t := ⟨_, List.getElem?_eq_getElem y.isLt⟩
    rw [nmAt_get hs, nmAt_get ht] at h1 h2
    have e : s.n = t.n := by
      rcases cmp_tot s.n t.n with h | h | h
      · exact absurd h h1
      · exact h
      · exact absurd h h2
    rw [List.pairwise_iff_getElem] at hdis
    obtain ⟨hx, ex⟩ := List.getElem?_eq_some_iff.1 hs
    obtain ⟨hy, ey⟩ := List.getElem?_eq_some_iff.1 ht
    apply Fin.ext
    rcases Nat.lt_trichotomy x.val y.val with h | h | h
    · exact absurd (by rw [ex, ey]; exact e) (hdis x.val y.val hx hy h)
    · exact h
    · exact absurd (by rw [ex, ey]; exact e.symm) (hdis y.val x.val hy hx h)
  have hS := Any.slices_SortFunc_total Tryd.sortI (encN L) (fun _ => rfl) (cfN L) (swoN L) 97 #[.pointer (some ⟨bx, 0, none⟩)] g 0 c5 D.toArray w eg hcmp hH hglt (by omega) hTot
  change Calls Tryd.prog 96 _ _ _ at hS
  rw [hsz] at hS
  refine hS.mono fun e w' ⟨he, n, os, hw⟩ => ⟨he, ?_⟩
  have hk : Chg (some g) w w' := by rw [hw]; exact putRow_chgG
  generalize hM : (D.toArray.toList.mergeSort fun x y => !(ltOf (cfN L)) y x) = M at hw
  have hMp : M.Perm D := by rw [← hM]; simpa using List.mergeSort_perm D.toArray.toList fun x y => !(ltOf (cfN L)) y x
  refine ⟨M.map Fin.val, ⟨by have := hMp.map Fin.val; rw [hDv] at this; exact this, ?_⟩, ?_, hmono w' hk⟩
  · rw [List.pairwise_map]
    have h := List.pairwise_mergeSort (le := fun x y => !(ltOf (cfN L)) y x) (l := D.toArray.toList)
      (fun x y z h1 h2 => by
        rw [Bool.not_eq_true'] at *
        exact (swoN L).ntrans _ _ _ h2 h1)
      (fun x y => by
        cases h1 : (ltOf (cfN L)) y x with
        | false => rfl
        | true =>
          cases h2 : (ltOf (cfN L)) x y with
          | false => rfl
          | true =>
            have h3 := (swoN L).trans _ _ _ h1 h2
            rw [(swoN L).irrefl] at h3
            cases h3)
    rw [hM] at h
    refine h.imp fun {x y} hxy => ?_
    rw [Bool.not_eq_true'] at hxy
    unfold ltOf cfN at hxy
    exact of_decide_eq_false hxy
  · have hMl : M.toArray.size = D.toArray.size := by simp [hMp.length_eq]
    have hh := Go.Sort.holds_putRow (encN L) (Go.Sort.ahead w n) g 0 D.toArray M.toArray (Go.Sort.holds_ahead _ _ _ _ _ _ hH) hMl
    have hh2 := Go.Sort.holds_grow (encN L) _ os g 0 _ (by rw [Go.Sort.size_putRow]; exact hglt) hh
    have hlt' : g < w'.heap.size := by rw [hw]; unfold sortWorld; rw [Go.Sort.size_grow, Go.Sort.size_putRow]; exact Nat.lt_of_lt_of_le hglt (Nat.le_add_right _ _)
    refine fun _ => ⟨g, 0, rfl, hlt', fun i a hi j hj => ?_⟩
    obtain rfl : j = 0 := by omega
    rw [List.getElem?_map] at hi
    cases hx : M[i]? with
    | none => rw [hx] at hi; cases hi
    | some x =>
      rw [hx] at hi
      obtain rfl : x.val = a := by simpa using hi
      have hi2 : i < M.toArray.size := by simpa using (List.getElem?_eq_some_iff.1 hx).1
      have h3 := (hh2 i hi2).1
      have e : M.toArray[i]! = x := by
        rw [getElem!_def]
        simp only [List.getElem?_toArray]
        rw [hx]
      rw [e] at h3
      rw [hw, Nat.mul_one, Nat.add_zero]
      exact h3

open Go.RowKit Go.Maps

def dpAt (L : List Tgt) (i : Nat) : List (List UInt8) := ((L[i]?).map (·.D)).getD []
theorem dpAt_get {L : List Tgt} {i : Nat} {t : Tgt} (h : L[i]? = some t) : dpAt L i = t.D := by unfold dpAt; rw [h]; rfl
/-- May place i be told? -/
def readyAt (L : List Tgt) (f : List UInt8 → Int) (i : Nat) : Bool := f (nmAt L i) == 0 && allT f (dpAt L i)
inductive OrdR (L : List Tgt) (nd : List Nat) : List Nat → (List UInt8 → Int) → Prop
  | start : OrdR L nd [] (fun _ => 0)
  | step (o f i) : OrdR L nd o f → nd.find? (readyAt L f) = some i → OrdR L nd (o ++ [i]) (updS f (nmAt L i) ((o.length + 1 : Nat) : Int))

/-- What Order tells. -/
def OrdP (w : World) (L : List Tgt) (want : List UInt8) (e : Ending) (w' : World) : Prop :=
  ∃ (A : Option Addr) (c : Nat) (o : List Nat) (n : Int), e = .returned (.tuple #[.slice A o.length c, .int .i64 n]) ∧ Chg none w w' ∧ RowsAt w' 1 A natC o ∧
    ((mayL L = false ∧ n = 2 ∧ o = []) ∨ (mayL L = true ∧ NbR L [] [want] none ∧ n = 6 ∧ o = []) ∨
      ∃ nd nd', mayL L = true ∧ NbR L [] [want] (some nd) ∧ nd.Nodup ∧ (∀ i ∈ nd, i < L.length) ∧ SortedBy L nd nd' ∧ ((n = 150 ∧ o = [] ∧ ∃ o' f, OrdR L nd' o' f ∧ o'.length < nd.length ∧ nd'.find? (readyAt L f) = none) ∨ (n = 0 ∧ ∃ f, OrdR L nd' o f ∧ o.length = nd.length)))
theorem NbR.grows {L : List Tgt} {nd : List Nat} {q : List (List UInt8)} {r : Option (List Nat)} (h : NbR L nd q r) : ∀ x, r = some x → ∃ y, x = nd ++ y := by
  induction h with
  | done nd =>
    intro x e
    cases e
    exact ⟨[], by simp⟩
  | none => intro x e; cases e
  | skip _ _ _ _ _ _ _ _ _ _ ih => exact ih
  | new nd s q i t r _ _ _ _ ih =>
    intro x e
    obtain ⟨y, hy⟩ := ih x e
    exact ⟨i :: y, by rw [hy, List.append_assoc]; rfl⟩
theorem NbR.ne {L : List Tgt} {s : List UInt8} {x : List Nat} (h : NbR L [] [s] (some x)) : x ≠ [] := by
  cases h with
  | skip _ _ _ i t _ _ _ h4 _ => cases h4
  | new _ _ _ i t _ _ _ _ h5 =>
    obtain ⟨y, hy⟩ := h5.grows x rfl
    rw [hy]
    simp

theorem find_at {α : Type} {p : α → Bool} {x : α} : ∀ {l : List α} {k : Nat}, l[k]? = some x → p x = true → (∀ (j : Nat) y, j < k → l[j]? = some y → p y = false) → l.find? p = some x
  | [], _, h, _, _ => by cases h
  | a :: l, 0, h, hx, _ => by
    obtain rfl : a = x := by simpa using h
    simp [hx]
  | a :: l, k + 1, h, hx, hj => by
    have ha := hj 0 a (Nat.succ_pos _) rfl
    rw [List.find?_cons, ha]
    exact find_at (l := l) (k := k) (by simpa using h) hx fun j y hl hy => hj (j + 1) y (by omega) (by simpa using hy)
/-- Midway. -/
structure OrdMid (w wr : World) (L : List Tgt) (nd : List Nat) (b : Nat) (o : List Nat) (v8 : Value) (f : List UInt8 → Int) : Prop where
  map : ∃ K, MapS wr b o.length f K
  own : wr.ownsRow (b + 1) 3 1 v8 o.length (o.flatMap natC)
  chg : Chg none w wr
  rel : OrdR L nd o f
  le : o.length ≤ nd.length

set_option maxHeartbeats 32000000 in
set_option maxRecDepth 100000 in
theorem order_any (L : List Tgt) (A : Option Addr) (c : Nat) (want : List UInt8) (w : World) (hT : TgtsAt w A L) (hF : Flds w) (hl : L.length ≤ 9223372036854775807) (hcap : L.length ≤ c) (hw : want.length ≤ 9223372036854775807) :
    Calls Tryd.prog 51 #[.slice A L.length c, .string ⟨want.toArray⟩] w (OrdP w L want) := by
  have hT0 : TgtsAt (w.alloc (.cells #[.slice A L.length c] 63)) A L := hT.chg ((Chg.refl _ _).alloc _)
  have HM := Lib.hid (pmay_any L A c _ hT0 (hF.chg ((Chg.refl _ _).alloc _)) hl hcap)
  have HW := Lib.hid hw
  obtain ⟨W1, hW1⟩ : ∃ W1, W1 = w.alloc (.cells #[.slice A L.length c] 63) := ⟨_, rfl⟩
  have hbk : Blk W1 w.heap.size #[.slice A L.length c] 63 := by rw [hW1]; exact Blk.new _ _ _
  have HB1 : Hid (∀ v, Chg none W1 v → TgtsAt v A L ∧ v.cell? ⟨w.heap.size, 0, none⟩ = some (.slice A L.length c)) := Lib.hid fun v g => ⟨by rw [← hW1] at hT0; exact hT0.chg g, by rw [Blk.cell (Blk.chg hbk g (by simp))]; rfl⟩
  have HG1 : Hid (Chg none w W1) := Lib.hid (by rw [hW1]; exact (Chg.refl _ _).alloc _)
  rw [← hW1] at HM
  have hc1 := (HB1.out W1 (Chg.refl _ _)).2
  clear hbk hT0 hT hF
  obtain ⟨i3, hi3, hz30, hz31, hz32⟩ := info_parts Tryd.info3
  cases hm : mayL L with
  | false =>
    rw [hm] at HM
    have HMF := Lib.hid hm
    clear hl hcap hw hm
    go_enter Tryd.func51, Tryd.ntmps51
    have hc0 : (w.alloc (.cells #[.slice A L.length c] 63)).cell? ⟨w.heap.size, 0, none⟩ = some (.slice A L.length c) := by rw [← hW1]; exact hc1
    go_wp2_with fail
    go_step3
    go_wp2_with fail
    rw [← hW1]
    clear hW1 hc0
    generalize w.heap.size = bx at *
    refine HM.out.mono ?_
    rintro e w2 ⟨rfl, g2⟩
    have HE : Hid (OrdP w L want (.returned (.tuple #[.slice none 0 0, .int .i64 2])) w2) := Lib.hid ⟨none, 0, [], 2, rfl, HG1.out.trans g2, fun hne => absurd rfl hne, .inl ⟨HMF.out, rfl, rfl⟩⟩
    clear g2 HM HB1 HG1
    go_wp2_with fail
    go_ret2
    exact HE.out
  | true =>
    rw [hm] at HM
    obtain ⟨h20, hmt, hdis⟩ := mayL_of hm
    have hD5 : ∀ t ∈ L, t.D.length ≤ 5 := fun t ht => by
      have h := hmt t ht
      unfold mayTgt at h
      rw [Bool.and_eq_true, Bool.and_eq_true] at h
      exact (dep_name h.2.1).1
    have HD5 := Lib.hid hD5
    have HDIS := Lib.hid hdis
    have HMT := Lib.hid hm
    have H20 := Lib.hid h20
    clear hl hcap hw hm hdis hmt hD5
    go_enter Tryd.func51, Tryd.ntmps51
    have hc0 : (w.alloc (.cells #[.slice A L.length c] 63)).cell? ⟨w.heap.size, 0, none⟩ = some (.slice A L.length c) := by rw [← hW1]; exact hc1
    go_wp2_with fail
    go_step3
    go_wp2_with fail
    rw [← hW1]
    clear hW1 hc0
    generalize w.heap.size = bx at *
    refine HM.out.mono ?_
    rintro e w2 ⟨rfl, g2⟩
    have G2 := Lib.hid g2
    have hc2 := (HB1.out w2 g2).2
    have HN := Lib.hid (needed_any L A c want w2 (HB1.out w2 g2).1 HD5.out H20.out HW.out)
    clear g2 HM hc1
    go_wp2_with fail
    refine HN.out.mono ?_
    rintro e w3 ⟨A5, c5, nd, ok, rfl, g3, hh⟩
    have G3 := Lib.hid (G2.out.trans g3)
    have hc3 := (HB1.out w3 G3.out).2
    have HS12 := Lib.hid G2.out.size
    clear hc2 G2 HN
    rcases hh with ⟨rfl, rfl, hnb⟩ | ⟨rfl, hnb, hnd, hlt, hown⟩
    · have HE : Hid (OrdP w L want (.returned (.tuple #[.slice none 0 0, .int .i64 6])) w3) := Lib.hid ⟨none, 0, [], 6, rfl, HG1.out.trans G3.out, fun hne => absurd rfl hne, .inr (.inl ⟨HMT.out, hnb, rfl, rfl⟩)⟩
      clear hnb g3
      go_wp2_with fail
      go_ret2
      exact HE.out
    · have hnl := nodup_le hnd hlt
      have HSO := Lib.hid (sort96 L A c bx (w2.heap.size + 1) A5 c5 nd w3 (by omega) hlt hnb.ne HDIS.out hown (by omega) fun W hW => HB1.out W (hW W1 G3.out (by have := HS12.out; omega)))
      have HNB := Lib.hid hnb
      have HND := Lib.hid hnd
      have HLT := Lib.hid hlt
      have HNL := Lib.hid hnl
      have hkb : (nd.length : Int) ≤ 1000 := by omega
      clear hnb hnd hlt hown hnl g3
      go_wp2_with fail
      refine HSO.out.mono ?_
      rintro e w4 ⟨rfl, nd', hsb, hr4, hg4⟩
      have G4 := Lib.hid (hg4 W1 G3.out (by have := HS12.out; omega))
      have HSB := Lib.hid hsb
      have HR4 := Lib.hid hr4
      have hlen : nd'.length = nd.length := hsb.1.length_eq
      clear hsb hr4 hg4 hc3 G3 HS12 HSO
      have hmk := run_makeMap (P := Tryd.prog) 75 w4
      go_upto_region 9 with fail
      go_step3
      obtain ⟨W5, hW5⟩ : ∃ W, W = w4.alloc (.map #[] 0) := ⟨_, rfl⟩
      have HM5 : Hid (OrdMid w4 W5 L nd' w4.heap.size [] (.slice none 0 0) (fun _ => 0)) := Lib.hid (by
        rw [hW5]
        exact ⟨⟨[], MapS.new w4⟩, World.ownsRow_nil _ _ _ _, (Chg.refl _ _).alloc _, .start, Nat.zero_le _⟩)
      rw [← hW5]
      clear hW5 hmk
      have HBB : Hid (w4.heap.size ≤ w4.heap.size) := Lib.hid (Nat.le_refl _)
      obtain ⟨b, hb⟩ : ∃ b, b = w4.heap.size := ⟨_, rfl⟩
      have HB := Lib.hid hb
      rw [← hb] at HM5 ⊢
      clear hb HBB
      have HTW : Hid (∀ v, Chg none w4 v → TgtsAt v A L ∧ v.cell? ⟨bx, 0, none⟩ = some (.slice A L.length c)) := Lib.hid fun v g => HB1.out v (G4.out.trans g)
      have HL4 := Lib.hid hlen
      clear hlen
      go_wp2_with fail
      go_loopw [8] (fun s8 wr => ∃ (o : List Nat) (f : List UInt8 → Int) (A8 : Option Addr) (c8 : Nat), s8 = .slice A8 o.length c8 ∧ Hid (OrdMid w4 wr L nd' b o (.slice A8 o.length c8) f)) (fun s8 _ => nd.length - sLen s8)
      case atStart => exact ⟨[], fun _ => 0, none, 0, rfl, HM5⟩
      case round =>
        obtain ⟨o, f, A8, c8, rfl, HR⟩ := hrel
        obtain ⟨wo, hwo⟩ : ∃ wo : World, wo = wr := ⟨_, rfl⟩
        subst hwo
        have hle : o.length ≤ nd.length := by rw [← HL4.out]; exact HR.out.le
        by_cases hlt : o.length < nd.length
        · have hdd : decide ((o.length : Int) < (nd.length : Int)) = true := by rw [decide_eq_true_eq]; omega
          have hdd2 : decide (o.length < nd.length) = true := by rw [decide_eq_true_eq]; omega
          have HLTO := Lib.hid hlt
          clear hlt hle HM5
          go_wp2_with fail
          go_loopw [8, 34] (fun s8 s34 wr => ∃ k : Nat, k ≤ nd.length ∧ s34 = .int .i64 k ∧ s8 = .slice A8 o.length c8 ∧ wr = wo ∧ Hid (∀ (j : Nat) i, j < k → nd'[j]? = some i → readyAt L f i = false)) (fun _ s34 _ => nd.length - (intOf s34).toNat)
          case atStart => exact ⟨0, Nat.zero_le _, rfl, rfl, rfl, Lib.hid fun j i h => absurd h (Nat.not_lt_zero _)⟩
          case round =>
            obtain ⟨k, hk, rfl, rfl, hwr, H1⟩ := hrel
            subst hwr
            by_cases hlt : k < nd.length
            · have hdk : decide ((k : Int) < (nd.length : Int)) = true := by rw [decide_eq_true_eq]; omega
              have hdk2 : decide (k < nd.length) = true := by rw [decide_eq_true_eq]; omega
              obtain ⟨i, hki⟩ : ∃ i, nd'[k]? = some i := ⟨_, List.getElem?_eq_getElem (by rw [HL4.out]; exact hlt)⟩
              have hiL : i < L.length := HLT.out i ((HSB.out.1.mem_iff).1 (List.mem_of_getElem? hki))
              obtain ⟨t, hit⟩ : ∃ t, L[i]? = some t := ⟨_, List.getElem?_eq_getElem hiL⟩
              have hg := HR.out.chg
              obtain ⟨hTw, hcw⟩ := HTW.out _ hg
              obtain ⟨b5, off5, rfl, hb5, z0⟩ := one_nat (RowsAt.chg HR4.out hg) hki
              obtain ⟨bL, off, rfl, hbL, x0, x1, x2, x3⟩ := hTw.one hit
              have hkb2 : (k : Int) ≤ 1000 := by omega
              have hib : (i : Int) ≤ 1000 := by have := H20.out; omega
              obtain ⟨K, hmap⟩ := HR.out.map
              have hlook := hmap.look t.n (hTw.2 t (List.mem_of_getElem? hit)).nl
              have HRD : Hid (readyAt L f i = (f t.n == 0 && allT f t.D)) := Lib.hid (by unfold readyAt; rw [nmAt_get hit, dpAt_get hit])
              have HKI := Lib.hid hki
              have HLT2 := Lib.hid hlt
              have HNM : Hid (nmAt L i = t.n) := Lib.hid (nmAt_get hit)
              have HTN : Hid (t.n.length ≤ 9223372036854775807) := Lib.hid (hTw.2 t (List.mem_of_getElem? hit)).nl
              have hlen0 : (k : Int) < (nd.length : Int) := by omega
              have hC := told_any t.D t.A t.c b o.length f K _ (hTw.2 t (List.mem_of_getElem? hit)).deps (by have := HD5.out t (List.mem_of_getElem? hit); omega) hmap
              have HC := Lib.hid hC
              have HIT := Lib.hid hit
              have hmb : b < wr.heap.size := hmap.lt
              clear hC hki hit hTw hmap hlt hg x2 x3
              obtain ⟨z, hz⟩ : ∃ z, z = f t.n := ⟨_, rfl⟩
              rw [← hz] at hlook HRD
              clear hz
              have hstep : readyAt L f i = false → Hid (∀ (j : Nat) i, j < k + 1 → nd'[j]? = some i → readyAt L f i = false) := fun hf => Lib.hid fun j i' hj hi' => by
                rcases Nat.lt_or_ge j k with h | h
                · exact H1.out j i' h hi'
                · obtain rfl : j = k := by omega
                  obtain rfl := Option.some.inj (HKI.out.symm.trans hi')
                  exact hf
              by_cases hz0 : z = 0
              · have e1 : (z == 0) = true := by rw [beq_iff_eq]; exact hz0
                rw [e1, Bool.true_and] at HRD
                cases ha : allT f t.D with
                | false =>
                  rw [ha] at HC HRD
                  have HST := hstep HRD.out
                  clear hstep ha hz0
                  go_wp2_with fail
                  refine HC.out.mono ?_
                  rintro e w6 ⟨rfl, rfl⟩
                  go_wp2_with fail
                  go_roundw
                  case rel => exact ⟨k + 1, by have := HLT2.out; omega, by first | rfl | go_num, by first | rfl | trivial, by first | rfl | trivial, HST⟩
                  case measure => have := HLT2.out; first | omega | (simp only [intOf]; omega) | (simp [intOf]; omega)
                | true =>
                  rw [ha] at HC HRD
                  clear hstep ha hz0
                  go_wp2_with fail
                  refine HC.out.mono ?_
                  rintro e w6 ⟨rfl, rfl⟩
                  have HFI : Hid (nd'.find? (readyAt L f) = some i) := Lib.hid (find_at HKI.out HRD.out H1.out)
                  have HO := Lib.hid HR.out.own
                  have hG3 := HR.out.chg.alloc (.cells #[.int .i64 i] 3)
                  have HMP := Lib.hid HR.out.map
                  have HRR : Hid (∀ W : World, Reads (W.alloc (.cells #[.int .i64 i] 3)) (W.heap.size + 1) 1 (some ⟨W.heap.size, 0, none⟩) 1 [.int .i64 i]) := Lib.hid fun W => ⟨rfl, fun _ => ⟨_, rfl, Nat.lt_succ_self _, fun j u hu => by
                    rw [Go.WideShapes.add_plain, Blk.cell (Blk.new W _ _)]
                    simpa using hu⟩⟩
                  have HO3 := Lib.hid (show ∀ u ∈ [Value.int .i64 i], u.oneCell' = true by intro u hu; simp at hu; subst hu; rfl)
                  have hol := HLTO.out
                  have hs1 : o.length + 1 ≤ maxLen := by unfold maxLen; omega
                  have hs2 : (o.length + 1) * 8 ≤ 140737488355328 := by omega
                  have hob : (o.length : Int) + 1 ≤ 1000 := by omega
                  go_upto_region 15 with (first
                    | (refine wpList_append_any _ rfl (.tmp 55) (.tmp 57) 67 rfl (b + 1) 3 i3 (.int .i64 0) 1 8 Tryd.underlying67 hi3 hz30 hz31 hz32 rfl (by decide) (.slice A8 o.length c8) o.length _ rfl (HO.out.alloc _) _ (some ⟨wr.heap.size, 0, none⟩) 1 1 [.int .i64 i] rfl (HRR.out wr) HO3.out hs1 hs2 (by simp; omega) ?_
                       intro v6 w6 hown6 hgr6 _
                       have HG6 := Lib.hid (Chg.ownRow hG3 hgr6 (fun x hx => by have := (HO.out.lt x hx).1; have := HB.out; omega))
                       have HMP6 : Hid (∃ K, MapS w6 b o.length f K) := Lib.hid (HMP.out.elim fun K h => ⟨K, (h.chg ((Chg.refl _ _).alloc (.cells #[.int .i64 i] 3))).kept hgr6 (fun e => by have := (HO.out.lt _ e.symm).1; omega)⟩)
                       obtain ⟨A6, c6, rfl⟩ := own_slice hown6
                       have HO6 : Hid (w6.ownsRow (b + 1) 3 1 (.slice A6 (o ++ [i]).length c6) (o ++ [i]).length ((o ++ [i]).flatMap natC)) := Lib.hid (by
                         rw [List.length_append, List.flatMap_append]
                         exact hown6)
                       clear hown6 hgr6))
                  obtain ⟨K6, hm6⟩ := HMP6.out
                  obtain ⟨W7, hput, hm7, g7⟩ := hm6.put (by unfold maxLen; omega) t.n HTN.out ((o.length : Int) + 1) (by have := wf_k (k := o.length + 1) (by omega); simpa using this)
                  obtain ⟨hTw6, hcw6⟩ := HTW.out w6 HG6.out
                  obtain ⟨bL6, off6, e6, hbL6, y0, y1, -, -⟩ := hTw6.one HIT.out
                  obtain ⟨rfl, rfl⟩ : bL = bL6 ∧ off = off6 := by simpa using e6
                  have HEND : Hid (OrdMid w4 W7 L nd' b (o ++ [i]) (.slice A6 (o ++ [i]).length c6) (updS f t.n ((o.length : Int) + 1))) := Lib.hid ⟨⟨_, by rw [List.length_append]; exact hm7⟩, HO6.out.kept g7 (.inr (fun e => by have := (HO6.out.lt _ e).1; omega)), Chg.own HG6.out g7 (Nat.le_of_eq HB.out.symm), by
                    have h := OrdR.step (L := L) (nd := nd') o f i HR.out.rel HFI.out
                    rw [HNM.out] at h
                    exact h, by rw [List.length_append]; have := HL4.out; show o.length + 1 ≤ _; omega⟩
                  have hmb6 : b < w6.heap.size := hm6.lt
                  clear hm6 hm7 g7 hTw6 e6 y1 hG3 HR HMP HMP6 H1
                  go_wp2_with fail
                  exact ⟨⟨o ++ [i], _, A6, c6, by rw [List.length_append]; rfl, HEND⟩, by
                    simp only [sLen]
                    omega⟩
              · have e1 : (z == 0) = false := by rw [beq_eq_false_iff_ne]; exact hz0
                rw [e1, Bool.false_and] at HRD
                have HST := hstep HRD.out
                clear hstep hz0
                go_wp2_with fail
                go_roundw
                case rel => exact ⟨k + 1, by have := HLT2.out; omega, by first | rfl | go_num, by first | rfl | trivial, by first | rfl | trivial, HST⟩
                case measure => have := HLT2.out; first | omega | (simp only [intOf]; omega) | (simp [intOf]; omega)
            · have hkl : k = nd.length := by omega
              have hdk : decide ((k : Int) < (nd.length : Int)) = false := by rw [decide_eq_false_iff_not]; omega
              have hdk2 : decide (k < nd.length) = false := by rw [decide_eq_false_iff_not]; omega
              have HE : Hid (OrdP w L want (.returned (.tuple #[.slice none 0 0, .int .i64 150])) wr) := Lib.hid ⟨none, 0, [], 150, rfl, (HG1.out.trans G4.out).trans HR.out.chg, fun hne => absurd rfl hne, .inr (.inr ⟨nd, nd', HMT.out, HNB.out, HND.out, HLT.out, HSB.out, .inl ⟨rfl, rfl, o, f, HR.out.rel, HLTO.out, by
                rw [List.find?_eq_none]
                intro i hi
                obtain ⟨j, hj, hji⟩ := List.getElem_of_mem hi
                rw [H1.out j i (by rw [hkl, ← HL4.out]; exact hj) (by rw [List.getElem?_eq_getElem hj, hji])]
                decide⟩⟩)⟩
              clear hlt hkl H1
              go_wp2_with fail
              rw [Exit.noGoto_ret]
              go_ret2
              exact HE.out
        · have hol : o.length = nd.length := by omega
          have hdd : decide ((o.length : Int) < (nd.length : Int)) = false := by rw [decide_eq_false_iff_not]; omega
          have hdd2 : decide (o.length < nd.length) = false := by rw [decide_eq_false_iff_not]; omega
          have HE : Hid (OrdP w L want (.returned (.tuple #[.slice A8 o.length c8, .int .i64 0])) wo) := Lib.hid ⟨A8, c8, o, 0, rfl, (HG1.out.trans G4.out).trans HR.out.chg, (own_rowsAt (fun _ => rfl) HR.out.own).1, .inr (.inr ⟨nd, nd', HMT.out, HNB.out, HND.out, HLT.out, HSB.out, .inr ⟨rfl, f, HR.out.rel, hol⟩⟩)⟩
          clear hlt hle hol HM5 HR
          go_wp2_with fail
          rw [Exit.noGoto_ret]
          go_ret2
          exact HE.out


open Go.RowKit Go.Maps

def fnd (L : List Tgt) (s : List UInt8) : Option Nat := (List.range L.length).find? fun i => nmAt L i == s
theorem fnd_of {L : List Tgt} (hdis : L.Pairwise fun a b => a.n ≠ b.n) {i : Nat} {t : Tgt} (h : L[i]? = some t) : fnd L t.n = some i := by
  have hi := (List.getElem?_eq_some_iff.1 h).1
  unfold fnd
  refine find_at (k := i) (by rw [List.getElem?_range hi]) (by rw [nmAt_get h]; exact beq_self_eq_true _) fun j y hj hy => ?_
  rw [List.getElem?_range (by omega)] at hy
  obtain rfl := Option.some.inj hy
  obtain ⟨u, hu⟩ : ∃ u, L[j]? = some u := ⟨_, List.getElem?_eq_getElem (by omega)⟩
  rw [nmAt_get hu, beq_eq_false_iff_ne]
  rw [List.pairwise_iff_getElem] at hdis
  obtain ⟨h1, e1⟩ := List.getElem?_eq_some_iff.1 hu
  obtain ⟨h2, e2⟩ := List.getElem?_eq_some_iff.1 h
  have := hdis j i h1 h2 hj
  rw [e1, e2] at this
  exact this
theorem fnd_none {L : List Tgt} {s : List UInt8} (h : s ∉ plK L L.length) : fnd L s = none := by
  unfold fnd
  rw [List.find?_eq_none]
  intro i hi
  rw [List.mem_range] at hi
  obtain ⟨t, ht⟩ : ∃ t, L[i]? = some t := ⟨_, List.getElem?_eq_getElem hi⟩
  rw [nmAt_get ht, beq_iff_eq]
  intro e
  exact h ((plK_mem L s L.length (Nat.le_refl _)).2 ⟨i, t, hi, ht, e⟩)
/-- The search as a function. -/
def nbF (L : List Tgt) : Nat → List Nat → List (List UInt8) → Option (Option (List Nat))
  | 0, _, _ => none
  | _ + 1, nd, [] => some (some nd)
  | k + 1, nd, s :: q => match fnd L s with
    | none => some none
    | some i => if i ∈ nd then nbF L k nd q else nbF L k (nd ++ [i]) (q ++ dpAt L i)
theorem nb_fun {L : List Tgt} (hdis : L.Pairwise fun a b => a.n ≠ b.n) {nd : List Nat} {q : List (List UInt8)} {r : Option (List Nat)} (h : NbR L nd q r) : ∀ k x, nbF L k nd q = some x → x = r := by
  induction h with
  | done nd =>
    intro k x hx
    cases k with
    | zero => cases hx
    | succ k => cases hx; rfl
  | none nd s q hs =>
    intro k x hx
    cases k with
    | zero => cases hx
    | succ k =>
      unfold nbF at hx
      rw [fnd_none hs] at hx
      cases hx
      rfl
  | skip nd s q i t r h1 h2 h3 _ ih =>
    intro k x hx
    cases k with
    | zero => cases hx
    | succ k =>
      unfold nbF at hx
      rw [← h2, fnd_of hdis h1] at hx
      simp only [h3, if_true] at hx
      exact ih k x hx
  | new nd s q i t r h1 h2 h3 _ ih =>
    intro k x hx
    cases k with
    | zero => cases hx
    | succ k =>
      unfold nbF at hx
      rw [← h2, fnd_of hdis h1] at hx
      simp only [h3, if_false] at hx
      rw [dpAt_get h1] at hx
      exact ih k x hx
def leN (L : List Tgt) (i j : Nat) : Prop := ¬ cmpB (nmAt L j) (nmAt L i) < 0
theorem leN_refl (L : List Tgt) (i : Nat) : leN L i i := by unfold leN; rw [cmp_self]; decide
theorem sorted_one {L : List Tgt} : ∀ {a b : List Nat}, a.Perm b → a.Pairwise (leN L) → b.Pairwise (leN L) → (∀ x ∈ a, ∀ y ∈ a, leN L x y → leN L y x → x = y) → a = b
  | [], b, h, _, _, _ => (List.nil_perm.1 h).symm
  | x :: a, [], h, _, _, _ => absurd h.length_eq (by simp)
  | x :: a, y :: b, h, ha, hb, he => by
    have hxb : x ∈ y :: b := h.mem_iff.1 List.mem_cons_self
    have hya : y ∈ x :: a := h.mem_iff.2 List.mem_cons_self
    have h1 : leN L x y := by
      rcases List.mem_cons.1 hya with e | e
      · rw [e]; exact leN_refl _ _
      · exact (List.pairwise_cons.1 ha).1 y e
    have h2 : leN L y x := by
      rcases List.mem_cons.1 hxb with e | e
      · rw [e]; exact leN_refl _ _
      · exact (List.pairwise_cons.1 hb).1 x e
    obtain rfl := he x List.mem_cons_self y hya h1 h2
    rw [sorted_one (List.perm_cons x |>.1 h) (List.pairwise_cons.1 ha).2 (List.pairwise_cons.1 hb).2 fun u hu v hv => he u (List.mem_cons_of_mem _ hu) v (List.mem_cons_of_mem _ hv)]
def ordF (L : List Tgt) (nd : List Nat) : Nat → Option (List Nat × (List UInt8 → Int))
  | 0 => some ([], fun _ => 0)
  | k + 1 => match ordF L nd k with
    | none => none
    | some (o, f) => match nd.find? (readyAt L f) with
      | none => none
      | some i => some (o ++ [i], updS f (nmAt L i) ((o.length + 1 : Nat) : Int))
theorem ord_fun {L : List Tgt} {nd o : List Nat} {f : List UInt8 → Int} (h : OrdR L nd o f) : ordF L nd o.length = some (o, f) := by
  induction h with
  | start => rfl
  | step o f i _ hf ih =>
    rw [List.length_append]
    show ordF L nd (o.length + 1) = _
    unfold ordF
    rw [ih]
    simp only [hf]

/-- The known targets. -/
def kn1 (A1 A2 : Option Addr) (c1 c2 : Nat) : List Tgt := [⟨[99], A1, [[97], [98]], c1, 0, none, [], 0⟩, ⟨[98], A2, [[97]], c2, 0, none, [], 0⟩, ⟨[97], none, [], 0, 0, none, [], 0⟩]
def kn2 (A1 A2 : Option Addr) (c1 c2 : Nat) : List Tgt := [⟨[97], A1, [[98]], c1, 0, none, [], 0⟩, ⟨[98], A2, [[97]], c2, 0, none, [], 0⟩]
section
variable (A1 A2 : Option Addr) (c1 c2 : Nat)
theorem kn1_may : mayL (kn1 A1 A2 c1 c2) = true := by kernel_rfl
theorem kn2_may : mayL (kn2 A1 A2 c1 c2) = true := by kernel_rfl
theorem kn1_nb : nbF (kn1 A1 A2 c1 c2) 9 [] [[99]] = some (some [0, 2, 1]) := by kernel_rfl
theorem kn2_nb : nbF (kn2 A1 A2 c1 c2) 9 [] [[97]] = some (some [0, 1]) := by kernel_rfl
theorem kn1_dirty : dirtyL (kn1 A1 A2 c1 c2) [[98]] = [[98], [99]] := by
  unfold dirtyL
  have h : namesF (dirtyF (kn1 A1 A2 c1 c2) [[98]]) (kn1 A1 A2 c1 c2) = [[99], [98]] := by kernel_rfl
  rw [h]
  have e : decide (([99] : List UInt8) ≤ [98]) = false := by decide
  unfold sortS
  simp [List.mergeSort, e]
end
def kn1_step (A1 A2 : Option Addr) (c1 c2 k : Nat) : Option Nat := match ordF (kn1 A1 A2 c1 c2) [2, 1, 0] k with
  | none => none
  | some (_, f) => [2, 1, 0].find? (readyAt (kn1 A1 A2 c1 c2) f)
theorem kn1_dis (A1 A2 : Option Addr) (c1 c2 : Nat) : (kn1 A1 A2 c1 c2).Pairwise fun a b => a.n ≠ b.n := (mayL_of (kn1_may A1 A2 c1 c2)).2.2
theorem kn2_dis (A1 A2 : Option Addr) (c1 c2 : Nat) : (kn2 A1 A2 c1 c2).Pairwise fun a b => a.n ≠ b.n := (mayL_of (kn2_may A1 A2 c1 c2)).2.2
theorem kn1_sorted {A1 A2 : Option Addr} {c1 c2 : Nat} {nd' : List Nat} (h : SortedBy (kn1 A1 A2 c1 c2) [0, 2, 1] nd') : nd' = [2, 1, 0] := by
  refine sorted_one (L := kn1 A1 A2 c1 c2) (h.1.trans (by decide)) h.2 ?_ ?_
  · have e : ∀ i, i < 3 → nmAt (kn1 A1 A2 c1 c2) i = [[99], [98], [97]].getD i [] := by
      intro i hi
      rcases i with _ | _ | _ | i
      · rfl
      · rfl
      · rfl
      · omega
    simp only [List.pairwise_cons, leN, List.mem_cons, List.not_mem_nil, or_false]
    refine ⟨?_, ?_, by simp⟩
    · rintro x (rfl | rfl) <;> (rw [e _ (by decide), e _ (by decide)]; decide)
    · rintro x rfl
      rw [e _ (by decide), e _ (by decide)]
      decide
  · intro x hx y hy h1 h2
    have hx3 : x ∈ [0, 2, 1] := h.1.mem_iff.1 hx
    have hy3 : y ∈ [0, 2, 1] := h.1.mem_iff.1 hy
    have e : nmAt (kn1 A1 A2 c1 c2) x = nmAt (kn1 A1 A2 c1 c2) y := by
      rcases cmp_tot (nmAt (kn1 A1 A2 c1 c2) x) (nmAt (kn1 A1 A2 c1 c2) y) with h | h | h
      · exact absurd h h2
      · exact h
      · exact absurd h h1
    have e0 : nmAt (kn1 A1 A2 c1 c2) 0 = [99] := rfl
    have e1 : nmAt (kn1 A1 A2 c1 c2) 1 = [98] := rfl
    have e2 : nmAt (kn1 A1 A2 c1 c2) 2 = [97] := rfl
    simp only [List.mem_cons, List.not_mem_nil, or_false] at hx3 hy3
    rcases hx3 with rfl | rfl | rfl <;> rcases hy3 with rfl | rfl | rfl <;> first | rfl | (exfalso; simp only [e0, e1, e2] at e; exact absurd e (by decide))
/-- Order of the known targets. -/
theorem kn1_order {w w' : World} {A1 A2 : Option Addr} {c1 c2 : Nat} {e : Ending} (h : OrdP w (kn1 A1 A2 c1 c2) [99] e w') : ∃ A c, e = .returned (.tuple #[.slice A 3 c, .int .i64 0]) ∧ Chg none w w' ∧ RowsAt w' 1 A natC [2, 1, 0] := by
  obtain ⟨A, c, o, n, rfl, hg, hr, h1 | h1 | h1⟩ := h
  · exact absurd h1.1 (by rw [kn1_may]; decide)
  · have := nb_fun (kn1_dis A1 A2 c1 c2) h1.2.1 9 _ (kn1_nb A1 A2 c1 c2)
    cases this
  · obtain ⟨nd, nd', -, hnb, -, -, hs, hh⟩ := h1
    have := nb_fun (kn1_dis A1 A2 c1 c2) hnb 9 _ (kn1_nb A1 A2 c1 c2)
    cases this
    obtain rfl := kn1_sorted hs
    rcases hh with ⟨-, -, o', f, hor, hl, hno⟩ | ⟨rfl, f, hor, hl⟩
    · exfalso
      have hf := ord_fun hor
      have h3 : o'.length < 3 := hl
      have hk : o'.length = 0 ∨ o'.length = 1 ∨ o'.length = 2 := by omega
      rcases hk with e | e | e
      · rw [e] at hf
        have : (kn1_step A1 A2 c1 c2 0).isSome = true := by kernel_rfl
        unfold kn1_step at this
        rw [hf] at this
        simp [hno] at this
      · rw [e] at hf
        have : (kn1_step A1 A2 c1 c2 1).isSome = true := by kernel_rfl
        unfold kn1_step at this
        rw [hf] at this
        simp [hno] at this
      · rw [e] at hf
        have : (kn1_step A1 A2 c1 c2 2).isSome = true := by kernel_rfl
        unfold kn1_step at this
        rw [hf] at this
        simp [hno] at this
    · have hf := ord_fun hor
      have h3 : o.length = 3 := hl
      rw [h3] at hf
      have : (ordF (kn1 A1 A2 c1 c2) [2, 1, 0] 3).map (·.1) = some [2, 1, 0] := by kernel_rfl
      rw [hf] at this
      obtain rfl : o = [2, 1, 0] := by simpa using this
      exact ⟨A, c, rfl, hg, hr⟩
theorem kn2_r0 (A1 A2 : Option Addr) (c1 c2 : Nat) : readyAt (kn2 A1 A2 c1 c2) (fun _ => 0) 0 = false := by kernel_rfl
theorem kn2_r1 (A1 A2 : Option Addr) (c1 c2 : Nat) : readyAt (kn2 A1 A2 c1 c2) (fun _ => 0) 1 = false := by kernel_rfl
theorem kn2_order {w w' : World} {A1 A2 : Option Addr} {c1 c2 : Nat} {e : Ending} (h : OrdP w (kn2 A1 A2 c1 c2) [97] e w') : ∃ A c, e = .returned (.tuple #[.slice A 0 c, .int .i64 150]) ∧ Chg none w w' := by
  obtain ⟨A, c, o, n, rfl, hg, hr, h1 | h1 | h1⟩ := h
  · exact absurd h1.1 (by rw [kn2_may]; decide)
  · have := nb_fun (kn2_dis A1 A2 c1 c2) h1.2.1 9 _ (kn2_nb A1 A2 c1 c2)
    cases this
  · obtain ⟨nd, nd', -, hnb, -, -, hs, hh⟩ := h1
    have := nb_fun (kn2_dis A1 A2 c1 c2) hnb 9 _ (kn2_nb A1 A2 c1 c2)
    cases this
    rcases hh with ⟨rfl, rfl, -⟩ | ⟨rfl, f, hor, hl⟩
    · exact ⟨A, c, rfl, hg⟩
    · exfalso
      cases hor with
      | start => exact absurd hl (by decide)
      | step o f i h2 hfi =>
        have hn := List.find?_some hfi
        have hm : i ∈ [0, 1] := hs.1.mem_iff.1 (List.mem_of_find?_eq_some hfi)
        cases h2 with
        | start =>
          simp only [List.mem_cons, List.not_mem_nil, or_false] at hm
          rcases hm with rfl | rfl
          · rw [kn2_r0] at hn; cases hn
          · rw [kn2_r1] at hn; cases hn
        | step o2 f2 i2 h3 hfi2 =>
          cases h3 with
          | start =>
            have hn2 := List.find?_some hfi2
            have hm2 : i2 ∈ [0, 1] := hs.1.mem_iff.1 (List.mem_of_find?_eq_some hfi2)
            simp only [List.mem_cons, List.not_mem_nil, or_false] at hm2
            rcases hm2 with rfl | rfl
            · rw [kn2_r0] at hn2; cases hn2
            · rw [kn2_r1] at hn2; cases hn2
          | step o3 f3 i3 _ _ =>
            simp at hl

open Go.RowKit Go.Maps

theorem row_blk {α : Type} {w : World} {b k : Nat} {T : TypeId} {cells : α → List Value} {L : List α} {C : Array Value} (h : Blk w b C T) (hC : C = (L.flatMap cells).toArray) (hk : ∀ a, (cells a).length = k) : RowsAt w k (some ⟨b, 0, none⟩) cells L :=
  fun _ => ⟨b, 0, rfl, (Array.getElem?_eq_some_iff.1 h).1, fun i a hi j hj => by rw [Nat.zero_add, Blk.cell h, hC, List.getElem?_toArray]; exact flat_get cells k hk L i j a hi hj⟩
theorem blk_new {X : World} {n : Nat} {C : Array Value} {T : TypeId} (h : X.heap.size = n) : Blk (X.alloc (.cells C T)) n C T := h ▸ Blk.new X C T
theorem tgt_at {w : World} {A : Option Addr} {n : List UInt8} {D : List (List UInt8)} {c : Nat} (hn : n.length ≤ 5) (hr : RowsAt w 1 A strC D) (hs : ∀ s ∈ D, s.length ≤ 5) (hD : D.length ≤ 5) (hc : D.length ≤ c) (hc5 : c ≤ 5) : TgtAt w ⟨n, A, D, c, 0, none, [], 0⟩ :=
  ⟨by show n.length ≤ _; omega, ⟨hr, fun s h => by have := hs s h; omega⟩, by show D.length ≤ _; omega, hc, by show c ≤ _; omega, fun h => absurd rfl h, (fun x h => by cases h), by show 0 ≤ _; decide, by constructor <;> (dsimp only; decide)⟩
theorem kn1_at {w : World} {b1 b2 b3 : Nat} (h1 : Blk w b1 #[.string ⟨#[97]⟩, .string ⟨#[98]⟩] 9) (h2 : Blk w b2 #[.string ⟨#[97]⟩] 9) (h3 : Blk w b3 ((kn1 (some ⟨b1, 0, none⟩) (some ⟨b2, 0, none⟩) 2 1).flatMap tgtCells).toArray 77) : TgtsAt w (some ⟨b3, 0, none⟩) (kn1 (some ⟨b1, 0, none⟩) (some ⟨b2, 0, none⟩) 2 1) := by
  refine ⟨row_blk h3 rfl (fun _ => rfl), fun t ht => ?_⟩
  unfold kn1 at ht
  simp only [List.mem_cons, List.not_mem_nil, or_false] at ht
  rcases ht with rfl | rfl | rfl
  · exact tgt_at (by decide) (row_blk h1 rfl (fun _ => rfl)) (by decide) (by decide) (by decide) (by decide)
  · exact tgt_at (by decide) (row_blk h2 rfl (fun _ => rfl)) (by decide) (by decide) (by decide) (by decide)
  · exact tgt_at (by decide) (fun h => absurd rfl h) (by decide) (by decide) (by decide) (by decide)
theorem kn2_at {w : World} {b1 b2 b3 : Nat} (h1 : Blk w b1 #[.string ⟨#[98]⟩] 9) (h2 : Blk w b2 #[.string ⟨#[97]⟩] 9) (h3 : Blk w b3 ((kn2 (some ⟨b1, 0, none⟩) (some ⟨b2, 0, none⟩) 1 1).flatMap tgtCells).toArray 77) : TgtsAt w (some ⟨b3, 0, none⟩) (kn2 (some ⟨b1, 0, none⟩) (some ⟨b2, 0, none⟩) 1 1) := by
  refine ⟨row_blk h3 rfl (fun _ => rfl), fun t ht => ?_⟩
  unfold kn2 at ht
  simp only [List.mem_cons, List.not_mem_nil, or_false] at ht
  rcases ht with rfl | rfl
  · exact tgt_at (by decide) (row_blk h1 rfl (fun _ => rfl)) (by decide) (by decide) (by decide) (by decide)
  · exact tgt_at (by decide) (row_blk h2 rfl (fun _ => rfl)) (by decide) (by decide) (by decide) (by decide)

set_option maxHeartbeats 32000000 in
set_option maxRecDepth 100000 in
theorem known15 (w : World) (hF : Flds w) : Calls Tryd.prog 49 #[] w fun e w' => e = .returned (.bool true) ∧ Chg none w w' := by
  have HF := Lib.hid hF
  clear hF
  go_enter Tryd.func49, Tryd.ntmps49
  go_upto_region 2 with fail
  obtain ⟨p, hp⟩ : ∃ p, p = w.heap.size := ⟨_, rfl⟩
  rw [← hp]
  obtain ⟨W1, hW1⟩ : ∃ W1, W1 = (((w.alloc (.cells #[.string ⟨#[97]⟩, .string ⟨#[98]⟩] 9)).alloc (.cells #[.string ⟨#[97]⟩] 9)).alloc (.cells #[.string ⟨#[99]⟩, .slice (some ⟨p, 0, none⟩) 2 2, .int .i64 0, .slice none 0 0, .string ⟨#[98]⟩, .slice (some ⟨p + 1, 0, none⟩) 1 1, .int .i64 0, .slice none 0 0, .string ⟨#[97]⟩, .slice none 0 0, .int .i64 0, .slice none 0 0] 77)) := ⟨_, rfl⟩
  have HG1 : Hid (Chg none w W1) := Lib.hid (by rw [hW1]; exact (((Chg.refl _ _).alloc _).alloc _).alloc _)
  have HT1 : Hid (∀ v, Chg none W1 v → TgtsAt v (some ⟨p + 1 + 1, 0, none⟩) (kn1 (some ⟨p, 0, none⟩) (some ⟨p + 1, 0, none⟩) 2 1)) := Lib.hid fun v g => by
    refine (kn1_at ?_ ?_ ?_ : TgtsAt W1 _ _).chg g
    · rw [hW1, hp]
      exact Blk.chg (Blk.new w _ _) (((Chg.refl (none) _).alloc _).alloc _) (by simp)
    · rw [hW1, hp]
      exact Blk.chg (blk_new (by simp)) ((Chg.refl (none) _).alloc _) (by simp)
    · rw [hW1, hp]
      exact blk_new (by simp)
  rw [← hW1]
  clear hW1 hp
  have HF1 : Hid (∀ v, Chg none W1 v → Flds v) := Lib.hid fun v g => HF.out.chg (HG1.out.trans g)
  have HO1 : Hid (Calls Tryd.prog 51 #[.slice (some ⟨p + 1 + 1, 0, none⟩) 3 3, .string ⟨#[99]⟩] W1 fun e w' => ∃ A c, e = .returned (.tuple #[.slice A 3 c, .int .i64 0]) ∧ Chg none W1 w' ∧ RowsAt w' 1 A natC [2, 1, 0]) :=
    Lib.hid ((order_any (kn1 (some ⟨p, 0, none⟩) (some ⟨p + 1, 0, none⟩) 2 1) _ 3 [99] W1 (HT1.out _ (Chg.refl _ _)) (HF1.out _ (Chg.refl _ _)) (by show 3 ≤ _; decide) (Nat.le_refl 3) (by decide)).mono fun e w' h => kn1_order h)
  go_wp2_with fail
  refine HO1.out.mono ?_
  rintro e w2 ⟨A1, c1, rfl, g2, r2⟩
  have G2 := Lib.hid g2
  have HR2 : Hid (∀ v, Chg none w2 v → RowsAt v 1 A1 natC [2, 1, 0]) := Lib.hid fun v g => RowsAt.chg r2 g
  clear HO1 g2 r2
  go_wp2_with fail
  obtain ⟨q, hq⟩ : ∃ q, q = w2.heap.size := ⟨_, rfl⟩
  rw [← hq]
  obtain ⟨W3, hW3⟩ : ∃ W3, W3 = (((w2.alloc (.cells #[.string ⟨#[98]⟩] 9)).alloc (.cells #[.string ⟨#[97]⟩] 9)).alloc (.cells #[.string ⟨#[97]⟩, .slice (some ⟨q, 0, none⟩) 1 1, .int .i64 0, .slice none 0 0, .string ⟨#[98]⟩, .slice (some ⟨q + 1, 0, none⟩) 1 1, .int .i64 0, .slice none 0 0] 77)) := ⟨_, rfl⟩
  have HG3 : Hid (Chg none w2 W3) := Lib.hid (by rw [hW3]; exact (((Chg.refl _ _).alloc _).alloc _).alloc _)
  have HT3 : Hid (TgtsAt W3 (some ⟨q + 1 + 1, 0, none⟩) (kn2 (some ⟨q, 0, none⟩) (some ⟨q + 1, 0, none⟩) 1 1)) := Lib.hid (by
    refine kn2_at ?_ ?_ ?_
    · rw [hW3, hq]
      exact Blk.chg (Blk.new w2 _ _) (((Chg.refl (none) _).alloc _).alloc _) (by simp)
    · rw [hW3, hq]
      exact Blk.chg (blk_new (by simp)) ((Chg.refl (none) _).alloc _) (by simp)
    · rw [hW3, hq]
      exact blk_new (by simp))
  rw [← hW3]
  clear hW3 hq
  have HO2 : Hid (Calls Tryd.prog 51 #[.slice (some ⟨q + 1 + 1, 0, none⟩) 2 2, .string ⟨#[97]⟩] W3 fun e w' => ∃ A c, e = .returned (.tuple #[.slice A 0 c, .int .i64 150]) ∧ Chg none W3 w') :=
    Lib.hid ((order_any (kn2 (some ⟨q, 0, none⟩) (some ⟨q + 1, 0, none⟩) 1 1) _ 2 [97] W3 HT3.out (HF1.out _ (G2.out.trans HG3.out)) (by show 2 ≤ _; decide) (Nat.le_refl 2) (by decide)).mono fun e w' h => kn2_order h)
  refine HO2.out.mono ?_
  rintro e w4 ⟨A2, c2, rfl, g4⟩
  have G4 : Hid (Chg none w2 w4) := Lib.hid (HG3.out.trans g4)
  clear HO2 g4 HG3 HT3
  go_wp2_with fail
  obtain ⟨r, hr⟩ : ∃ r, r = w4.heap.size := ⟨_, rfl⟩
  rw [← hr]
  obtain ⟨W5, hW5⟩ : ∃ W5, W5 = w4.alloc (.cells #[.string ⟨#[98]⟩] 9) := ⟨_, rfl⟩
  have HG5 : Hid (Chg none w2 W5) := Lib.hid (by rw [hW5]; exact G4.out.alloc _)
  have HS5 : Hid (StrsAt W5 (some ⟨r, 0, none⟩) [[98]]) := Lib.hid ⟨by
    rw [hW5, hr]
    exact row_blk (Blk.new w4 _ _) rfl (fun _ => rfl), by decide⟩
  rw [← hW5]
  clear hW5 hr
  have HO3 : Hid (Calls Tryd.prog 53 #[.slice (some ⟨p + 1 + 1, 0, none⟩) 3 3, .slice (some ⟨r, 0, none⟩) 1 1] W5 fun e w' => ∃ A c, e = .returned (.tuple #[.slice A 2 c, .int .i64 0]) ∧ Chg none W5 w' ∧ RowsAt w' 1 A strC [[98], [99]]) :=
    Lib.hid ((dirty_any (kn1 (some ⟨p, 0, none⟩) (some ⟨p + 1, 0, none⟩) 2 1) _ 3 [[98]] _ 1 W5 (HT1.out _ (G2.out.trans HG5.out)) HS5.out (HF1.out _ (G2.out.trans HG5.out)) (by show 3 ≤ _; decide) (Nat.le_refl 3) (by decide)).mono fun e w' h => by
      obtain ⟨A, c, R, n, rfl, hg, hr, h1 | h1, -⟩ := h
      · exact absurd h1.1 (by rw [kn1_may]; decide)
      · obtain ⟨-, rfl, rfl⟩ := h1
        rw [kn1_dirty] at hr ⊢
        exact ⟨A, c, rfl, hg, hr⟩)
  refine HO3.out.mono ?_
  rintro e w6 ⟨A3, c3, rfl, g6, r6⟩
  have HEND : Hid (Chg none w w6) := Lib.hid (HG1.out.trans (G2.out.trans (HG5.out.trans g6)))
  have HG26 : Hid (Chg none w2 w6) := Lib.hid (HG5.out.trans g6)
  obtain ⟨ba, oa, rfl, hba, ha⟩ := HR2.out w6 HG26.out (by decide)
  obtain ⟨bd, od, rfl, hbd, hd⟩ := r6 (by decide)
  have a0 : w6.cell? ⟨ba, oa, none⟩ = some (.int .i64 2) := ha 0 2 rfl 0 (by decide)
  have a1 : w6.cell? ⟨ba, oa + 1, none⟩ = some (.int .i64 1) := ha 1 1 rfl 0 (by decide)
  have a2 : w6.cell? ⟨ba, oa + 2, none⟩ = some (.int .i64 0) := ha 2 0 rfl 0 (by decide)
  have d0 : w6.cell? ⟨bd, od, none⟩ = some (.string ⟨#[98]⟩) := hd 0 [98] rfl 0 (by decide)
  have d1 : w6.cell? ⟨bd, od + 1, none⟩ = some (.string ⟨#[99]⟩) := hd 1 [99] rfl 0 (by decide)
  clear HO3 g6 r6 ha hd HG26 HS5 HG5 G4 HR2 G2 HF1 HT1 HG1
  go_wp2_with fail
  go_ret
  exact ⟨rfl, HEND.out⟩

open Go.RowKit Go.Maps

set_option maxHeartbeats 8000000 in
set_option maxRecDepth 100000 in
theorem great93 (L : List Tgt) (A : Option Addr) (cL : Nat) (w : World) (hT : TgtsAt w A L) (hl : L.length ≤ 9223372036854775807) :
    Calls Tryd.prog 93 #[.slice A L.length cL] w fun e w' => ∃ g : Bool, e = .returned (.bool g) ∧ Chg none w w' := by
  have HT : Hid (∀ v, Chg none w v → TgtsAt v A L) := Lib.hid fun v g => hT.chg g
  by_cases h40 : 40 < L.length
  · have d0 : decide ((40 : Int) < (L.length : Int)) = true := by rw [decide_eq_true_eq]; omega
    have d00 : decide (40 < L.length) = true := by rw [decide_eq_true_eq]; omega
    have HR := Lib.hid (Chg.refl none w)
    clear hT
    go_enter Tryd.func93, Tryd.ntmps93
    go_wp2_with fail
    go_ret
    exact ⟨_, rfl, HR.out⟩
  have d0 : decide ((40 : Int) < (L.length : Int)) = false := by rw [decide_eq_false_iff_not]; omega
  have d00 : decide (40 < L.length) = false := by rw [decide_eq_false_iff_not]; omega
  clear hT
  go_enter Tryd.func93, Tryd.ntmps93
  go_wp2_with fail
  go_loopw [3] (fun s3 wr => ∃ k : Nat, s3 = .int .i64 k ∧ Hid (k ≤ L.length) ∧ Hid (Chg none w wr)) (fun i _ => L.length - (intOf i).toNat)
  case atStart => exact ⟨0, rfl, Lib.hid (Nat.zero_le _), Lib.hid (Chg.refl _ _)⟩
  case round =>
    obtain ⟨i, rfl, HI, H1⟩ := hrel
    by_cases hi : i < L.length
    · have hdi : decide ((i : Int) < (L.length : Int)) = true := by rw [decide_eq_true_eq]; omega
      have hib : (i : Int) ≤ 1000 := by omega
      obtain ⟨t, hit⟩ : ∃ t, L[i]? = some t := ⟨_, List.getElem?_eq_getElem hi⟩
      have ht := (HT.out w (Chg.refl _ _)).2 t (List.mem_of_getElem? hit)
      obtain ⟨bL, off, rfl, -⟩ := (HT.out wr H1.out).one hit
      have HC : Hid (∀ v, Chg none w v → v.cell? ⟨bL, off + i * 4, none⟩ = some (.string ⟨t.n.toArray⟩) ∧ v.cell? ⟨bL, off + i * 4 + 1, none⟩ = some (.slice t.A t.D.length t.c) ∧ v.cell? ⟨bL, off + i * 4 + 2, none⟩ = some (.int .i64 t.fuel) ∧ v.cell? ⟨bL, off + i * 4 + 3, none⟩ = some (.slice t.B t.P.length t.d)) := Lib.hid fun v g => by
        obtain ⟨b2, o2, e, -, h⟩ := (HT.out v g).one hit
        obtain ⟨rfl, rfl⟩ : bL = b2 ∧ off = o2 := by simpa using e
        exact h
      have HP := Lib.hid (fun v (g : Chg none w v) => great_any t.P t.B t.d v (RowsAt.chg ht.prog g) ht.pl)
      have HD : Hid (∀ v, Chg none w v → StrsAt v t.A t.D) := Lib.hid fun v g => ht.deps.chg g
      have hdl := ht.dl
      have hnl := ht.nl
      have HLI := Lib.hid hi
      obtain ⟨n, A, D, c, fuel, B, P, d⟩ := t
      dsimp only at HP HD HC hdl hnl
      clear ht hit HI
      obtain ⟨c0, c1, c2, c3⟩ := HC.out wr H1.out
      by_cases h100 : 100 < n.length
      · have d1 : decide ((100 : Int) < (n.length : Int)) = true := by rw [decide_eq_true_eq]; omega
        go_wp2_with fail
        go_ret
        exact ⟨_, rfl, H1.out⟩
      · have d1 : decide ((100 : Int) < (n.length : Int)) = false := by rw [decide_eq_false_iff_not]; omega
        by_cases h20 : 20 < D.length
        · have d2 : decide ((20 : Int) < (D.length : Int)) = true := by rw [decide_eq_true_eq]; omega
          go_wp2_with fail
          go_ret
          exact ⟨_, rfl, H1.out⟩
        · have d2 : decide ((20 : Int) < (D.length : Int)) = false := by rw [decide_eq_false_iff_not]; omega
          go_wp2_with fail
          refine (HP.out _ H1.out).mono ?_
          rintro e w2 ⟨⟨g, rfl, -⟩, g2⟩
          have G2 := Lib.hid (H1.out.trans g2)
          clear g2 c0 c1 c2 c3 d1 d2 h100 h20
          cases g with
          | true =>
            go_wp2_with fail
            go_ret
            exact ⟨_, rfl, G2.out⟩
          | false =>
            go_wp2_with fail
            go_loopw [4] (fun s4 wr => ∃ k : Nat, s4 = .int .i64 k ∧ Hid (k ≤ D.length) ∧ Hid (Chg none w wr)) (fun i _ => D.length - (intOf i).toNat)
            case atStart => exact ⟨0, rfl, Lib.hid (Nat.zero_le _), G2⟩
            case round =>
              obtain ⟨k, rfl, HK, H3⟩ := hrel
              obtain ⟨c0, c1, c2, c3⟩ := HC.out _ H3.out
              by_cases hlt : k < D.length
              · have hdd : decide ((k : Int) < (D.length : Int)) = true := by rw [decide_eq_true_eq]; omega
                obtain ⟨s, hks⟩ : ∃ s, D[k]? = some s := ⟨_, List.getElem?_eq_getElem hlt⟩
                obtain ⟨b', off', rfl, hb', x1⟩ := (HD.out _ H3.out).one hks
                have HLT := Lib.hid hlt
                clear hks HK
                by_cases h100 : 100 < s.length
                · have d1 : decide ((100 : Int) < (s.length : Int)) = true := by rw [decide_eq_true_eq]; omega
                  go_wp2_with fail
                  go_ret
                  exact ⟨_, rfl, H3.out⟩
                · have d1 : decide ((100 : Int) < (s.length : Int)) = false := by rw [decide_eq_false_iff_not]; omega
                  go_wp2_with fail
                  go_roundw
                  case rel => exact ⟨k + 1, by first | rfl | go_num, Lib.hid HLT.out, H3⟩
                  case measure => have := HLT.out; first | omega | (simp only [intOf]; omega) | (simp [intOf]; omega)
              · have hdd : decide ((k : Int) < (D.length : Int)) = false := by rw [decide_eq_false_iff_not]; omega
                have hd : decide (k < D.length) = false := by rw [decide_eq_false_iff_not]; exact hlt
                go_wp2_with fail
                first
                  | exact ⟨⟨i + 1, by first | rfl | go_num, Lib.hid HLI.out, H3⟩, by have := HLI.out; first | omega | (simp only [intOf]; omega) | (simp [intOf]; omega)⟩
                  | (go_roundw
                     case rel => exact ⟨i + 1, by first | rfl | go_num, Lib.hid HLI.out, H3⟩
                     case measure => have := HLI.out; first | omega | (simp only [intOf]; omega) | (simp [intOf]; omega))
                  | trace_state
    · have hdi : decide ((i : Int) < (L.length : Int)) = false := by rw [decide_eq_false_iff_not]; omega
      have hdi2 : decide (i < L.length) = false := by rw [decide_eq_false_iff_not]; omega
      go_wp2_with fail
      go_ret
      exact ⟨_, rfl, H1.out⟩

set_option maxHeartbeats 8000000 in
set_option maxRecDepth 100000 in
theorem great48 (L : List Tgt) (A : Option Addr) (cL : Nat) (B : Option Addr) (d : Nat) (S : List (List UInt8)) (w : World) (hT : TgtsAt w A L) (hl : L.length ≤ 9223372036854775807) (hS : StrsAt w B S) (hs : S.length ≤ 1000000000000000) :
    Calls Tryd.prog 48 #[.slice A L.length cL, .slice B S.length d] w fun e w' => ∃ g : Bool, e = .returned (.bool g) ∧ Chg none w w' := by
  have HG := Lib.hid (great93 L A cL w hT hl)
  have HS := Lib.hid hS
  clear hT hS hl
  go_enter Tryd.func48, Tryd.ntmps48
  go_wp2_with fail
  go_loopw [5, 9] (fun s5 s9 wr => wr = w ∧ (∃ z : Int, s5 = .int .i64 z) ∧ ∃ k : Nat, s9 = .int .i64 k ∧ k ≤ S.length) (fun _ i _ => S.length - (intOf i).toNat)
  case atStart => exact ⟨rfl, ⟨0, rfl⟩, 0, rfl, Nat.zero_le _⟩
  case round =>
    obtain ⟨hw, ⟨z, rfl⟩, k, rfl, hk⟩ := hrel
    subst hw
    by_cases hlt : k < S.length
    · have hdd : decide ((k : Int) < (S.length : Int)) = true := by rw [decide_eq_true_eq]; omega
      have hd2 : decide (k < S.length) = true := by rw [decide_eq_true_eq]; omega
      obtain ⟨s, hks⟩ : ∃ s, S[k]? = some s := ⟨_, List.getElem?_eq_getElem hlt⟩
      obtain ⟨b', off', rfl, hb', x1⟩ := HS.out.one hks
      have hsl := HS.out.2 s (List.mem_of_getElem? hks)
      have HLT := Lib.hid hlt
      clear hks
      go_wp2_with fail
      go_roundw
      case rel => exact ⟨by first | rfl | trivial, ⟨_, rfl⟩, k + 1, by first | rfl | go_num, HLT.out⟩
      case measure => have := HLT.out; first | omega | (simp only [intOf]; omega) | (simp [intOf]; omega)
    · have hdd : decide ((k : Int) < (S.length : Int)) = false := by rw [decide_eq_false_iff_not]; omega
      have hd2 : decide (k < S.length) = false := by rw [decide_eq_false_iff_not]; omega
      go_wp2_with fail
      refine HG.out.mono ?_
      rintro e w2 ⟨g, rfl, g2⟩
      have G2 := Lib.hid g2
      clear g2
      cases g with
      | true =>
        go_wp2_with fail
        all_goals (go_ret; exact ⟨_, rfl, G2.out⟩)
      | false =>
        by_cases h100 : 100 < S.length
        · have d1 : decide ((100 : Int) < (S.length : Int)) = true := by rw [decide_eq_true_eq]; omega
          have d2 : decide (100 < S.length) = true := by rw [decide_eq_true_eq]; omega
          go_wp2_with fail
          all_goals (go_ret; exact ⟨_, rfl, G2.out⟩)
        · have d1 : decide ((100 : Int) < (S.length : Int)) = false := by rw [decide_eq_false_iff_not]; omega
          have d2 : decide (100 < S.length) = false := by rw [decide_eq_false_iff_not]; omega
          go_wp2_with fail
          all_goals (go_ret; exact ⟨_, rfl, G2.out⟩)

end Go.Proofs.YtbadkkilblgpmaaDoor
