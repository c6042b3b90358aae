/-
  The document's tree: made, With, Under, Join; what both tell.
-/
import Derived.Test.YtglfakglcoffkaaUB
namespace Go.Proofs.Ytglfakglcoffkaa
open Go.RowKit

/-- Which number is told. -/
def CodeN (c2 c7 ok : Prop) (n : Int) : Prop := (¬ c2 ∧ n = 2) ∨ (c2 ∧ c7 ∧ n = 7) ∨ (c2 ∧ ¬ c7 ∧ ¬ ok ∧ n = 8) ∨ (c2 ∧ ¬ c7 ∧ ok ∧ n = 0)
theorem CodeN.one {c2 c7 ok : Prop} {n m : Int} (h : CodeN c2 c7 ok n) (k : CodeN c2 c7 ok m) : n = m := by
  rcases h with ⟨h1, rfl⟩ | ⟨h1, h2, rfl⟩ | ⟨h1, h2, h3, rfl⟩ | ⟨h1, h2, h3, rfl⟩ <;> rcases k with ⟨k1, rfl⟩ | ⟨k1, k2, rfl⟩ | ⟨k1, k2, k3, rfl⟩ | ⟨k1, k2, k3, rfl⟩ <;> first | rfl | (exfalso; exact absurd ‹c2› ‹¬ c2›) | (exfalso; exact absurd ‹c7› ‹¬ c7›) | (exfalso; exact absurd ‹ok› ‹¬ ok›)
/-- What the document tells: a tree, whosever its bytes are. -/
def RTold (w : World) (n : Int) (K : List (List UInt8 × List UInt8)) (e : Ending) (w' : World) : Prop :=
  Chg none w w' ∧ ((n ≠ 0 ∧ e = .returned (.tuple #[.slice none 0 0, .int .i64 n])) ∨
    (n = 0 ∧ ∃ (A : Option Addr) (c : Nat) (M : List Fil), e = .returned (.tuple #[.slice A M.length c, .int .i64 0]) ∧ TreeAt w' A M ∧ (keys M).Perm K ∧ mayT M = true))
/-- What the program tells: a tree in memory of its own. -/
def PTold (w : World) (n : Int) (K : List (List UInt8 × List UInt8)) (e : Ending) (w' : World) : Prop :=
  Chg none w w' ∧ ((n ≠ 0 ∧ e = .returned (.tuple #[.slice none 0 0, .int .i64 n])) ∨
    (n = 0 ∧ ∃ (A : Option Addr) (c : Nat) (M : List Fil), e = .returned (.tuple #[.slice A M.length c, .int .i64 0]) ∧ TreeAt w' A M ∧ (∀ m ∈ M, w'.ownsRow w.heap.size 5 1 (.slice m.A m.x.length m.c) m.x.length (byteVals m.x)) ∧ (keys M).Perm K ∧ mayT M = true))
theorem ToldK.ptold {c2 c7 : Prop} {w w' : World} {K : List (List UInt8 × List UInt8)} {e : Ending} (h : ToldK w K e w') (h2 : c2) (h7 : ¬ c7) : ∃ n, CodeN c2 c7 (okK K) n ∧ PTold w n K e w' := by
  obtain ⟨g, h⟩ := h
  rcases h with ⟨h1, he⟩ | ⟨h1, g', cap, M, he, ht, ho, hk, hm⟩
  · exact ⟨8, .inr (.inr (.inl ⟨h2, h7, h1, rfl⟩)), g, .inl ⟨by decide, he⟩⟩
  · exact ⟨0, .inr (.inr (.inr ⟨h2, h7, h1, rfl⟩)), g, .inr ⟨rfl, _, _, M, he, ht, ho, hk, hm⟩⟩

/-! ### The program's calls -/
theorem pwith_any (L : List Fil) (A : Option Addr) (c : Nat) (path : List UInt8) (Ax : Option Addr) (x : List UInt8) (cx : Nat) (w : World) (hT : TreeAt w A L) (hl : L.length ≤ 9223372036854775807) (hd : path.length ≤ 9223372036854775807)
    (hx : Txt w Ax x) (hn : NilOk Ax x.length cx) (hxl : x.length ≤ 1000000) :
    Calls Try.prog 21 #[.slice A L.length c, .string ⟨path.toArray⟩, .slice Ax x.length cx] w fun e w' => ∃ n, CodeN (mayT L = true ∧ pathB path = true) False (okK (withK path x (keys L))) n ∧ PTold w n (withK path x (keys L)) e w' := by
  by_cases hu : (mayT L && pathB path) = true
  · have hu' := hu
    rw [Bool.and_eq_true] at hu'
    exact (with_yes L A c path Ax x cx w hT hu'.1 hu'.2 hx hn hxl).mono fun e w' h => h.ptold hu' (fun h => h)
  · exact (with_no L A c path _ w hT hl hd (by simpa using hu)).mono fun e w' h => ⟨2, .inl ⟨fun h => hu (by rw [h.1, h.2]; rfl), rfl⟩, h.2, .inl ⟨by decide, h.1⟩⟩
theorem punder_any (L : List Fil) (A : Option Addr) (c : Nat) (dir : List UInt8) (w : World) (hT : TreeAt w A L) (hl : L.length ≤ 9223372036854775807) (hd : dir.length ≤ 9223372036854775807) :
    Calls Try.prog 25 #[.slice A L.length c, .string ⟨dir.toArray⟩] w fun e w' => ∃ n, CodeN (mayT L = true ∧ pathB dir = true) False (okK (underK dir (keys L))) n ∧ PTold w n (underK dir (keys L)) e w' := by
  by_cases hu : (mayT L && pathB dir) = true
  · have hu' := hu
    rw [Bool.and_eq_true] at hu'
    exact (under_told L A c dir w hT hu'.1 hu'.2).mono fun e w' h => h.ptold hu' (fun h => h)
  · exact (under_no L A c dir w hT hl hd (by simpa using hu)).mono fun e w' h => ⟨2, .inl ⟨fun h => hu (by rw [h.1, h.2]; rfl), rfl⟩, h.2, .inl ⟨by decide, h.1⟩⟩
theorem pjoin_any (L N : List Fil) (A B : Option Addr) (c d : Nat) (w : World) (hL : TreeAt w A L) (hN : TreeAt w B N) (hl : L.length ≤ 9223372036854775807) (hn : N.length ≤ 9223372036854775807) :
    Calls Try.prog 27 #[.slice A L.length c, .slice B N.length d] w fun e w' => ∃ n, CodeN (mayT L = true ∧ mayT N = true) (meetsT L N) (okK (keys L ++ keys N)) n ∧ PTold w n (keys L ++ keys N) e w' := by
  by_cases hu : (mayT L && mayT N) = true
  · have hu' := hu
    rw [Bool.and_eq_true] at hu'
    refine (join_yes L N A B c d w hL hN hu'.1 hu'.2).mono fun e w' h => ?_
    rcases h with ⟨h1, he, g⟩ | ⟨h1, h⟩
    · exact ⟨7, .inr (.inl ⟨hu', h1, rfl⟩), g, .inl ⟨by decide, he⟩⟩
    · exact h.ptold hu' h1
  · exact (join_no L N A B c d w hL hN hl hn (by simpa using hu)).mono fun e w' h => ⟨2, .inl ⟨fun h => hu (by rw [h.1, h.2]; rfl), rfl⟩, h.2, .inl ⟨by decide, h.1⟩⟩

/-! ### The document's made -/
def MadeP (M : List Fil) (A : Option Addr) (c : Nat) (w : World) (e : Ending) (w' : World) : Prop :=
  Chg none w w' ∧ ((mayT M = false ∧ e = .returned (.tuple #[.slice none 0 0, .int .i64 8])) ∨ (mayT M = true ∧ e = .returned (.tuple #[.slice A M.length c, .int .i64 0])))
set_option maxHeartbeats 4000000 in
theorem made_any (M : List Fil) (A : Option Addr) (c : Nat) (w : World) (hT : TreeAt w A M) (hl : M.length ≤ 9223372036854775807) :
    Calls Try.prog 44 #[.slice A M.length c] w (MadeP M A c w) := by
  have HM := Lib.hid (refmay_any M A c w hT hl)
  clear hT hl
  cases hm : mayT M with
  | false =>
    rw [hm] at HM
    have HMM := Lib.hid hm
    clear hm
    go_enter Try.func44, Try.ntmps44
    go_wp2_with fail
    refine HM.out.mono ?_
    rintro e w1 ⟨rfl, g1⟩
    go_wp2_with fail
    go_ret2
    exact ⟨g1, .inl ⟨HMM.out, rfl⟩⟩
  | true =>
    rw [hm] at HM
    have HMM := Lib.hid hm
    clear hm
    go_enter Try.func44, Try.ntmps44
    go_wp2_with fail
    refine HM.out.mono ?_
    rintro e w1 ⟨rfl, g1⟩
    go_wp2_with fail
    go_ret2
    exact ⟨g1, .inr ⟨HMM.out, rfl⟩⟩
/-- What made tells, of a row that rises. -/
theorem made_told {M : List Fil} {A : Option Addr} {c : Nat} {w0 w w' : World} {e : Ending} {K : List (List UInt8 × List UInt8)} {c2 c7 : Prop} (hT : TreeAt w A M) (hu : Up (keys M)) (hk : (keys M).Perm K) (g0 : Chg none w0 w) (h2 : c2) (h7 : ¬ c7)
    (h : MadeP M A c w e w') :
    ∃ n, CodeN c2 c7 (okK K) n ∧ RTold w0 n K e w' := by
  obtain ⟨g, h⟩ := h
  have hmk : mayT M = true ↔ okK K := by rw [mayT_iff, okK_perm hk]; exact ⟨fun h => h.1, fun h => ⟨h, hu⟩⟩
  rcases h with ⟨h1, he⟩ | ⟨h1, he⟩
  · exact ⟨8, .inr (.inr (.inl ⟨h2, h7, (fun h => by rw [hmk.2 h] at h1; cases h1), rfl⟩)), g0.trans g, .inl ⟨by decide, he⟩⟩
  · exact ⟨0, .inr (.inr (.inr ⟨h2, h7, hmk.1 h1, rfl⟩)), g0.trans g, .inr ⟨rfl, A, c, M, he, hT.chg g, hk, h1⟩⟩

def RToldX (w : World) (c2 c7 : Prop) (K : List (List UInt8 × List UInt8)) (e : Ending) (w' : World) : Prop := ∃ n, CodeN c2 c7 (okK K) n ∧ RTold w n K e w'
theorem RToldX.two {w w' : World} {c2 c7 : Prop} {K : List (List UInt8 × List UInt8)} (h : ¬ c2) (g : Chg none w w') : RToldX w c2 c7 K (.returned (.tuple #[.slice none 0 0, .int .i64 2])) w' := ⟨2, .inl ⟨h, rfl⟩, g, .inl ⟨by decide, rfl⟩⟩
set_option maxHeartbeats 8000000 in
set_option maxRecDepth 100000 in
theorem rwith_any (L : List Fil) (A : Option Addr) (c : Nat) (path : List UInt8) (Ax : Option Addr) (x : List UInt8) (cx : Nat) (w : World) (hT : TreeAt w A L) (hl : L.length ≤ 9223372036854775807) (hd : path.length ≤ 9223372036854775807)
    (hf : ∀ v, Chg none w v → Fil.ok v ⟨path, Ax, x, cx⟩) :
    Calls Try.prog 22 #[.slice A L.length c, .string ⟨path.toArray⟩, .slice Ax x.length cx] w (RToldX w (mayT L = true ∧ pathB path = true) False (withK path x (keys L))) := by
  have HM := Lib.hid (refmay_any L A c w hT hl)
  have HP := Lib.hid (fun v => refpath_any path v hd)
  cases hm : mayT L with
  | false =>
    rw [hm] at HM
    clear hm hT hl hf
    go_enter Try.func22, Try.ntmps22
    go_wp2_with fail
    refine HM.out.mono ?_
    rintro e w1 ⟨rfl, g1⟩
    have G1 := Lib.hid g1
    clear g1
    go_wp2_with fail
    go_ret2
    exact RToldX.two (fun h => by cases h.1) G1.out
  | true =>
    rw [hm] at HM
    cases hp : pathB path with
    | false =>
      rw [hp] at HP
      clear hm hT hl hf hp
      go_enter Try.func22, Try.ntmps22
      go_wp2_with fail
      refine HM.out.mono ?_
      rintro e w1 ⟨rfl, g1⟩
      have G1 := Lib.hid g1
      clear g1
      go_wp2_with fail
      refine (HP.out _).mono ?_
      rintro e w2 ⟨rfl, rfl⟩
      go_wp2_with fail
      go_ret2
      exact RToldX.two (fun h => by cases h.2) G1.out
    | true =>
      rw [hp] at HP
      have hup : Up (keys L) := ((mayT_iff L).1 hm).2
      have hl16 : L.length ≤ 16 := (mayT_parts hm).1
      have HUP := Lib.hid hup
      have HT : Hid (∀ v, Chg none w v → TreeAt v A L) := Lib.hid fun v g => hT.chg g
      have HPU := Lib.hid (fun v (g : Chg none w v) => put_any L A c ⟨path, Ax, x, cx⟩ v (hT.chg g) (by omega))
      have HF := Lib.hid hf
      have HMD := Lib.hid made_any
      have HPL : Hid ((putL L ⟨path, Ax, x, cx⟩).length ≤ 9223372036854775807) := Lib.hid (by
        have h1 := (putL_perm (f := ⟨path, Ax, x, cx⟩) hup).length_eq
        have h2 := List.length_filter_le (fun g : List UInt8 × List UInt8 => g.1 != path) (keys L)
        unfold keys at h1 h2
        rw [List.length_map, List.length_append] at h1
        rw [List.length_map] at h2
        simp only [List.length_singleton] at h1
        omega)
      clear hm hT hl hf hp hup hl16
      go_enter Try.func22, Try.ntmps22
      go_wp2_with fail
      refine HM.out.mono ?_
      rintro e w1 ⟨rfl, g1⟩
      have G1 := Lib.hid g1
      clear g1
      go_wp2_with fail
      refine (HP.out _).mono ?_
      rintro e w2 ⟨rfl, rfl⟩
      have HPU1 := Lib.hid (HPU.out w2 G1.out)
      clear HPU
      go_wp2_with fail
      refine HPU1.out.mono ?_
      rintro e w3 ⟨A3, c3, rfl, hr3⟩
      have G3 := Lib.hid (G1.out.trans hr3.chg)
      have ht3 : TreeAt w3 A3 (putL L ⟨path, Ax, x, cx⟩) := hr3.tree fun m hm => by
        rcases putL_mem HUP.out m hm with rfl | h
        · exact HF.out w3 G3.out
        · exact (HT.out w3 G3.out).2 m h
      have HT3 := Lib.hid ht3
      have HM3 := Lib.hid (HMD.out _ A3 c3 w3 ht3 HPL.out)
      clear ht3 hr3 HPU1
      go_wp2_with fail
      refine HM3.out.mono ?_
      intro e w4 h4
      have HR : ∀ e, MadeP (putL L ⟨path, Ax, x, cx⟩) A3 c3 w3 e w4 → RToldX w (True ∧ True) False (withK path x (keys L)) e w4 := fun e h => made_told HT3.out (putL_isUp HUP.out) (putL_perm HUP.out) G3.out ⟨trivial, trivial⟩ (fun h => h) h
      have HRR := Lib.hid (HR _ h4)
      obtain ⟨v1, v2, rfl⟩ : ∃ v1 v2, e = .returned (.tuple #[v1, v2]) := by
        rcases h4.2 with ⟨-, h⟩ | ⟨-, h⟩ <;> exact ⟨_, _, h⟩
      clear h4 HR HM3
      go_wp2_with fail
      go_ret2
      exact HRR.out

end Go.Proofs.Ytglfakglcoffkaa
