/-
  The document's tree: made, With, Under, Join; what both tell.
-/
import Derived.Test.YtbadkkilblgpmaaDoorUB
namespace Go.Proofs.YtbadkkilblgpmaaDoor
open Go.RowKit


/-- Which number is told. -/
def CodeN (c2 c7 ok : Prop) (n : Int) : Prop := (¬ c2 ∧ n = 2) ∨ (c2 ∧ c7 ∧ n = 7) ∨ (c2 ∧ ¬ c7 ∧ ¬ ok ∧ n = 8) ∨ (c2 ∧ ¬ c7 ∧ ok ∧ n = 0)
theorem CodeN.one {c2 c7 ok : Prop} {n m : Int} (h : CodeN c2 c7 ok n) (k : CodeN c2 c7 ok m) : n = m := by
  rcases h with ⟨h1, rfl⟩ | ⟨h1, h2, rfl⟩ | ⟨h1, h2, h3, rfl⟩ | ⟨h1, h2, h3, rfl⟩ <;> rcases k with ⟨k1, rfl⟩ | ⟨k1, k2, rfl⟩ | ⟨k1, k2, k3, rfl⟩ | ⟨k1, k2, k3, rfl⟩ <;> first | rfl | (exfalso; exact absurd ‹c2› ‹¬ c2›) | (exfalso; exact absurd ‹c7› ‹¬ c7›) | (exfalso; exact absurd ‹ok› ‹¬ ok›)
/-- What the document tells: a tree, whosever its bytes are. -/
def RTold (w : World) (n : Int) (K : List (List UInt8 × List UInt8)) (e : Ending) (w' : World) : Prop :=
  Chg none w w' ∧ ((n ≠ 0 ∧ e = .returned (.tuple #[.slice none 0 0, .int .i64 n])) ∨
    (n = 0 ∧ ∃ (A : Option Addr) (c : Nat) (M : List Fil), e = .returned (.tuple #[.slice A M.length c, .int .i64 0]) ∧ TreeAt w' A M ∧ (keys M).Perm K ∧ mayT M = true))
/-- What the program tells: a tree in memory of its own. -/
def PTold (w : World) (n : Int) (K : List (List UInt8 × List UInt8)) (e : Ending) (w' : World) : Prop :=
  Chg none w w' ∧ ((n ≠ 0 ∧ e = .returned (.tuple #[.slice none 0 0, .int .i64 n])) ∨
    (n = 0 ∧ ∃ (A : Option Addr) (c : Nat) (M : List Fil), e = .returned (.tuple #[.slice A M.length c, .int .i64 0]) ∧ TreeAt w' A M ∧ (∀ m ∈ M, w'.ownsRow w.heap.size 5 1 (.slice m.A m.x.length m.c) m.x.length (byteVals m.x)) ∧ (keys M).Perm K ∧ mayT M = true))
theorem ToldK.ptold {c2 c7 : Prop} {w w' : World} {K : List (List UInt8 × List UInt8)} {e : Ending} (h : ToldK w K e w') (h2 : c2) (h7 : ¬ c7) : ∃ n, CodeN c2 c7 (okK K) n ∧ PTold w n K e w' := by
  obtain ⟨g, h⟩ := h
  rcases h with ⟨h1, he⟩ | ⟨h1, g', cap, M, he, ht, ho, hk, hm⟩
  · exact ⟨8, .inr (.inr (.inl ⟨h2, h7, h1, rfl⟩)), g, .inl ⟨by decide, he⟩⟩
  · exact ⟨0, .inr (.inr (.inr ⟨h2, h7, h1, rfl⟩)), g, .inr ⟨rfl, _, _, M, he, ht, ho, hk, hm⟩⟩

/-! ### The program's calls -/
theorem pwith_any (L : List Fil) (A : Option Addr) (c : Nat) (path : List UInt8) (Ax : Option Addr) (x : List UInt8) (cx : Nat) (w : World) (hT : TreeAt w A L) (hl : L.length ≤ 9223372036854775807) (hd : path.length ≤ 9223372036854775807)
    (hx : Txt w Ax x) (hn : NilOk Ax x.length cx) (hxl : x.length ≤ 1000000) :
    Calls Tryd.prog 65 #[.slice A L.length c, .string ⟨path.toArray⟩, .slice Ax x.length cx] w fun e w' => ∃ n, CodeN (mayT L = true ∧ pathB path = true) False (okK (withK path x (keys L))) n ∧ PTold w n (withK path x (keys L)) e w' := by
  by_cases hu : (mayT L && pathB path) = true
  · have hu' := hu
    rw [Bool.and_eq_true] at hu'
    exact (with_yes L A c path Ax x cx w hT hu'.1 hu'.2 hx hn hxl).mono fun e w' h => h.ptold hu' (fun h => h)
  · exact (with_no L A c path _ w hT hl hd (by simpa using hu)).mono fun e w' h => ⟨2, .inl ⟨fun h => hu (by rw [h.1, h.2]; rfl), rfl⟩, h.2, .inl ⟨by decide, h.1⟩⟩
theorem punder_any (L : List Fil) (A : Option Addr) (c : Nat) (dir : List UInt8) (w : World) (hT : TreeAt w A L) (hl : L.length ≤ 9223372036854775807) (hd : dir.length ≤ 9223372036854775807) :
    Calls Tryd.prog 72 #[.slice A L.length c, .string ⟨dir.toArray⟩] w fun e w' => ∃ n, CodeN (mayT L = true ∧ pathB dir = true) False (okK (underK dir (keys L))) n ∧ PTold w n (underK dir (keys L)) e w' := by
  by_cases hu : (mayT L && pathB dir) = true
  · have hu' := hu
    rw [Bool.and_eq_true] at hu'
    exact (under_told L A c dir w hT hu'.1 hu'.2).mono fun e w' h => h.ptold hu' (fun h => h)
  · exact (under_no L A c dir w hT hl hd (by simpa using hu)).mono fun e w' h => ⟨2, .inl ⟨fun h => hu (by rw [h.1, h.2]; rfl), rfl⟩, h.2, .inl ⟨by decide, h.1⟩⟩
theorem pjoin_any (L N : List Fil) (A B : Option Addr) (c d : Nat) (w : World) (hL : TreeAt w A L) (hN : TreeAt w B N) (hl : L.length ≤ 9223372036854775807) (hn : N.length ≤ 9223372036854775807) :
    Calls Tryd.prog 152 #[.slice A L.length c, .slice B N.length d] w fun e w' => ∃ n, CodeN (mayT L = true ∧ mayT N = true) (meetsT L N) (okK (keys L ++ keys N)) n ∧ PTold w n (keys L ++ keys N) e w' := by
  by_cases hu : (mayT L && mayT N) = true
  · have hu' := hu
    rw [Bool.and_eq_true] at hu'
    refine (join_yes L N A B c d w hL hN hu'.1 hu'.2).mono fun e w' h => ?_
    rcases h with ⟨h1, he, g⟩ | ⟨h1, h⟩
    · exact ⟨7, .inr (.inl ⟨hu', h1, rfl⟩), g, .inl ⟨by decide, he⟩⟩
    · exact h.ptold hu' h1
  · exact (join_no L N A B c d w hL hN hl hn (by simpa using hu)).mono fun e w' h => ⟨2, .inl ⟨fun h => hu (by rw [h.1, h.2]; rfl), rfl⟩, h.2, .inl ⟨by decide, h.1⟩⟩

/-! ### The document's made -/
def MadeP (M : List Fil) (A : Option Addr) (c : Nat) (w : World) (e : Ending) (w' : World) : Prop :=
  Chg none w w' ∧ ((mayT M = false ∧ e = .returned (.tuple #[.slice none 0 0, .int .i64 8])) ∨ (mayT M = true ∧ e = .returned (.tuple #[.slice A M.length c, .int .i64 0])))
set_option maxHeartbeats 4000000 in
theorem made_any (M : List Fil) (A : Option Addr) (c : Nat) (w : World) (hT : TreeAt w A M) (hl : M.length ≤ 9223372036854775807) :
    Calls Tryd.prog 153 #[.slice A M.length c] w (MadeP M A c w) := by
  have HM := Lib.hid (t_refmay_any M A c w hT hl)
  clear hT hl
  cases hm : mayT M with
  | false =>
    rw [hm] at HM
    have HMM := Lib.hid hm
    clear hm
    go_enter Tryd.func153, Tryd.ntmps153
    go_wp2_with fail
    refine HM.out.mono ?_
    rintro e w1 ⟨rfl, g1⟩
    go_wp2_with fail
    go_ret2
    exact ⟨g1, .inl ⟨HMM.out, rfl⟩⟩
  | true =>
    rw [hm] at HM
    have HMM := Lib.hid hm
    clear hm
    go_enter Tryd.func153, Tryd.ntmps153
    go_wp2_with fail
    refine HM.out.mono ?_
    rintro e w1 ⟨rfl, g1⟩
    go_wp2_with fail
    go_ret2
    exact ⟨g1, .inr ⟨HMM.out, rfl⟩⟩
/-- What made tells, of a row that rises. -/
theorem made_told {M : List Fil} {A : Option Addr} {c : Nat} {w0 w w' : World} {e : Ending} {K : List (List UInt8 × List UInt8)} {c2 c7 : Prop} (hT : TreeAt w A M) (hu : Up (keys M)) (hk : (keys M).Perm K) (g0 : Chg none w0 w) (h2 : c2) (h7 : ¬ c7)
    (h : MadeP M A c w e w') :
    ∃ n, CodeN c2 c7 (okK K) n ∧ RTold w0 n K e w' := by
  obtain ⟨g, h⟩ := h
  have hmk : mayT M = true ↔ okK K := by rw [mayT_iff, okK_perm hk]; exact ⟨fun h => h.1, fun h => ⟨h, hu⟩⟩
  rcases h with ⟨h1, he⟩ | ⟨h1, he⟩
  · exact ⟨8, .inr (.inr (.inl ⟨h2, h7, (fun h => by rw [hmk.2 h] at h1; cases h1), rfl⟩)), g0.trans g, .inl ⟨by decide, he⟩⟩
  · exact ⟨0, .inr (.inr (.inr ⟨h2, h7, hmk.1 h1, rfl⟩)), g0.trans g, .inr ⟨rfl, A, c, M, he, hT.chg g, hk, h1⟩⟩
def RToldX (w : World) (c2 c7 : Prop) (K : List (List UInt8 × List UInt8)) (e : Ending) (w' : World) : Prop := ∃ n, CodeN c2 c7 (okK K) n ∧ RTold w n K e w'
theorem RToldX.two {w w' : World} {c2 c7 : Prop} {K : List (List UInt8 × List UInt8)} (h : ¬ c2) (g : Chg none w w') : RToldX w c2 c7 K (.returned (.tuple #[.slice none 0 0, .int .i64 2])) w' := ⟨2, .inl ⟨h, rfl⟩, g, .inl ⟨by decide, rfl⟩⟩

end Go.Proofs.YtbadkkilblgpmaaDoor
