/-
  The document's tree: Below; the program's Below in whatever case.
-/
import Derived.Test.YtbadkkilblgpmaaDoorUD
namespace Go.Proofs.YtbadkkilblgpmaaDoor
open Go.RowKit


/-- What is below a directory, if it may be asked. -/
def belowA (L : List Fil) (dir : List UInt8) : List (List UInt8 × List UInt8) := if (mayT L && pathB dir) = true then belowK dir (keys L) else []
def PToldB (w : World) (K : List (List UInt8 × List UInt8)) (e : Ending) (w' : World) : Prop :=
  ∃ (A : Option Addr) (c : Nat) (M : List Fil), e = .returned (.slice A M.length c) ∧ Chg none w w' ∧ TreeAt w' A M ∧ (∀ m ∈ M, w'.ownsRow w.heap.size 5 1 (.slice m.A m.x.length m.c) m.x.length (byteVals m.x)) ∧ keys M = K ∧ M.length ≤ 16
theorem tree_nil (w : World) : TreeAt w none [] := ⟨fun h => absurd rfl h, fun f h => by cases h⟩
theorem PToldB.none_ {w w' : World} (g : Chg none w w') : PToldB w [] (.returned (.slice none 0 0)) w' := ⟨none, 0, [], rfl, g, tree_nil _, (fun _ h => by cases h), rfl, by decide⟩
set_option maxHeartbeats 8000000 in
set_option maxRecDepth 100000 in
theorem pbelow_any (L : List Fil) (A : Option Addr) (c : Nat) (dir : List UInt8) (w : World) (hT : TreeAt w A L) (hl : L.length ≤ 9223372036854775807) (hd : dir.length ≤ 9223372036854775807) :
    Calls Tryd.prog 64 #[.slice A L.length c, .string ⟨dir.toArray⟩] w (PToldB w (belowA L dir)) := by
  unfold belowA
  cases hm : mayT L with
  | false =>
    have HM := Lib.hid (mayt_any L A c w hT hl)
    rw [hm] at HM
    clear hm hT hl
    go_enter Tryd.func64, Tryd.ntmps64
    go_wp2_with fail
    refine HM.out.mono ?_
    rintro e w1 ⟨rfl, g1⟩
    have G1 := Lib.hid g1
    clear g1
    go_wp2_with fail
    go_ret
    exact PToldB.none_ G1.out
  | true =>
    cases hp : pathB dir with
    | false =>
      have HM := Lib.hid (mayt_any L A c w hT hl)
      have HP := Lib.hid (fun v => ispath_any dir v hd)
      rw [hm] at HM
      rw [hp] at HP
      clear hm hT hl hp
      go_enter Tryd.func64, Tryd.ntmps64
      go_wp2_with fail
      refine HM.out.mono ?_
      rintro e w1 ⟨rfl, g1⟩
      have G1 := Lib.hid g1
      clear g1
      go_wp2_with fail
      refine (HP.out _).mono ?_
      rintro e w2 ⟨rfl, g2⟩
      have G2 := Lib.hid (G1.out.trans g2)
      clear g2
      go_wp2_with fail
      go_ret
      exact PToldB.none_ G2.out
    | true =>
      refine (below_yes L A c dir w hT hm hp).mono fun e w' h => ?_
      obtain ⟨A', c', M, he, ho, hk, hl1, hp1⟩ := h
      have h16 := (mayT_parts hm).1
      refine ⟨A', c', M, he, ho.chg, ho.tree (fun m hm => by have := hp1 m hm; omega), ho.own, ?_, by omega⟩
      rw [Bool.and_self, if_pos rfl]
      exact hk

end Go.Proofs.YtbadkkilblgpmaaDoor
