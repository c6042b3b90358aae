/-
  Rows of targets that came in, weighed.
-/
import Derived.Test.YtbadkkilblgpmaaDoorVG
import Derived.Test.YtbadkkilblgpmaaDoorGX1
namespace Go.Proofs.YtbadkkilblgpmaaDoor
open Go.ChangeShapes Go.WideShapes Go.ChangeAt Go.RowKit
open Go.WideMaps Go.WideElems


section
variable {H : Type} {enc : TypeId × Value → H} {w : World} {base : Nat} {spare : Nat → Bool} {held : Bool}
theorem open_tgts4 (n : Nat) (cs : List Value) (x) (h : DataW.trod enc Tryd.prog w base spare held n 63 cs = some x) :
    ∃ (A : Option Addr) (L : List Tgt) (c : Nat), cs = [.slice A L.length c] ∧ TgtsAt w A L ∧ L.length ≤ c ∧ c ≤ 9223372036854775807 ∧ Wgh 63 x.1 (L.length * 72) := by
  obtain ⟨A, L, c, hvs, hc, hcm, hok, hrow, hnil, hd⟩ := trod_rows tgtCells (fun t => TgtAt w t) (fun _ _ => True) Tryd.underlying63 (k := 4) (by kernel_rfl) (by omega)
    (fun n cs x h => by obtain ⟨y, h1, h2⟩ := open_tgt n cs x h; exact ⟨y, h1, trivial, h2⟩) h
  refine ⟨A, L, c, hvs, ⟨hrow, hok⟩, hc, Nat.le_trans hcm (by unfold maxLen; decide), ?_⟩
  rcases hd with ⟨_, rfl⟩ | ⟨ds, rest, he, hl, _⟩
  · exact .inl rfl
  · rw [he]
    refine .inr ⟨(ds.length + rest.length) * Tryd.prog.bytesOf 77, by simp [DataW.weights, Tryd.underlying63], ?_⟩
    rw [show Tryd.prog.bytesOf 77 = 72 from by kernel_rfl]
    omega
end
end Go.Proofs.YtbadkkilblgpmaaDoor
