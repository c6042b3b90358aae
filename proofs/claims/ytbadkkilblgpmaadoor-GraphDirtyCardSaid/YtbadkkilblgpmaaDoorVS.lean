/-
  Rows of texts that came in, weighed; texts and numbers that came in.
-/
import Derived.Test.YtbadkkilblgpmaaDoorVG
namespace Go.Proofs.YtbadkkilblgpmaaDoor
open Go.ChangeShapes Go.WideShapes Go.ChangeAt Go.RowKit
open Go.WideMaps Go.WideElems

theorem bytes9 : Tryd.prog.bytesOf 9 = 16 := by kernel_rfl
section
variable {H : Type} {enc : TypeId × Value → H} {w : World} {base : Nat} {spare : Nat → Bool} {held : Bool}
theorem open_strs4 (n : Nat) (cs : List Value) (x) (h : DataW.trod enc Tryd.prog w base spare held n 64 cs = some x) :
    ∃ (A : Option Addr) (L : List (List UInt8)) (c : Nat), cs = [.slice A L.length c] ∧ StrsAt w A L ∧ L.length ≤ c ∧ c ≤ 9223372036854775807 ∧ Wgh 64 x.1 (L.length * 16) := by
  obtain ⟨A, L, c, hvs, hc, hcm, hok, hrow, hnil, hd⟩ := trod_rows strC (fun s => s.length ≤ 9223372036854775807) (fun _ _ => True) Tryd.underlying64 (k := 1) (by kernel_rfl) (by omega)
    (fun n cs x h => by obtain ⟨y, h1, h2⟩ := open_strc n cs x h; exact ⟨y, h1, trivial, h2⟩) h
  refine ⟨A, L, c, hvs, ⟨hrow, hok⟩, hc, Nat.le_trans hcm (by unfold maxLen; decide), ?_⟩
  rcases hd with ⟨_, rfl⟩ | ⟨ds, rest, he, hl, _⟩
  · exact .inl rfl
  · rw [he]
    refine .inr ⟨(ds.length + rest.length) * Tryd.prog.bytesOf 9, by simp [DataW.weights, Tryd.underlying64], ?_⟩
    rw [bytes9]
    omega
end
end Go.Proofs.YtbadkkilblgpmaaDoor
