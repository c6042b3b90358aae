/-
  The words of the program's init order; what is reckoned from them.
-/
import Derived.Test.YtkcammaccgkflaaDoorZB
namespace Go.Proofs.YtkcammaccgkflaaDoor
open Go.ChangeShapes Go.WideShapes Go.ChangeAt Go.RowKit
open Go.WideMaps Go.WideElems
open Go

def ioW : List (List Char) := [['h', 'a', 'r', 'n', 'e', 's', 's'], ['6', '8', 'a', '5', 'd', '7', '7', '5', 'f', 'f', '9', '0', '1', '8', '9', '7', '7', '6', '8', '1', '1', '1', '3', '8', '6', 'c', '9', 'f', '9', '3', '9', 'c', 'a', 'c', '6', '3', '4', '4', '6', '3', '3', '1', '1', '9', '0', 'e', 'e', '9', '6', '0', 'e', '3', 'f', 'f', '2', '4', '1', '4', '1', '1', '9', '9', '3', '7'], ['c', 'u', 't'], ['a', 't'], ['m', 'u', 'r', 'm', 'u', 'r', 'a', 't', 'i', 'o', 'n', '/', 'm', 'u', 'r', 'm', 'u', 'r', 'a', 't', 'i', 'o', 'n', 'l', 'a', 'w', '0', '1', '.', 'S', 'h', 'a', 'S', 'u', 'm', 's'], ['m', 'u', 'r', 'm', 'u', 'r', 'a', 't', 'i', 'o', 'n', '/', 'm', 'u', 'r', 'm', 'u', 'r', 'a', 't', 'i', 'o', 'n', 'l', 'a', 'w', '0', '1', '.', 'S', 'h', 'a', 'P', 'a', 'r', 't', 's'], ['m', 'u', 'r', 'm', 'u', 'r', 'a', 't', 'i', 'o', 'n', '/', 'm', 'u', 'r', 'm', 'u', 'r', 'a', 't', 'i', 'o', 'n', 'l', 'a', 'w', '0', '1', '.', 'S', 'h', 'a', 'L', 'o', 'n', 'g'], ['m', 'u', 'r', 'm', 'u', 'r', 'a', 't', 'i', 'o', 'n', '/', 'm', 'u', 'r', 'm', 'u', 'r', 'a', 't', 'i', 'o', 'n', 'l', 'a', 'w', '0', '2', '.', 'H', 'm', 'a', 'c', 'T', 'a', 'g', 's'], ['m', 'u', 'r', 'm', 'u', 'r', 'a', 't', 'i', 'o', 'n', '/', 'm', 'u', 'r', 'm', 'u', 'r', 'a', 't', 'i', 'o', 'n', 'l', 'a', 'w', '0', '2', '.', 'H', 'm', 'a', 'c', 'P', 'a', 'r', 't', 's'], ['m', 'u', 'r', 'm', 'u', 'r', 'a', 't', 'i', 'o', 'n', '/', 'm', 'u', 'r', 'm', 'u', 'r', 'a', 't', 'i', 'o', 'n', 'l', 'a', 'w', '0', '2', '.', 'H', 'm', 'a', 'c', 'S', 'a', 'm', 'e'], ['m', 'u', 'r', 'm', 'u', 'r', 'a', 't', 'i', 'o', 'n', '/', 'm', 'u', 'r', 'm', 'u', 'r', 'a', 't', 'i', 'o', 'n', 'l', 'a', 'w', '0', '9', '.', 'A', 't', 't', 'e', 's', 't', 'M', 'a', 'k', 'e', 's'], ['m', 'u', 'r', 'm', 'u', 'r', 'a', 't', 'i', 'o', 'n', '/', 'm', 'u', 'r', 'm', 'u', 'r', 'a', 't', 'i', 'o', 'n', 'l', 'a', 'w', '0', '9', '.', 'A', 't', 't', 'e', 's', 't', 'R', 'i', 'g', 'h', 't'], ['m', 'u', 'r', 'm', 'u', 'r', 'a', 't', 'i', 'o', 'n', '/', 'm', 'u', 'r', 'm', 'u', 'r', 'a', 't', 'i', 'o', 'n', 'l', 'a', 'w', '0', '9', '.', 'A', 't', 't', 'e', 's', 't', 'B', 'y', 't', 'e', 's'], ['m', 'u', 'r', 'm', 'u', 'r', 'a', 't', 'i', 'o', 'n', '/', 'm', 'u', 'r', 'm', 'u', 'r', 'a', 't', 'i', 'o', 'n', 'l', 'a', 'w', '0', '9', '.', 'A', 't', 't', 'e', 's', 't', 'O', 'n', 'l', 'y'], ['m', 'u', 'r', 'm', 'u', 'r', 'a', 't', 'i', 'o', 'n', '/', 'm', 'u', 'r', 'm', 'u', 'r', 'a', 't', 'i', 'o', 'n', 'l', 'a', 'w', '0', '9', '.', 'A', 't', 't', 'e', 's', 't', 'O', 'r', 'd', 'e', 'r'], ['m', 'u', 'r', 'm', 'u', 'r', 'a', 't', 'i', 'o', 'n', '/', 'm', 'u', 'r', 'm', 'u', 'r', 'a', 't', 'i', 'o', 'n', 'l', 'a', 'w', '0', '9', '.', 'A', 't', 't', 'e', 's', 't', 'S', 'e', 'c', 'r', 'e', 't', 's'], ['m', 'u', 'r', 'm', 'u', 'r', 'a', 't', 'i', 'o', 'n', '/', 'm', 'u', 'r', 'm', 'u', 'r', 'a', 't', 'i', 'o', 'n', 'l', 'a', 'w', '2', '0', '.', 'A', 'd', 'v', 'e', 'r', 't', 's', 'P', 'l', 'a', 'y', 's'], ['m', 'u', 'r', 'm', 'u', 'r', 'a', 't', 'i', 'o', 'n', '/', 'm', 'u', 'r', 'm', 'u', 'r', 'a', 't', 'i', 'o', 'n', 'l', 'a', 'w', '2', '0', '.', 'A', 'd', 'v', 'e', 'r', 't', 's', 'N', 'o', 'n', 'e'], ['m', 'u', 'r', 'm', 'u', 'r', 'a', 't', 'i', 'o', 'n', '/', 'm', 'u', 'r', 'm', 'u', 'r', 'a', 't', 'i', 'o', 'n', 'l', 'a', 'w', '2', '0', '.', 'A', 'd', 'v', 'e', 'r', 't', 's', 'O', 'r', 'd', 'e', 'r'], ['m', 'u', 'r', 'm', 'u', 'r', 'a', 't', 'i', 'o', 'n', '/', 'm', 'u', 'r', 'm', 'u', 'r', 'a', 't', 'i', 'o', 'n', 'l', 'a', 'w', '2', '0', '.', 'A', 'd', 'v', 'e', 'r', 't', 's', 'P', 'a', 'r', 't', 's'], ['m', 'u', 'r', 'm', 'u', 'r', 'a', 't', 'i', 'o', 'n', '/', 'm', 'u', 'r', 'm', 'u', 'r', 'a', 't', 'i', 'o', 'n', 'l', 'a', 'w', '2', '0', '.', 'A', 'd', 'v', 'e', 'r', 't', 's', 'S', 'u', 'm', 's'], ['m', 'u', 'r', 'm', 'u', 'r', 'a', 't', 'i', 'o', 'n', '/', 'm', 'u', 'r', 'm', 'u', 'r', 'a', 't', 'i', 'o', 'n', 'l', 'a', 'w', '2', '0', '.', 'A', 'd', 'v', 'e', 'r', 't', 's', 'M', 'o', 's', 't']]
def joinW : List (List Char) → List Char
  | [] => []
  | [w] => w
  | w :: x :: r => w ++ ' ' :: joinW (x :: r)
theorem ws_last : ∀ w : List Char, (∀ c ∈ w, c ≠ ' ') → wordsSigns w = [w]
  | [], _ => rfl
  | c :: w, h => by
    have ih := ws_last w (fun x hx => h x (List.mem_cons_of_mem _ hx))
    have hc : c ≠ ' ' := h c (List.mem_cons_self)
    rw [wordsSigns, ih]
    exact hc
theorem ws_word : ∀ (w r : List Char), (∀ c ∈ w, c ≠ ' ') → wordsSigns (w ++ ' ' :: r) = w :: wordsSigns r
  | [], r, _ => by rw [List.nil_append, wordsSigns]
  | c :: w, r, h => by
    have ih := ws_word w r (fun x hx => h x (List.mem_cons_of_mem _ hx))
    have hc : c ≠ ' ' := h c (List.mem_cons_self)
    rw [List.cons_append, wordsSigns, ih]
    exact hc
theorem ws_join : ∀ W : List (List Char), W ≠ [] → (∀ w ∈ W, ∀ c ∈ w, c ≠ ' ') → wordsSigns (joinW W) = W
  | [], h, _ => absurd rfl h
  | [w], _, h => ws_last w (h w (List.mem_cons_self))
  | w :: x :: r, _, h => by
    show wordsSigns (w ++ ' ' :: joinW (x :: r)) = _
    rw [ws_word w _ (h w (List.mem_cons_self)), ws_join (x :: r) (by simp) (fun y hy => h y (List.mem_cons_of_mem _ hy))]
theorem io_plain : (ioW.all fun w => w.all fun c => c.toNat != 32) = true := by kernel_rfl
theorem io_is : Tryd.pinned.checked.prog.initOrder = String.ofList (joinW ioW) := by kernel_rfl
theorem io_words : wordsSigns Tryd.pinned.checked.prog.initOrder.toList = ioW := by
  rw [io_is, String.toList_ofList]
  refine ws_join ioW (by unfold ioW; simp) fun w hw c hc e => ?_
  have h := List.all_eq_true.1 (List.all_eq_true.1 io_plain w hw) c hc
  rw [e] at h
  revert h
  decide
theorem io_a : behindMainWord ioW = ['c', 'u', 't'] :: ioW.drop 3 := by kernel_rfl
theorem io_c : stripLifts liftWords (['c', 'u', 't'] :: ioW.drop 3) = ([], ['c', 'u', 't'] :: ioW.drop 3) := by kernel_rfl
theorem io_b : Tryd.pinned.checked.prog.doorFits [] = true := by kernel_rfl
theorem io_d : Tryd.pinned.checked.prog.laysLater = false := by kernel_rfl
theorem io_e : Tryd.pinned.checked.prog.bearsReflect = false := by kernel_rfl
theorem cutC : "cut".toList = ['c', 'u', 't'] := by decide +kernel
theorem carC : (['c', 'u', 't'] == "carried".toList) = false := by decide +kernel
theorem gcC : (['c', 'u', 't'] == "gc".toList) = false := by decide +kernel
theorem speC : (['c', 'u', 't'] == "spec".toList) = false := by decide +kernel
theorem enter_of {P : Program} {rest : List (List Char)} (h1 : behindMainWord (wordsSigns P.initOrder.toList) = ['c', 'u', 't'] :: rest) (h2 : stripLifts liftWords (['c', 'u', 't'] :: rest) = ([], ['c', 'u', 't'] :: rest))
    (h3 : P.laysLater = false) (h4 : P.bearsReflect = false) (h5 : P.doorFits [] = true) : P.mayEnter = true := by
  unfold Program.mayEnter
  rw [h1]
  dsimp only
  rw [h2, h3, h4, h5, cutC]
  simp
theorem final_of {P : Program} {rest : List (List Char)} (h1 : behindMainWord (wordsSigns P.initOrder.toList) = ['c', 'u', 't'] :: rest) (h2 : stripLifts liftWords (['c', 'u', 't'] :: rest) = ([], ['c', 'u', 't'] :: rest)) : P.liftsFinal = false := by
  unfold Program.liftsFinal Program.headLifts
  rw [h1, h2]
  have := carC
  simp [cutC]
theorem make_of {P : Program} {rest : List (List Char)} (h1 : behindMainWord (wordsSigns P.initOrder.toList) = ['c', 'u', 't'] :: rest) : P.make = some .cut := by
  unfold Program.make
  rw [h1]
  dsimp only
  rw [gcC, speC, cutC]
  simp
theorem io_cut : behindMainWord (wordsSigns Tryd.pinned.checked.prog.initOrder.toList) = ['c', 'u', 't'] :: ioW.drop 3 := by rw [io_words, io_a]
theorem io_enter : Tryd.pinned.checked.prog.mayEnter = true := enter_of io_cut io_c io_d io_e io_b
theorem io_final : Tryd.pinned.checked.prog.liftsFinal = false := final_of io_cut io_c
theorem io_make : Tryd.pinned.checked.prog.make = some .cut := make_of io_cut
def harC : List Char := ['h', 'a', 'r', 'n', 'e', 's', 's']
def sumC : List Char := ['6', '8', 'a', '5', 'd', '7', '7', '5', 'f', 'f', '9', '0', '1', '8', '9', '7', '7', '6', '8', '1', '1', '1', '3', '8', '6', 'c', '9', 'f', '9', '3', '9', 'c', 'a', 'c', '6', '3', '4', '4', '6', '3', '3', '1', '1', '9', '0', 'e', 'e', '9', '6', '0', 'e', '3', 'f', 'f', '2', '4', '1', '4', '1', '1', '9', '9', '3', '7']
theorem main_of {P : Program} {h s : List Char} {rest : List (List Char)} (h1 : wordsSigns P.initOrder.toList = h :: s :: rest) (h2 : isSumSigns s = true) (h3 : (h == "harness".toList) = true) : P.mainIs = some (true, s) := by
  unfold Program.mainIs
  rw [h1]
  dsimp only
  rw [h2, h3]
  rfl
theorem io_shape : ioW = harC :: sumC :: ioW.drop 2 := by kernel_rfl
theorem sum_is : "68a5d775ff901897768111386c9f939cac63446331190ee960e3ff2414119937".toList = sumC := by decide +kernel
theorem io_main : Tryd.pinned.checked.prog.mainIs = some (true, "68a5d775ff901897768111386c9f939cac63446331190ee960e3ff2414119937".toList) := by
  rw [sum_is]
  exact main_of (io_words.trans io_shape) (by decide +kernel) (by decide +kernel)

end Go.Proofs.YtkcammaccgkflaaDoor
