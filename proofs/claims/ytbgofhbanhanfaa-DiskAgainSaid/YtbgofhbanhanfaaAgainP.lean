/-
  The law DiskAgain: it answers true at every input.
  No condition narrows it.
-/
import Derived.Test.YtbgofhbanhanfaaAgain
namespace Go.Proofs.Ytbgofhbanhanfaa
open Go.ChangeShapes Go.WideShapes Go.ChangeAt Go.RowKit
open Go.WideMaps Go.WideElems

set_option maxRecDepth 100000 in
set_option maxHeartbeats 2000000 in
theorem again_short (A : Option Addr) (n ca : Nat) (E : Option Addr) (m ce : Nat) (cut kp0 kp1 : Int) (w : World) (hx : ¬ (n ≤ 40 ∧ m ≤ 1000)) :
    Calls Try.prog 7 #[.slice A n ca, .slice E m ce, .int .i64 cut, .agg #[.int .i64 kp0, .int .i64 kp1]] w fun e w' => e = .returned (.bool true) ∧ Chg none w w' := by
  by_cases h1 : n ≤ 40
  · have e1 : decide ((40 : Int) < (n : Int)) = false := by simp; omega
    have e2 : decide ((1000 : Int) < (m : Int)) = true := by simp; omega
    clear hx h1
    go_enter Try.func7, Try.ntmps7
    go_wp2_with fail
    refine (new_rel _).mono ?_
    rintro e w1 ⟨rfl, r1⟩
    have hz1 := r1.chg
    go_wp2_with fail
    refine (new_rel _).mono ?_
    rintro e w2 ⟨rfl, r2⟩
    have hz2 := r2.chg
    go_wp2_with fail
    refine (known_any _).mono ?_
    rintro e w3 ⟨rfl, g3⟩
    go_wp2_with fail
    go_ret
    exact ⟨rfl, ((((Chg.refl none w).alloc _).trans hz1).trans hz2).trans g3⟩
  · have e1 : decide ((40 : Int) < (n : Int)) = true := by simp; omega
    clear hx h1
    go_enter Try.func7, Try.ntmps7
    go_wp2_with fail
    refine (new_rel _).mono ?_
    rintro e w1 ⟨rfl, r1⟩
    have hz1 := r1.chg
    go_wp2_with fail
    refine (new_rel _).mono ?_
    rintro e w2 ⟨rfl, r2⟩
    have hz2 := r2.chg
    go_wp2_with fail
    refine (known_any _).mono ?_
    rintro e w3 ⟨rfl, g3⟩
    go_wp2_with fail
    go_ret
    exact ⟨rfl, ((((Chg.refl none w).alloc _).trans hz1).trans hz2).trans g3⟩

theorem again_all (A : Option Addr) (L : List Opn) (ca : Nat) (E : Option Addr) (bb : List UInt8) (ce : Nat) (cut kp0 kp1 : Int) (w : World)
    (hA : RowsAt w 5 A Opn.cells L) (hL : ∀ o ∈ L, o.okIn w) (hE : Reads w w.heap.size 1 E bb.length (byteVals bb)) (hce : bb.length ≤ ce) :
    Calls Try.prog 7 #[.slice A L.length ca, .slice E bb.length ce, .int .i64 cut, .agg #[.int .i64 kp0, .int .i64 kp1]] w fun e w' => e = .returned (.bool true) ∧ Chg none w w' := by
  by_cases h : L.length ≤ 40 ∧ bb.length ≤ 1000
  · exact again_main A L ca E bb ce cut kp0 kp1 w h.1 h.2 hA hL hE hce
  · exact again_short A L.length ca E bb.length ce cut kp0 kp1 w h

theorem open_keep {H : Type} {enc : TypeId × Value → H} {w : World} {base : Nat} {spare : Nat → Bool} {held : Bool} {r : Reach} {b0 : Nat} {v : Value} {d : DataW H} {p : List MemPlace}
    (hv : Value.okWide Try.prog w r b0 28 v) (h : DataW.Trod enc Try.prog w base spare held 28 v d p) : ∃ k0 k1 : Int, v = .agg #[.int .i64 k0, .int .i64 k1] := by
  have h3 : Try.prog.cellsOf 3 = 1 := by kernel_rfl
  have h28 : Try.prog.cellsOf 28 = 2 := by kernel_rfl
  unfold Value.okWide at hv
  rw [Try.underlying28] at hv
  obtain ⟨cs, rfl, hsz, _⟩ := hv
  obtain ⟨fuel, hf⟩ := h
  obtain ⟨ys, m, _, _, hyl, hyx, hg⟩ := DataW.trod_array Try.underlying28 hf
  have hyx : ys.length = 2 := hyx
  have g0 := hg 0 (by omega)
  have g1 := hg 1 (by omega)
  rw [List.getElem?_eq_getElem (by omega), h3] at g0 g1
  obtain ⟨k0, hd0, _⟩ := DataW.trod_int Try.underlying3 g0
  obtain ⟨k1, hd1, _⟩ := DataW.trod_int Try.underlying3 g1
  rw [h28] at hsz
  refine ⟨k0, k1, ?_⟩
  have q0 := one_of_take hd0
  have q1 := one_of_take hd1
  congr 1
  apply Array.toList_inj.1
  apply List.ext_getElem?
  intro i
  have hcl : cs.toList.length = 2 := by rw [Array.length_toList]; exact hsz
  by_cases hi : i < 2
  · obtain rfl | rfl : i = 0 ∨ i = 1 := by omega
    · exact q0
    · exact q1
  · rw [List.getElem?_eq_none (by omega), List.getElem?_eq_none (by show 2 ≤ i; omega)]

set_option maxRecDepth 100000 in
theorem again_lifted (os : Os) (started : os.Started) (H : Type) (enc : TypeId × Value → H) :
    ReturnsInHanded {} Try.checked os 7 .any (Rows.diskAgainSpec.pre6 enc Try.prog Try.f7 Rows.diskAgainRow.domain false) (Rows.diskAgainSpec.post enc Try.prog Try.f7 false true false false) := by
  refine returnsInHanded_of_change (C := Try.checked) Try.own started (by kernel_rfl) Try.func7
    (ChangeSpec.witness6 (enc := enc) (C := Try.checked) false ⟨#[], #[.slice none 0 0, .slice none 0 0, .int .i64 0, .agg #[.int .i64 0, .int .i64 0]], []⟩ 8 (by kernel_rfl) (by kernel_rfl) (by kernel_rfl) (by kernel_rfl)) ?_
  intro W base args ds gs before hval0 hW _ _
  have hval : ∀ (j : Nat) t v, Try.f7.params[j]? = some t → args[j]? = some v → Value.okWide Try.prog W .any base t v := hval0
  have hW' := hW
  obtain ⟨p, q, hA0, hV, rfl, hfz, hnd⟩ := hW
  have hA : DataW.TrodAll enc Try.prog W 0 (fun _ => true) true Try.f7.params.toList args.toList ds p := hA0
  rw [Try.params7] at hA hval
  obtain ⟨v0, vs0, d0, ds0, p0, q0, hargs, rfl, rfl, h0, r0⟩ := trodAll_cons hA
  obtain ⟨v1, vs1, d1, ds1, p1, q1, rfl, rfl, rfl, h1, r1⟩ := trodAll_cons r0
  obtain ⟨v2, vs2, d2, ds2, p2, q2, rfl, rfl, rfl, h2, r2⟩ := trodAll_cons r1
  obtain ⟨v3, vs3, d3, ds3, p3, q3, rfl, rfl, rfl, h3, r3⟩ := trodAll_cons r2
  obtain ⟨rfl, rfl, rfl⟩ := trodAll_nil r3
  obtain rfl : args = #[v0, v1, v2, v3] := by cases args; simp_all
  obtain ⟨A, L, ca, rfl, _, _, hLw, hL⟩ := open_rows Opn.cells (fun o => o.okIn W) Try.underlying22 (k := 5) (by kernel_rfl) (by omega) open_opn (hval 0 22 v0 rfl rfl) h0
  obtain ⟨E, bb, ce, rfl, hce, _, _, hE⟩ := open_rows u8Cells (fun _ => True) Try.underlying26 (k := 1) (by kernel_rfl) (by omega) open_u8 (hval 1 26 v1 rfl rfl) h1
  obtain ⟨cut, rfl, rfl, rfl, _⟩ := open_int Try.underlying3 (hval 2 3 v2 rfl rfl) h2
  obtain ⟨kp0, kp1, rfl⟩ := open_keep (hval 3 28 v3 rfl rfl) h3
  refine (again_all A L ca E bb ce cut kp0 kp1 W hL hLw (by have := hE.reads (fun _ => rfl) (by omega); rw [u8Cells_flat] at this; exact this) hce).mono fun e W' ⟨he, hg⟩ => ?_
  subst he
  exact ⟨_, rfl, law_post Try.laidOut (by decide +kernel) (by kernel_rfl) Try.underlying4 rfl hW' rfl (hg.belowNone (Nat.le_refl _))⟩

theorem again_holds : Rows.DiskAgainSaid :=
  OpenClaim.holds_of_wide 7 Try.f7 rfl rfl rfl rfl rfl rfl rfl ⟨rfl, rfl, rfl, rfl, rfl⟩ rfl rfl rfl rfl rfl (by kernel_rfl) Try.func7 (by kernel_rfl)
    (of_decide_eq_true (by kernel_rfl)) (by unfold Func.isWrapper; rw [if_neg (of_decide_eq_false (by kernel_rfl))]; exact ⟨rfl, rfl⟩)
    (fun os started H enc _ => again_lifted os started H enc)

end Go.Proofs.Ytbgofhbanhanfaa
