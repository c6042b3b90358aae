/-
  MerkleBinds: a chunk that is checked against a blob's root, length and a place of it is the blob's, or two rows of bytes that are unlike and have one digest are shown: for every input, where the two tables of package sha hold what its text lays (the card ties them).
-/
import Derived.Test.YtdkgecphkppglaaDoorMB
import Derived.Test.YtdkgecphkppglaaDoorVD
import Derived.Test.YtdkgecphkppglaaDoorCards
import Derived.Test.YtdkgecphkppglaaDoorTie
import Derived.SevenTiedAt
namespace Go.Proofs.YtdkgecphkppglaaDoor
open Go.ChangeShapes Go.WideShapes Go.ChangeAt Go.RowKit
open Go.WideMaps Go.WideElems
open Go

theorem i64_bounds {z : Int} (h : (Lit.int .i64 z).wf = true) : -9223372036854775808 ≤ z ∧ z ≤ 9223372036854775807 := wf_i64 h
theorem dgs_of_rows {w : World} {A : Option Addr} {L : List Dg} (h : RowsAt w 32 A dgCells L) : DgsAt w w.heap.size A L := fun h0 => by
  have hne : L ≠ [] := by intro e; rw [e] at h0; simp at h0
  have hr := h.reads dgCells_len (by decide)
  obtain ⟨b, off, rfl, hb, _⟩ := h hne
  obtain ⟨ad, e, _, hc⟩ := hr.2 h0
  injection e with e
  subst e
  refine ⟨b, off, rfl, hb, fun j v hv => ?_⟩
  have := hc j v hv
  rwa [Go.WideShapes.add_plain] at this

set_option maxRecDepth 100000 in
theorem merkleBinds_lifted (os : Os) (started : os.Started) (H : Type) (enc : TypeId × Value → H) :
    ReturnsInHanded {} Tryd.checked os 12 .any (fun w args => (Rows.merkleBindsSpec.pre enc Tryd.prog Tryd.f12 [] false w args ∧ laidMetH Tryd.prog laidT w) ∧ sizedMet enc Tryd.prog Tryd.f12 (OpenSpec.ofChange Rows.merkleBindsSpec) false w args)
      (Rows.merkleBindsSpec.post enc Tryd.prog Tryd.f12 false true false false) := by
  refine returnsInHanded_of_change_and (C := Tryd.checked) (X := fun w _ => laidMetH Tryd.prog laidT w) (fun _ _ _ hh h => h.of_heap hh) Tryd.own started (by kernel_rfl) Tryd.func12
    (ChangeSpec.witness_shaped (enc := enc) (C := Tryd.checked) (os := os) (X := fun w _ => laidMetH Tryd.prog laidT w) false (World.doorLaid Tryd.prog 19 os) #[.slice none 0 0, .int .i64 0, .slice none 0 0, .slice none 0 0] 8 rfl (World.shaped_of_RefB (by kernel_rfl) (by kernel_rfl)) (by kernel_rfl) (by kernel_rfl) (by kernel_rfl) (door_met os _)) ?_
  intro W base args ds gs before hval0 hW _ _ hL _
  have hval : ∀ (j : Nat) t v, Tryd.f12.params[j]? = some t → args[j]? = some v → Value.okWide Tryd.prog W .any base t v := hval0
  have hW' := hW
  obtain ⟨p, q, hA0, hV, rfl, hfz, hnd⟩ := hW
  have hA : DataW.TrodAll enc Tryd.prog W 0 (fun _ => true) true Tryd.f12.params.toList args.toList ds p := hA0
  have hT := tabs_of_laid hL
  rw [Tryd.params12] at hA hval
  obtain ⟨v0, vs0, d0, ds0, p0, q0, hargs, rfl, rfl, h0, r0⟩ := trodAll_cons hA
  obtain ⟨v1, vs1, d1, ds1, p1, q1, rfl, rfl, rfl, h1, r1⟩ := trodAll_cons r0
  obtain ⟨v2, vs2, d2, ds2, p2, q2, rfl, rfl, rfl, h2, r2⟩ := trodAll_cons r1
  obtain ⟨v3, vs3, d3, ds3, p3, q3, rfl, rfl, rfl, h3, r3⟩ := trodAll_cons r2
  obtain ⟨rfl, rfl, rfl⟩ := trodAll_nil r3
  obtain rfl : args = #[v0, v1, v2, v3] := by cases args; simp_all
  obtain ⟨p, hp, rfl, hpm⟩ := open_bytes (hval 0 22 v0 rfl rfl) h0
  obtain ⟨i, rfl, rfl, rfl, hwi⟩ := open_int Tryd.underlying3 (hval 1 3 v1 rfl rfl) h1
  obtain ⟨q, hq, rfl, hqm⟩ := open_bytes (hval 2 22 v2 rfl rfl) h2
  obtain ⟨A, P, c, rfl, hc, hcm, _, hrows⟩ := open_rows dgCells (fun _ => True) Tryd.underlying51 (show Tryd.prog.cellsOf 30 = 32 by kernel_rfl) (by decide) (fun n cs x h => by
    obtain ⟨a, ha, hcs⟩ := digest_cells n cs x h
    exact ⟨⟨a, ha⟩, trivial, hcs⟩) (hval 3 51 v3 rfl rfl) h3
  refine (binds_law p q i A P c W hp hpm hq hqm (dgs_of_rows hrows) hc (by unfold maxLen at hcm; omega) (i64_bounds hwi).1 (i64_bounds hwi).2 hT).mono fun e W' ⟨he, hg⟩ => ?_
  subst he
  exact ⟨_, rfl, law_post Tryd.laidOut (by decide +kernel) (by kernel_rfl) Tryd.underlying4 rfl hW' rfl (hg.belowNone (Nat.le_refl _))⟩

theorem merkleBinds_row : Rows.MerkleBindsSaid :=
  OpenClaim.holds_of_wide 12 Tryd.f12 rfl rfl rfl rfl rfl rfl rfl ⟨rfl, rfl, rfl, rfl, rfl⟩ rfl rfl rfl rfl rfl (by kernel_rfl) Tryd.func12 (by kernel_rfl)
    (of_decide_eq_true (by kernel_rfl)) (by unfold Func.isWrapper; first | (rw [if_pos (by decide +kernel)]; kernel_rfl) | (rw [if_neg (by decide +kernel)]; exact ⟨rfl, rfl⟩))
    (fun os started H enc _ => merkleBinds_lifted os started H enc)

theorem merkleBinds_holds : Rows.MerkleBindsCardSaid :=
  Claim7.holds_tied_plain_at .later [] [.data, .data] true (true, "5d6783b29654e8447ce90d34e7fc9d73a2bc6c8d232e415eeb7ca6853ae9265d") false
    merkleBinds_row (fun _ h => by cases h) (by kernel_rfl) (fun _ h => by cases h) merkleBinds_row_tie rfl ⟨rfl, rfl⟩ (by kernel_rfl) rfl
    (fun f fn hf hfn => by
      obtain rfl : f = 12 := Option.some.inj ((show Tryd.prog.funcNamed "murmuration/murmurationlaw04.MerkleBinds" = some 12 by kernel_rfl).symm.trans hf) |>.symm
      obtain rfl : fn = Tryd.f12 := (Option.some.inj (Tryd.func12.symm.trans hfn)).symm
      exact ⟨by kernel_rfl, fun j t ht => by
        rw [Tryd.params12] at ht
        have hm : t ∈ [22, 3, 22, 51] := by simpa using Array.mem_of_getElem? ht
        have hall : ([22, 3, 22, 51].all fun u => !Tryd.prog.wantsStandIn u) = true := by kernel_rfl
        exact (show Tryd.prog.wantsStandIn t = false by simpa using List.all_eq_true.1 hall t hm)⟩)
    (by kernel_rfl)

end Go.Proofs.YtdkgecphkppglaaDoor
