/-
  The law BuilderPlays: what stands between two rounds.
-/
import Derived.Test.YtcfpjlojknahlaaAns
import Derived.Test.YtcfpjlojknahlaaZ
import Derived.Test.YtcfpjlojknahlaaV
import Derived.Deep.RegionHeld3
namespace Go.Proofs.Ytcfpjlojknahlaa
open Go.RowKit

instance : Inhabited F := ⟨⟨false, false, false, false, false, false, false, false⟩⟩

theorem RowsAt.nine {w : World} {A : Option Addr} {L : List (Int × F)} (h : RowsAt w 9 A toldCells L) (hne : L ≠ []) :
    ∃ b off, A = some ⟨b, off, none⟩ ∧ b < w.heap.size ∧ ∀ i o, L[i]? = some o →
      w.cell? ⟨b, off + i * 9, none⟩ = some (.int .i64 o.1) ∧ w.cell? ⟨b, off + i * 9 + 1, none⟩ = some (.bool o.2.stored) ∧
      w.cell? ⟨b, off + i * 9 + 2, none⟩ = some (.bool o.2.heard) ∧ w.cell? ⟨b, off + i * 9 + 3, none⟩ = some (.bool o.2.lease) ∧
      w.cell? ⟨b, off + i * 9 + 4, none⟩ = some (.bool o.2.ready) ∧ w.cell? ⟨b, off + i * 9 + 5, none⟩ = some (.bool o.2.got) ∧
      w.cell? ⟨b, off + i * 9 + 6, none⟩ = some (.bool o.2.failed) ∧ w.cell? ⟨b, off + i * 9 + 7, none⟩ = some (.bool o.2.ran) ∧
      w.cell? ⟨b, off + i * 9 + 8, none⟩ = some (.bool o.2.wrong) := by
  obtain ⟨b, off, hA, hb, hc⟩ := h hne
  refine ⟨b, off, hA, hb, fun i o hi => ?_⟩
  have hh := hc i o hi
  exact ⟨hh 0 (by omega), hh 1 (by omega), hh 2 (by omega), hh 3 (by omega), hh 4 (by omega), hh 5 (by omega), hh 6 (by omega), hh 7 (by omega), hh 8 (by omega)⟩

theorem T.fresh_inv (c u : Int) (hc : 0 ≤ c ∧ c ≤ 1000000) (hu : 0 ≤ u ∧ u ≤ 1000000) : Inv c u (T.fresh c u) 0 0 0 :=
  ⟨rfl, rfl, ok_small _ _ _ _ (by omega) _ _ _ _, fun h => (by cases h), Or.inl ⟨rfl, Or.inl rfl, by omega, by omega, fun _ => rfl⟩⟩

/-- What stands of the turn, of what was told, and of the answers. -/
structure PSt (c u : Int) (k : Nat) (now : Int) (TL : List (Int × F)) (t : T) (outs : List Int) : Prop where
  len : TL.length = k
  all : ∀ x ∈ TL, 0 ≤ x.1 ∧ x.1 ≤ 300000
  run : runAll (T.fresh c u) TL = (t, outs)
  inv : ∃ first last fs, Inv c u t first last fs
  lo : 5 ≤ now
  hi : now ≤ 5 + 1000 * k

theorem PSt.start (c u : Int) (hc : 0 ≤ c ∧ c ≤ 1000000) (hu : 0 ≤ u ∧ u ≤ 1000000) : PSt c u 0 5 [] (T.fresh c u) [] :=
  ⟨rfl, by simp, rfl, ⟨_, _, _, T.fresh_inv c u hc hu⟩, by omega, by omega⟩

/-- One more step: the answer, and that the turn is over just if it says so. -/
theorem PSt.next {c u : Int} {k : Nat} {now z : Int} {TL : List (Int × F)} {t : T} {outs : List Int} (h : PSt c u k now TL t outs) (hz : 0 ≤ z ∧ z ≤ 1000) (hk : k < 200) (f : F) :
    PSt c u (k + 1) (now + z) (TL ++ [(now + z, f)]) (stepM t (now + z) f).1 (outs ++ [(stepM t (now + z) f).2]) ∧
    ((stepM t (now + z) f).1.st = 4 ↔ ((stepM t (now + z) f).2 = 4 ∨ (stepM t (now + z) f).2 = 5)) := by
  obtain ⟨first, last, fs, hinv⟩ := h.inv
  have hb := h.lo
  have hb2 := h.hi
  have hI64 : I64 (now + z) := .mk (by omega) (by omega)
  have hW := step_why t (now + z) f last True hinv.made (fun h => by have := hinv.cases; omega) (fun _ => trivial)
  have hcp := stepM_keeps t (now + z) f
  have hok' := stepM_ok t (now + z) f hinv.ok hI64
  have hi' := hinv.next hW hcp.1 hcp.2.1 hok' rfl rfl
  refine ⟨⟨by rw [List.length_append, h.len]; rfl, fun x hx => ?_, ?_, ⟨_, _, _, hi'⟩, by omega, by omega⟩, ?_⟩
  · rcases List.mem_append.1 hx with hx | hx
    · exact h.all x hx
    · rw [List.mem_singleton] at hx
      rw [hx]
      show 0 ≤ now + z ∧ now + z ≤ 300000
      omega
  · rw [runAll_snoc, h.run]
  · have := hi'.cases
    omega

theorem Try.info32 : (Try.prog.info? 32).map (fun i => (i.zero, i.size, i.bytes)) = some (some (.agg #[.int .i64 0, .bool false, .bool false, .bool false, .bool false, .bool false, .bool false, .bool false, .bool false]), 9, 16) := by kernel_rfl

theorem told_one (x : Int × F) : ∀ v ∈ toldCells x, v.oneCell' = true := by
  intro v hv
  simp only [toldCells, F.parts, List.mem_cons, List.not_mem_nil, or_false] at hv
  rcases hv with rfl | rfl | rfl | rfl | rfl | rfl | rfl | rfl | rfl <;> rfl

end Go.Proofs.Ytcfpjlojknahlaa
