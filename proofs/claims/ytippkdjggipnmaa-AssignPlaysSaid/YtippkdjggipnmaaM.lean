/-
  Maps keyed by two integers: an entry is laid, and tells what it told.
-/
import Derived.Test.YtippkdjggipnmaaA
namespace Go.Proofs.Ytippkdjggipnmaa
open Go.RowKit Go.Maps Go.ChangeMaps

theorem setBlock_chg {u : World} {b : Nat} {es0 : Array MapEntry} {cl0 : Nat} (hu : u.heap[b]? = some (.map es0 cl0)) (es : Array MapEntry) (cl : Nat) : Chg (some b) u (setBlock u b (.map es cl)) :=
  ⟨rfl, rfl, rfl, by simp [setBlock], fun i _ hi => heap_setBlock_other hu _ (fun e => hi (by rw [e]))⟩

/-- m[p]++: the entry is there, all is told as it was. -/
theorem MapT.entry1 {w w1 : World} {b n : Nat} {f : Int → Int → Int} {v0 : Value} (h : MapT w b n f) (hn : n < maxLen) (c k : Int) (hc : I64 c) (hk : I64 k)
    (hrun : (Instr.mapEntry 42 (.map (some b)) (.agg #[.int .i64 c, .int .i64 k])).run Try.prog w = .ok v0 w1) : MapT w1 b (n + 1) f := by
  have hlook := h.look c k hc hk
  have h0 := h
  obtain ⟨D, h, hf⟩ := h
  have hkey := key_pair c k hc hk
  have hmap := h.isMap
  obtain ⟨w', hrun', hown, _⟩ := h.update law Try.underlying42 hn hkey (plainElem_int Try.underlying3 (q := .i64) (a := 0) (by decide))
  obtain ⟨es, cl, hb, F, hs, hD⟩ := h
  rcases klaw.find w hkey es.toList F.keys with ⟨g1, g2⟩ | ⟨j, e0, g1, g2, g3⟩
  · have r1 : (Instr.mapEntry 42 (.map (some b)) (pairKey c k)).run Try.prog w = .ok (.tuple #[.int .i64 0, goInt cl]) (setBlock w b (.map (es.push ⟨pairKey c k, .int .i64 0, cl⟩) (cl + 1))) := by
      simp [Instr.mapEntry, run_underlying Try.underlying42, MapKept.run_getObj_map hb, klaw.check w false hkey, g1, MapKept.run_setObj_map _ hb, Result.andThen, setBlock]
    have r2 : (Instr.mapUpdate 42 (.map (some b)) (pairKey c k) (.int .i64 0)).run Try.prog w = .ok () (setBlock w b (.map (es.push ⟨pairKey c k, .int .i64 0, cl⟩) (cl + 1))) := by
      simp [Instr.mapUpdate, run_underlying Try.underlying42, MapKept.run_getObj_map hb, klaw.check w false hkey, g1, MapKept.run_setObj_map _ hb, Result.andThen, setBlock]
    have hf0 : f c k = 0 := by
      rcases Maps.fit_look false law Try.underlying42 (zero3 w) hb F hkey with ⟨r3, _⟩ | ⟨e0, y, q1, q2, _⟩
      · have := hlook.symm.trans r3
        simpa using this
      · exact absurd q2 (g2 e0 q1)
    have e1 : w1 = w' := by
      have a := hrun.symm.trans r1
      have b := hrun'.symm.trans r2
      simp only [Result.ok.injEq] at a b
      rw [a.2, b.2]
    rw [e1]
    refine ⟨_, hown, fun x y hx hy => ?_⟩
    by_cases hxy : x = c ∧ y = k
    · obtain ⟨rfl, rfl⟩ := hxy
      rw [atKey_put_same hmap (law.key hkey), hf0]
    · rw [atKey_put_other (fun e => hxy (pair_inj hx hy hc hk e))]
      exact hf x y hx hy
  · have hj : es[j]? = some e0 := by simpa using g2
    have hsame : es.modify j (fun e => { e with key := pairKey c k }) = es := by
      apply Array.ext'
      rw [Array.toList_modify, Go.ChangeMaps.modify_eq_set _ _ _ _ g2]
      have : ({ e0 with key := pairKey c k } : MapEntry) = e0 := by rw [← g3]
      rw [this]
      exact Go.WideElems.set_self _ _ _ g2
    have r1 : (Instr.mapEntry 42 (.map (some b)) (pairKey c k)).run Try.prog w = .ok (.tuple #[e0.val, goInt e0.born]) (setBlock w b (.map es cl)) := by
      simp [Instr.mapEntry, run_underlying Try.underlying42, MapKept.run_getObj_map hb, klaw.check w false hkey, g1, hj, g3, klaw.stays w hkey, hsame, MapKept.run_setObj_map _ hb, Result.andThen, setBlock]
    have e1 : w1 = setBlock w b (.map es cl) := by
      have a := hrun.symm.trans r1
      simp only [Result.ok.injEq] at a
      exact a.2
    rw [e1]
    exact (h0.block ((heap_setBlock_same hb _).trans hb.symm)).mono (Nat.le_succ n)

end Go.Proofs.Ytippkdjggipnmaa
