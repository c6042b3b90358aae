/-
  MerkleProves, plainly: which proofs are taken.
-/
import Derived.Test.YtdkgecphkppglaaDoorMC2
import Derived.Test.YtdkgecphkppglaaDoorMJ
namespace Go.Proofs.YtdkgecphkppglaaDoor
open Go.RowKit

section
variable {P : Program} {md : Region.Mode} {ops : Array Oper} {Q : Exit → Act → World → Prop} {S : World → Prop}
/-- Where orders meet again: what is left is walked once, for whatever they have in common. -/
theorem wpAnyH_meet {fuel : Nat} {listed : Array Bool} {a : Act} {w : World} (F0 : Nat) (L0 : Array Bool) (A : Act → Act → World → Prop)
    (hrest : ∀ a' w', A a a' w' → wpAnyH P md ops Q S F0 L0 a' w') (hgo : Hid (∀ a' w', A a a' w' → wpAnyH P md ops Q S F0 L0 a' w') → wpAnyH P md ops Q S fuel listed a w) : wpAnyH P md ops Q S fuel listed a w := hgo (Lib.hid hrest)
theorem wpAnyH_listed {fuel : Nat} {listed : Array Bool} {a : Act} {w : World} (L0 : Array Bool) (h : listed = L0) (h2 : wpAnyH P md ops Q S fuel L0 a w) : wpAnyH P md ops Q S fuel listed a w := by rw [h]; exact h2
end

theorem check_wrong (root : List UInt8) (n i : Nat) (x : List UInt8) (P : List Dg) (h : P.length ≠ needN (cntN n) i) : checkB root n i x P = false := by
  unfold checkB
  rw [climb_wrong _ (cntN n) i _ P (Nat.le_refl _) h]
  rfl
theorem leaves_getD (x : List UInt8) (k : Nat) (h : k < cntN x.length) : (leavesB x).getD k zeroDg = leafDg x k := by
  rw [List.getD_eq_getElem?_getD, List.getElem?_eq_getElem (by rw [leavesB_len]; exact h)]
  simp [leavesB]
theorem check_right (x : List UInt8) (k : Nat) (h : k < cntN x.length) : checkB (rootB x) x.length k (chunkB x k) (proofB (leavesB x) k) = true := by
  have h1 := climb_proof _ (leavesB x) k (Nat.le_refl _) (by rw [leavesB_len]; exact h)
  rw [leavesB_len, leaves_getD x k h] at h1
  unfold checkB
  show checkR (rootB x) x.length (climb (cntN x.length) k (leafDg x k) (proofB (leavesB x) k)) = true
  rw [h1]
  simp [checkR, rootB]
theorem proof_len (x : List UInt8) (k : Nat) : (proofB (leavesB x) k).length = needN (cntN x.length) k := by
  rw [proofB_need _ (leavesB x) k (Nat.le_refl _), leavesB_len]
theorem need_le : ∀ (m n i : Nat), n ≤ m → needN n i ≤ n
  | 0, n, i, h => by rw [need_end n i (by omega)]; omega
  | m + 1, n, i, h => by
    by_cases h1 : 1 < n
    · have h2 := need_le m ((n + 1) / 2) (i / 2) (by omega)
      by_cases ha : aloneB n i = true
      · rw [need_step n i h1, if_pos ha]; omega
      · rw [need_step n i h1, if_neg ha]
        rcases Nat.lt_or_ge n 3 with h3 | h3
        · have : n = 2 := by omega
          subst this
          have : needN ((2 + 1) / 2) (i / 2) = 0 := need_end _ _ (by decide)
          omega
        · omega
    · rw [need_end n i (by omega)]; omega

theorem dgs_of_own {w : World} {base n c : Nat} {A : Option Addr} {L : List Dg} (h : w.ownsRow base 30 32 (.slice A n c) n (flat L)) : DgsAt w w.heap.size A L ∧ n = L.length ∧ n ≤ c := by
  have hl := h.1
  rw [flat_length] at hl
  have hn : n = L.length := by omega
  rcases h.2 with ⟨h1, h2⟩ | ⟨g, cap, cur, h1, h2, h3, h4, h5, h6, h7⟩
  · exact ⟨fun h0 => by omega, hn, by omega⟩
  · injection h1 with e1 e2 e3
    refine ⟨fun _ => ⟨g, 0, e1, (Array.getElem?_eq_some_iff.1 h3).1, fun j v hv => ?_⟩, hn, by omega⟩
    have := h.cells (g := g) (by rw [e1]; rfl) j _ hv
    rwa [Go.WideShapes.add_plain] at this
theorem DgsAt.first {w : World} {B : Nat} {A : Option Addr} {L : List Dg} (h : DgsAt w B A L) (k : Nat) : DgsAt w B A (L.take k) := fun h0 => by
  obtain ⟨b, o, e, hb, hr⟩ := h (by rw [List.length_take] at h0; omega)
  refine ⟨b, o, e, hb, fun j v hv => hr j v ?_⟩
  have h1 : flat L = flat (L.take k) ++ flat (L.drop k) := by rw [← flat_append, List.take_append_drop]
  rw [h1, List.getElem?_append_left (List.getElem?_eq_some_iff.1 hv).1]
  exact hv
theorem DgsAt.more {w : World} {B B' : Nat} {A : Option Addr} {L : List Dg} (h : DgsAt w B A L) (hB : B ≤ B') : DgsAt w B' A L := fun h0 => by
  obtain ⟨b, o, e, hb, hr⟩ := h h0
  exact ⟨b, o, e, by omega, hr⟩
theorem DgsAt.reads {w : World} {B : Nat} {A : Option Addr} {L : List Dg} (h : DgsAt w B A L) : Reads w B 32 A L.length (flat L) :=
  ⟨flat_length L, fun h0 => by
    obtain ⟨b, o, e, hb, hr⟩ := h h0
    refine ⟨_, e, hb, fun j u hu => ?_⟩
    rw [Go.WideShapes.add_plain]
    exact hr j u hu⟩

theorem cut_hi22 (A : Option Addr) (n c hi : Nat) (h1 : hi ≤ c) (w : World) :
    (Instr.sliceAt 22 (.slice A n c) none (some (.int .i64 hi)) none).run Tryd.prog w = .ok (.slice A hi c) w := by
  have u22 := Tryd.underlying22
  have z5 := Tryd.sizeOf5
  have h4 : (hi : Int) ≤ c := by omega
  go_simp
  all_goals (cases A <;> simp [Addr.add])
theorem cut_hi51 (A : Option Addr) (n c hi : Nat) (h1 : hi ≤ c) (w : World) :
    (Instr.sliceAt 51 (.slice A n c) none (some (.int .i64 hi)) none).run Tryd.prog w = .ok (.slice A hi c) w := by
  have u51 := Tryd.underlying51
  have z30 : ∀ w, (sizeOf 30).run Tryd.prog w = .ok 32 w := fun _ => by kernel_rfl
  have h4 : (hi : Int) ≤ c := by omega
  go_simp
  all_goals (cases A <;> simp [Addr.add])

end Go.Proofs.YtdkgecphkppglaaDoor
