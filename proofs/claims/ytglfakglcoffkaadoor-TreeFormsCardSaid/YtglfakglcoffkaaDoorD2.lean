/-
  Bytes that stand in another block than the hasher's.
-/
import Derived.Test.YtglfakglcoffkaaDoorC2
namespace Go.Proofs.YtglfakglcoffkaaDoor
open Go.RowKit

/-- The bytes bs, as a slice of so many, in a block that is not b. -/
def Src (w : World) (b : Nat) (A : Option Addr) (bs : List UInt8) : Prop :=
  0 < bs.length → ∃ sb so, A = some ⟨sb, so, none⟩ ∧ sb ≠ b ∧ sb < w.heap.size ∧ ∀ j c, bs[j]? = some c → w.cell? ⟨sb, so + j, none⟩ = some (.int .u8 c.toNat)

section
variable {w w' : World} {b : Nat} {A : Option Addr} {bs : List UInt8}
theorem Src.chg (h : Src w b A bs) (g : Chg (some b) w w') : Src w' b A bs := fun h0 => by
  obtain ⟨sb, so, e, hne, hlt, hc⟩ := h h0
  exact ⟨sb, so, e, hne, Nat.lt_of_lt_of_le hlt g.size, fun j c hj => World.grownBy.cell g (hc j c hj) (by simpa using hne)⟩
theorem Src.cut (h : Src w b A bs) {k cap : Nat} (hk : k ≤ bs.length) (hc : bs.length ≤ cap) : Src w b (if cap = k then A else A.map (·.add k)) (bs.drop k) := fun h0 => by
  rw [List.length_drop] at h0
  obtain ⟨sb, so, rfl, hne, hlt, hcell⟩ := h (by omega)
  rw [if_neg (by omega)]
  refine ⟨sb, so + k, by rw [Option.map_some, Go.WideShapes.add_plain], hne, hlt, fun j c hj => ?_⟩
  rw [List.getElem?_drop] at hj
  have := hcell _ _ hj
  rwa [← Nat.add_assoc] at this
theorem Src.first (h : Src w b A bs) {k : Nat} (hk : 0 < k) : Src w b A (bs.take k) := fun h0 => by
  obtain ⟨sb, so, e, hne, hlt, hcell⟩ := h (by rw [List.length_take] at h0; omega)
  refine ⟨sb, so, e, hne, hlt, fun j c hj => hcell j c ?_⟩
  rw [List.getElem?_take] at hj
  split at hj
  · exact hj
  · cases hj
theorem Src.source (h : Src w b A bs) : 0 < (byteVals bs).length → ∃ ad, A = some ad ∧ ∀ j v, (byteVals bs)[j]? = some v → w.cell? (ad.add j) = some v := fun h0 => by
  obtain ⟨sb, so, e, _, _, hc⟩ := h (by rwa [byteVals_len] at h0)
  refine ⟨_, e, fun j v hj => ?_⟩
  rw [Go.WideShapes.add_plain]
  unfold byteVals at hj
  rw [List.getElem?_map, Option.map_eq_some_iff] at hj
  obtain ⟨c, h1, rfl⟩ := hj
  exact hc j c h1
end

end Go.Proofs.YtglfakglcoffkaaDoor
