/-
  The bound of the second form of a statement: what it says of rows of bytes.
-/
import Derived.Test.YtkbhhejnhjhacaaV
import Derived.Test.YtkbhhejnhjhacaaG
namespace Go.Proofs.Ytkbhhejnhjhacaa
open Go.ChangeShapes Go.WideShapes Go.ChangeAt Go.RowKit
open Go.WideMaps Go.WideElems

theorem bulk_one {H : Type} (d : DataW H) : 1 ≤ Rows.uptoBulk d := by
  cases d with
  | lit l => cases l <;> simp [Rows.uptoBulk]
  | _ => simp [Rows.uptoBulk]
theorem bulk_len {H : Type} : ∀ ds : List (DataW H), ds.length ≤ Rows.uptoBulkAll ds
  | [] => by simp
  | d :: ds => by
    have h1 := bulk_one d
    have h2 := bulk_len ds
    simp only [Rows.uptoBulkAll, List.length_cons]; omega
theorem bulk_mem {H : Type} : ∀ (ds : List (DataW H)) (d : DataW H), d ∈ ds → Rows.uptoBulk d ≤ Rows.uptoBulkAll ds
  | [], _, h => by cases h
  | x :: ds, d, h => by
    simp only [Rows.uptoBulkAll]
    rcases List.mem_cons.1 h with rfl | h
    · omega
    · have := bulk_mem ds d h; omega
theorem bulk_bound {H : Type} {l : List (DataW H)} (hk : Rows.uptoSmall H l = true) : Rows.uptoBulkAll l ≤ 1048576 := of_decide_eq_true hk

/-- A row is no longer than its datum is great. -/
def RowBulk {H : Type} (d : DataW H) (r : Row) : Prop := 1 + r.bs.length ≤ Rows.uptoBulk d
theorem rowBulk_of {H : Type} {d : DataW H} {r : Row} (h : d = .nil ∧ r.bs = [] ∨ ∃ ds rest, d = .slice ds rest ∧ ds.length = r.bs.length) : RowBulk d r := by
  unfold RowBulk
  rcases h with ⟨rfl, h⟩ | ⟨ds, rest, rfl, h⟩
  · rw [h]; simp [Rows.uptoBulk]
  · have := bulk_len ds
    simp only [Rows.uptoBulk]; omega

theorem bulk_rows {H : Type} : ∀ (ds : List (DataW H)) (L : List Row), ds.length = L.length → (∀ (i : Nat) d r, ds[i]? = some d → L[i]? = some r → RowBulk d r) → rowsLen L ≤ Rows.uptoBulkAll ds
  | [], [], _, _ => by simp [rowsLen]
  | d :: ds, r :: L, hl, h => by
    have h1 := h 0 d r rfl rfl
    have h2 := bulk_rows ds L (by simpa using hl) (fun i d r hd hr => h (i + 1) d r (by simpa using hd) (by simpa using hr))
    unfold RowBulk at h1
    simp only [rowsLen, Rows.uptoBulkAll]; omega
  | [], _ :: _, hl, _ => by simp at hl
  | _ :: _, [], hl, _ => by simp at hl

section
variable {H : Type} {enc : TypeId × Value → H} {w : World} {base : Nat} {spare : Nat → Bool} {held : Bool}

/-- Rows of bytes that came in; how great they are. -/
theorem open_list {r : Reach} {b0 : Nat} {v : Value} {d : DataW H} {p : List MemPlace} (hv : Value.okWide Try.prog w r b0 24 v) (h : DataW.Trod enc Try.prog w base spare held 24 v d p) :
    ∃ (A : Option Addr) (L : List Row) (c : Nat), v = .slice A L.length c ∧ RowsIn w w.heap.size A L ∧ rowsLen L ≤ Rows.uptoBulk d ∧ NilOk A L.length c ∧ L.length ≤ c := by
  obtain ⟨a0, len, cap, rfl⟩ := okWide_slice Try.underlying24 hv
  obtain ⟨fuel, hf⟩ := h
  obtain ⟨A, L, c, hvs, hc, _, hok, hrow, hnil, hd⟩ := trod_rows (fun r : Row => [r.val]) (fun r => r.okAt w w.heap.size) RowBulk Try.underlying24 (k := 1) (by kernel_rfl) (by omega)
    (fun n cs x h => by
      obtain ⟨r, h1, h2, _, h3⟩ := open_row n cs x h
      exact ⟨r, h1, rowBulk_of h2, h3⟩) hf
  simp only [Value.cells, List.cons.injEq, and_true] at hvs
  refine ⟨A, L, c, hvs, ⟨RowsAt.reads1 hrow, hok⟩, ?_, hnil, hc⟩
  rcases hd with ⟨h1, h2⟩ | ⟨ds, rest, h1, h2, h3⟩
  · have h1 : d = .nil := h1
    rw [h1, h2]; simp [rowsLen]
  · have h1 : d = .slice ds rest := h1
    have := bulk_rows ds L h2 h3
    rw [h1]
    simp only [Rows.uptoBulk]; omega
end

end Go.Proofs.Ytkbhhejnhjhacaa
