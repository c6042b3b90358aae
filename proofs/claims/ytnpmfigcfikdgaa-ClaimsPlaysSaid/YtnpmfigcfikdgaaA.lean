/-
  Maps keyed by digests, and by a digest and a number: what stands in one.
-/
import Derived.Test.YtnpmfigcfikdgaaK
import Derived.Maps.OwnSet
import Derived.Maps.OwnOps
import Derived.Maps.RangeWalk
import Derived.DeepKeys4
namespace Go.Proofs.Ytnpmfigcfikdgaa
open Go.RowKit Go.Maps

def I64 (n : Int) : Prop := -9223372036854775808 ≤ n ∧ n ≤ 9223372036854775807
theorem I64.wf {n : Int} (h : I64 n) : (Lit.int .i64 n).wf = true := by
  obtain ⟨h1, h2⟩ := h
  simp [Lit.wf, IntKind.min, IntKind.max, IntKind.signed, IntKind.bits]; omega
def U64 (n : Int) : Prop := 0 ≤ n ∧ n ≤ 18446744073709551615
theorem U64.wf {n : Int} (h : U64 n) : (Lit.int .u64 n).wf = true := by
  obtain ⟨h1, h2⟩ := h
  simp [Lit.wf, IntKind.min, IntKind.max, IntKind.signed, IntKind.bits]; omega

/-- A digest: 32 bytes. -/
structure Dig where
  bs : List Int
  len : bs.length = 32
  byt : ∀ b ∈ bs, 0 ≤ b ∧ b ≤ 255
theorem Dig.ext' {a b : Dig} (h : a.bs = b.bs) : a = b := by cases a; cases b; cases h; rfl
noncomputable instance : DecidableEq Dig := fun _ _ => Classical.propDecidable _
def Dig.cells (d : Dig) : List Value := d.bs.map (fun b => .int .u8 b)
theorem Dig.cells_len (d : Dig) : d.cells.length = 32 := by unfold Dig.cells; rw [List.length_map, d.len]
def Dig.val (d : Dig) : Value := .agg d.cells.toArray
def plCells (d : Dig) (n : Int) : List Value := d.cells ++ [.int .i64 n]
def plVal (d : Dig) (n : Int) : Value := .agg (plCells d n).toArray

theorem byte_wf {b : Int} (h : 0 ≤ b ∧ b ≤ 255) : (Lit.int .u8 b).wf = true := by
  simp [Lit.wf, IntKind.min, IntKind.max, IntKind.signed, IntKind.bits]; omega

theorem Dig.cell (d : Dig) (i : Nat) (h : i < 32) : ∃ b, 0 ≤ b ∧ b ≤ 255 ∧ d.cells[i]? = some (.int .u8 b) := by
  have hl : i < d.bs.length := by rw [d.len]; exact h
  have hb := d.byt _ (List.getElem_mem hl)
  exact ⟨d.bs[i], hb.1, hb.2, by unfold Dig.cells; rw [List.getElem?_map, List.getElem?_eq_getElem hl]; rfl⟩

theorem Try.laidOut : laidOutB Try.prog = true := by kernel_rfl
theorem row31 : (31 : TypeId) < Try.prog.types.size := of_decide_eq_true (by kernel_rfl)
theorem row71 : (71 : TypeId) < Try.prog.types.size := of_decide_eq_true (by kernel_rfl)
theorem wide31 : (match Try.prog.underlying 31 with | some (.array _ _) | some (.struct _) => true | _ => false) = true := by kernel_rfl
theorem wide71 : (match Try.prog.underlying 71 with | some (.array _ _) | some (.struct _) => true | _ => false) = true := by kernel_rfl
theorem law31 : Keyed Try.prog 31 := Keyed.of_law (deep_law_laid Try.laidOut (m := 3) (by omega) row31 (by kernel_rfl) wide31)
theorem law71 : Keyed Try.prog 71 := Keyed.of_law (deep_law_laid Try.laidOut (m := 4) (by omega) row71 (by kernel_rfl) wide71)
theorem key31 : Try.prog.keyType 31 = true := by kernel_rfl
theorem key71 : Try.prog.keyType 71 = true := by kernel_rfl

theorem mapM_some {α β : Type} {f : α → Option β} : ∀ l : List α, (∀ x ∈ l, ∃ y, f x = some y) → ∃ ys, l.mapM f = some ys
  | [], _ => ⟨[], rfl⟩
  | x :: l, h => by
    obtain ⟨y, hy⟩ := h x (by simp)
    obtain ⟨ys, hys⟩ := mapM_some l (fun z hz => h z (by simp [hz]))
    exact ⟨y :: ys, by rw [List.mapM_cons, hy, hys]; rfl⟩

theorem take_one {L : List Value} {i : Nat} {v : Value} (h : L[i]? = some v) : (L.drop i).take 1 = [v] := by
  obtain ⟨hl, rfl⟩ := List.getElem?_eq_some_iff.1 h
  rw [List.drop_eq_getElem_cons hl]; rfl

theorem lits31 (m : Nat) (d : Dig) : ∃ ls, Try.prog.keyLits (m + 2) 31 d.cells = some ls := by
  have hc : Try.prog.cellsOf 31 = 32 := by kernel_rfl
  have hc5 : Try.prog.cellsOf 5 = 1 := by kernel_rfl
  unfold Program.keyLits
  simp only [Try.underlying31]
  rw [if_pos (by rw [hc, d.cells_len])]
  obtain ⟨ys, hys⟩ := mapM_some (f := fun i => Try.prog.keyLits (m + 1) 5 ((d.cells.drop (i * Try.prog.cellsOf 5)).take (Try.prog.cellsOf 5))) (List.range 32) (fun i hi => by
    obtain ⟨b, b0, b1, hb⟩ := d.cell i (by simpa using hi)
    rw [hc5, Nat.mul_one, take_one hb]
    have wb := byte_wf ⟨b0, b1⟩
    exact ⟨[.int .u8 b], by simp [Program.keyLits, Try.underlying5, wb]⟩)
  rw [hys]
  exact ⟨_, rfl⟩

theorem key_dig (d : Dig) : ∃ l, keyOf Try.prog 31 d.val = some l := by
  have hc : Try.prog.cellsOf 31 = 32 := by kernel_rfl
  obtain ⟨m, hs⟩ : ∃ m, Try.prog.types.size = m + 1 := ⟨_, (Nat.succ_pred_eq_of_pos (Nat.lt_of_le_of_lt (Nat.zero_le 31) row31)).symm⟩
  have hk := key31
  unfold keyOf Dig.val
  simp only [Try.underlying31]
  rw [if_pos (by simp [hk, Value.formed, Try.underlying31, hc, d.cells_len]), hs]
  obtain ⟨ls, hl⟩ := lits31 m d
  show ∃ l, Option.map _ (Try.prog.keyLits (m + 2) 31 (d.cells.toArray).toList) = some l
  rw [show (d.cells.toArray).toList = d.cells from rfl, hl]
  exact ⟨_, rfl⟩

theorem key_place (d : Dig) (n : Int) (hn : I64 n) : ∃ l, keyOf Try.prog 71 (plVal d n) = some l := by
  have hc : Try.prog.cellsOf 71 = 33 := by kernel_rfl
  have hc31 : Try.prog.cellsOf 31 = 32 := by kernel_rfl
  have hc3 : Try.prog.cellsOf 3 = 1 := by kernel_rfl
  have hl33 : (plCells d n).length = 33 := by unfold plCells; rw [List.length_append, d.cells_len]; rfl
  obtain ⟨m, hs⟩ : ∃ m, Try.prog.types.size = m + 2 := ⟨Try.prog.types.size - 2, by
    have := Nat.lt_of_le_of_lt (Nat.le_refl 71) row71
    exact (Nat.sub_add_cancel (Nat.le_trans (by decide) (Nat.le_of_lt this))).symm⟩
  have hk := key71
  have wn := hn.wf
  unfold keyOf plVal
  simp only [Try.underlying71]
  rw [if_pos (by simp [hk, Value.formed, Try.underlying71, hc, hl33]), hs]
  obtain ⟨ls, hl⟩ := lits31 m d
  show ∃ l, Option.map _ (Try.prog.keyLits (m + 3) 71 ((plCells d n).toArray).toList) = some l
  rw [show ((plCells d n).toArray).toList = plCells d n from rfl]
  unfold Program.keyLits
  simp only [Try.underlying71]
  rw [if_pos (by rw [hc, hl33]; exact ⟨rfl, by simp⟩)]
  have e1 : ((plCells d n).drop 0).take 32 = d.cells := by
    unfold plCells; rw [List.drop_zero, List.take_append_of_le_length (by rw [d.cells_len]; omega), List.take_of_length_le (by rw [d.cells_len]; omega)]
  have e2 : ((plCells d n).drop 32).take 1 = [.int .i64 n] := by
    unfold plCells; rw [List.drop_left' d.cells_len]; rfl
  have h1 : Try.prog.keyLits (m + 2) 31 (((plCells d n).drop 0).take (Try.prog.cellsOf 31)) = some ls := by rw [hc31, e1]; exact hl
  have h2 : Try.prog.keyLits (m + 2) 3 (((plCells d n).drop 32).take (Try.prog.cellsOf 3)) = some [.int .i64 n] := by
    rw [hc3, e2]; simp [Program.keyLits, Try.underlying3, wn]
  show ∃ l, Option.map _ (Option.map _ (List.mapM _ [_, _])) = some l
  rw [List.mapM_cons, List.mapM_cons, List.mapM_nil, h1, h2]
  exact ⟨_, rfl⟩

noncomputable def klD (d : Dig) : Lit := (keyOf Try.prog 31 d.val).getD (.bool false)
noncomputable def klP (d : Dig) (n : Int) : Lit := (keyOf Try.prog 71 (plVal d n)).getD (.bool false)
theorem klD_eq (d : Dig) : keyOf Try.prog 31 d.val = some (klD d) := by
  obtain ⟨l, hl⟩ := key_dig d
  unfold klD; rw [hl]; rfl
theorem klP_eq (d : Dig) (n : Int) (hn : I64 n) : keyOf Try.prog 71 (plVal d n) = some (klP d n) := by
  obtain ⟨l, hl⟩ := key_place d n hn
  unfold klP; rw [hl]; rfl

theorem cells_inj {a b : Dig} (h : a.cells = b.cells) : a = b := by
  apply Dig.ext'
  unfold Dig.cells at h
  exact (List.map_inj_right (fun x y e => by injection e)).1 h
theorem klD_inj {a b : Dig} (h : klD a = klD b) : a = b := by
  have := law31.inj (klD_eq a) (h ▸ klD_eq b)
  unfold Dig.val at this
  injection this with h1
  exact cells_inj (List.toArray_inj h1)
theorem klP_inj {a b : Dig} {m n : Int} (hm : I64 m) (hn : I64 n) (h : klP a m = klP b n) : a = b ∧ m = n := by
  have := law71.inj (klP_eq a m hm) (h ▸ klP_eq b n hn)
  unfold plVal at this
  injection this with h1
  have h2 : plCells a m = plCells b n := List.toArray_inj h1
  unfold plCells at h2
  obtain ⟨h3, h4⟩ := List.append_inj h2 (by rw [a.cells_len, b.cells_len])
  exact ⟨cells_inj h3, by simpa using h4⟩

/-! ### what a datum tells of a key -/

def Told {α : Type} (enc : α → DataW Unit) (D : DataW Unit) (kl : Lit) : Option α → Prop
  | none => Maps.has D kl = false
  | some x => ∀ z, D.atKey kl z = enc x

theorem Told.put {α : Type} {enc : α → DataW Unit} {D : DataW Unit} {kl : Lit} (hD : IsMap D) (hk : WideAt.IsKeyLit kl) (x : α) : Told enc (D.put kl (enc x)) kl (some x) :=
  fun z => atKey_put_same hD hk _ z
theorem Told.other {α : Type} {enc : α → DataW Unit} {D : DataW Unit} {kl kl' : Lit} {o : Option α} (h : Told enc D kl' o) (hne : kl' ≠ kl) (d : DataW Unit) : Told enc (D.put kl d) kl' o := by
  cases o with
  | none => exact (has_put_other hne d).trans h
  | some x => exact fun z => (atKey_put_other hne d z).trans (h z)
theorem Told.del {α : Type} {enc : α → DataW Unit} {D : DataW Unit} {kl : Lit} : Told enc (D.del kl) kl none := has_del_same
theorem Told.delOther {α : Type} {enc : α → DataW Unit} {D : DataW Unit} {kl kl' : Lit} {o : Option α} (h : Told enc D kl' o) (hne : kl' ≠ kl) : Told enc (D.del kl) kl' o := by
  cases o with
  | none => exact (has_del_other hne).trans h
  | some x => exact fun z => (atKey_del_other hne z).trans (h z)

/-- A struct of two numbers, read. -/
def pairR (q r : IntKind) (v : Value) : Option (DataW Unit × List MemPlace) :=
  match v with
  | .agg xs => match xs.toList with
    | [.int q' a, .int r' b] => if q' = q ∧ r' = r then some (.agg [.lit (.int q a), .lit (.int r b)], []) else none
    | _ => none
  | _ => none
def pairE (q r : IntKind) (x : Int × Int) : DataW Unit := .agg [.lit (.int q x.1), .lit (.int r x.2)]
def pairV (q r : IntKind) (x : Int × Int) : Value := .agg #[.int q x.1, .int r x.2]
theorem pairR_mk (q r : IntKind) (x : Int × Int) : pairR q r (pairV q r x) = some (pairE q r x, []) := by simp [pairR, pairV, pairE]
theorem pairR_inv {q r : IntKind} {v : Value} {z : DataW Unit × List MemPlace} (h : pairR q r v = some z) : ∃ x, v = pairV q r x ∧ z = (pairE q r x, []) := by
  unfold pairR at h
  split at h
  · rename_i xs
    split at h
    · rename_i q' a r' b hx
      split at h
      · rename_i he
        obtain ⟨rfl, rfl⟩ := he
        refine ⟨(a, b), ?_, by simpa [pairE] using h.symm⟩
        unfold pairV
        congr 1
        exact Array.toList_inj.1 hx
      · cases h
    · cases h
  · cases h
def intE (q : IntKind) (x : Int) : DataW Unit := .lit (.int q x)
theorem pairE_inj {q r : IntKind} {x y : Int × Int} (h : pairE q r x = pairE q r y) : x = y := by
  unfold pairE at h
  simp at h
  exact Prod.ext h.1 h.2
theorem intE_inj {q : IntKind} {x y : Int} (h : intE q x = intE q y) : x = y := by
  unfold intE at h
  simpa using h

def optV {α : Type} (z : Value) (mk : α → Value) : Option α → Value | none => z | some x => mk x

/-- m[k] with ok, in either case. -/
theorem look_told {α : Type} {enc : α → DataW Unit} {k t e : TypeId} {R : Value → Option (DataW Unit × List MemPlace)} {w : World} {b n : Nat} {D : DataW Unit} {key z : Value} {kl : Lit} {mk : α → Value} {o : Option α}
    (K : Keyed Try.prog k) (ht : Try.prog.underlying t = some (.map k e)) (hz : (zeroValue e).run Try.prog w = .ok z w) (h : w.ownsMap Try.prog k R b n D) (hkey : keyOf Try.prog k key = some kl)
    (inv : ∀ v y, R v = some y → ∃ x, v = mk x ∧ y = (enc x, [])) (inj : ∀ x y, enc x = enc y → x = y) (ho : Told enc D kl o) :
    (Instr.lookup t (.map (some b)) key true).run Try.prog w = .ok (.tuple #[optV z mk o, .bool o.isSome]) w := by
  obtain ⟨es, clock, hb, F, _, rfl⟩ := h
  rcases Maps.fit_look true K ht hz hb F hkey with ⟨hrun, _, hat⟩ | ⟨e0, y, _, _, hrun, hR, hat, _⟩
  · cases o with
    | none => exact hrun
    | some x =>
      have h1 := (ho .nil).symm.trans (hat .nil)
      have h2 := (ho (.ptr .nil)).symm.trans (hat (.ptr .nil))
      exact absurd (h1.symm.trans h2) (by simp)
  · obtain ⟨x, hx, rfl⟩ := inv _ _ hR
    cases o with
    | none =>
      have h1 := (atKey_of_not_has ho .nil).symm.trans (hat .nil)
      have h2 := (atKey_of_not_has ho (.ptr .nil)).symm.trans (hat (.ptr .nil))
      exact absurd (h1.trans h2.symm) (by simp)
    | some x' =>
      have h1 := (ho .nil).symm.trans (hat .nil)
      have := inj _ _ h1
      subst this
      rw [hx] at hrun
      exact hrun

end Go.Proofs.Ytnpmfigcfikdgaa
