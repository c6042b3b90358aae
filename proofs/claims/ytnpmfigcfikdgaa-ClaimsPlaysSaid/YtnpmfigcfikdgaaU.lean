/-
  What was heard, heard again at once: plain; calls as they come in: opened.
-/
import Derived.Test.YtnpmfigcfikdgaaT
namespace Go.Proofs.Ytnpmfigcfikdgaa
open Go.ChangeShapes Go.WideShapes Go.ChangeAt Go.RowKit
open Go.WideMaps Go.WideElems

theorem putF_twice {ι α : Type} (f : ι → Option α) (i : ι) (o p : Option α) : putF (putF f i o) i p = putF f i p := by
  funext j
  by_cases e : j = i
  · subst e; rw [putF_same, putF_same]
  · rw [putF_other _ _ e, putF_other _ _ e, putF_other _ _ e]

theorem forgetF_twice (f : Dig × Int → Option Int) (now ttl : Int) : forgetF (forgetF f now ttl) now ttl = forgetF f now ttl := by
  funext i
  cases h : forgetF f now ttl i with
  | none => unfold forgetF at h ⊢; rw [h]
  | some x =>
    have hp : pastB now x ttl = false := by
      unfold forgetF at h
      cases hf : f i with
      | none => rw [hf] at h; cases h
      | some y =>
        rw [hf] at h
        simp only at h
        split at h
        · cases h
        · rename_i hn; cases h; simpa using hn
    show (match forgetF f now ttl i with | none => none | some x => if pastB now x ttl then none else some x) = some x
    rw [h]
    simp only
    rw [hp]
    rfl

theorem forget_put (f : Dig × Int → Option Int) (i : Dig × Int) (now ttl : Int) : putF (forgetF (putF (forgetF f now ttl) i none) now ttl) i none = putF (forgetF f now ttl) i none := by
  funext j
  by_cases e : j = i
  · subst e; rw [putF_same, putF_same]
  · rw [putF_other _ _ e, putF_other _ _ e]
    have h := congrFun (forgetF_twice f now ttl) j
    unfold forgetF at h ⊢
    rw [putF_other _ _ e]
    exact h

theorem lessB_refl (x : Int × Int) : lessB x x = false := by unfold lessB; simp

theorem old_again {B : Bk} {c : Cl} (h : B.last (c.d, c.node) = some (c.inc, c.count)) : oldB B c = !c.gone := by
  unfold oldB
  rw [h]
  simp [lessB_refl]

theorem drop_last (B : Bk) (d : Dig) : (dropM B d).1.last = B.last ∧ (dropM B d).1.id = B.id := by
  unfold dropM
  split <;> exact ⟨rfl, rfl⟩

/-- Heard again at once: the book stays; what is answered. -/
theorem hear_again (B : Bk) (c : Cl) (now : Int) : ∃ r' : Int, hearM (hearM B c now).1 c now = ((hearM B c now).1, none, r') ∧
    (((hearM B c now).2.2 = 2 ∧ r' = 2) ∨ ((hearM B c now).2.2 = 220 ∧ r' = 220) ∨ ((hearM B c now).2.2 = 0 ∧ r' = 220 ∧ c.gone = false) ∨ ((hearM B c now).2.2 = 0 ∧ r' = 0 ∧ c.gone = true)) := by
  cases hcl : claimOk B c with
  | false =>
    have e : hearM B c now = (B, none, 2) := by unfold hearM; rw [hcl]; rfl
    rw [e]
    exact ⟨2, e, .inl ⟨rfl, rfl⟩⟩
  | true =>
    cases hol : oldB B c with
    | true =>
      have e : hearM B c now = (B, none, 220) := by unfold hearM; rw [if_pos hcl, if_pos hol]
      rw [e]
      exact ⟨220, e, .inr (.inl ⟨rfl, rfl⟩)⟩
    | false =>
      have hla : (afterM B c now).last (c.d, c.node) = some (c.inc, c.count) := putF_same _ _ _
      cases hg : c.gone with
      | true =>
        have e : hearM B c now = (afterM B c now, none, 0) := by unfold hearM; rw [if_pos hcl, if_neg (by rw [hol]; simp), if_neg (by rw [hg]; simp)]
        rw [e]
        have ho : oldB (afterM B c now) c = false := by rw [old_again hla, hg]; rfl
        have hcl' : claimOk (afterM B c now) c = true := hcl
        have hsame : afterM (afterM B c now) c now = afterM B c now := by
          unfold afterM
          rw [hg]
          simp only [if_true]
          rw [putF_twice, forget_put]
        refine ⟨0, ?_, .inr (.inr (.inr ⟨rfl, rfl, rfl⟩))⟩
        unfold hearM
        rw [if_pos hcl', if_neg (by rw [ho]; simp), if_neg (by rw [hg]; simp), hsame]
      | false =>
        have key : ∀ B' : Bk, B'.last = (afterM B c now).last → B'.id = B.id → hearM B' c now = (B', none, 220) := fun B' h1 h2 => by
          have ho : oldB B' c = true := by rw [old_again (by rw [h1]; exact hla), hg]; rfl
          have hcl' : claimOk B' c = true := by unfold claimOk at hcl ⊢; rw [h2]; exact hcl
          unfold hearM
          rw [if_pos hcl', if_pos ho]
        cases hv : givesB B c now with
        | true =>
          have e : hearM B c now = ((dropM (afterM B c now) c.d).1, (dropM (afterM B c now) c.d).2, 0) := by unfold hearM; rw [if_pos hcl, if_neg (by rw [hol]; simp), if_pos ⟨hg, hv⟩]
          rw [e]
          have hd := drop_last (afterM B c now) c.d
          exact ⟨220, key _ hd.1 hd.2, .inr (.inr (.inl ⟨rfl, rfl, rfl⟩))⟩
        | false =>
          have e : hearM B c now = (afterM B c now, none, 0) := by unfold hearM; rw [if_pos hcl, if_neg (by rw [hol]; simp), if_neg (by rw [hv]; simp)]
          rw [e]
          exact ⟨220, key _ rfl rfl, .inr (.inr (.inl ⟨rfl, rfl, rfl⟩))⟩

def Opn.wide (o : Opn) : Prop := I64 o.kind ∧ I64 o.by_ ∧ o.c.wide
instance : Inhabited Opn := ⟨⟨0, 0, 0, default, by omega⟩⟩

section
variable {H : Type} {enc : TypeId × Value → H} {w : World} {base : Nat} {spare : Nat → Bool} {held : Bool}
set_option maxRecDepth 100000 in
theorem open_opn (n : Nat) (cs : List Value) (x) (h : DataW.trod enc Try.prog w base spare held n 35 cs = some x) : ∃ o : Opn, o.wide ∧ cs = o.cells := by
  obtain ⟨xs, m, _, _, hlen, hxl, hf⟩ := DataW.trod_struct Try.underlying35 h
  have h35 : Try.prog.cellsOf 35 = 39 := by kernel_rfl
  have h33 : Try.prog.cellsOf 33 = 36 := by kernel_rfl
  rw [h35] at hlen
  have hxl : xs.length = 4 := hxl
  obtain ⟨b0, e0, w0⟩ := field_int Try.underlying3 (by omega) (by kernel_rfl) (hf 0 _ rfl)
  obtain ⟨b1, e1, w1⟩ := field_int Try.underlying3 (by omega) (by kernel_rfl) (hf 1 _ rfl)
  obtain ⟨b2, e2, w2⟩ := field_int Try.underlying5 (by omega) (by kernel_rfl) (hf 2 _ rfl)
  have h3 : DataW.trod enc Try.prog w base spare held m 33 ((cs.drop 3).take (Try.prog.cellsOf 33)) = xs[3]? := hf 3 _ rfl
  rw [List.getElem?_eq_getElem (show 3 < xs.length by omega), h33] at h3
  obtain ⟨c, hc, e3⟩ := open_cl _ _ _ h3
  refine ⟨⟨b0, b1, b2, c, wf_u8 w2⟩, ⟨wf_i64 w0, wf_i64 w1, hc⟩, ?_⟩
  have a0 := one_at e0
  have a1 := one_at e1
  have a2 := one_at e2
  apply List.ext_getElem?
  intro i
  show cs[i]? = ([.int .i64 b0, .int .i64 b1, .int .u8 b2] ++ c.cells)[i]?
  match i with
  | 0 => exact (show cs[0]? = some (.int .i64 b0) from a0)
  | 1 => exact (show cs[1]? = some (.int .i64 b1) from a1)
  | 2 => exact (show cs[2]? = some (.int .u8 b2) from a2)
  | i + 3 =>
    rw [List.getElem?_append_right (by simp), ← e3]
    have : i + 3 - [Value.int .i64 b0, Value.int .i64 b1, Value.int .u8 b2].length = i := by simp
    rw [this]
    rcases Nat.lt_or_ge i 36 with hi | hi
    · rw [List.getElem?_take, if_pos hi, List.getElem?_drop, Nat.add_comm]
    · rw [List.getElem?_eq_none (by omega), List.getElem?_eq_none (by simp; omega)]
end

end Go.Proofs.Ytnpmfigcfikdgaa
