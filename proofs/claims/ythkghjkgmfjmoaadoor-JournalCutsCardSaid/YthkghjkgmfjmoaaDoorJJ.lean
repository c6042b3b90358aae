/-
  A journal that is cut (plain).
-/
import Derived.Test.YthkghjkgmfjmoaaDoorJH
namespace Go.Proofs.YthkghjkgmfjmoaaDoor
open Go.RowKit

/-- How many records are whole in the first n bytes. -/
def wantN : List Prt → Nat → Nat
  | [], _ => 0
  | p :: L, n => if (formJ p.x).length ≤ n then wantN L (n - (formJ p.x).length) + 1 else 0
theorem wantN_le : ∀ (L : List Prt) (n : Nat), wantN L n ≤ L.length
  | [], _ => Nat.le_refl _
  | p :: L, n => by
    unfold wantN
    split
    · have := wantN_le L (n - (formJ p.x).length)
      rw [List.length_cons]; omega
    · exact Nat.zero_le _
theorem flatJ_cons (p : Prt) (L : List Prt) : flatJ (p :: L) = formJ p.x ++ flatJ L := rfl
theorem wantN_iff : ∀ (L : List Prt) (n i : Nat), i < L.length → ((flatJ (L.take (i + 1))).length ≤ n ↔ i < wantN L n)
  | [], _, _, h => absurd h (Nat.not_lt_zero _)
  | p :: L, n, 0, _ => by
    rw [List.take_succ_cons, List.take_zero, flatJ_cons, show flatJ [] = [] from rfl, List.append_nil]
    unfold wantN
    split <;> omega
  | p :: L, n, i + 1, h => by
    rw [List.length_cons] at h
    have ih := wantN_iff L (n - (formJ p.x).length) i (by omega)
    rw [List.take_succ_cons, flatJ_cons, List.length_append]
    unfold wantN
    split
    · constructor
      · intro h1; have := ih.1 (by omega); omega
      · intro h1; have := ih.2 (by omega); omega
    · constructor
      · intro h1; omega
      · intro h1; omega
theorem readJ_cut : ∀ (L : List Prt) (n : Nat), (∀ p ∈ L, mayJ p.x = true) → readJ ((flatJ L).take n) 0 = ((L.take (wantN L n)).map (·.x), (flatJ (L.take (wantN L n))).length)
  | [], n, _ => by
    have h : recJ ((flatJ []).take n) 0 = none := by
      rw [show flatJ [] = [] from rfl, List.take_nil]
      exact recJ_err (by decide)
    rw [readJ_none h]; rfl
  | p :: L, n, h => by
    have hm := mayJ_yes (h p (List.mem_cons_self ..))
    have ih := fun n => readJ_cut L n fun q hq => h q (List.mem_cons_of_mem _ hq)
    rw [flatJ_cons]
    unfold wantN
    by_cases hc : (formJ p.x).length ≤ n
    · rw [if_pos hc, List.take_append, List.take_of_length_le hc]
      have h1 := readJ_pre [] p.x ((flatJ L).take (n - (formJ p.x).length)) hm.1 hm.2
      rw [List.nil_append, List.nil_append, List.length_nil] at h1
      have h2 := readJ_shift (formJ p.x) ((flatJ L).take (n - (formJ p.x).length)) _ 0 (Nat.le_refl _)
      rw [Nat.add_zero] at h2
      rw [h1, h2, ih, List.take_succ_cons, flatJ_cons, List.length_append]
      rfl
    · rw [if_neg hc]
      have hn : recJ ((formJ p.x ++ flatJ L).take n) 0 = none := by
        match h' : recJ ((formJ p.x ++ flatJ L).take n) 0 with
        | none => rfl
        | some (y, q) =>
          exfalso
          have r := recJ_some h'
          have hw := r.within
          have hb := r.behind
          rw [List.length_take] at hw
          have hh := r.here
          rw [List.drop_zero] at hh
          have e : formJ p.x ++ flatJ L = formJ y ++ (((formJ p.x ++ flatJ L).take n).drop q ++ (formJ p.x ++ flatJ L).drop n) := by
            rw [← List.append_assoc, ← hh, List.take_append_drop]
          have r1 := recJ_form [] p.x (flatJ L) hm.1 hm.2
          have r2 := recJ_form [] y (((formJ p.x ++ flatJ L).take n).drop q ++ (formJ p.x ++ flatJ L).drop n) r.low r.high
          rw [List.nil_append, List.length_nil, ← e] at r2
          rw [List.nil_append, List.length_nil, r2] at r1
          injection r1 with r1
          injection r1 with _ r1
          omega
      rw [readJ_none hn]; rfl
def endsJ (L : List Prt) (i : Nat) : List Nat := (List.range i).map fun k => (flatJ (L.take (k + 1))).length
theorem endsJ_len (L : List Prt) (i : Nat) : (endsJ L i).length = i := by unfold endsJ; rw [List.length_map, List.length_range]
theorem endsJ_succ (L : List Prt) (i : Nat) : endsJ L (i + 1) = endsJ L i ++ [(flatJ (L.take (i + 1))).length] := by
  unfold endsJ
  rw [List.range_succ, List.map_append]
  rfl
theorem endsJ_at (L : List Prt) (n i : Nat) (h : i < n) : (endsJ L n)[i]? = some (flatJ (L.take (i + 1))).length := by
  unfold endsJ
  rw [List.getElem?_map, List.getElem?_range h]
  rfl
theorem cut_hi (A : Option Addr) (len cap hi : Nat) (h : hi ≤ cap) (w : World) :
    (Instr.sliceAt 22 (.slice A len cap) none (some (.int .i64 hi)) none).run Tryd.prog w = .ok (.slice A hi cap) w := by
  have u22 := Tryd.underlying22
  have z5 := Tryd.sizeOf5
  have h4 : (hi : Int) ≤ cap := by omega
  go_simp

end Go.Proofs.YthkghjkgmfjmoaaDoor
