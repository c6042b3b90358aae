/-
  Records one behind the other (plain); Size.
-/
import Derived.Test.YthkghjkgmfjmoaaDoorJG
namespace Go.Proofs.YthkghjkgmfjmoaaDoor
open Go.RowKit

def flatJ (L : List Prt) : List UInt8 := L.flatMap fun p => formJ p.x
theorem flatJ_succ {L : List Prt} {k : Nat} (h : k < L.length) : flatJ (L.take (k + 1)) = flatJ (L.take k) ++ formJ (L[k]).x := by
  rw [List.take_succ_eq_append_getElem h]
  unfold flatJ
  rw [List.flatMap_append, List.flatMap_cons, List.flatMap_nil, List.append_nil]
theorem formJ_le {x : List UInt8} (h : mayJ x = true) : (formJ x).length ≤ 8017 := by
  have h := mayJ_yes h
  have h1 := formJ_len x
  have h2 := row_len x (by omega)
  omega
theorem flatJ_le : ∀ (L : List Prt), (∀ p ∈ L, mayJ p.x = true) → (flatJ L).length ≤ 8017 * L.length
  | [], _ => Nat.le_refl _
  | p :: L, h => by
    have h1 := flatJ_le L fun q hq => h q (List.mem_cons_of_mem _ hq)
    have h2 := formJ_le (h p (List.mem_cons_self ..))
    show (formJ p.x ++ flatJ L).length ≤ 8017 * (L.length + 1)
    rw [List.length_append]; omega
theorem readJ_shift (pre s : List UInt8) : ∀ (n p : Nat), s.length - p ≤ n → readJ (pre ++ s) (pre.length + p) = ((readJ s p).1, pre.length + (readJ s p).2) := by
  intro n
  induction n with
  | zero =>
    intro p hp
    have hs := recJ_shift pre s p
    match h : recJ s p with
    | none => rw [h] at hs; rw [readJ_none h, readJ_none hs]
    | some (x, q) => have := recJ_lt h; omega
  | succ n ih =>
    intro p hp
    have hs := recJ_shift pre s p
    match h : recJ s p with
    | none => rw [h] at hs; rw [readJ_none h, readJ_none hs]
    | some (x, q) =>
      have := recJ_lt h
      rw [h] at hs
      rw [readJ_some h, readJ_some hs]
      have e := ih q (by omega)
      dsimp only
      rw [e]
theorem readJ_flat : ∀ (L : List Prt) (s : List UInt8), (∀ p ∈ L, mayJ p.x = true) → readJ (flatJ L ++ s) 0 = (L.map (·.x) ++ (readJ s 0).1, (flatJ L).length + (readJ s 0).2)
  | [], s, _ => by
    show readJ ([] ++ s) 0 = ([] ++ (readJ s 0).1, 0 + (readJ s 0).2)
    rw [List.nil_append, List.nil_append, Nat.zero_add]
  | p :: L, s, h => by
    have ih := readJ_flat L s fun q hq => h q (List.mem_cons_of_mem _ hq)
    have hm := mayJ_yes (h p (List.mem_cons_self ..))
    have e : flatJ (p :: L) ++ s = formJ p.x ++ (flatJ L ++ s) := by
      show (formJ p.x ++ flatJ L) ++ s = _
      rw [List.append_assoc]
    have h1 := readJ_pre [] p.x (flatJ L ++ s) hm.1 hm.2
    rw [List.nil_append, List.nil_append, List.length_nil] at h1
    have h2 := readJ_shift (formJ p.x) (flatJ L ++ s) _ 0 (Nat.le_refl _)
    rw [Nat.add_zero] at h2
    rw [e, h1, h2, ih]
    show _ = (p.x :: L.map (·.x) ++ (readJ s 0).1, (formJ p.x ++ flatJ L).length + (readJ s 0).2)
    rw [List.length_append, Nat.add_assoc]
    rfl
theorem readJ_few (bs : List UInt8) : ∀ (n p : Nat), bs.length - p ≤ n → p ≤ bs.length → (readJ bs p).1.length ≤ bs.length - p ∧ (readJ bs p).2 ≤ bs.length := by
  intro n
  induction n with
  | zero =>
    intro p hn hp
    match h : recJ bs p with
    | none => rw [readJ_none h]; exact ⟨Nat.zero_le _, hp⟩
    | some (x, q) => have := recJ_lt h; omega
  | succ n ih =>
    intro p hn hp
    match h : recJ bs p with
    | none => rw [readJ_none h]; exact ⟨Nat.zero_le _, hp⟩
    | some (x, q) =>
      have := recJ_lt h
      rw [readJ_some h]
      have := ih q (by omega) (by omega)
      dsimp only
      rw [List.length_cons]
      omega
theorem list_at {W : World} {B c : Nat} {A : Option Addr} {xs : List RecE} {i : Nat} {r : RecE} (h : W.ownsRow B 22 1 (.slice A xs.length c) xs.length (xs.map RecE.val)) (hi : xs[i]? = some r) :
    ∃ g, A = some ⟨g, 0, none⟩ ∧ W.cell? ⟨g, i, none⟩ = some r.val := by
  have hlt := (List.getElem?_eq_some_iff.1 hi).1
  rcases h.2 with ⟨_, h0⟩ | ⟨g, cap, cur, e, _⟩
  · omega
  · injection e with e1 _ _
    refine ⟨g, e1, ?_⟩
    have := h.cells (g := g) (by rw [e1]; rfl) i r.val (by rw [List.getElem?_map, hi]; rfl)
    rwa [Go.WideShapes.add_plain, Nat.zero_add] at this

set_option maxHeartbeats 4000000 in
theorem size_any (A : Option Addr) (L : List Prt) (c : Nat) (w : World) (hL : PartsAt w A L) (hl : L.length ≤ 9223372036854775806) :
    Calls Tryd.prog 23 #[.slice A L.length c] w fun e w' => ∃ z : Int, e = .returned (.int .i64 z) ∧ w' = w := by
  have HL := Lib.hid hL
  clear hL
  go_enter Tryd.func23, Tryd.ntmps23
  go_wp2_with fail
  go_loopw [3, 4] (fun s3 s4 wr => ∃ (z : Int) (i : Nat), i ≤ L.length ∧ s3 = .int .i64 z ∧ s4 = .int .i64 i ∧ wr = w) (fun _ s4 _ => L.length - (intOf s4).toNat)
  case atStart => exact ⟨0, 0, Nat.zero_le _, rfl, rfl, rfl⟩
  case round =>
    obtain ⟨z, i, hi, rfl, rfl, rfl⟩ := hrel
    by_cases hlt : i < L.length
    · obtain ⟨b, off, rfl, _, hcell⟩ := HL.out.at_ (by omega)
      have hc := hcell i (L[i]) (List.getElem?_eq_getElem hlt)
      have hd : decide ((i : Int) < (L.length : Int)) = true := by rw [decide_eq_true_eq]; omega
      unfold Prt.val at hc
      generalize L[i] = p at *
      clear hcell HL
      go_wp2_with fail
      go_roundw
      case rel => exact ⟨_, i + 1, by omega, rfl, by go_num, trivial⟩
      case measure => simp [intOf]; omega
    · have hd : decide ((i : Int) < (L.length : Int)) = false := by rw [decide_eq_false_iff_not]; omega
      clear HL
      go_wp2_with fail
      go_ret
      exact ⟨z, rfl, rfl⟩

end Go.Proofs.YthkghjkgmfjmoaaDoor
