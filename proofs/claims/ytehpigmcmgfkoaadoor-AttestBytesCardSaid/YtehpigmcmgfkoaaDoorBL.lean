/-
  bytes.Compare; the order of rows of bytes (plain).
-/
import Derived.Lib.BytesEntry
import Derived.Test.YtehpigmcmgfkoaaDoorA8
namespace Go.Proofs.YtehpigmcmgfkoaaDoor
open Go.RowKit

def cmpB (x y : List UInt8) : Int := Lib.compareBytes x y
theorem cmp_cons (x y : UInt8) (a b : List UInt8) : cmpB (x :: a) (y :: b) = if x < y then -1 else if y < x then 1 else cmpB a b := rfl
theorem cmp_self : ∀ x, cmpB x x = 0
  | [] => rfl
  | x :: l => by rw [cmp_cons, if_neg (UInt8.lt_irrefl x), if_neg (UInt8.lt_irrefl x)]; exact cmp_self l
theorem cmp_tot : ∀ x y, cmpB x y < 0 ∨ x = y ∨ cmpB y x < 0
  | [], [] => .inr (.inl rfl)
  | [], _ :: _ => .inl (by show (-1 : Int) < 0; decide)
  | _ :: _, [] => .inr (.inr (by show (-1 : Int) < 0; decide))
  | x :: a, y :: b => by
    rw [cmp_cons, cmp_cons]
    by_cases h1 : x < y
    · rw [if_pos h1]; exact .inl (by decide)
    · by_cases h2 : y < x
      · simp only [if_neg h1, if_pos h2]; exact .inr (.inr (by decide))
      · have e : x = y := UInt8.le_antisymm (UInt8.not_lt.1 h2) (UInt8.not_lt.1 h1)
        rw [if_neg h1, if_neg h2, if_neg h2, if_neg h1]
        rcases cmp_tot a b with h | h | h
        · exact .inl h
        · exact .inr (.inl (by rw [e, h]))
        · exact .inr (.inr h)
theorem cmp_asym : ∀ x y, cmpB x y < 0 → ¬ cmpB y x < 0
  | [], [] => fun h => absurd h (by decide)
  | [], _ :: _ => fun _ => by show ¬ (1 : Int) < 0; decide
  | _ :: _, [] => fun h => absurd h (by show ¬ (1 : Int) < 0; decide)
  | x :: a, y :: b => by
    rw [cmp_cons, cmp_cons]
    by_cases h1 : x < y
    · rw [if_pos h1, if_neg (UInt8.not_lt.2 (UInt8.le_of_lt h1)), if_pos h1]; intro _; decide
    · by_cases h2 : y < x
      · rw [if_neg h1, if_pos h2]; intro h; exact absurd h (by decide)
      · rw [if_neg h1, if_neg h2, if_neg h2, if_neg h1]; exact cmp_asym a b
theorem cmp_trans : ∀ x y z, cmpB x y < 0 → cmpB y z < 0 → cmpB x z < 0
  | [], [], _ => fun h => absurd h (by decide)
  | [], _ :: _, [] => fun _ h => absurd h (by show ¬ (1 : Int) < 0; decide)
  | [], _ :: _, _ :: _ => fun _ _ => by show (-1 : Int) < 0; decide
  | _ :: _, [], _ => fun h => absurd h (by show ¬ (1 : Int) < 0; decide)
  | _ :: _, _ :: _, [] => fun _ h => absurd h (by show ¬ (1 : Int) < 0; decide)
  | x :: a, y :: b, z :: c => by
    rw [cmp_cons, cmp_cons, cmp_cons]
    have ih := cmp_trans a b c
    by_cases h1 : x < y
    · by_cases h2 : y < z
      · intro _ _; rw [if_pos (UInt8.lt_trans h1 h2)]; decide
      · by_cases h3 : z < y
        · rw [if_neg h2, if_pos h3]; intro _ h; exact absurd h (by decide)
        · have e : y = z := UInt8.le_antisymm (UInt8.not_lt.1 h3) (UInt8.not_lt.1 h2)
          subst e
          intro _ _; rw [if_pos h1]; decide
    · by_cases h2 : y < x
      · rw [if_neg h1, if_pos h2]; intro h; exact absurd h (by decide)
      · have e : x = y := UInt8.le_antisymm (UInt8.not_lt.1 h2) (UInt8.not_lt.1 h1)
        subst e
        rw [if_neg h1, if_neg h1]
        by_cases h4 : x < z
        · intro _ _; rw [if_pos h4]; decide
        · by_cases h5 : z < x
          · rw [if_neg h4, if_pos h5]; intro _ h; exact absurd h (by decide)
          · simp only [if_neg h4, if_neg h5]; exact ih
theorem cmp_append : ∀ (x y s t : List UInt8), x.length = y.length → cmpB (x ++ s) (y ++ t) = if x = y then cmpB s t else cmpB x y
  | [], [], s, t, _ => by simp
  | [], _ :: _, _, _, h => by simp at h
  | _ :: _, [], _, _, h => by simp at h
  | x :: a, y :: b, s, t, h => by
    rw [List.cons_append, List.cons_append, cmp_cons, cmp_cons, cmp_append a b s t (by simpa using h)]
    by_cases h1 : x < y
    · rw [if_pos h1, if_pos h1, if_neg (by intro e; injection e with e _; subst e; exact UInt8.lt_irrefl _ h1)]
    · by_cases h2 : y < x
      · rw [if_neg h1, if_pos h2, if_neg h1, if_pos h2, if_neg (by intro e; injection e with e _; subst e; exact UInt8.lt_irrefl _ h2)]
      · have e : x = y := UInt8.le_antisymm (UInt8.not_lt.1 h2) (UInt8.not_lt.1 h1)
        subst e
        rw [if_neg h1, if_neg h2, if_neg h1, if_neg h2]
        by_cases e : a = b
        · rw [if_pos e, if_pos (by rw [e])]
        · rw [if_neg e, if_neg (by intro e2; injection e2 with _ e2; exact e e2)]

theorem bytes_of {P : Program} (w : World) {A : Option Addr} {n c : Nat} {bs : List UInt8} (h : Txt w A bs) (hn : n = bs.length) : (Extern.Bytes.bytesOf (.slice A n c)).run P w = .ok ⟨bs.toArray⟩ w := by
  subst hn
  rcases Nat.eq_zero_or_pos bs.length with h0 | h0
  · have : bs = [] := List.eq_nil_of_length_eq_zero h0
    subst this
    rcases A with _ | ad
    · rfl
    · simp [Extern.Bytes.bytesOf, Extern.Bytes.loadBytes]; rfl
  · obtain ⟨b, o, rfl, _, hc⟩ := h h0
    have hl := Lib.run_loadBytesX (P := P) w (bs.map fun b => (b.toNat : Int)) ⟨b, o, none⟩ .empty (fun j x hj => by
      rw [List.getElem?_map] at hj
      obtain ⟨y, h1, rfl⟩ := Option.map_eq_some_iff.1 hj
      rw [Addr.add_mid]; exact hc j y h1)
    rw [List.length_map] at hl
    show (Extern.Bytes.loadBytes ⟨b, o, none⟩ bs.length .empty).run P w = _
    rw [hl]
    congr 1
    apply ByteArray.ext
    simp [Lib.bytesOf, Function.comp_def]
theorem ext_compare {P : Program} (w : World) {A B : Option Addr} {n c m d : Nat} {x y : List UInt8} (hx : Txt w A x) (hn : n = x.length) (hy : Txt w B y) (hm : m = y.length) :
    (Extern.BytealgCompare.compare #[.slice A n c, .slice B m d]).run P w = .ok (.int .i64 (cmpB x y)) w := by
  change Sem.run P (do pure (goInt (Extern.BytealgCompare.cmp (← Extern.Bytes.bytesOf (.slice A n c)) (← Extern.Bytes.bytesOf (.slice B m d))))) w = _
  simp only [Sem.run_bind, bytes_of w hx hn, bytes_of w hy hm, Sem.run_pure, Result.andThen]
  rw [Lib.cmp_eq]
  rfl

theorem compare_any (A B : Option Addr) (n c m d : Nat) (x y : List UInt8) (w : World) (hx : Txt w A x) (hn : n = x.length) (hy : Txt w B y) (hm : m = y.length) :
    Calls Tryd.prog 48 #[.slice A n c, .slice B m d] w fun e w' => e = .returned (.int .i64 (cmpB x y)) ∧ w = w' := by
  have HX := Lib.hid (ext_compare (P := Tryd.prog) (c := c) (d := d) w hx hn hy hm)
  generalize cmpB x y = r at *
  clear hx hn hy hm
  go_enter Tryd.func48, Tryd.ntmps48
  go_wp2_with fail
  rw [run_callFunc_extern Tryd.func57 (by kernel_rfl) (by kernel_rfl) (by kernel_rfl) (e := Extern.BytealgCompare.compare) (by kernel_rfl), HX.out]
  simp only [Result.andThen]
  rw [Oper.upon_value]
  go_wp2_with fail
  go_ret
  exact ⟨rfl, rfl⟩

end Go.Proofs.YtehpigmcmgfkoaaDoor
