/-
  Walks over package assign: two rows of four numbers held against each other; stuck.
-/
import Derived.Test.YtippkdjggipnmaaF
namespace Go.Proofs.Ytippkdjggipnmaa
open Go.RowKit Go.Maps

theorem notNaN (a : Int) (w : World) : Calls Try.prog 48 #[.int .i64 a] w fun e w' => e = .returned (.bool false) ∧ w = w' := by
  have h : (a != a) = false := by simp
  go_enter Try.func48, Try.ntmps48
  go_wp2
  go_ret
  exact ⟨rfl, rfl⟩

def cmpI (a b : Int) : Int := if a < b then -1 else if b < a then 1 else 0

set_option maxHeartbeats 1000000 in
theorem cmp_any (a b : Int) (w : World) : Calls Try.prog 47 #[.int .i64 a, .int .i64 b] w fun e w' => e = .returned (.int .i64 (cmpI a b)) ∧ w = w' := by
  have h1 := fun W => notNaN a W
  have h2 := fun W => notNaN b W
  have H1 := Lib.hid h1
  have H2 := Lib.hid h2
  clear h1 h2
  by_cases h : a < b
  · have e : cmpI a b = -1 := by unfold cmpI; rw [if_pos h]
    rw [e]; clear e
    go_enter Try.func47, Try.ntmps47
    go_wp2_with fail
    refine (H1.out _).mono ?_
    rintro e w' ⟨rfl, rfl⟩
    go_wp2_with fail
    refine (H2.out _).mono ?_
    rintro e w' ⟨rfl, rfl⟩
    go_wp2
    go_ret
    exact ⟨rfl, rfl⟩
  · by_cases h' : b < a
    · have e : cmpI a b = 1 := by unfold cmpI; rw [if_neg h, if_pos h']
      rw [e]; clear e
      go_enter Try.func47, Try.ntmps47
      go_wp2_with fail
      refine (H1.out _).mono ?_
      rintro e w' ⟨rfl, rfl⟩
      go_wp2_with fail
      refine (H2.out _).mono ?_
      rintro e w' ⟨rfl, rfl⟩
      go_wp2
      go_ret
      exact ⟨rfl, rfl⟩
    · have e : cmpI a b = 0 := by unfold cmpI; rw [if_neg h, if_neg h']
      rw [e]; clear e
      go_enter Try.func47, Try.ntmps47
      go_wp2_with fail
      refine (H1.out _).mono ?_
      rintro e w' ⟨rfl, rfl⟩
      go_wp2_with fail
      refine (H2.out _).mono ?_
      rintro e w' ⟨rfl, rfl⟩
      go_wp2
      go_ret
      exact ⟨rfl, rfl⟩

/-- Two rows of numbers, held against each other place by place. -/
def cmpL : List Int → List Int → Int
  | a :: L, b :: M => if cmpI a b ≠ 0 then cmpI a b else cmpL L M
  | _, _ => 0

def IntsAt (w : World) (b : Nat) (L : List Int) : Prop := b < w.heap.size ∧ ∀ i a, L[i]? = some a → w.cell? ⟨b, i, none⟩ = some (.int .i64 a)

theorem cmpL_drop {A B : List Int} {k : Nat} {a b : Int} (ha : A[k]? = some a) (hb : B[k]? = some b) : cmpL (A.drop k) (B.drop k) = if cmpI a b ≠ 0 then cmpI a b else cmpL (A.drop (k + 1)) (B.drop (k + 1)) := by
  obtain ⟨h1, rfl⟩ := List.getElem?_eq_some_iff.1 ha
  obtain ⟨h2, rfl⟩ := List.getElem?_eq_some_iff.1 hb
  rw [List.drop_eq_getElem_cons h1, List.drop_eq_getElem_cons h2]
  rfl

set_option maxHeartbeats 1000000 in
theorem compare_any (x y : Nat) (A B : List Int) (c d : Nat) (w : World) (hA : IntsAt w x A) (hB : IntsAt w y B) (h4 : A.length = 4) (k4 : B.length = 4) :
    Calls Try.prog 44 #[.slice (some ⟨x, 0, none⟩) 4 c, .slice (some ⟨y, 0, none⟩) 4 d] w fun e w' => e = .returned (.int .i64 (cmpL A B)) ∧ w = w' := by
  have hc := fun a b W => cmp_any a b W
  have HC := Lib.hid hc
  have HA := Lib.hid hA.2
  have HB := Lib.hid hB.2
  have H4 := Lib.hid h4
  have K4 := Lib.hid k4
  clear hc hA hB h4 k4
  go_enter Try.func44, Try.ntmps44
  go_wp2
  go_loop [11] (fun i => ∃ k : Nat, k ≤ 4 ∧ i = .int .i64 k ∧ Hid (cmpL A B = cmpL (A.drop k) (B.drop k))) (fun i => 4 - (intOf i).toNat)
  case atStart => exact ⟨0, by omega, rfl, Lib.hid rfl⟩
  case round =>
    obtain ⟨k, hk, rfl, HR⟩ := hrel
    by_cases hlt : k < 4
    · obtain ⟨a, ha⟩ : ∃ a, A[k]? = some a := ⟨_, List.getElem?_eq_getElem (by rw [H4.out]; exact hlt)⟩
      obtain ⟨b, hb⟩ : ∃ b, B[k]? = some b := ⟨_, List.getElem?_eq_getElem (by rw [K4.out]; exact hlt)⟩
      have q1 := HA.out k a ha
      have q2 := HB.out k b hb
      have HD := Lib.hid (cmpL_drop ha hb)
      clear ha hb
      have HCW : Hid (∀ W, Calls Try.prog 47 #[.int .i64 a, .int .i64 b] W fun e w' => e = .returned (.int .i64 (cmpI a b)) ∧ W = w') := Lib.hid fun W => HC.out a b W
      by_cases h0 : cmpI a b = 0
      · have HE : Hid (cmpL A B = cmpL (A.drop (k + 1)) (B.drop (k + 1))) := Lib.hid (by rw [HR.out, HD.out, if_neg (by simp [h0])])
        rw [h0] at HCW
        clear h0
        go_wp2_with fail
        refine (HCW.out _).mono ?_
        rintro e w' ⟨rfl, rfl⟩
        go_wp2
        go_round
        case rel => exact ⟨k + 1, by omega, by go_num, HE⟩
        case measure => simp [intOf]; omega
      · have e1 : (cmpI a b != 0) = true := by simp [h0]
        have HE : Hid (cmpL A B = cmpI a b) := Lib.hid (by rw [HR.out, HD.out, if_pos h0])
        clear h0
        generalize cmpI a b = C at *
        go_wp2_with fail
        refine (HCW.out _).mono ?_
        rintro e w' ⟨rfl, rfl⟩
        go_wp2
        go_ret
        exact ⟨by rw [HE.out]; rfl, rfl⟩
    · have HE : Hid (cmpL A B = 0) := Lib.hid (by
        have hk4 : k = 4 := by omega
        rw [HR.out, hk4, List.drop_of_length_le (by rw [H4.out]; omega)]; rfl)
      go_wp2
      go_ret
      exact ⟨by rw [HE.out]; rfl, rfl⟩

set_option maxHeartbeats 400000 in
theorem stuckf_any (x : Pr) (w : World) :
    Calls Try.prog 42 #[.agg #[.int .i64 x.ak, .int .i64 x.de]] w fun e w' => e = .returned (.bool (!banB x)) ∧ Chg none w w' := by
  have h := fun W => isBanned_any x W
  have H := Lib.hid h
  clear h
  obtain ⟨a, d⟩ := x
  dsimp only at *
  go_enter Try.func42, Try.ntmps42
  go_wp2_with fail
  refine (H.out _).mono ?_
  rintro e w' ⟨rfl, rfl⟩
  go_wp2
  go_ret
  exact ⟨rfl, ((Chg.refl _ _).alloc _).alloc _⟩

def freeI (L : List Pr) : Int := match L.findIdx? (fun x => !banB x) with | some i => i | none => -1

def PeersAt (w : World) (b : Nat) (L : List Pr) : Prop := ∀ i x, L[i]? = some x → w.cell? ⟨b, i * 2, none⟩ = some (.int .i64 x.ak) ∧ w.cell? ⟨b, i * 2 + 1, none⟩ = some (.int .i64 x.de)

set_option maxHeartbeats 1000000 in
theorem index_any (b : Nat) (L : List Pr) (c : Nat) (w : World) (hL : PeersAt w b L) (h64 : L.length ≤ 64) :
    Calls Try.prog 46 #[.slice (some ⟨b, 0, none⟩) L.length c, .func (.func 42) #[] #[]] w fun e w' => e = .returned (.int .i64 (freeI L)) ∧ Chg none w w' := by
  have HL := Lib.hid hL
  clear hL
  go_enter Try.func46, Try.ntmps46
  go_wp2
  go_loopw [8] (fun i wr => ∃ k : Nat, k ≤ L.length ∧ i = .int .i64 k ∧ Hid (∀ x ∈ L.take k, banB x = true) ∧ Hid (Chg none w wr)) (fun i _ => L.length - (intOf i).toNat)
  case atStart => exact ⟨0, Nat.zero_le _, rfl, Lib.hid (by simp), Lib.hid (Chg.refl _ _)⟩
  case round =>
    obtain ⟨k, hk, rfl, HT, HG⟩ := hrel
    by_cases hlt : k < L.length
    · obtain ⟨x, hx⟩ : ∃ x, L[k]? = some x := ⟨_, List.getElem?_eq_getElem hlt⟩
      have y0 := World.grownBy.cell HG.out (HL.out k x hx).1 (by simp)
      have y1 := World.grownBy.cell HG.out (HL.out k x hx).2 (by simp)
      have HS := Lib.hid (fun W => stuckf_any x W)
      by_cases hx2 : banB x = true
      · have HT2 : Hid (∀ y ∈ L.take (k + 1), banB y = true) := by
          refine Lib.hid fun y hy => ?_
          rw [List.take_add_one, hx] at hy
          rcases List.mem_append.1 hy with hy | hy
          · exact HT.out y hy
          · simp at hy; rw [hy]; exact hx2
        rw [hx2] at HS
        clear hx hx2
        go_wp2_with fail
        refine (HS.out _).mono ?_
        rintro e w' ⟨rfl, hg⟩
        have HG2 := Lib.hid (HG.out.trans hg)
        clear hg
        go_wp2
        go_roundw
        case rel => exact ⟨k + 1, by omega, by go_num, HT2, HG2⟩
        case measure => simp [intOf]; omega
      · have hx3 : banB x = false := by simpa using hx2
        have HR : Hid (freeI L = k) := by
          refine Lib.hid ?_
          have : L.findIdx? (fun x => !banB x) = some k := by
            rw [List.findIdx?_eq_some_iff_getElem]
            refine ⟨hlt, ?_, fun j hj => ?_⟩
            · rw [List.getElem?_eq_getElem hlt] at hx
              rw [Option.some.inj hx, hx3]; rfl
            · have := HT.out (L[j]'(by omega)) (List.mem_take_iff_getElem.2 ⟨j, by omega, rfl⟩)
              simpa using this
          unfold freeI; rw [this]
        rw [hx3] at HS
        clear hx hx2 hx3
        go_wp2_with fail
        refine (HS.out _).mono ?_
        rintro e w' ⟨rfl, hg⟩
        have HG2 := Lib.hid (HG.out.trans hg)
        clear hg
        go_wp2
        go_ret
        exact ⟨by rw [HR.out]; rfl, HG2.out⟩
    · have HR : Hid (freeI L = -1) := by
        refine Lib.hid ?_
        have : L.findIdx? (fun x => !banB x) = none := by
          rw [List.findIdx?_eq_none_iff]
          intro x hx
          have := HT.out x (by rw [List.take_of_length_le (by omega)]; exact hx)
          rw [this]; rfl
        unfold freeI; rw [this]
      go_wp2
      go_ret
      exact ⟨by rw [HR.out]; rfl, HG.out⟩

set_option maxHeartbeats 1000000 in
theorem contains_any (b : Nat) (L : List Pr) (c : Nat) (w : World) (hL : PeersAt w b L) (h64 : L.length ≤ 64) :
    Calls Try.prog 41 #[.slice (some ⟨b, 0, none⟩) L.length c, .func (.func 42) #[] #[]] w fun e w' => e = .returned (.bool (L.any fun x => !banB x)) ∧ Chg none w w' := by
  have HI := Lib.hid (index_any b L c w hL h64)
  have hz : decide (0 ≤ freeI L) = (L.any fun x => !banB x) := by
    unfold freeI
    cases h : L.findIdx? (fun x => !banB x) with
    | none =>
      rw [List.findIdx?_eq_none_iff] at h
      have : (L.any fun x => !banB x) = false := by rw [List.any_eq_false]; intro x hx; rw [h x hx]; simp
      rw [this]; rfl
    | some i =>
      obtain ⟨h1, h2, _⟩ := List.findIdx?_eq_some_iff_getElem.1 h
      have : (L.any fun x => !banB x) = true := List.any_eq_true.2 ⟨_, List.getElem_mem h1, h2⟩
      rw [this]
      exact decide_eq_true (by show (0 : Int) ≤ (i : Int); omega)
  rw [← hz]
  clear hz
  generalize freeI L = F at *
  go_enter Try.func41, Try.ntmps41
  go_wp2_with fail
  refine HI.out.mono ?_
  rintro e w' ⟨rfl, hg⟩
  have HG := Lib.hid hg
  clear hg
  go_wp2
  go_ret
  exact ⟨rfl, HG.out⟩

def stuckM (p : Pl) : Bool := decide (leftM p ≠ 0) && !(p.pe.any fun x => !banB x)

set_option maxHeartbeats 1000000 in
theorem stuck_any (w : World) (q : Qb) (n : Nat) (p : Pl) (h : PlanAt w q n p) (ho : p.ok n) :
    Calls Try.prog 25 #[.pointer (some ⟨q.b, 0, none⟩)] w fun e w' => e = .returned (.bool (stuckM p)) ∧ Chg none w w' := by
  have HL := Lib.hid (left_any w q n p h ho)
  obtain ⟨c1, c2, o0, o1, o2, o3, o4, fz⟩ := h.open
  have hlp := h.lt (g := q.p) (.inr (.inr (.inl rfl)))
  have hlb := h.lt (g := q.b) (.inl rfl)
  have hP : Hid (∀ W, Chg none w W → Calls Try.prog 41 #[.slice (some ⟨q.p, 0, none⟩) p.pe.length c2, .func (.func 42) #[] #[]] W fun e w' => e = .returned (.bool (p.pe.any fun x => !banB x)) ∧ Chg none W w') :=
    Lib.hid fun W hg => contains_any q.p p.pe c2 W (fun i x hx => by
      have := (h.chg hg).peer hx
      exact ⟨this.1, this.2.1⟩) ho.np
  have hO : Hid (∀ W, Chg none w W → W.cell? ⟨q.b, 3, none⟩ = some (.slice (some ⟨q.p, 0, none⟩) p.pe.length c2)) := Lib.hid fun W hg => World.grownBy.cell hg o3 (by simp)
  unfold stuckM
  by_cases h0 : leftM p = 0
  · have e1 : (((leftM p : Nat) : Int) == 0) = true := by simp [h0]
    have hd : (decide (leftM p ≠ 0) && !(p.pe.any fun x => !banB x)) = false := by simp [h0]
    rw [hd]
    clear h0 hd h ho
    generalize leftM p = L at *
    go_enter Try.func25, Try.ntmps25
    go_wp2_with fail
    refine HL.out.mono ?_
    rintro e w' ⟨rfl, hg⟩
    have HG := Lib.hid hg
    clear hg
    go_wp2
    go_ret
    exact ⟨rfl, HG.out⟩
  · have e1 : (((leftM p : Nat) : Int) == 0) = false := by simp [h0]
    have hd : (decide (leftM p ≠ 0) && !(p.pe.any fun x => !banB x)) = !(p.pe.any fun x => !banB x) := by simp [h0]
    rw [hd]
    clear h0 hd h ho
    generalize leftM p = L at *
    generalize (p.pe.any fun x => !banB x) = Z at *
    generalize p.pe.length = M at *
    go_enter Try.func25, Try.ntmps25
    go_wp2_with fail
    refine HL.out.mono ?_
    rintro e w1 ⟨rfl, hg⟩
    have HG := Lib.hid hg
    have g3 := hO.out w1 hg
    clear hg
    go_wp2_with fail
    refine (hP.out w1 HG.out).mono ?_
    rintro e w2 ⟨rfl, hg2⟩
    have HG2 := Lib.hid (HG.out.trans hg2)
    clear hg2
    go_wp2
    go_ret
    exact ⟨rfl, HG2.out⟩

end Go.Proofs.Ytippkdjggipnmaa
