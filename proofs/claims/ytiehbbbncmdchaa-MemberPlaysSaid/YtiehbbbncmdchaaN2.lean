/-
  Three rounds of telling: what stands then. Plain facts.
-/
import Derived.Test.YtiehbbbncmdchaaN
namespace Go.Proofs.Ytiehbbbncmdchaa

def wanted (x y : U) : U := if greater y x then y else x

theorem join_self (x : U) : joinU x x = x := by unfold joinU; split <;> rfl

theorem greater_flip {u v : U} (h : greater u v = true) : greater v u = false := by
  unfold greater at *
  rw [decide_eq_true_eq] at h
  rw [decide_eq_false_iff_not]
  omega

theorem join_third {c i : Nat} {x y : U} (hx : Fit c i x) (hy : Fit c i y) : joinU x y = wanted x y ∧ joinU (wanted x y) x = wanted x y := by
  unfold wanted
  cases h1 : greater y x with
  | true =>
    have h2 := greater_flip h1
    unfold joinU
    rw [h2]
    simp [h1]
  | false =>
    cases h2 : greater x y with
    | true => unfold joinU; simp [h2]
    | false =>
      obtain rfl := greater_neither hx hy h2 h1
      unfold joinU; simp

theorem wanted_fit {c i : Nat} {x y : U} (hx : Fit c i x) (hy : Fit c i y) : Fit c i (wanted x y) := by unfold wanted; split <;> assumption
theorem join_fit {c i : Nat} {x y : U} (hx : Fit c i x) (hy : Fit c i y) : Fit c i (joinU x y) := by unfold joinU; split <;> assumption
theorem ans_fit {c i : Nat} {x y : U} (hx : Fit c i x) (hy : Fit c i y) : Fit c i { x with inc := answered x.inc y } := by
  refine ⟨hx.node, hx.st, ?_, hx.lt⟩
  have := hx.inc
  have := hy.inc
  dsimp only
  rw [answered_eq _ _ hx.inc.2]
  split <;> omega

/-- The three rounds at one member, by what each does there. -/
def three (f g : U → U → U) (x y : U) : U × U :=
  let b1 := g x y
  let a1 := f b1 x
  let b2 := g a1 b1
  let a2 := f b2 a1
  let b3 := g a2 b2
  (f b3 a2, b3)

def ans (u x : U) : U := { x with inc := answered x.inc u }

theorem three_third {c i : Nat} {x y : U} (hx : Fit c i x) (hy : Fit c i y) : three joinU joinU x y = (wanted x y, wanted x y) := by
  obtain ⟨h1, h2⟩ := join_third hx hy
  unfold three
  simp only [h1, h2, join_self]

theorem join_cases (u x : U) : (joinU u x = u ∧ (x.inc < u.inc ∨ (u.inc = x.inc ∧ x.st < u.st))) ∨ (joinU u x = x ∧ ¬ (x.inc < u.inc ∨ (u.inc = x.inc ∧ x.st < u.st))) := by
  unfold joinU greater
  split
  · rename_i h; rw [decide_eq_true_eq] at h; exact Or.inl ⟨rfl, h⟩
  · rename_i h; rw [decide_eq_true_eq] at h; exact Or.inr ⟨rfl, h⟩

theorem ans_inc (u x : U) (hx : x.inc ≤ 1099511627776) : (u.st = 1 ∧ (ans u x).inc = max x.inc u.inc) ∨ (u.st ≠ 1 ∧ (ans u x).inc = max x.inc (min (u.inc + 1) 1099511627776)) := by
  show (_ ∧ answered x.inc u = _) ∨ (_ ∧ answered x.inc u = _)
  rw [answered_eq _ _ hx]
  by_cases h : u.st = 1
  · rw [if_pos h]; exact Or.inl ⟨h, rfl⟩
  · rw [if_neg h]; exact Or.inr ⟨h, rfl⟩

theorem ans_st (u x : U) : (ans u x).st = x.st := rfl

/-- The owner's word a, and the other's view b: as good as the same. -/
def Agreed (a b : U) : Prop := (a.inc = b.inc ∧ b.st = 1) ∨ 1099511627776 ≤ a.inc
def Nearly (a b : U) : Prop := Agreed a b ∨ b.inc < a.inc

theorem round_first {x y : U} (hx : x.inc ≤ 1099511627776) (hy : y.inc ≤ 1099511627776) (h1 : x.st = 1) (hs : 1 ≤ y.st) : Nearly (ans (joinU x y) x) (joinU x y) := by
  have k := ans_inc (joinU x y) x hx
  unfold Nearly Agreed
  rcases join_cases x y with ⟨e, h⟩ | ⟨e, h⟩ <;> rw [e] at k ⊢ <;> generalize ans _ x = z at * <;> omega

theorem round_next {x y : U} (hx : x.inc ≤ 1099511627776) (h1 : x.st = 1) (h : Nearly x y) : Agreed (ans (joinU x y) x) (joinU x y) := by
  have k := ans_inc (joinU x y) x hx
  unfold Nearly Agreed at *
  rcases join_cases x y with ⟨e, h'⟩ | ⟨e, h'⟩ <;> rw [e] at k ⊢ <;> generalize ans _ x = z at * <;> omega

/-- One's own member: what it answers goes out, unless the last incarnation is come. -/
theorem three_a {c i : Nat} {x y : U} (hx : Fit c i x) (hy : Fit c i y) (h1 : x.st = 1) (hi : (three ans joinU x y).1.inc < 1099511627776) :
    (three ans joinU x y).1 = (three ans joinU x y).2 ∧ (three ans joinU x y).1.st = 1 := by
  unfold three at *
  dsimp only at *
  have f1 : Fit c i (joinU x y) := join_fit hx hy
  have f2 : Fit c i (ans (joinU x y) x) := ans_fit hx f1
  have n1 := round_first hx.inc.2 hy.inc.2 h1 hy.st.1
  have s1 : (ans (joinU x y) x).st = 1 := h1
  generalize ans (joinU x y) x = a1 at *
  generalize joinU x y = b1 at *
  have f3 : Fit c i (joinU a1 b1) := join_fit f2 f1
  have f4 : Fit c i (ans (joinU a1 b1) a1) := ans_fit f2 f3
  have n2 := round_next f2.inc.2 s1 n1
  have s2 : (ans (joinU a1 b1) a1).st = 1 := s1
  generalize ans (joinU a1 b1) a1 = a2 at *
  generalize joinU a1 b1 = b2 at *
  have f5 : Fit c i (joinU a2 b2) := join_fit f4 f3
  have f6 : Fit c i (ans (joinU a2 b2) a2) := ans_fit f4 f5
  have n3 := round_next f4.inc.2 s2 (Or.inl n2)
  have s3 : (ans (joinU a2 b2) a2).st = 1 := s2
  generalize ans (joinU a2 b2) a2 = a3 at *
  generalize joinU a2 b2 = b3 at *
  rcases n3 with n3 | n3
  · exact ⟨U.ext_ (by rw [f6.node, f5.node]) (by rw [s3, n3.2]) n3.1, s3⟩
  · omega

theorem other_first {x y : U} (hy : y.inc ≤ 1099511627776) (h1 : y.st = 1) (hs : 1 ≤ x.st) : Agreed (joinU (ans x y) x) (joinU (ans x y) x) ∧ (Agreed (joinU (ans x y) x) (ans x y)) := by
  have k := ans_inc x y hy
  have s : (ans x y).st = 1 := h1
  unfold Agreed
  generalize ans x y = z at *
  rcases join_cases z x with ⟨e, h⟩ | ⟨e, h⟩ <;> rw [e] <;> omega

/-- The other's own member. -/
theorem three_b {c i : Nat} {x y : U} (hx : Fit c i x) (hy : Fit c i y) (h1 : y.st = 1) (hi : (three joinU ans x y).1.inc < 1099511627776) :
    (three joinU ans x y).1 = (three joinU ans x y).2 ∧ (three joinU ans x y).1.st = 1 := by
  unfold three at *
  dsimp only at *
  have f1 : Fit c i (ans x y) := ans_fit hy hx
  have s1 : (ans x y).st = 1 := h1
  generalize ans x y = b1 at *
  have f2 : Fit c i (joinU b1 x) := join_fit f1 hx
  generalize joinU b1 x = a1 at *
  have f3 : Fit c i (ans a1 b1) := ans_fit f1 f2
  have s2 : (ans a1 b1).st = 1 := s1
  generalize ans a1 b1 = b2 at *
  have f4 : Fit c i (joinU b2 a1) := join_fit f3 f2
  generalize joinU b2 a1 = a2 at *
  have f5 : Fit c i (ans a2 b2) := ans_fit f3 f4
  have s3 : (ans a2 b2).st = 1 := s2
  have n3 := other_first f3.inc.2 s2 f4.st.1
  have f6 : Fit c i (joinU (ans a2 b2) a2) := join_fit f5 f4
  generalize ans a2 b2 = b3 at *
  generalize joinU b3 a2 = a3 at *
  obtain ⟨n3, n4⟩ := n3
  rcases n3 with n3 | n3
  · rcases n4 with n4 | n4
    · exact ⟨U.ext_ (by rw [f6.node, f5.node]) (by rw [s3, n3.2]) n4.1, n3.2⟩
    · omega
  · omega

/-- Both, behind n rounds: (a, b). -/
def talk (p : M × M) : M × M := (told (told p.1 p.2) p.1, told p.1 p.2)

structure Pair (c : Nat) (p : M × M) : Prop where
  oka : p.1.ok
  okb : p.2.ok
  selfa : p.1.self = 0
  selfb : p.2.self = 1
  counta : p.1.count = c
  countb : p.2.count = c
  alivea : p.1.alive
  aliveb : p.2.alive

theorem Pair.talk {c : Nat} {p : M × M} (h : Pair c p) : Pair c (talk p) where
  oka := told_ok _ _ (told_ok _ _ h.oka h.okb) h.oka
  okb := told_ok _ _ h.oka h.okb
  selfa := (told_self _ _).trans h.selfa
  selfb := (told_self _ _).trans h.selfb
  counta := (told_count _ _).trans h.counta
  countb := (told_count _ _).trans h.countb
  alivea := told_alive _ _ h.alivea
  aliveb := told_alive _ _ h.aliveb

theorem Pair.get {c : Nat} {p : M × M} (h : Pair c p) {i : Nat} (hi : i < c) {x y : U} (hx : p.1.stand[i]? = some x) (hy : p.2.stand[i]? = some y) :
    (Proofs.Ytiehbbbncmdchaa.talk p).1.stand[i]? = some (at_ 0 c i (at_ 1 c i x y) x) ∧ (Proofs.Ytiehbbbncmdchaa.talk p).2.stand[i]? = some (at_ 1 c i x y) := by
  have hb := told_get p.1 p.2 h.oka (by rw [h.counta, h.countb]) i (by rw [h.countb]; exact hi) x y hx hy
  rw [h.selfb, h.countb] at hb
  have ha := told_get (told p.1 p.2) p.1 (told_ok _ _ h.oka h.okb) (by rw [told_count, h.counta, h.countb]) i (by rw [h.counta]; exact hi) _ _ hb hx
  rw [h.selfa, h.counta] at ha
  exact ⟨ha, hb⟩

theorem three_get {c : Nat} {p : M × M} (h : Pair c p) {i : Nat} (hi : i < c) {x y : U} (hx : p.1.stand[i]? = some x) (hy : p.2.stand[i]? = some y) :
    (talk (talk (talk p))).1.stand[i]? = some (three (at_ 0 c i) (at_ 1 c i) x y).1 ∧ (talk (talk (talk p))).2.stand[i]? = some (three (at_ 0 c i) (at_ 1 c i) x y).2 := by
  have h1 := h.get hi hx hy
  have h2 := h.talk.get hi h1.1 h1.2
  exact h.talk.talk.get hi h2.1 h2.2

end Go.Proofs.Ytiehbbbncmdchaa
