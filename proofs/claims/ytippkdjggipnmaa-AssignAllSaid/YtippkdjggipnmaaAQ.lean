/-
  One peer always answers: what a chunk that is asked comes to; how many are to come.
-/
import Derived.Test.YtippkdjggipnmaaAP
namespace Go.Proofs.Ytippkdjggipnmaa
open Go.RowKit Go.Maps

/-- How often one chunk may still be asked. -/
def phi (p : Pl) (c : Nat) : Nat := if (p.ch.getD c default).st = 2 then 0 else p.pe.length - (askedN p c).toNat
def phiK (p : Pl) : Nat → Nat
  | 0 => 0
  | k + 1 => phiK p k + phi p k
def phiM (p : Pl) : Nat := phiK p p.ch.length

theorem phiK_congr {p p' : Pl} : ∀ K, (∀ c, c < K → phi p' c = phi p c) → phiK p' K = phiK p K
  | 0, _ => rfl
  | K + 1, h => by unfold phiK; rw [phiK_congr K (fun c hc => h c (by omega)), h K (by omega)]
theorem phiK_less {p p' : Pl} {c : Nat} : ∀ K, c < K → phi p' c + 1 ≤ phi p c → (∀ d, d < K → d ≠ c → phi p' d = phi p d) → phiK p' K + 1 ≤ phiK p K
  | 0, h, _, _ => by omega
  | K + 1, hc, h1, h => by
    unfold phiK
    by_cases e : c = K
    · subst e; rw [phiK_congr c (fun d hd => h d (by omega) (by omega))]; omega
    · have := phiK_less K (by omega) h1 (fun d hd hn => h d (by omega) hn)
      rw [h K (by omega) (fun e' => e e'.symm)]; omega
theorem phiK_le (p : Pl) : ∀ K, phiK p K ≤ K * p.pe.length
  | 0 => Nat.zero_le _
  | K + 1 => by
    unfold phiK
    have := phiK_le p K
    have h2 : phi p K ≤ p.pe.length := by unfold phi; split <;> omega
    rw [Nat.succ_mul]; omega

theorem phi_sweep {p : Pl} (now : Int) (c : Nat) : phi (sweepM p now) c = phi p c := by
  have h2 := (sweep_facts p now).2.1
  unfold phi
  rw [askedN_sweep, h2]
  cases hx : (sweepM p now).ch[c]? with
  | none =>
    have hl := (sweep_facts p now).1
    rw [List.getElem?_eq_none_iff] at hx
    rw [List.getD_eq_getElem?_getD, List.getD_eq_getElem?_getD, List.getElem?_eq_none (by omega), List.getElem?_eq_none (by omega)]
  | some x =>
    obtain ⟨y, hy, hh⟩ := sweepM_ch hx
    rw [getD_of hx, getD_of hy]
    rcases hh with ⟨hl, rfl⟩ | ⟨_, rfl⟩
    · have := (late_iff.1 hl).1
      rw [if_neg (by decide), if_neg (by omega)]
    · rfl
theorem phiM_sweep (p : Pl) (now : Int) : phiM (sweepM p now) = phiM p := by
  unfold phiM
  rw [(sweep_facts p now).1]
  exact phiK_congr _ (fun c _ => phi_sweep now c)

section
variable {g n : Nat} {now : Int} {p : Pl} {c j : Nat} {x : Ck}

theorem ts_ask (p : Pl) (c j : Nat) (now : Int) : (askAt p c j now).ts c j = p.ts c j + 1 ∧ (∀ d k : Nat, ¬ (d = c ∧ k = j) → (askAt p c j now).ts d k = p.ts d k) := by
  unfold askAt upd
  refine ⟨by simp, fun d k h => ?_⟩
  show (if (d : Int) = c ∧ (k : Int) = j then _ else _) = _
  rw [if_neg (by omega)]
theorem askedN_ask (hj : j < p.pe.length) : askedN (askAt p c j now) c = askedN p c + 1 ∧ ∀ d, d ≠ c → askedN (askAt p c j now) d = askedN p d := by
  obtain ⟨h1, h2⟩ := ts_ask p c j now
  have hl : (askAt p c j now).pe.length = p.pe.length := List.length_set
  unfold askedN
  rw [hl]
  exact ⟨sumT_one _ hj h1 (fun k _ hk => h2 c k (fun e => hk e.2)), fun d hd => sumT_congr _ (fun k _ => h2 d k (fun e => hd e.1))⟩

theorem AInv.fits (h : AInv g now p) (ho : p.ok n) : fitsB p g = true := by
  unfold fitsB banB
  rw [getD_of h.gd]
  have := ho.win
  simp only [Bool.and_eq_true, Bool.not_eq_true', decide_eq_false_iff_not]
  omega
theorem AInv.found (h : AInv g now p) (ho : p.ok n) (c : Nat) : ∃ j, fitM p c = some j := fitK_some p c _ g h.lt (h.fits ho)
/-- Whoever is asked was never asked before. -/
theorem AInv.zero (h : AInv g now p) (ho : p.ok n) (hx : p.ch[c]? = some x) (h0 : x.st = 0) (hj : fitM p c = some j) : j < p.pe.length ∧ p.ts c j = 0 := by
  have hl := fit_lt hj
  have h1 := fitK_least p c _ j hj g h.lt (h.fits ho)
  have h2 := h.ts c x hx (by omega) j hl
  have h3 := (h.ts c x hx (by omega) g h.lt).2.2 rfl
  exact ⟨hl, by omega⟩

/-- A chunk is set to y; the counts are those behind an asking of j. -/
theorem AInv.put {P : Pl} {y : Ck} (h : AInv g now p) (ho : p.ok n) (hx : p.ch[c]? = some x) (h0 : x.st = 0) (hj : fitM p c = some j)
    (hch : P.ch = p.ch.set c y) (hpl : P.pe.length = p.pe.length) (hts : P.ts = (askAt p c j now).ts) (htm : P.tim = p.tim) (hgd : P.pe[g]? = some ⟨0, 0⟩)
    (hy : (y.st = 2) ∨ (j ≠ g ∧ y.st = 0) ∨ (j ≠ g ∧ y.st = 1 ∧ y.pe ≠ g ∧ y.sn = now)) : AInv g now P ∧ phiM P + 1 ≤ phiM p := by
  obtain ⟨hjl, hz⟩ := h.zero ho hx h0 hj
  obtain ⟨f0, f1⟩ := h.few hx (by omega)
  obtain ⟨t1, t2⟩ := ts_ask p c j now
  obtain ⟨a1, a2⟩ := askedN_ask (c := c) (now := now) hjl
  have htim := ho.tim
  have hop := h.op c x hx h0
  have hcl := (List.getElem?_eq_some_iff.1 hx).1
  have hN : ∀ d, askedN P d = askedN (askAt p c j now) d := fun d => by
    unfold askedN
    rw [hpl, hts]

    rw [show (askAt p c j now).pe.length = p.pe.length from List.length_set]
  have hmul : (askedN p c + 1) * p.tim = askedN p c * p.tim + p.tim := by rw [Int.add_mul, Int.one_mul]
  refine ⟨⟨by rw [hpl]; exact h.lt, hgd, ?_, ?_, ?_⟩, ?_⟩
  · intro d z hz' h2 k hk
    rw [hpl] at hk
    rw [hch] at hz'
    rw [hts]
    rcases get_set hz' with ⟨rfl, rfl⟩ | ⟨hne, hz'⟩
    · by_cases e : k = j
      · subst e
        rw [t1, hz]
        refine ⟨by decide, by decide, fun e => ?_⟩
        rcases hy with hy | hy | hy
        · exact absurd hy h2
        · exact absurd e hy.1
        · exact absurd e hy.1
      · rw [t2 c k (fun e' => e e'.2)]
        exact h.ts c x hx (by omega) k hk
    · rw [t2 d k (fun e' => hne e'.1.symm)]
      exact h.ts d z hz' h2 k hk
  · intro d z hz' hs
    rw [hch] at hz'
    rw [htm, hN]
    rcases get_set hz' with ⟨rfl, rfl⟩ | ⟨hne, hz'⟩
    · rcases hy with hy | hy | ⟨_, _, hy1, hy2⟩
      · omega
      · omega
      · rw [a1, hmul, hy2]; exact ⟨hy1, Int.le_refl _, by omega, by omega⟩
    · rw [a2 d (fun e => hne e.symm)]
      exact h.ck d z hz' hs
  · intro d z hz' hs
    rw [hch] at hz'
    rw [htm, hN]
    rcases get_set hz' with ⟨rfl, rfl⟩ | ⟨hne, hz'⟩
    · rw [a1, hmul]; omega
    · rw [a2 d (fun e => hne e.symm)]
      exact h.op d z hz' hs
  · unfold phiM
    rw [hch, List.length_set]
    refine phiK_less _ hcl ?_ (fun d hd hne => ?_)
    · unfold phi
      rw [hch, getD_of (List.getElem?_set_self hcl), getD_of hx, if_neg (by omega : ¬ x.st = 2), hN, a1, hpl]
      split <;> omega
    · unfold phi
      rw [hch, hN, a2 d hne, hpl, List.getD_eq_getElem?_getD, List.getElem?_set_ne (fun e => hne e.symm), ← List.getD_eq_getElem?_getD]

theorem ask_ch (hx : p.ch[c]? = some x) : (askAt p c j now).ch[c]? = some ⟨1, j, now⟩ := List.getElem?_set_self (List.getElem?_eq_some_iff.1 hx).1
theorem ask_pe (hj : j < p.pe.length) : (askAt p c j now).pe[j]? = some ⟨(p.pe.getD j default).ak + 1, (p.pe.getD j default).de⟩ := List.getElem?_set_self hj

/-- Nobody answers. -/
theorem AInv.silent (h : AInv g now p) (ho : p.ok n) (hx : p.ch[c]? = some x) (h0 : x.st = 0) (hj : fitM p c = Option.some j) (hg : j ≠ g) : AInv g now (askAt p c j now) ∧ phiM (askAt p c j now) + 1 ≤ phiM p :=
  h.put ho hx h0 hj (y := ⟨1, j, now⟩) rfl List.length_set rfl rfl (by
    show (p.pe.set j _)[g]? = _
    rw [List.getElem?_set_ne hg]; exact h.gd) (.inr (.inr ⟨hg, rfl, by show (j : Int) ≠ g; omega, rfl⟩))

/-- A wrong answer. -/
theorem AInv.bad (h : AInv g now p) (ho : p.ok n) (hx : p.ch[c]? = some x) (h0 : x.st = 0) (hj : fitM p c = Option.some j) (hg : j ≠ g) :
    badM (askAt p c j now) c j = (reopenM (askAt p c j now) c, 0) ∧ AInv g now (reopenM (askAt p c j now) c) ∧ phiM (reopenM (askAt p c j now) c) + 1 ≤ phiM p := by
  have hjl := fit_lt hj
  have hc := ask_ch (j := j) (now := now) hx
  refine ⟨?_, ?_⟩
  · rw [bad_in hc ⟨by omega, by show (j : Int) < ((p.pe.set j _).length : Nat); rw [List.length_set]; omega⟩, if_pos ⟨rfl, rfl⟩]
  · refine h.put ho hx h0 hj (y := ⟨0, 0, 0⟩) ?_ ?_ rfl rfl ?_ (.inr (.inl ⟨hg, rfl⟩))
    · show (p.ch.set c _).set c _ = _
      rw [List.set_set]
    · show ((p.pe.set j _).set _ _).length = _
      rw [List.length_set, List.length_set]
    · unfold reopenM reopenAt
      rw [getD_of hc, Int.toNat_natCast, List.getElem?_set_ne hg]
      show (p.pe.set j _)[g]? = _
      rw [List.getElem?_set_ne hg]; exact h.gd

/-- The one that answers. -/
theorem AInv.good (h : AInv g now p) (ho : p.ok n) (hx : p.ch[c]? = some x) (h0 : x.st = 0) (hj : fitM p c = Option.some g) :
    (hadM (askAt p c g now) c).2 = 0 ∧ AInv g now (hadM (askAt p c g now) c).1 ∧ phiM (hadM (askAt p c g now) c).1 + 1 ≤ phiM p := by
  have hjl := fit_lt hj
  have hc := ask_ch (j := g) (now := now) hx
  have hgp := ask_pe (p := p) (c := c) (now := now) hjl
  have e : hadM (askAt p c g now) c = (hadAt (askAt p c g now) c g, 0) := by
    rw [had_in hc, if_neg (by show ¬ (1 : Int) = 2; decide), if_pos rfl, Int.toNat_natCast]
  rw [e]
  refine ⟨rfl, h.put ho hx h0 hj (y := ⟨2, 0, 0⟩) ?_ ?_ rfl rfl ?_ (.inl rfl)⟩
  · show (p.ch.set c _).set c _ = _
    rw [List.set_set]
  · show ((p.pe.set g _).set _ _).length = _
    rw [List.length_set, List.length_set]
  · unfold hadAt
    rw [getD_of hgp, getD_of h.gd, List.getElem?_set_self (List.getElem?_eq_some_iff.1 hgp).1]
    rfl

/-- Nobody is asked any more: the next tick. -/
theorem AInv.rest (h : AInv g now p) (ho : p.ok n) (hn : (nextM p now).2 = none) : (nextM p now).1 = sweepM p now ∧ AInv g (now + 1) (sweepM p now) ∧ phiM (sweepM p now) = phiM p := by
  obtain ⟨hs, hlate⟩ := h.sweep ho
  have hso := sweepK_ok now ho p.ch.length (Nat.le_refl _)
  have hl : leastM (sweepM p now) = none := by
    cases hc : leastM (sweepM p now) with
    | none => rfl
    | some c =>
      obtain ⟨j, hj⟩ := hs.found hso c
      rw [next_some hc hj] at hn
      cases hn
  refine ⟨by rw [next_none1 hl], ⟨hs.lt, hs.gd, hs.ts, ?_, ?_⟩, phiM_sweep p now⟩
  · intro c x hx h1
    have := hs.ck c x hx h1
    have h2 := hlate c x hx h1
    rw [(sweep_facts p now).2.2.2.1] at *
    exact ⟨this.1, by omega, by omega, this.2.2.2⟩
  · intro c x hx h0
    exfalso
    unfold leastM at hl
    rw [List.findIdx?_eq_none_iff] at hl
    have := hl x (List.mem_of_getElem? hx)
    simp [h0] at this

end

theorem AInv.new {nc np g : Nat} {win tim : Int} (hg : g < np) : AInv g 0 (newP nc np win tim) := by
  refine ⟨by show g < (List.replicate np _).length; rw [List.length_replicate]; exact hg, ?_, ?_, ?_, ?_⟩
  · show (List.replicate np (⟨0, 0⟩ : Pr))[g]? = _
    rw [List.getElem?_replicate, if_pos hg]
  · intro c x _ _ k _
    exact ⟨Int.le_refl _, by show (0 : Int) ≤ 1; decide, fun _ => rfl⟩
  · intro c x hx h1
    have := (List.mem_replicate.1 (List.mem_of_getElem? hx)).2
    rw [this] at h1
    exact absurd h1 (by decide)
  · intro c x hx h0
    have : askedN (newP nc np win tim) c = 0 := by
      unfold askedN
      have : ∀ n, sumT (fun k => (newP nc np win tim).ts c k) n = 0 := by
        intro n
        induction n with
        | zero => rfl
        | succ n ih => unfold sumT; rw [ih]; rfl
      exact this _
    rw [this, Int.zero_mul]; exact Int.le_refl _

theorem left_zero {p : Pl} : leftM p = 0 ↔ ∀ x ∈ p.ch, x.st = 2 := by
  unfold leftM
  rw [List.countP_eq_zero]
  simp

end Go.Proofs.Ytippkdjggipnmaa
