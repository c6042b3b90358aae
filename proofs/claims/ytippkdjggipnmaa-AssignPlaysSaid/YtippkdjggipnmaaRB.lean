/-
  The document's plan of layer 23: load, Left, Stuck.
-/
import Derived.Test.YtippkdjggipnmaaRA
namespace Go.Proofs.Ytippkdjggipnmaa
open Go.RowKit Go.Maps

theorem cnt_step {L : List Ck} {k : Nat} {x : Ck} (h : L[k]? = some x) (K : Int) : cnt (L.take (k + 1)) K = cnt (L.take k) K + if x.st = 1 ∧ x.pe = K then 1 else 0 := by
  unfold cnt
  rw [List.take_add_one, h, List.countP_append]
  simp

set_option maxHeartbeats 4000000 in
theorem load_any (K : Int) (w : World) (q : Rb) (p : Pl) (r : Rf) (h : RefAt w q r) (hs : Sim p r) (hnc : p.ch.length ≤ 100) :
    Calls Try.prog 32 #[.pointer (some ⟨q.b, 0, none⟩), .int .i64 K] w fun e w' => e = .returned (.int .i64 (cnt p.ch K : Nat)) ∧ Chg none w w' := by
  obtain ⟨a, ho⟩ := h.at_
  have HX : Hid (∀ v, Chg none w v → RefO v q r a) := Lib.hid fun v g => ho.chg g
  have hl := hs.stl
  have hpl := hs.pl
  have HST : Hid (∀ (i : Nat) x, p.ch[i]? = some x → r.st[i]? = some x.st) := Lib.hid fun i x hx => hs.sti hx
  have HPE : Hid (∀ (i : Nat) x, p.ch[i]? = some x → x.st = 1 → r.pe[i]? = some x.pe) := Lib.hid fun i x hx h1 => (hs.asked i x hx h1).1
  clear h ho hs
  obtain ⟨st, pe, sn, bd, tm, win, tim⟩ := r
  obtain ⟨A1, A2, A3, A4, A5, c1, c2, c3, c4, c5⟩ := a
  dsimp only at hl hpl HST HPE
  generalize p.ch = L at *
  go_enter Try.func32, Try.ntmps32
  go_wp2
  go_loopw [5, 6] (fun s5 s6 wr => ∃ k : Nat, k ≤ L.length ∧ s6 = .int .i64 k ∧ s5 = .int .i64 (cnt (L.take k) K : Nat) ∧ Hid (Chg none w wr)) (fun _ i _ => L.length - (intOf i).toNat)
  case atStart => exact ⟨0, Nat.zero_le _, rfl, rfl, Lib.hid (Chg.refl _ _)⟩
  case round =>
    obtain ⟨k, hk, rfl, rfl, HG⟩ := hrel
    have hcl : cnt (L.take k) K ≤ k := Nat.le_trans (cnt_le _ _) (by rw [List.length_take]; omega)
    obtain ⟨y0, y1, -, -, -, -, -⟩ := (HX.out wr HG.out).cells
    dsimp only at y0 y1
    rw [hl] at y0
    rw [hpl] at y1
    by_cases hlt : k < L.length
    · obtain ⟨x, hx⟩ : ∃ x, L[k]? = some x := ⟨_, List.getElem?_eq_getElem hlt⟩
      have hcs := Lib.hid (cnt_step hx K)
      obtain ⟨rfl, z0, -⟩ := (HX.out wr HG.out).st.one (HST.out k x hx)
      have hkp : k < pe.length := by rw [hpl]; exact hlt
      obtain ⟨y, hy⟩ : ∃ y, pe[k]? = some y := ⟨_, List.getElem?_eq_getElem hkp⟩
      obtain ⟨rfl, z1, -⟩ := (HX.out wr HG.out).pe.one hy
      by_cases h1 : x.st = 1
      · have hyx : y = x.pe := Option.some.inj (hy.symm.trans (HPE.out k x hx h1))
        have e1 : (x.st == 1) = true := by simp [h1]
        by_cases h2 : x.pe = K
        · have e2 : (y == K) = true := by simp [hyx, h2]
          have hn : (cnt (L.take (k + 1)) K : Int) = cnt (L.take k) K + 1 := by rw [hcs.out, if_pos ⟨h1, h2⟩]; omega
          have HN := Lib.hid hn
          clear hn hx hy hcs h1 h2 hyx
          go_wp2
          go_roundw
          case rel => exact ⟨k + 1, by omega, by go_num, by rw [HN.out], HG⟩
          case measure => simp [intOf]; omega
        · have e2 : (y == K) = false := by simp [hyx, h2]
          have hn : cnt (L.take (k + 1)) K = cnt (L.take k) K := by rw [hcs.out, if_neg (fun h => h2 h.2)]; rfl
          have HN := Lib.hid hn
          clear hn hx hy hcs h1 h2 hyx
          go_wp2
          go_roundw
          case rel => exact ⟨k + 1, by omega, by go_num, by rw [HN.out], HG⟩
          case measure => simp [intOf]; omega
      · have e1 : (x.st == 1) = false := by simp [h1]
        have hn : cnt (L.take (k + 1)) K = cnt (L.take k) K := by rw [hcs.out, if_neg (fun h => h1 h.1)]; rfl
        have HN := Lib.hid hn
        clear hn hx hy hcs h1
        go_wp2
        go_roundw
        case rel => exact ⟨k + 1, by omega, by go_num, by rw [HN.out], HG⟩
        case measure => simp [intOf]; omega
    · have hkl : k = L.length := by omega
      have HS : Hid (L.take k = L) := Lib.hid (by rw [hkl, List.take_length])
      clear hkl
      go_wp2
      go_ret
      exact ⟨by rw [HS.out]; rfl, HG.out⟩

set_option maxHeartbeats 4000000 in
theorem rleft_any (w : World) (q : Rb) (p : Pl) (r : Rf) (h : RefAt w q r) (hs : Sim p r) (hnc : p.ch.length ≤ 100) :
    Calls Try.prog 39 #[.pointer (some ⟨q.b, 0, none⟩)] w fun e w' => e = .returned (.int .i64 (leftM p : Nat)) ∧ Chg none w w' := by
  obtain ⟨a, ho⟩ := h.at_
  have HX : Hid (∀ v, Chg none w v → RefO v q r a) := Lib.hid fun v g => ho.chg g
  have hl := hs.stl
  have HST : Hid (∀ (i : Nat) x, p.ch[i]? = some x → r.st[i]? = some x.st) := Lib.hid fun i x hx => hs.sti hx
  clear h ho hs
  obtain ⟨st, pe, sn, bd, tm, win, tim⟩ := r
  obtain ⟨A1, A2, A3, A4, A5, c1, c2, c3, c4, c5⟩ := a
  dsimp only at hl HST
  unfold leftM
  generalize p.ch = L at *
  go_enter Try.func39, Try.ntmps39
  go_wp2
  go_loopw [3, 4] (fun t i wr => ∃ k : Nat, k ≤ L.length ∧ i = .int .i64 k ∧ t = .int .i64 ((L.take k).countP (fun x => x.st != 2) : Nat) ∧ Hid (Chg none w wr)) (fun _ i _ => L.length - (intOf i).toNat)
  case atStart => exact ⟨0, Nat.zero_le _, rfl, rfl, Lib.hid (Chg.refl _ _)⟩
  case round =>
    obtain ⟨k, hk, rfl, rfl, HG⟩ := hrel
    have hcl : (L.take k).countP (fun x => x.st != 2) ≤ k := Nat.le_trans List.countP_le_length (by rw [List.length_take]; omega)
    obtain ⟨y0, -, -, -, -, -, -⟩ := (HX.out wr HG.out).cells
    dsimp only at y0
    rw [hl] at y0
    by_cases hlt : k < L.length
    · obtain ⟨x, hx⟩ : ∃ x, L[k]? = some x := ⟨_, List.getElem?_eq_getElem hlt⟩
      obtain ⟨rfl, z0, -⟩ := (HX.out wr HG.out).st.one (HST.out k x hx)
      have HS : Hid ((L.take (k + 1)).countP (fun x => x.st != 2) = (L.take k).countP (fun x => x.st != 2) + if x.st != 2 then 1 else 0) := by
        refine Lib.hid ?_
        rw [List.take_add_one, hx, List.countP_append]
        simp
      generalize (L.take k).countP (fun x => x.st != 2) = N at *
      by_cases he : x.st = 2
      · have e2 : (x.st != 2) = false := by simp [he]
        rw [e2] at HS
        clear hx he
        go_wp2
        go_roundw
        case rel => exact ⟨k + 1, by omega, by go_num, by rw [HS.out, if_neg (by simp)]; rfl, HG⟩
        case measure => simp [intOf]; omega
      · have e2 : (x.st != 2) = true := by simp [he]
        rw [e2] at HS
        clear hx he
        go_wp2
        go_roundw
        case rel => exact ⟨k + 1, by omega, by go_num, by rw [HS.out, if_pos rfl]; go_num, HG⟩
        case measure => simp [intOf]; omega
    · have hkl : k = L.length := by omega
      have HS : Hid (L.take k = L) := Lib.hid (by rw [hkl, List.take_length])
      clear hkl
      go_wp2
      go_ret
      exact ⟨by rw [HS.out]; rfl, HG.out⟩

set_option maxHeartbeats 4000000 in
theorem rstuck_any (w : World) (q : Rb) (p : Pl) (r : Rf) (h : RefAt w q r) (hs : Sim p r) (hnc : p.ch.length ≤ 100) (hnp : p.pe.length ≤ 64) :
    Calls Try.prog 40 #[.pointer (some ⟨q.b, 0, none⟩)] w fun e w' => e = .returned (.bool (stuckM p)) ∧ Chg none w w' := by
  obtain ⟨a, ho⟩ := h.at_
  have HX : Hid (∀ v, Chg none w v → RefO v q r a) := Lib.hid fun v g => ho.chg g
  have hl := hs.bdl
  have HBD : Hid (∀ (i : Nat) x, p.pe[i]? = some x → r.bd[i]? = some x.de) := Lib.hid fun i x hx => hs.bdi hx
  have HLE : Hid (∀ v, Chg none w v → Calls Try.prog 39 #[.pointer (some ⟨q.b, 0, none⟩)] v fun e w' => e = .returned (.int .i64 (leftM p : Nat)) ∧ Chg none v w') := Lib.hid fun v g => rleft_any v q p r (h.chg g) hs hnc
  have hlc : leftM p ≤ 100 := Nat.le_trans List.countP_le_length hnc
  clear h ho hs
  obtain ⟨st, pe, sn, bd, tm, win, tim⟩ := r
  obtain ⟨A1, A2, A3, A4, A5, c1, c2, c3, c4, c5⟩ := a
  dsimp only at hl HBD
  unfold stuckM
  generalize leftM p = N at *
  generalize p.pe = L at *
  go_enter Try.func40, Try.ntmps40
  go_wp2
  go_loopw [3] (fun i wr => ∃ k : Nat, k ≤ L.length ∧ i = .int .i64 k ∧ Hid (∀ x ∈ L.take k, banB x = true) ∧ Hid (Chg none w wr)) (fun i _ => L.length - (intOf i).toNat)
  case atStart => exact ⟨0, Nat.zero_le _, rfl, Lib.hid (by simp), Lib.hid (Chg.refl _ _)⟩
  case round =>
    obtain ⟨k, hk, rfl, HB, HG⟩ := hrel
    obtain ⟨-, -, -, y0, -, -, -⟩ := (HX.out wr HG.out).cells
    dsimp only at y0
    rw [hl] at y0
    by_cases hlt : k < L.length
    · obtain ⟨x, hx⟩ : ∃ x, L[k]? = some x := ⟨_, List.getElem?_eq_getElem hlt⟩
      obtain ⟨rfl, z0, -⟩ := (HX.out wr HG.out).bd.one (HBD.out k x hx)
      by_cases he : x.de < 3
      · have e2 : decide (x.de < 3) = true := by simp [he]
        have HA : Hid ((L.any fun x => !banB x) = true) := Lib.hid (List.any_eq_true.2 ⟨x, List.mem_of_getElem? hx, by unfold banB; simp; omega⟩)
        clear hx he
        go_wp2
        go_ret
        exact ⟨by rw [HA.out]; simp, HG.out⟩
      · have e2 : decide (x.de < 3) = false := by simp; omega
        have HB2 : Hid (∀ x ∈ L.take (k + 1), banB x = true) := Lib.hid fun y hy => by
          rw [List.take_add_one, hx] at hy
          rcases List.mem_append.1 hy with hy | hy
          · exact HB.out y hy
          · simp at hy; subst hy; unfold banB; simp; omega
        clear hx he
        go_wp2
        go_roundw
        case rel => exact ⟨k + 1, by omega, by go_num, HB2, HG⟩
        case measure => simp [intOf]; omega
    · have hkl : k = L.length := by omega
      have HA : Hid ((L.any fun x => !banB x) = false) := Lib.hid (by
        have := HB.out
        rw [hkl, List.take_length] at this
        rw [List.any_eq_false]
        intro x hx
        simp [this x hx])
      clear hkl
      go_wp2_with fail
      refine (HLE.out _ HG.out).mono ?_
      rintro e w2 ⟨rfl, g2⟩
      have G2 := Lib.hid (HG.out.trans g2)
      clear g2
      go_wp2
      go_ret
      refine ⟨?_, G2.out⟩
      rw [HA.out]
      have e : decide (0 < N) = (decide (N ≠ 0) && !false) := by
        by_cases hN : N = 0
        · subst hN; rfl
        · rw [decide_eq_true (by omega), decide_eq_true hN]; rfl
      rw [← e]
      rfl

end Go.Proofs.Ytippkdjggipnmaa
