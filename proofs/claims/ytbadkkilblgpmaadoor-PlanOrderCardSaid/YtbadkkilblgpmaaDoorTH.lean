/-
  Package tree: a tree in memory of the call's own; held.
-/
import Derived.Test.YtbadkkilblgpmaaDoorTS
namespace Go.Proofs.YtbadkkilblgpmaaDoor
open Go.RowKit

/-- A tree of the call's own, made since w0: its row in block g. -/
structure OwnT (w0 w : World) (g : Nat) (M : List Fil) : Prop where
  blk : ∃ cs : Array Value, Blk w g cs 91 ∧ M.length * 2 ≤ cs.size ∧ ∀ (i : Nat) (m : Fil), M[i]? = some m → cs[i * 2]? = some (.string ⟨m.p.toArray⟩) ∧ cs[i * 2 + 1]? = some (.slice m.A m.x.length m.c)
  own : ∀ m ∈ M, w.ownsRow w0.heap.size 5 1 (.slice m.A m.x.length m.c) m.x.length (byteVals m.x)
  base : w0.heap.size ≤ g
  chg : Chg none w0 w
theorem CopyAt.ownT {w0 w : World} {g : Nat} {L M : List Fil} (h : CopyAt w0 w g L.length L M L.length) : OwnT w0 w g M := by
  obtain ⟨cs, h1, h2, h3⟩ := h.blk
  exact ⟨⟨cs, h1, by rw [h2, h.len]; exact Nat.le_refl _, h3⟩, h.own, h.base, h.chg⟩
theorem OwnT.on {w0 w w' : World} {g : Nat} {M : List Fil} (h : OwnT w0 w g M) (hc : Chg none w w') : OwnT w0 w' g M := by
  obtain ⟨cs, h1, h2, h3⟩ := h.blk
  exact ⟨⟨cs, h1.chg hc (by simp), h2, h3⟩, fun m hm => own_chgW (h.own m hm) hc, h.base, h.chg.trans hc⟩
theorem own_max {w : World} {base n c : Nat} {A : Option Addr} {xs : List Value} (h : w.ownsRow base 5 1 (.slice A n c) n xs) : c ≤ 9223372036854775807 := by
  rcases h.2 with ⟨h1, _⟩ | ⟨g, cap, cur, h1, _, _, _, h5, _⟩
  · injection h1 with _ _ h4; omega
  · injection h1 with _ _ h4
    have hM : maxLen ≤ 9223372036854775807 := by unfold maxLen; decide
    omega
theorem own_fil {w : World} {base : Nat} {m : Fil} (h : w.ownsRow base 5 1 (.slice m.A m.x.length m.c) m.x.length (byteVals m.x)) (hp : m.p.length ≤ 9223372036854775807) : m.ok w :=
  ⟨(own_txt h).1, (own_txt h).2.2, hp, own_max h, own_nilok h⟩
theorem OwnT.tree {w0 w : World} {g : Nat} {M : List Fil} (h : OwnT w0 w g M) (hp : ∀ m ∈ M, m.p.length ≤ 9223372036854775807) : TreeAt w (some ⟨g, 0, none⟩) M := by
  obtain ⟨cs, h1, h2, h3⟩ := h.blk
  refine ⟨fun _ => ⟨g, 0, rfl, h1.lt, fun i m hi j hj => ?_⟩, fun m hm => own_fil (h.own m hm) (hp m hm)⟩
  rw [h1.cell, Nat.zero_add]
  rcases (show j = 0 ∨ j = 1 by omega) with rfl | rfl
  · exact (h3 i m hi).1
  · exact (h3 i m hi).2
theorem arr_at {M : List Fil} {i : Nat} {m : Fil} (h : M[i]? = some m) : M.toArray[i]! = m := by
  obtain ⟨hi, rfl⟩ := List.getElem?_eq_some_iff.1 h
  simp [hi]
theorem OwnT.holds {w0 w : World} {g : Nat} {M : List Fil} (h : OwnT w0 w g M) : Go.Sort.HoldsK filCells 2 w g 0 M.toArray := by
  obtain ⟨cs, h1, h2, h3⟩ := h.blk
  intro j hj
  rw [Go.Sort.size_flatK] at hj
  have hj' : j < M.length * 2 := by simpa using hj
  refine ⟨?_, h1.frozen _⟩
  rw [h1.cell, Nat.zero_add, Go.Sort.get_flatK _ _ _ _ hj]
  obtain ⟨m, hm⟩ : ∃ m, M[j / 2]? = some m := ⟨_, List.getElem?_eq_getElem (by omega)⟩
  rw [arr_at hm]
  obtain ⟨k1, k2⟩ := h3 _ _ hm
  rcases (show j % 2 = 0 ∨ j % 2 = 1 by omega) with e | e
  · rw [e]
    have : j = j / 2 * 2 := by omega
    rw [← this] at k1
    rw [k1]; rfl
  · rw [e]
    have : j = j / 2 * 2 + 1 := by omega
    rw [← this] at k2
    rw [k2]; rfl
theorem holds_rows {w : World} {g : Nat} {d : Array Fil} (h : Go.Sort.HoldsK filCells 2 w g 0 d) (hg : g < w.heap.size) : RowsAt w 2 (some ⟨g, 0, none⟩) filCells d.toList := by
  intro _
  refine ⟨g, 0, rfl, hg, fun i m hi j hj => ?_⟩
  have hi' : i < d.size := by have := (List.getElem?_eq_some_iff.1 hi).1; simpa using this
  have hlt : i * 2 + j < d.size * 2 := by omega
  have h1 := (h (i * 2 + j) (by rw [Go.Sort.size_flatK]; exact hlt)).1
  rw [h1, Go.Sort.get_flatK _ _ _ _ hlt]
  have e1 : (i * 2 + j) / 2 = i := by omega
  have e2 : (i * 2 + j) % 2 = j := by omega
  rw [e1, e2]
  have hm : d[i]! = m := by
    have := arr_at hi
    simpa using this
  rw [hm]
  rcases (show j = 0 ∨ j = 1 by omega) with rfl | rfl <;> rfl
/-- Sorted by paths: no later one is less than an earlier one. -/
def sortT (M : List Fil) : Prop := ∀ (i j : Nat) f h, i < j → M[i]? = some f → M[j]? = some h → ¬ cmpB h.p f.p < 0

/-- What held tells. -/
def ToldH (w0 : World) (g cap : Nat) (M : List Fil) (e : Ending) (w' : World) : Prop :=
  ∃ M' : List Fil, M'.Perm M ∧ sortT M' ∧ TreeAt w' (some ⟨g, 0, none⟩) M' ∧ (∀ m ∈ M', w'.ownsRow w0.heap.size 5 1 (.slice m.A m.x.length m.c) m.x.length (byteVals m.x)) ∧ Chg none w0 w' ∧
    ((mayT M' = true ∧ e = .returned (.tuple #[.slice (some ⟨g, 0, none⟩) M'.length cap, .int .i64 0])) ∨ (mayT M' = false ∧ e = .returned (.tuple #[.slice none 0 0, .int .i64 8])))

set_option maxHeartbeats 8000000 in
set_option maxRecDepth 100000 in
theorem held_any2 (w0 w : World) (g cap : Nat) (M : List Fil) (h : OwnT w0 w g M) (hl : M.length < 100000) (hp : ∀ m ∈ M, m.p.length ≤ 9223372036854775807) :
    Calls Tryd.prog 116 #[.slice (some ⟨g, 0, none⟩) M.length cap] w fun e w' => ToldH w0 g cap M e w' ∧ Chg (some g) w w' := by
  have hg : g < w.heap.size := by obtain ⟨cs, h1, -, -⟩ := h.blk; exact h1.lt
  have HS := Lib.hid (sort_any M.toArray g cap w h.holds hg (by simpa using (by omega : M.length < 1000000)))
  rw [List.size_toArray] at HS
  have hpost : ∀ w', (∃ d', Go.Sort.PermIn 0 M.length M.toArray d' ∧ Go.Sort.SortedIn (ltOf cmpF) 0 M.length d' ∧ Go.Sort.HoldsK filCells 2 w' g 0 d' ∧ Chg (some g) w w') →
      ∃ M' : List Fil, M'.Perm M ∧ sortT M' ∧ TreeAt w' (some ⟨g, 0, none⟩) M' ∧ (∀ m ∈ M', w'.ownsRow w0.heap.size 5 1 (.slice m.A m.x.length m.c) m.x.length (byteVals m.x)) ∧ Chg none w0 w' ∧ Chg (some g) w w' := fun w' hw => by
    obtain ⟨d', hpm, hst, hh, hc⟩ := hw
    have hsz : d'.size = M.length := by have := hpm.1; simpa using this
    have hperm : d'.toList.Perm M := by
      have h1 := hpm.2.2
      have e1 : d'.extract 0 M.length = d' := by rw [← hsz]; simp
      have e2 : M.toArray.extract 0 M.length = M.toArray := by simp
      rw [e1, e2] at h1
      exact h1
    have hmem : ∀ m ∈ d'.toList, m ∈ M := fun m hm => hperm.mem_iff.1 hm
    have hown : ∀ m ∈ d'.toList, w'.ownsRow w0.heap.size 5 1 (.slice m.A m.x.length m.c) m.x.length (byteVals m.x) := fun m hm => by
      obtain ⟨cs, hb, -, -⟩ := h.blk
      exact World.ownsRow.kept (h.own m (hmem m hm)) hc (.inr (own_other (h.own m (hmem m hm)) hb (by decide)))
    refine ⟨d'.toList, hperm, fun i j f k hij hf hk => ?_, ⟨holds_rows hh (Nat.lt_of_lt_of_le hg hc.size), fun m hm => own_fil (hown m hm) (hp m (hmem m hm))⟩, hown, Chg.own (b := g) h.chg hc h.base, hc⟩
    have hj : j < M.length := by have := (List.getElem?_eq_some_iff.1 hk).1; simp at this; omega
    have := hst i j (Nat.zero_le _) hij hj
    unfold ltOf at this
    rw [decide_eq_false_iff_not] at this
    have e1 : d'[i]! = f := by have := arr_at hf; simpa using this
    have e2 : d'[j]! = k := by have := arr_at hk; simpa using this
    rw [e1, e2] at this
    exact this
  have HP := Lib.hid hpost
  have hlen : ∀ M' : List Fil, M'.Perm M → M'.length = M.length := fun M' h => h.length_eq
  have HLN := Lib.hid hlen
  clear hpost hlen h hp hg
  go_enter Tryd.func116, Tryd.ntmps116
  go_wp2_with fail
  refine HS.out.mono ?_
  rintro e w1 ⟨rfl, hw⟩
  obtain ⟨M', hpm, hst, htr, hown, hch, hcg⟩ := HP.out w1 hw
  have hln := HLN.out M' hpm
  have HMY := Lib.hid (mayt_any M' (some ⟨g, 0, none⟩) cap w1 htr (by omega))
  rw [hln] at HMY
  have HEND : Hid (∀ (w2 : World) (e : Ending), Chg none w1 w2 → ((mayT M' = true ∧ e = .returned (.tuple #[.slice (some ⟨g, 0, none⟩) M.length cap, .int .i64 0])) ∨ (mayT M' = false ∧ e = .returned (.tuple #[.slice none 0 0, .int .i64 8]))) → ToldH w0 g cap M e w2 ∧ Chg (some g) w w2) := fun w2 e hc he =>
    ⟨⟨M', hpm, hst, htr.chg hc, fun m hm => own_chgW (hown m hm) hc, hch.trans hc, by rw [hln]; exact he⟩, hcg.trans hc.weaken⟩
  clear hw HP HLN HS hpm hst htr hown hch hcg hln
  by_cases hm : mayT M' = true
  · have HM := Lib.hid hm
    rw [hm] at HMY
    clear hm
    go_wp2_with fail
    refine HMY.out.mono ?_
    rintro e w2 ⟨rfl, g2⟩
    have HE := Lib.hid (fun e he => HEND.out w2 e g2 (.inl ⟨HM.out, he⟩))
    clear g2
    go_wp2_with fail
    go_ret2
    exact HE.out _ rfl
  · have hm' : mayT M' = false := by simpa using hm
    have HM := Lib.hid hm'
    rw [hm'] at HMY
    clear hm hm'
    go_wp2_with fail
    refine HMY.out.mono ?_
    rintro e w2 ⟨rfl, g2⟩
    have HE := Lib.hid (fun e he => HEND.out w2 e g2 (.inr ⟨HM.out, he⟩))
    clear g2
    go_wp2_with fail
    go_ret2
    exact HE.out _ rfl
theorem held_any (w0 w : World) (g cap : Nat) (M : List Fil) (h : OwnT w0 w g M) (hl : M.length < 100000) (hp : ∀ m ∈ M, m.p.length ≤ 9223372036854775807) :
    Calls Tryd.prog 116 #[.slice (some ⟨g, 0, none⟩) M.length cap] w (ToldH w0 g cap M) := (held_any2 w0 w g cap M h hl hp).mono fun _ _ h => h.1

end Go.Proofs.YtbadkkilblgpmaaDoor
