/-
  ActionKeys: an action's Bytes and Key are as the document has them, an action that may not be has neither, and its tree is left as it was: for every input of a machine's sizes, where the tables of packages sha and program hold what their texts lay (the card ties them).
-/
import Derived.Test.YtglfakglcoffkaaDoorAK
import Derived.Test.YtglfakglcoffkaaDoorVA
import Derived.Test.YtglfakglcoffkaaDoorCards
import Derived.Test.YtglfakglcoffkaaDoorTie
import Derived.SevenTiedAt
import Derived.SizedLaws
namespace Go.Proofs.YtglfakglcoffkaaDoor
open Go.ChangeShapes Go.WideShapes Go.ChangeAt Go.RowKit
open Go.WideMaps Go.WideElems

/-- A datum of type t weighs n at some place. -/
def Wgh {H : Type} (t : TypeId) (d : DataW H) (n : Nat) : Prop := n = 0 ∨ ∃ m ∈ DataW.weights Tryd.prog t d, n ≤ m
theorem wgh_all {H : Type} {e : TypeId} {n : Nat} : ∀ {l : List (DataW H)} {d : DataW H}, d ∈ l → Wgh e d n → n = 0 ∨ ∃ m ∈ DataW.weightsAll Tryd.prog e l, n ≤ m
  | x :: r, d, hd, h => by
    rcases h with h | ⟨m, hm, hn⟩
    · exact .inl h
    · rcases List.mem_cons.1 hd with rfl | h
      · exact .inr ⟨m, by simp only [DataW.weightsAll, List.mem_append]; exact .inl hm, hn⟩
      · rcases wgh_all h (.inr ⟨m, hm, hn⟩) with h2 | ⟨m2, h2, h3⟩
        · exact .inl h2
        · exact .inr ⟨m2, by simp only [DataW.weightsAll, List.mem_append]; exact .inr h2, h3⟩
theorem bytes5 : Tryd.prog.bytesOf 5 = 1 := by kernel_rfl
theorem bytes86 : Tryd.prog.bytesOf 86 = 40 := by kernel_rfl

section
variable {H : Type} {enc : TypeId × Value → H} {w : World} {base : Nat} {spare : Nat → Bool} {held : Bool}
/-- A row of bytes that came in, weighed. -/
theorem open_prt4 (fuel : Nat) (vs : List Value) (x) (hf : DataW.trod enc Tryd.prog w base spare held fuel 22 vs = some x) :
    ∃ p : Prt, (p.ok w ∧ p.c ≤ maxLen ∧ (p.A = none → p.x.length = 0 ∧ p.c = 0)) ∧ Wgh 22 x.1 p.x.length ∧ vs = [p.val] := by
  obtain ⟨A, L, c, rfl, hc, hcm, _, hrow, hnil, hd⟩ := trod_rows u8Cells (fun _ => True) (fun _ _ => True) Tryd.underlying22 (k := 1) (by kernel_rfl) (by omega)
    (fun n cs x h => by obtain ⟨a, h1, h2⟩ := open_u8 n cs x h; exact ⟨a, h1, trivial, h2⟩) hf
  refine ⟨⟨A, L, c⟩, ⟨⟨txt_of_rows hrow, hc⟩, hcm, hnil⟩, ?_, rfl⟩
  rcases hd with ⟨_, rfl⟩ | ⟨ds, rest, he, hl, _⟩
  · exact .inl rfl
  · rw [he]
    refine .inr ⟨(ds.length + rest.length) * Tryd.prog.bytesOf 5, by simp [DataW.weights, Tryd.underlying22], ?_⟩
    rw [bytes5]
    show L.length ≤ _
    omega
set_option maxRecDepth 100000 in
theorem open_fil4 (n : Nat) (cs : List Value) (x) (h : DataW.trod enc Tryd.prog w base spare held n 86 cs = some x) : ∃ f : Fil, f.ok w ∧ Wgh 86 x.1 f.x.length ∧ cs = filCells f := by
  obtain ⟨xs, m, _, hx, hlen, hxl, hf⟩ := DataW.trod_struct Tryd.underlying86 h
  have h38 : Tryd.prog.cellsOf 86 = 2 := by kernel_rfl
  rw [h38] at hlen
  have hxl : xs.length = 2 := hxl
  obtain ⟨s, e0, w0⟩ := field_str Tryd.underlying9 (by omega) (by kernel_rfl) (hf 0 _ rfl)
  match xs, hxl with
  | [y0, y1], _ =>
  have h1 : DataW.trod enc Tryd.prog w base spare held m 22 ((cs.drop 1).take (Tryd.prog.cellsOf 22)) = some y1 := hf 1 _ rfl
  rw [show Tryd.prog.cellsOf 22 = 1 by kernel_rfl] at h1
  obtain ⟨p, ⟨hok, hcm, hnil⟩, hwg, e1⟩ := open_prt4 m _ y1 h1
  refine ⟨⟨s, p.A, p.x, p.c⟩, ⟨hok.1, hok.2, w0, Nat.le_trans hcm (by unfold maxLen; decide), hnil⟩, ?_, ?_⟩
  · rw [hx]
    rcases hwg with h | ⟨k, hk, hn⟩
    · exact .inl h
    · exact .inr ⟨k, by simp only [DataW.weights, Tryd.underlying86, List.map_cons, List.map_nil]; simp [DataW.weightsEach]; exact .inr hk, hn⟩
  · match cs, hlen with
    | [c0, c1], _ =>
      simp at e0 e1
      subst e0 e1
      rfl
theorem open_tree4 (n : Nat) (vs : List Value) (x) (h : DataW.trod enc Tryd.prog w base spare held n 40 vs = some x) :
    ∃ (A : Option Addr) (L : List Fil) (c : Nat), vs = [.slice A L.length c] ∧ TreeAt w A L ∧ L.length ≤ 9223372036854775807 ∧ Wgh 40 x.1 (L.length * 40) ∧ ∀ f ∈ L, Wgh 40 x.1 f.x.length := by
  obtain ⟨A, L, c, hvs, hc, hcm, hok, hrow, hnil, hd⟩ := trod_rows filCells (fun f => f.ok w) (fun d f => Wgh 86 d f.x.length) Tryd.underlying40 (k := 2) (by kernel_rfl) (by omega)
    (fun n cs x h => by obtain ⟨y, h1, h2, h3⟩ := open_fil4 n cs x h; exact ⟨y, h1, h2, h3⟩) h
  have hm : maxLen ≤ 9223372036854775807 := by unfold maxLen; decide
  refine ⟨A, L, c, hvs, ⟨hrow, hok⟩, by omega, ?_, ?_⟩
  · rcases hd with ⟨_, rfl⟩ | ⟨ds, rest, he, hl, _⟩
    · exact .inl rfl
    · rw [he]
      refine .inr ⟨(ds.length + rest.length) * Tryd.prog.bytesOf 86, by simp [DataW.weights, Tryd.underlying40], ?_⟩
      rw [bytes86]
      omega
  · intro f hf
    rcases hd with ⟨_, rfl⟩ | ⟨ds, rest, he, hl, hw⟩
    · cases hf
    · rw [he]
      obtain ⟨i, hi, hif⟩ := List.getElem_of_mem hf
      have hw' := hw i (ds[i]'(by omega)) f (List.getElem?_eq_getElem (by omega)) (by rw [List.getElem?_eq_getElem hi, hif])
      rcases wgh_all (List.getElem_mem (by omega)) hw' with h2 | ⟨m2, h2, h3⟩
      · exact .inl h2
      · exact .inr ⟨m2, by simp only [DataW.weights, Tryd.underlying40, List.mem_cons, List.mem_append]; exact .inr (.inl h2), h3⟩
set_option maxRecDepth 100000 in
/-- An action that came in, weighed. -/
theorem open_act4 {r : Reach} {b0 : Nat} {v : Value} {d : DataW H} {p : List MemPlace} (hv : Value.okWide Tryd.prog w r b0 64 v) (h : DataW.Trod enc Tryd.prog w base spare held 64 v d p) :
    ∃ a : Actn, ActAt w a ∧ Wgh 64 d (a.N.length * 40) ∧ (∀ f ∈ a.N, Wgh 64 d f.x.length) ∧ v = .agg (actCells a).toArray := by
  obtain ⟨cs, rfl, hsz⟩ := okWide_struct Tryd.underlying64 hv
  obtain ⟨fuel, hf⟩ := h
  have hf : DataW.trod enc Tryd.prog w base spare held fuel 64 cs.toList = some (d, p) := hf
  obtain ⟨xs, m, _, hx, hlen, hxl, hff⟩ := DataW.trod_struct Tryd.underlying64 hf
  have h64 : Tryd.prog.cellsOf 64 = 3 := by kernel_rfl
  rw [h64] at hlen
  have hxl : xs.length = 3 := hxl
  obtain ⟨A, L, c, e0, w0, w1, w2⟩ := field_prog (by omega) (hff 0 _ rfl)
  obtain ⟨F, e2, w5⟩ := field_int Tryd.underlying3 (by omega) (by kernel_rfl) (hff 2 _ rfl)
  match xs, hxl with
  | [y0, y1, y2], _ =>
  have h1 : DataW.trod enc Tryd.prog w base spare held m 40 ((cs.toList.drop 1).take (Tryd.prog.cellsOf 40)) = some y1 := hff 1 _ rfl
  rw [show Tryd.prog.cellsOf 40 = 1 by kernel_rfl] at h1
  obtain ⟨B, N, d', e1, w3, w4, g1, g2⟩ := open_tree4 m _ y1 h1
  have hd : d = .agg ([y0, y1, y2].map (·.1)) := (Prod.mk.inj hx).1
  have hup : ∀ k, Wgh 40 y1.1 k → Wgh 64 d k := fun k h => by
    rw [hd]
    rcases h with h | ⟨q, hq, hn⟩
    · exact .inl h
    · exact .inr ⟨q, by simp only [DataW.weights, Tryd.underlying64, List.map_cons, List.map_nil]; simp [DataW.weightsEach]; exact .inr (.inl hq), hn⟩
  refine ⟨⟨A, L, c, B, N, d', F⟩, ⟨w0, w1, w2, w3, w4, wf_i64 w5⟩, hup _ g1, fun f hf => hup _ (g2 f hf), ?_⟩
  obtain ⟨l⟩ := cs
  have hlen : l.length = 3 := hlen
  match l, hlen with
  | [c0, c1, c2], _ =>
    simp at e0 e1 e2
    subst e0 e1 e2
    rfl
end


open Go

set_option maxRecDepth 100000 in
theorem actionKeys_lifted (os : Os) (started : os.Started) (H : Type) (enc : TypeId × Value → H) :
    ReturnsInHanded {} Tryd.checked os 12 .any (fun w args => (Rows.actionKeysSpec.pre enc Tryd.prog Tryd.f12 [] false w args ∧ laidMetH Tryd.prog laid3 w) ∧ sizedMet enc Tryd.prog Tryd.f12 (OpenSpec.ofChange Rows.actionKeysSpec) false w args)
      (Rows.actionKeysSpec.post enc Tryd.prog Tryd.f12 false true false false) := by
  refine returnsInHanded_of_change_and (C := Tryd.checked) (X := fun w _ => laidMetH Tryd.prog laid3 w) (fun _ _ _ hh h => h.of_heap hh) Tryd.own started (by kernel_rfl) Tryd.func12
    (ChangeSpec.witness_shaped (enc := enc) (C := Tryd.checked) (os := os) (X := fun w _ => laidMetH Tryd.prog laid3 w) false (World.doorLaid Tryd.prog 19 os) #[.agg #[.slice none 0 0, .slice none 0 0, .int .i64 0]] 8 rfl (World.shaped_of_RefB (by kernel_rfl) (by kernel_rfl)) (by kernel_rfl) (by kernel_rfl) (by kernel_rfl) (door_met3 os _)) ?_
  intro W base args ds gs before hval0 hW _ hsz hL _
  have hval : ∀ (j : Nat) t v, Tryd.f12.params[j]? = some t → args[j]? = some v → Value.okWide Tryd.prog W .any base t v := hval0
  have hW' := hW
  obtain ⟨p, q, hA0, hV, rfl, hfz, hnd⟩ := hW
  have hA : DataW.TrodAll enc Tryd.prog W 0 (fun _ => true) true Tryd.f12.params.toList args.toList ds p := hA0
  have hT := tabs_of_laid3 hL
  have hF := flds_of_laid3 hL
  rw [Tryd.params12] at hA hval
  obtain ⟨v0, vs0, d0, ds0, p0, q0, hargs, rfl, rfl, h0, r0⟩ := trodAll_cons hA
  obtain ⟨rfl, rfl, rfl⟩ := trodAll_nil r0
  obtain rfl : args = #[v0] := by cases args; simp_all
  obtain ⟨a, ha, hg1, hg2, rfl⟩ := open_act4 (hval 0 64 v0 rfl rfl) h0
  have hall : ∀ k, Wgh 64 d0 k → k ≤ 140737488355328 := fun k h => by
    rcases h with h | ⟨q, hq, hn⟩
    · omega
    · have h2 := List.all_eq_true.1 hsz q (DataW.weights_mem_each (j := 0) (t := 64) (d := d0) rfl rfl q hq)
      have h3 : q ≤ reachBytes := by simpa using h2
      have h4 : reachBytes ≤ 140737488355328 := by decide
      omega
  refine (akeys_law a W ha hF hT (hall _ hg1) (fun f hf => hall _ (hg2 f hf))).mono fun e W' ⟨he, hg⟩ => ?_
  subst he
  exact ⟨_, rfl, law_post Tryd.laidOut (by decide +kernel) (by kernel_rfl) Tryd.underlying4 rfl hW' rfl (hg.belowNone (Nat.le_refl _))⟩

theorem actionKeys_row : Rows.ActionKeysSaid :=
  OpenClaim.holds_of_wide 12 Tryd.f12 rfl rfl rfl rfl rfl rfl rfl ⟨rfl, rfl, rfl, rfl, rfl⟩ rfl rfl rfl rfl rfl (by kernel_rfl) Tryd.func12 (by kernel_rfl)
    (of_decide_eq_true (by kernel_rfl)) (by unfold Func.isWrapper; first | (rw [if_pos (by decide +kernel)]; kernel_rfl) | (rw [if_neg (by decide +kernel)]; exact ⟨rfl, rfl⟩))
    (fun os started H enc _ => actionKeys_lifted os started H enc)

theorem actionKeys_holds : Rows.ActionKeysCardSaid :=
  Claim7.holds_tied_plain_at .later [] [.data, .data, .data] true (true, "cdb48bfb347405d501605887c9b8747d6c18396e00bf771c47e5c4de3f2e0b9d") false
    actionKeys_row (fun _ h => by cases h) (by kernel_rfl) (fun _ h => by cases h) actionKeys_row_tie rfl ⟨rfl, rfl⟩ (by kernel_rfl) rfl
    (fun f fn hf hfn => by
      obtain rfl : f = 12 := Option.some.inj ((show Tryd.prog.funcNamed "murmuration/murmurationlaw08.ActionKeys" = some 12 by kernel_rfl).symm.trans hf) |>.symm
      obtain rfl : fn = Tryd.f12 := (Option.some.inj (Tryd.func12.symm.trans hfn)).symm
      exact ⟨by kernel_rfl, fun j t ht => by
        rw [Tryd.params12] at ht
        have hm : t ∈ [64] := by simpa using Array.mem_of_getElem? ht
        have hall : ([64].all fun u => !Tryd.prog.wantsStandIn u) = true := by kernel_rfl
        exact (show Tryd.prog.wantsStandIn t = false by simpa using List.all_eq_true.1 hall t hm)⟩)
    (by kernel_rfl)

end Go.Proofs.YtglfakglcoffkaaDoor
