/-
  Walks over package assign: a chunk is asked of a peer.
-/
import Derived.Test.YtippkdjggipnmaaF
import Derived.Test.YtippkdjggipnmaaM
import Derived.Deep.RegionHeld3
namespace Go.Proofs.Ytippkdjggipnmaa
open Go.RowKit Go.Maps

def askAt (p : Pl) (c k : Nat) (now : Int) : Pl :=
  { p with ch := p.ch.set c ⟨1, k, now⟩, pe := p.pe.set k ⟨(p.pe.getD k default).ak + 1, (p.pe.getD k default).de⟩, ts := upd p.ts c k (p.ts c k + 1) }

theorem askAt_ok {p : Pl} {n c k : Nat} {now : Int} {x : Ck} (h : p.ok n) (hx : p.ch[c]? = some x) (h0 : x.st = 0) (hk : k < p.pe.length) (hnow : I64 now) : (askAt p c k now).ok (n + 1) := by
  obtain ⟨r, hr⟩ : ∃ r, p.pe[k]? = some r := ⟨_, List.getElem?_eq_getElem hk⟩
  have hde := h.de r (List.mem_of_getElem? hr)
  have hcn := cnt_set hx ⟨1, k, now⟩
  unfold askAt
  rw [getD_of hr]
  refine ⟨h.win, h.tim, by simpa using h.nc, by simpa using h.np, ?_, ?_, ?_, fun a b => ?_⟩
  · intro y hy
    rw [List.length_set]
    rcases mem_set hy with hy | rfl
    · exact h.cks y hy
    · exact .inr (.inl ⟨rfl, by show (0:Int) ≤ (k : Int); omega, by show (k : Int) < _; omega, hnow⟩)
  · intro j y hy
    have hcn := hcn (j : Int)
    rw [hcn]
    rcases get_set hy with ⟨rfl, rfl⟩ | ⟨hne, hy⟩
    · rw [if_neg (by omega), if_pos ⟨rfl, rfl⟩]
      have := h.aks _ _ hr
      show r.ak + 1 = _
      omega
    · rw [if_neg (by omega), if_neg (by show ¬ ((1:Int) = 1 ∧ (k : Int) = j); omega)]
      have := h.aks _ _ hy
      omega
  · intro y hy
    rcases mem_set hy with hy | rfl
    · have := h.de y hy
      omega
    · show 0 ≤ r.de ∧ r.de ≤ _
      omega
  · show 0 ≤ upd p.ts c k (p.ts c k + 1) a b ∧ upd p.ts c k (p.ts c k + 1) a b ≤ _
    unfold upd
    have h1 := h.ts a b
    have h2 := h.ts c k
    split <;> omega

/-- What the region reads. -/
def AskS (m b : Nat) (v : World) : Prop :=
  v.cell? ⟨b, 4, none⟩ = some (.map (some m))

theorem PlanAt.setMap {w w' : World} {q : Qb} {n m : Nat} {p : Pl} {f : Int → Int → Int} (h : PlanAt w q n p) (hk : Chg (some q.m) w w') (hm : MapT w' q.m m f) : PlanAt w' q m { p with ts := f } := by
  have ha := h.apart
  obtain ⟨⟨c1, c2, h1⟩, ⟨tl, h2⟩, ⟨tk, h3⟩, h4⟩ := h
  exact ⟨⟨c1, c2, Blk.chg h1 hk (by simpa using ha.2.2.1)⟩, ⟨tl, Blk.chg h2 hk (by simpa using ha.2.2.2.2.1)⟩, ⟨tk, Blk.chg h3 hk (by simpa using ha.2.2.2.2.2)⟩, hm⟩

set_option maxHeartbeats 4000000 in
theorem ask_any (c k : Nat) (now : Int) (w : World) (q : Qb) (n : Nat) (p : Pl) (x : Ck) (h : PlanAt w q n p) (ho : p.ok n) (hn : n < 1000000000000) (hx : p.ch[c]? = some x) (hk : k < p.pe.length) :
    Calls Try.prog 31 #[.pointer (some ⟨q.b, 0, none⟩), .int .i64 c, .int .i64 k, .int .i64 now] w fun e w' => e = .returned (.tuple #[]) ∧ PlanAt w' q (n + 1) (askAt p c k now) ∧ Kept q.has w w' := by
  obtain ⟨r, hr⟩ : ∃ r, p.pe[k]? = some r := ⟨_, List.getElem?_eq_getElem hk⟩
  have hak := ho.aks _ _ hr
  have hcl := cnt_le p.ch k
  have hnc := ho.nc
  have hnp := ho.np
  have hcc : c < p.ch.length := (List.getElem?_eq_some_iff.1 hx).1
  have hts := ho.ts c k
  have hE : askAt p c k now = { p with ch := p.ch.set c ⟨1, k, now⟩, pe := p.pe.set k ⟨r.ak + 1, r.de⟩, ts := upd p.ts c k (p.ts c k + 1) } := by unfold askAt; rw [getD_of hr]
  rw [hE]
  obtain ⟨c1, c2, o0, o1, o2, o3, o4, fz⟩ := h.open
  obtain ⟨x0, x1, x2, xf⟩ := h.chunk hx
  obtain ⟨r0, r1, rf⟩ := h.peer hr
  have ha := h.apart
  have s1 := h.setChunk (j := 0) (x' := ⟨1, x.pe, x.sn⟩) (v := .int .i64 1) hx (by omega) rfl
  have s2 := s1.setChunk (j := 1) (x := ⟨1, x.pe, x.sn⟩) (x' := ⟨1, k, x.sn⟩) (v := .int .i64 k) (List.getElem?_set_self hcc) (by omega) rfl
  have s3 := s2.setChunk (j := 2) (x := ⟨1, k, x.sn⟩) (x' := ⟨1, k, now⟩) (v := .int .i64 now) (List.getElem?_set_self (by simpa using hcc)) (by omega) rfl
  have s4 := s3.setPeer (j := 0) (x' := ⟨r.ak + 1, r.de⟩) (v := .int .i64 (r.ak + 1)) hr (by omega) rfl
  simp only [List.set_set] at s4
  obtain ⟨wa, hwa⟩ : ∃ wa, wa = ((((w.setCell ⟨q.c, c * 3 + 0, none⟩ (.int .i64 1)).setCell ⟨q.c, c * 3 + 1, none⟩ (.int .i64 k)).setCell ⟨q.c, c * 3 + 2, none⟩ (.int .i64 now)).setCell ⟨q.p, k * 2 + 0, none⟩ (.int .i64 (r.ak + 1))).drew := ⟨_, rfl⟩
  have s5 := s4.drew
  have hkp : Kept q.has w wa := by
    rw [hwa]
    exact (((((Kept.refl _ _).setCell _ _ (.inl (.inr (.inl rfl)))).setCell _ _ (.inl (.inr (.inl rfl)))).setCell _ _ (.inl (.inr (.inl rfl)))).setCell _ _ (.inl (.inr (.inr (.inl rfl))))).drew
  rw [← hwa] at s5
  have HWA : Hid (wa = _) := Lib.hid hwa
  have hic : I64 (c : Int) := ⟨by omega, by omega⟩
  have hik : I64 (k : Int) := ⟨by omega, by omega⟩
  obtain ⟨v0, st, w1, hent, ge, hz, -, hst⟩ := s5.map.entry (by unfold maxLen; omega) c k (p.ts c k + 1) hic hik ⟨by omega, by omega⟩
  have m1 := s5.map.entry1 (by unfold maxLen; omega) c k hic hik hent
  obtain ⟨_, _, _, _, _, _, oo4, _⟩ := s5.open
  have hS : Hid (AskS q.m q.b wa) := Lib.hid oo4
  have HL0 := Lib.hid (s5.map.look c k hic hik)
  have HL1 := Lib.hid (m1.look c k hic hik)
  have HENT : Hid ((Instr.mapEntry 42 (.map (some q.m)) (.agg #[.int .i64 (c : Int), .int .i64 (k : Int)])).run Try.prog wa = .ok (.tuple #[v0, .int .i64 (st : Int)]) w1) := Lib.hid hent
  have HS1 : Hid (Hid (AskS q.m q.b w1)) := Lib.hid (Lib.hid (World.grownBy.cell ge oo4 (by simpa using ha.2.2.1)))
  have HE : Hid (∃ w3, (Instr.entryStore 42 (.map (some q.m)) (.int .i64 (st : Int)) (.int .i64 (p.ts c k + 1))).run Try.prog w1 = .ok () w3 ∧ Chg (some q.m) w1 w3 ∧ w3.heap.size = w1.heap.size ∧ MapT w3 q.m (n + 1) (upd p.ts c k (p.ts c k + 1))) := Lib.hid (hst w1 rfl)
  have HSS : Hid (∀ w3, Chg (some q.m) w1 w3 → Hid (AskS q.m q.b w3)) := Lib.hid fun w3 g3 => Lib.hid (World.grownBy.cell (ge.trans g3) oo4 (by simpa using ha.2.2.1))
  have HEND : Hid (∀ w3, MapT w3 q.m (n + 1) (upd p.ts c k (p.ts c k + 1)) → Chg (some q.m) w1 w3 → Ending.returned (.tuple #[]) = .returned (.tuple #[]) ∧ PlanAt w3 q (n + 1) { p with ch := p.ch.set c ⟨1, k, now⟩, pe := p.pe.set k ⟨r.ak + 1, r.de⟩, ts := upd p.ts c k (p.ts c k + 1) } ∧ Kept q.has w w3) :=
    Lib.hid fun w3 m3 g3 => ⟨rfl, s5.setMap (ge.trans g3) m3, hkp.trans ((Kept.of_chg (ge.trans g3)).mono (fun g e => .inr (.inr (.inr (by simpa using e.symm)))))⟩
  obtain ⟨a1, a2, a3, a4, a5, a6⟩ := ha
  have b1 := a1.symm
  have b2 := a2.symm
  have b4 := a4.symm
  have u1 : -100 ≤ r.ak := by omega
  have u2 : r.ak ≤ 100 := by omega
  have u3 := hts.1
  have u4 : p.ts c k ≤ 1000000000000 := by omega
  clear s1 s2 s3 s4 s5 hkp hE h ho hr hx hak hcl m1 hst ge hz oo4 hts hwa hent
  generalize p.ch.length = L at *
  generalize p.pe.length = M at *
  generalize hF : p.ts c k = F at *
  clear hF
  have hwr : IntKind.i64.wrap (F + 1) = F + 1 := IntWalk.i64_in _ (by omega)
  have HWR := Lib.hid hwr
  clear hwr
  go_enter Try.func31, Try.ntmps31
  go_wp2
  refine wp_region_held_drew (S := fun v => Hid (AskS q.m q.b v)) (by kernel_rfl) ?_ (fun _ => ?_)
  · show Hid (AskS _ _ _)
    rw [HWA.out] at hS
    exact hS
  rw [show ((((w.setCell ⟨q.c, c * 3, none⟩ (.int .i64 1)).setCell ⟨q.c, c * 3 + 1, none⟩ (.int .i64 k)).setCell ⟨q.c, c * 3 + 2, none⟩ (.int .i64 now)).setCell ⟨q.p, k * 2, none⟩ (.int .i64 (r.ak + 1))).drew = wa from HWA.out.symm]
  refine wpAnyH_take (i := 0) (oi := ⟨some 28, _, _, _, _, _⟩) (v := ?_) rfl (by kernel_rfl) (by kernel_rfl) (by kernel_rfl) (fun _ _ _ h => h) (Or.inl ⟨by rfl, ?_⟩) (by assumption) ?_
  rotate_left
  · intro w hSw; (try dsimp only at hSw); go_simp; (try with_reducible rfl)
  try simp only [Act.put, List.setIfInBounds_toArray, List.set_cons_zero, List.set_cons_succ]
  refine wpAnyH_take (i := 1) (oi := ⟨some 29, _, _, _, _, _⟩) (v := ?_) rfl (by kernel_rfl) (by kernel_rfl) (by kernel_rfl) (fun _ _ _ h => h) (Or.inl ⟨by rfl, ?_⟩) (by assumption) ?_
  rotate_left
  · intro w hSw; (try dsimp only at hSw); go_simp; (try with_reducible rfl)
  try simp only [Act.put, List.setIfInBounds_toArray, List.set_cons_zero, List.set_cons_succ]
  refine wpAnyH_take (i := 2) (oi := ⟨some 30, _, _, _, _, _⟩) (v := ?_) rfl (by kernel_rfl) (by kernel_rfl) (by kernel_rfl) (fun _ _ _ h => h) (Or.inl ⟨by rfl, ?_⟩) (by assumption) ?_
  rotate_left
  · intro w hSw; (try dsimp only at hSw); go_simp; (try with_reducible rfl)
  try simp only [Act.put, List.setIfInBounds_toArray, List.set_cons_zero, List.set_cons_succ]
  refine wpAnyH_take (i := 3) (oi := ⟨some 31, _, _, _, _, _⟩) (v := .map (some q.m)) rfl (by kernel_rfl) (by kernel_rfl) (by kernel_rfl) (fun _ _ _ h => h) (Or.inl ⟨by rfl, ?_⟩) (by assumption) ?_
  · intro v hSv; have z0 : v.cell? ⟨q.b, 4, none⟩ = some (.map (some q.m)) := hSv.out; go_simp
  try simp only [Act.put, List.setIfInBounds_toArray, List.set_cons_zero, List.set_cons_succ]
  refine wpAnyH_take (i := 4) (oi := ⟨some 32, _, _, _, _, _⟩) (v := ?_) rfl (by kernel_rfl) (by kernel_rfl) (by kernel_rfl) (fun _ _ _ h => h) (Or.inl ⟨by rfl, ?_⟩) (by assumption) ?_
  rotate_left
  · intro w hSw; (try dsimp only at hSw); go_simp; (try with_reducible rfl)
  try simp only [Act.put, List.setIfInBounds_toArray, List.set_cons_zero, List.set_cons_succ]
  refine wpAnyH_take (i := 5) (oi := ⟨some 33, _, _, _, _, _⟩) (v := ?_) rfl (by kernel_rfl) (by kernel_rfl) (by kernel_rfl) (fun _ _ _ h => h) (Or.inl ⟨by rfl, ?_⟩) (by assumption) ?_
  rotate_left
  · intro w hSw; (try dsimp only at hSw); go_simp; (try with_reducible rfl)
  try simp only [Act.put, List.setIfInBounds_toArray, List.set_cons_zero, List.set_cons_succ]
  refine wpAnyH_take (i := 6) (oi := ⟨some 34, _, _, _, _, _⟩) (v := ?_) rfl (by kernel_rfl) (by kernel_rfl) (by kernel_rfl) (fun _ _ _ h => h) (Or.inl ⟨by rfl, ?_⟩) (by assumption) ?_
  rotate_left
  · intro w hSw; (try dsimp only at hSw); go_simp; (try with_reducible rfl)
  try simp only [Act.put, List.setIfInBounds_toArray, List.set_cons_zero, List.set_cons_succ]
  refine wpAnyH_ready (rs := [7, 9]) (by kernel_rfl) (by simp) ?_
  refine AllReadyH.cons (o := ⟨some 35, _, _, _, _, _⟩) rfl (fun K hK => ?_) (AllReadyH.cons (o := ⟨some 37, _, _, _, _, _⟩) rfl (fun K hK => ?_) (AllReadyH.nil))
  · as_aux_lemma =>
      have hl := HL0.out
      go_simp
      refine hK.out _ _ hS (fun _ => ?_)
      clear hK K
      try simp only [Act.put, List.setIfInBounds_toArray, List.set_cons_zero, List.set_cons_succ]
      refine wpAnyH_take (i := 8) (oi := ⟨some 36, _, _, _, _, _⟩) (v := .int .i64 (F + 1)) rfl (by kernel_rfl) (by kernel_rfl) (by kernel_rfl) (fun _ _ _ h => h) (Or.inl ⟨by rfl, ?_⟩) (by assumption) ?_
      · intro v hSv; go_simp; exact HWR.out
      try simp only [Act.put, List.setIfInBounds_toArray, List.set_cons_zero, List.set_cons_succ]
      refine wpAnyH_ready (rs := [9]) (by kernel_rfl) (by simp) ?_
      refine AllReadyH.cons (o := ⟨some 37, _, _, _, _, _⟩) rfl (fun K hK => ?_) (AllReadyH.nil)
      have he := HENT.out
      go_simp
      have hS1 := HS1.out
      refine hK.out _ _ hS1 (fun _ => ?_)
      clear hK K
      try simp only [Act.put, List.setIfInBounds_toArray, List.set_cons_zero, List.set_cons_succ]
      refine wpAnyH_take (i := 10) (oi := ⟨some 38, _, _, _, _, _⟩) (v := ?_) rfl (by kernel_rfl) (by kernel_rfl) (by kernel_rfl) (fun _ _ _ h => h) (Or.inl ⟨by rfl, ?_⟩) (by assumption) ?_
      rotate_left
      · intro w hSw; (try dsimp only at hSw); go_simp; (try with_reducible rfl)
      try simp only [Act.put, List.setIfInBounds_toArray, List.set_cons_zero, List.set_cons_succ]
      refine wpAnyH_ready (rs := [11]) (by kernel_rfl) (by simp) ?_
      refine AllReadyH.cons (o := ⟨none, _, _, _, _, _⟩) rfl (fun K hK => ?_) (AllReadyH.nil)
      obtain ⟨w3, hr3, g3, z3, m3⟩ := HE.out
      go_simp
      have hS3 := HSS.out w3 g3
      refine hK.out _ _ hS3 (fun _ => ?_)
      clear hK K
      refine wpAnyH_done (by kernel_rfl) ?_ _
      go_wp2_with fail
      go_end0
      exact ⟨rfl, (HEND.out w3 m3 g3).2⟩
  · as_aux_lemma =>
      have he := HENT.out
      go_simp
      have hS1 := HS1.out
      refine hK.out _ _ hS1 (fun _ => ?_)
      clear hK K
      try simp only [Act.put, List.setIfInBounds_toArray, List.set_cons_zero, List.set_cons_succ]
      refine wpAnyH_take (i := 10) (oi := ⟨some 38, _, _, _, _, _⟩) (v := ?_) rfl (by kernel_rfl) (by kernel_rfl) (by kernel_rfl) (fun _ _ _ h => h) (Or.inl ⟨by rfl, ?_⟩) (by assumption) ?_
      rotate_left
      · intro w hSw; (try dsimp only at hSw); go_simp; (try with_reducible rfl)
      try simp only [Act.put, List.setIfInBounds_toArray, List.set_cons_zero, List.set_cons_succ]
      refine wpAnyH_ready (rs := [7]) (by kernel_rfl) (by simp) ?_
      refine AllReadyH.cons (o := ⟨some 35, _, _, _, _, _⟩) rfl (fun K hK => ?_) (AllReadyH.nil)
      have hl := HL1.out
      go_simp
      refine hK.out _ _ hS1 (fun _ => ?_)
      clear hK K
      try simp only [Act.put, List.setIfInBounds_toArray, List.set_cons_zero, List.set_cons_succ]
      refine wpAnyH_take (i := 8) (oi := ⟨some 36, _, _, _, _, _⟩) (v := .int .i64 (F + 1)) rfl (by kernel_rfl) (by kernel_rfl) (by kernel_rfl) (fun _ _ _ h => h) (Or.inl ⟨by rfl, ?_⟩) (by assumption) ?_
      · intro v hSv; go_simp; exact HWR.out
      try simp only [Act.put, List.setIfInBounds_toArray, List.set_cons_zero, List.set_cons_succ]
      refine wpAnyH_ready (rs := [11]) (by kernel_rfl) (by simp) ?_
      refine AllReadyH.cons (o := ⟨none, _, _, _, _, _⟩) rfl (fun K hK => ?_) (AllReadyH.nil)
      obtain ⟨w3, hr3, g3, z3, m3⟩ := HE.out
      go_simp
      have hS3 := HSS.out w3 g3
      refine hK.out _ _ hS3 (fun _ => ?_)
      clear hK K
      refine wpAnyH_done (by kernel_rfl) ?_ _
      go_wp2_with fail
      go_end0
      exact ⟨rfl, (HEND.out w3 m3 g3).2⟩

end Go.Proofs.Ytippkdjggipnmaa
