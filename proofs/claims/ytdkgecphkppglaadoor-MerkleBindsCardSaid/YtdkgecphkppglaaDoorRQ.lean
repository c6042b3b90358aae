/-
  The document's merkle: the pair that is shown.
-/
import Derived.Test.YtdkgecphkppglaaDoorRO
namespace Go.Proofs.YtdkgecphkppglaaDoor
open Go.RowKit

theorem neq_bytes {x y : List UInt8} (h : x ≠ y) : ByteArray.mk x.toArray ≠ ByteArray.mk y.toArray := by
  intro e
  injection e with e
  exact h (by simpa using e)

theorem pathN_rows : ∀ (m n i : Nat) (d : Dg) (P : List Dg) (l : List (List UInt8)) (t : Dg), n ≤ m → pathN n i d P = some (l, t) → ∀ ls ∈ l, ls.length ≤ 1100 := by
  intro m
  have hend : ∀ (n i : Nat) (d : Dg) (P : List Dg) (l : List (List UInt8)) (t : Dg), n ≤ 1 → pathN n i d P = some (l, t) → ∀ ls ∈ l, ls.length ≤ 1100 := by
    intro n i d P l t hn h ls hls
    rw [pathN_end _ _ _ _ hn] at h
    injection h with h
    injection h with h _
    rw [← h] at hls
    simp at hls
  induction m with
  | zero => intro n i d P l t hn h; exact hend n i d P l t (by omega) h
  | succ m ih =>
    intro n i d P l t hn h
    by_cases h1 : 1 < n
    · by_cases ha : aloneB n i = true
      · rw [pathN_alone _ _ _ _ h1 ha] at h
        exact ih _ _ _ _ _ _ (by omega) h
      · have ha' : aloneB n i = false := by simpa using ha
        match P with
        | [] => rw [pathN_nil _ _ _ h1 ha'] at h; cases h
        | p :: P' =>
          rw [pathN_cons _ _ _ _ _ h1 ha'] at h
          obtain ⟨⟨l', t'⟩, h2, h3⟩ := Option.map_eq_some_iff.1 h
          injection h3 with h3 _
          intro ls hls
          rw [← h3] at hls
          rcases List.mem_cons.1 hls with rfl | hls
          · unfold nodeB
            have := d.2
            have := p.2
            by_cases hp : i % 2 = 0
            · rw [if_pos hp, List.length_cons, List.length_append]; omega
            · rw [if_neg hp, List.length_cons, List.length_append]; omega
          · exact ih _ _ _ _ _ _ (by omega) h2 ls hls
    · exact hend n i d P l t (by omega) h

/-- What Pair tells. -/
def PairPost (w : World) (e : Ending) (w' : World) : Prop :=
  ∃ (Ax : Option Addr) (x : List UInt8) (lx cx : Nat) (Ay : Option Addr) (y : List UInt8) (ly cy : Nat), e = .returned (.tuple #[.slice Ax lx cx, .slice Ay ly cy, .bool true]) ∧ lx = x.length ∧ ly = y.length ∧ (⟨Ax, x, cx⟩ : Prt).ok w' ∧ (⟨Ay, y, cy⟩ : Prt).ok w' ∧ x ≠ y ∧ dig x = dig y ∧ lx ≤ 1100 ∧ ly ≤ 1100 ∧ Chg none w w'

set_option maxRecDepth 100000 in
set_option maxHeartbeats 16000000 in
theorem shown_any (px i : Nat) (b q : Prt) (A : Option Addr) (P : List Dg) (n pl c : Nat) (w : World) (hh : HashAt w px) (hb : b.ok w) (hnb : n = b.x.length) (hn : n ≤ 100000) (hi : i < cntN n) (hq : q.ok w) (hql : q.x.length ≤ 64)
    (hpl : pl = P.length) (hP : DgsAt w w.heap.size A P) (hPl : pl ≤ 100000) (l1 l2 : List (List UInt8)) (t1 t2 : Dg)
    (h1 : pathN (cntN n) i (digDg (0 :: (be 8 i ++ chunkB b.x i))) (proofB (leavesB b.x) i) = some (l1, t1)) (h2 : pathN (cntN n) i (digDg (0 :: (be 8 i ++ q.x))) P = some (l2, t2))
    (hn1 : needN (cntN n) i = (proofB (leavesB b.x) i).length) (hn2 : needN (cntN n) i = pl) (hlast : dig (rootBytes n t1) = dig (rootBytes n t2)) (hne : chunkB b.x i ≠ q.x) :
    Calls Tryd.prog 37 #[.pointer (some ⟨px, 0, none⟩), .slice b.A n b.c, .int .i64 i, .slice q.A q.x.length q.c, .slice A pl c] w (PairPost w) := by
  have hcl : (chunkB b.x i).length ≤ 64 := by rw [chunkB_len _ _ (cnt_lo (by rw [← hnb]; exact hi))]; unfold chunkN; omega
  have HCH : Hid (Calls Tryd.prog 32 #[.slice b.A n b.c, .int .i64 i] w (OwnPost w (chunkB b.x i))) := by rw [hnb]; exact chunkr_any b i w hb (by rw [← hnb]; exact hi) (by omega)
  have HPR : Hid (∀ v, Chg none w v → Calls Tryd.prog 34 #[.pointer (some ⟨px, 0, none⟩), .slice b.A n b.c, .int .i64 i] v fun e w' =>
      ∃ A c, e = .returned (.slice A pl c) ∧ w'.ownsRow v.heap.size 30 32 (.slice A pl c) pl (flat (proofB (leavesB b.x) i)) ∧ Chg none v w') := fun v g => by
    have := proofr_any px b i v (hh.chg g (by simp)) (hb.chg g) (by omega) (by rw [← hnb]; exact hi)
    rw [← hnb, ← hn1, hn2] at this
    exact this
  obtain ⟨lf1, hlf1⟩ : ∃ lf1, lf1 = 0 :: (be 8 i ++ chunkB b.x i) := ⟨_, rfl⟩
  obtain ⟨lf2, hlf2⟩ : ∃ lf2, lf2 = 0 :: (be 8 i ++ q.x) := ⟨_, rfl⟩
  have hlfne : lf1 ≠ lf2 := by
    rw [hlf1, hlf2]
    intro e
    injection e with _ e
    exact hne (List.append_inj e rfl).2
  obtain ⟨C, hC⟩ : ∃ C, C = cntN n := ⟨_, rfl⟩
  rw [← hlf1, ← hC] at h1
  rw [← hlf2, ← hC] at h2
  rw [← hC] at hn1 hn2
  obtain ⟨cb, hcb⟩ : ∃ cb, cb = chunkB b.x i := ⟨_, rfl⟩
  obtain ⟨P1, hP1⟩ : ∃ P1, P1 = proofB (leavesB b.x) i := ⟨_, rfl⟩
  rw [← hcb] at HCH hcl hlf1
  rw [← hP1] at HPR h1 hn1
  obtain ⟨cl, hcle⟩ : ∃ cl, cl = cb.length := ⟨_, rfl⟩
  unfold OwnPost at HCH
  rw [← hcle] at HCH hcl
  have HP1 : Hid (∀ v (Ac : Option Addr) (cc : Nat) (Ap : Option Addr) (cp : Nat), Chg none w v → Txt v Ac cb → cl ≤ cc → DgsAt v v.heap.size Ap P1 → Calls Tryd.prog 63 #[.pointer (some ⟨px, 0, none⟩), .int .i64 n, .int .i64 i, .slice Ac cl cc, .slice Ap pl cp] v (PathPost v lf1 n pl pl (some (l1, t1)))) := fun v Ac cc Ap cp g ha hb' hd => by
    have := path_any px n i ⟨Ac, cb, cc⟩ Ap P1 pl cp v (hh.chg g (by simp)) ⟨ha, by show cb.length ≤ cc; omega⟩ (by omega) (by rw [← hC]; rw [hC]; exact hi) (by show cb.length ≤ 1000; omega) (by omega) hd hPl
    dsimp only at this
    rw [← hlf1, ← hC, h1, hn2, ← hcle] at this
    exact this
  have HP2 : Hid (∀ v, Chg none w v → Calls Tryd.prog 63 #[.pointer (some ⟨px, 0, none⟩), .int .i64 n, .int .i64 i, .slice q.A q.x.length q.c, .slice A pl c] v (PathPost v lf2 n pl pl (some (l2, t2)))) := fun v g => by
    have := path_any px n i q A P pl c v (hh.chg g (by simp)) (hq.chg g) (by omega) hi (by omega) hpl ((hP.chg g (by simp)).more g.size) hPl
    rw [← hlf2, ← hC, h2, hn2] at this
    exact this
  have HSM : Hid (∀ (v : World) (q : Prt) (n : Nat), Chg none w v → q.ok v → n = q.x.length → n ≤ 1100 → Calls Tryd.prog 52 #[.pointer (some ⟨px, 0, none⟩), .slice q.A n q.c] v fun e w' => e = .returned (.agg (byteVals (dig q.x)).toArray) ∧ Chg none v w') := fun v q n g h1 h2 h3 => by
    subst h2
    exact hsum_any px q v (hh.chg g (by simp)) h1 (by omega)
  have hlink := path_linked _ C i lf1 lf2 P1 P n l1 t1 l2 t2 (Nat.le_refl _) h1 h2
  have hl1 := pathN_len _ C i _ P1 l1 t1 (Nat.le_refl _) h1
  have HLK := Lib.hid hlink
  have HLAST := Lib.hid hlast
  have HLFN := Lib.hid hlfne
  have HL1 : Hid (l1.length ≤ pl) := by show l1.length ≤ pl; omega
  have HLB : Hid (∀ ls : List UInt8, (ls ∈ lf1 :: (l1 ++ [rootBytes n t1]) ∨ ls ∈ lf2 :: (l2 ++ [rootBytes n t2])) → ls.length ≤ 1100) := by
    intro ls hls
    have k1 : lf1.length ≤ 1100 := by rw [hlf1, List.length_cons, List.length_append, be_len]; omega
    have k2 : lf2.length ≤ 1100 := by rw [hlf2, List.length_cons, List.length_append, be_len]; omega
    have kr : ∀ t : Dg, (rootBytes n t).length ≤ 1100 := fun t => by unfold rootBytes; rw [List.length_cons, List.length_append, be_len, t.2]; decide
    rcases hls with h | h
    · rcases List.mem_cons.1 h with rfl | h
      · exact k1
      · rcases List.mem_append.1 h with h | h
        · exact pathN_rows _ C i _ P1 l1 t1 (Nat.le_refl _) h1 ls h
        · obtain rfl := List.mem_singleton.1 h; exact kr _
    · rcases List.mem_cons.1 h with rfl | h
      · exact k2
      · rcases List.mem_append.1 h with h | h
        · exact pathN_rows _ C i _ P l2 t2 (Nat.le_refl _) h2 ls h
        · obtain rfl := List.mem_singleton.1 h; exact kr _
  have HCL := Lib.hid hcle
  clear hlf1 hlf2 hlfne hC h1 h2 hn1 hn2 hcb hP1 hcle hlink hl1 hlast hne hh hb hq hP hpl hi hnb
  go_enter Tryd.func37, Tryd.ntmps37
  go_wp2_with fail
  refine HCH.out.mono ?_
  rintro e w1 ⟨A1, c1, rfl, hown1, g1⟩
  obtain ⟨hT1, -, hc1⟩ := own_txt hown1
  have HT1 := Lib.hid hT1
  have HPR1 := Lib.hid (HPR.out w1 g1)
  clear hown1 hT1 HCH HPR
  go_wp2_with fail
  refine HPR1.out.mono ?_
  rintro e w2 ⟨A2, c2, rfl, hown2, g2⟩
  obtain ⟨hD2, -, hc2⟩ := dgs_of_own hown2
  have g02 := g1.trans g2
  have HPA := Lib.hid (HP1.out w2 A1 c1 A2 c2 g02 (HT1.out.chg g2) hc1 hD2)
  clear hown2 hD2 HP1 HPR1 HT1 g1 g2
  go_wp2_with fail
  refine HPA.out.mono ?_
  rintro e w3 ⟨g3, ⟨hR, rfl⟩ | ⟨l, tt, A3, m3, c3, Lp, hR, rfl, hLx, h5, hown3⟩⟩
  · cases hR
  injection hR with hR
  injection hR with hR1 hR2
  subst hR1; subst hR2
  have g03 := g02.trans g3
  have HPB := Lib.hid (HP2.out w3 g03)
  have HO3 := Lib.hid hown3
  have H53 := Lib.hid h5
  have HLX := Lib.hid hLx
  clear hown3 h5 hLx HPA HP2 g02 g3
  go_wp2_with fail
  refine HPB.out.mono ?_
  rintro e w4 ⟨g4, ⟨hR, rfl⟩ | ⟨l', tt', A4, m4, c4, Lq, hR, rfl, hLy, h6, hown4⟩⟩
  · cases hR
  injection hR with hR
  injection hR with hR1 hR2
  subst hR1; subst hR2
  have g04 := g03.trans g4
  have hm : m3 = l1.length + 2 ∧ m4 = m3 := by
    have e1 := HO3.out.1
    have e2 := hown4.1
    have e3 := congrArg List.length HLX.out
    have e4 := congrArg List.length hLy
    have e5 := HLK.out.len
    simp at e1 e2 e3 e4 e5
    omega
  obtain ⟨hm3, hm4⟩ := hm
  subst hm4
  obtain ⟨hmL, gA, hgA, hgl, hcA⟩ := prts_get HO3.out (by omega)
  obtain ⟨hmL2, gB, hgB, hgl2, hcB⟩ := prts_get hown4 (by omega)
  subst hgA; subst hgB
  have HCA : Hid (∀ v, Chg none w4 v → ∀ (j : Nat) r, Lp[j]? = some r → v.cell? ⟨gA, j, none⟩ = some r.val ∧ r.ok v) := fun v g j r hj =>
    ⟨World.grownBy.cell (g4.trans g) (hcA j r hj) (by simp), ((H53.out r (List.mem_of_getElem? hj)).chg (g4.trans g)).ok⟩
  have HCB : Hid (∀ v, Chg none w4 v → ∀ (j : Nat) r, Lq[j]? = some r → v.cell? ⟨gB, j, none⟩ = some r.val ∧ r.ok v) := fun v g j r hj =>
    ⟨World.grownBy.cell g (hcB j r hj) (by simp), ((h6 r (List.mem_of_getElem? hj)).chg g).ok⟩
  have HLY := Lib.hid hLy
  have HM1 := Lib.hid hmL
  have HM2 := Lib.hid hmL2
  have hm9 : m4 ≤ 100002 := by have := HL1.out; omega
  have HM3 := Lib.hid hm3
  have hm1 : 1 ≤ m4 := by omega
  clear hcA hcB hLy h6 hown4 HO3 H53 hmL hmL2 HPB g4 g03 hm3
  go_wp2_with fail
  go_loopw [17] (fun s17 wr => ∃ k : Nat, k < m4 ∧ s17 = .int .i64 k ∧ Hid (∀ j, k < j → (Lp.map Prt.x)[j]? = (Lq.map Prt.x)[j]?) ∧ Chg none w4 wr) (fun s17 _ => (intOf s17 + 1).toNat)
  case atStart => exact ⟨m4 - 1, by omega, by congr 1; omega, fun j hj => by
    rw [List.getElem?_eq_none (by rw [List.length_map, ← HM1.out]; omega), List.getElem?_eq_none (by rw [List.length_map, ← HM2.out]; omega)], Chg.refl _ _⟩
  case round =>
    obtain ⟨k, hk, rfl, HEQ, gk⟩ := hrel
    obtain ⟨rp, hrp⟩ : ∃ rp, Lp[k]? = some rp := ⟨_, List.getElem?_eq_getElem (by rw [← HM1.out]; exact hk)⟩
    obtain ⟨rq, hrq⟩ : ∃ rq, Lq[k]? = some rq := ⟨_, List.getElem?_eq_getElem (by rw [← HM2.out]; exact hk)⟩
    have hxp : (Lp.map Prt.x)[k]? = some rp.x := by rw [List.getElem?_map, hrp]; rfl
    have hxq : (Lq.map Prt.x)[k]? = some rq.x := by rw [List.getElem?_map, hrq]; rfl
    have hb1 : rp.x.length ≤ 1100 := HLB.out _ (.inl (by rw [← HLX.out]; exact List.mem_of_getElem? hxp))
    have hb2 : rq.x.length ≤ 1100 := HLB.out _ (.inr (by rw [← HLY.out]; exact List.mem_of_getElem? hxq))
    obtain ⟨c1p, o1p⟩ := HCA.out wr gk k rp hrp
    obtain ⟨c1q, o1q⟩ := HCB.out wr gk k rq hrq
    have HOP : Hid (∀ v, Chg none wr v → rp.ok v) := fun v g => o1p.chg g
    have HOQ : Hid (∀ v, Chg none wr v → rq.ok v) := fun v g => o1q.chg g
    have HD : Hid (rp.x ≠ rq.x → dig rp.x = dig rq.x) := fun hx => by
      by_cases hkm : k + 1 < m4
      · obtain ⟨rp', hrp'⟩ : ∃ r, Lp[k + 1]? = some r := ⟨_, List.getElem?_eq_getElem (by rw [← HM1.out]; exact hkm)⟩
        obtain ⟨rq', hrq'⟩ : ∃ r, Lq[k + 1]? = some r := ⟨_, List.getElem?_eq_getElem (by rw [← HM2.out]; exact hkm)⟩
        have e1 : (Lp.map Prt.x)[k + 1]? = some rp'.x := by rw [List.getElem?_map, hrp']; rfl
        have e2 : (Lq.map Prt.x)[k + 1]? = some rq'.x := by rw [List.getElem?_map, hrq']; rfl
        have e3 := HEQ.out (k + 1) (by omega)
        rw [e1, e2] at e3
        injection e3 with e3
        rw [HLX.out] at e1 hxp
        rw [HLY.out] at e2 hxq
        exact HLK.out.at_ k _ _ _ _ hxp hxq e1 e2 e3
      · have hk2 : k = l1.length + 1 := by have := HM3.out; omega
        have e5 := HLK.out.len
        simp at e5
        rw [HLX.out, hk2, List.getElem?_cons_succ, List.getElem?_append_right (Nat.le_refl _), Nat.sub_self] at hxp
        rw [HLY.out, hk2, List.getElem?_cons_succ, List.getElem?_append_right (by omega), show l1.length - l2.length = 0 by omega] at hxq
        simp at hxp hxq
        rw [← hxp, ← hxq]
        exact HLAST.out
    have H0 : Hid (rp.x = rq.x → k ≠ 0) := fun hx h0 => by
      subst h0
      rw [HLX.out] at hxp
      rw [HLY.out] at hxq
      simp at hxp hxq
      exact HLFN.out (by rw [hxp, hxq, hx])
    have HE2 : Hid (rp.x = rq.x → ∀ j, k - 1 < j → (Lp.map Prt.x)[j]? = (Lq.map Prt.x)[j]?) := fun hx j hj => by
      have := H0.out hx
      by_cases hjk : j = k
      · rw [hjk, hxp, hxq, hx]
      · exact HEQ.out j (by omega)
    obtain ⟨Ap, xp, cp⟩ := rp
    obtain ⟨Aq, xq, cq⟩ := rq
    dsimp only at *
    obtain ⟨lp, hlp⟩ : ∃ lp, lp = xp.length := ⟨_, rfl⟩
    obtain ⟨lq, hlq⟩ : ∃ lq, lq = xq.length := ⟨_, rfl⟩
    change wr.cell? ⟨gA, k, none⟩ = some (.slice Ap xp.length cp) at c1p
    change wr.cell? ⟨gB, k, none⟩ = some (.slice Aq xq.length cq) at c1q
    rw [← hlp] at c1p hb1
    rw [← hlq] at c1q hb2
    have HLP := Lib.hid hlp
    have HLQ := Lib.hid hlq
    have HCP : Hid (∀ v, Txt v Ap xp → (convert 22 9 (.slice Ap lp cp)).run Tryd.prog v = .ok (.string ⟨xp.toArray⟩) v) := fun v h => by rw [HLP.out]; exact conv_reads v (txt_reads h)
    have HCQ : Hid (∀ v, Txt v Aq xq → (convert 22 9 (.slice Aq lq cq)).run Tryd.prog v = .ok (.string ⟨xq.toArray⟩) v) := fun v h => by rw [HLQ.out]; exact conv_reads v (txt_reads h)
    have hS0 : wr.drew.cell? ⟨gA, k, none⟩ = some (.slice Ap lp cp) ∧ wr.drew.cell? ⟨gB, k, none⟩ = some (.slice Aq lq cq) ∧ Txt wr.drew Ap xp ∧ Txt wr.drew Aq xq := ⟨c1p, c1q, o1p.1, o1q.1⟩
    have i1 : (0 : Int) ≤ (k : Int) := by omega
    have i2 : (k : Int) < (m4 : Int) := by omega
    have E0 : Chg none wr wr.drew := (Chg.refl _ _).drew
    clear hrp hrq hxp hxq o1p o1q HCA HCB HLK HLAST HLFN HLB HLX HLY hlp hlq HEQ c1p c1q
    by_cases hx : xp = xq
    · have HE := Lib.hid (HE2.out hx)
      have hk0 := H0.out hx
      subst hx
      clear HE2 H0 HD
      go_wp2_with fail
      refine wp_region_held_drew (S := fun w' => w'.cell? ⟨gA, k, none⟩ = some (.slice Ap lp cp) ∧ w'.cell? ⟨gB, k, none⟩ = some (.slice Aq lq cq) ∧ Txt w' Ap xp ∧ Txt w' Aq xp) (by kernel_rfl) hS0 (fun _ => ?_)
      generalize wr.drew = v0 at *
      refine wpAnyH_take (i := 0) (oi := ⟨some 63, _, _, _, _, _⟩) (v := ?_) rfl (by kernel_rfl) (by kernel_rfl) (by kernel_rfl) (fun _ _ _ h => h) (Or.inl ⟨by rfl, ?_⟩) (by assumption) ?_
      rotate_left
      · intro w hSw; (try dsimp only at hSw); go_simp; (try with_reducible rfl)
      try simp only [Act.put, List.setIfInBounds_toArray, List.set_cons_zero, List.set_cons_succ]
      refine wpAnyH_take (i := 1) (oi := ⟨some 64, _, _, _, _, _⟩) (v := ?_) rfl (by kernel_rfl) (by kernel_rfl) (by kernel_rfl) (fun _ _ _ h => h) (Or.inl ⟨by rfl, ?_⟩) (by assumption) ?_
      rotate_left
      · intro w hSw; (try dsimp only at hSw); go_simp; (try with_reducible rfl)
      try simp only [Act.put, List.setIfInBounds_toArray, List.set_cons_zero, List.set_cons_succ]
      refine wpAnyH_take (i := 2) (oi := ⟨some 65, _, _, _, _, _⟩) (v := ?_) rfl (by kernel_rfl) (by kernel_rfl) (by kernel_rfl) (fun _ _ _ h => h) (Or.inl ⟨by rfl, ?_⟩) (by assumption) ?_
      rotate_left
      · intro w hSw; (try dsimp only at hSw); go_simp; (try with_reducible rfl)
      try simp only [Act.put, List.setIfInBounds_toArray, List.set_cons_zero, List.set_cons_succ]
      refine wpAnyH_take (i := 3) (oi := ⟨some 66, _, _, _, _, _⟩) (v := ?_) rfl (by kernel_rfl) (by kernel_rfl) (by kernel_rfl) (fun _ _ _ h => h) (Or.inl ⟨by rfl, ?_⟩) (by assumption) ?_
      rotate_left
      · intro w hSw; (try dsimp only at hSw); have hcw := hSw.1; go_simp; (try with_reducible rfl)
      try simp only [Act.put, List.setIfInBounds_toArray, List.set_cons_zero, List.set_cons_succ]
      refine wpAnyH_take (i := 4) (oi := ⟨some 67, _, _, _, _, _⟩) (v := ?_) rfl (by kernel_rfl) (by kernel_rfl) (by kernel_rfl) (fun _ _ _ h => h) (Or.inl ⟨by rfl, ?_⟩) (by assumption) ?_
      rotate_left
      · intro w hSw; (try dsimp only at hSw); have hcw := HCP.out w hSw.2.2.1; go_simp; (try with_reducible rfl)
      try simp only [Act.put, List.setIfInBounds_toArray, List.set_cons_zero, List.set_cons_succ]
      refine wpAnyH_take (i := 5) (oi := ⟨some 68, _, _, _, _, _⟩) (v := ?_) rfl (by kernel_rfl) (by kernel_rfl) (by kernel_rfl) (fun _ _ _ h => h) (Or.inl ⟨by rfl, ?_⟩) (by assumption) ?_
      rotate_left
      · intro w hSw; (try dsimp only at hSw); go_simp; (try with_reducible rfl)
      try simp only [Act.put, List.setIfInBounds_toArray, List.set_cons_zero, List.set_cons_succ]
      refine wpAnyH_take (i := 6) (oi := ⟨some 69, _, _, _, _, _⟩) (v := ?_) rfl (by kernel_rfl) (by kernel_rfl) (by kernel_rfl) (fun _ _ _ h => h) (Or.inl ⟨by rfl, ?_⟩) (by assumption) ?_
      rotate_left
      · intro w hSw; (try dsimp only at hSw); go_simp; (try with_reducible rfl)
      try simp only [Act.put, List.setIfInBounds_toArray, List.set_cons_zero, List.set_cons_succ]
      refine wpAnyH_take (i := 7) (oi := ⟨some 70, _, _, _, _, _⟩) (v := ?_) rfl (by kernel_rfl) (by kernel_rfl) (by kernel_rfl) (fun _ _ _ h => h) (Or.inl ⟨by rfl, ?_⟩) (by assumption) ?_
      rotate_left
      · intro w hSw; (try dsimp only at hSw); go_simp; (try with_reducible rfl)
      try simp only [Act.put, List.setIfInBounds_toArray, List.set_cons_zero, List.set_cons_succ]
      refine wpAnyH_take (i := 8) (oi := ⟨some 71, _, _, _, _, _⟩) (v := ?_) rfl (by kernel_rfl) (by kernel_rfl) (by kernel_rfl) (fun _ _ _ h => h) (Or.inl ⟨by rfl, ?_⟩) (by assumption) ?_
      rotate_left
      · intro w hSw; (try dsimp only at hSw); have hcw := hSw.2.1; go_simp; (try with_reducible rfl)
      try simp only [Act.put, List.setIfInBounds_toArray, List.set_cons_zero, List.set_cons_succ]
      refine wpAnyH_take (i := 9) (oi := ⟨some 72, _, _, _, _, _⟩) (v := ?_) rfl (by kernel_rfl) (by kernel_rfl) (by kernel_rfl) (fun _ _ _ h => h) (Or.inl ⟨by rfl, ?_⟩) (by assumption) ?_
      rotate_left
      · intro w hSw; (try dsimp only at hSw); have hcw := HCQ.out w hSw.2.2.2; go_simp; (try with_reducible rfl)
      try simp only [Act.put, List.setIfInBounds_toArray, List.set_cons_zero, List.set_cons_succ]
      refine wpAnyH_take (i := 10) (oi := ⟨some 73, _, _, _, _, _⟩) (v := ?_) rfl (by kernel_rfl) (by kernel_rfl) (by kernel_rfl) (fun _ _ _ h => h) (Or.inl ⟨by rfl, ?_⟩) (by assumption) ?_
      rotate_left
      · intro w hSw; (try dsimp only at hSw); go_simp; (try with_reducible rfl)
      try simp only [Act.put, List.setIfInBounds_toArray, List.set_cons_zero, List.set_cons_succ]
      refine wpAnyH_done (by kernel_rfl) ?_ _
      try simp only [Act.put]
      go_wp2_with fail
      go_roundw
      case rel => exact ⟨k - 1, by omega, by congr 1; omega, HE.out, gk.trans E0⟩
      case measure => simp only [intOf]; omega
    · have hdg := HD.out hx
      have hns : (xp == xq) = false := by simpa using hx
      have HX := Lib.hid hx
      have HDG := Lib.hid hdg
      clear HE2 H0 HD hx hdg
      go_wp2_with fail
      refine wp_region_held_drew (S := fun w' => w'.cell? ⟨gA, k, none⟩ = some (.slice Ap lp cp) ∧ w'.cell? ⟨gB, k, none⟩ = some (.slice Aq lq cq) ∧ Txt w' Ap xp ∧ Txt w' Aq xq) (by kernel_rfl) hS0 (fun _ => ?_)
      generalize wr.drew = v0 at *
      refine wpAnyH_take (i := 0) (oi := ⟨some 63, _, _, _, _, _⟩) (v := ?_) rfl (by kernel_rfl) (by kernel_rfl) (by kernel_rfl) (fun _ _ _ h => h) (Or.inl ⟨by rfl, ?_⟩) (by assumption) ?_
      rotate_left
      · intro w hSw; (try dsimp only at hSw); go_simp; (try with_reducible rfl)
      try simp only [Act.put, List.setIfInBounds_toArray, List.set_cons_zero, List.set_cons_succ]
      refine wpAnyH_take (i := 1) (oi := ⟨some 64, _, _, _, _, _⟩) (v := ?_) rfl (by kernel_rfl) (by kernel_rfl) (by kernel_rfl) (fun _ _ _ h => h) (Or.inl ⟨by rfl, ?_⟩) (by assumption) ?_
      rotate_left
      · intro w hSw; (try dsimp only at hSw); go_simp; (try with_reducible rfl)
      try simp only [Act.put, List.setIfInBounds_toArray, List.set_cons_zero, List.set_cons_succ]
      refine wpAnyH_take (i := 2) (oi := ⟨some 65, _, _, _, _, _⟩) (v := ?_) rfl (by kernel_rfl) (by kernel_rfl) (by kernel_rfl) (fun _ _ _ h => h) (Or.inl ⟨by rfl, ?_⟩) (by assumption) ?_
      rotate_left
      · intro w hSw; (try dsimp only at hSw); go_simp; (try with_reducible rfl)
      try simp only [Act.put, List.setIfInBounds_toArray, List.set_cons_zero, List.set_cons_succ]
      refine wpAnyH_take (i := 3) (oi := ⟨some 66, _, _, _, _, _⟩) (v := ?_) rfl (by kernel_rfl) (by kernel_rfl) (by kernel_rfl) (fun _ _ _ h => h) (Or.inl ⟨by rfl, ?_⟩) (by assumption) ?_
      rotate_left
      · intro w hSw; (try dsimp only at hSw); have hcw := hSw.1; go_simp; (try with_reducible rfl)
      try simp only [Act.put, List.setIfInBounds_toArray, List.set_cons_zero, List.set_cons_succ]
      refine wpAnyH_take (i := 4) (oi := ⟨some 67, _, _, _, _, _⟩) (v := ?_) rfl (by kernel_rfl) (by kernel_rfl) (by kernel_rfl) (fun _ _ _ h => h) (Or.inl ⟨by rfl, ?_⟩) (by assumption) ?_
      rotate_left
      · intro w hSw; (try dsimp only at hSw); have hcw := HCP.out w hSw.2.2.1; go_simp; (try with_reducible rfl)
      try simp only [Act.put, List.setIfInBounds_toArray, List.set_cons_zero, List.set_cons_succ]
      refine wpAnyH_take (i := 5) (oi := ⟨some 68, _, _, _, _, _⟩) (v := ?_) rfl (by kernel_rfl) (by kernel_rfl) (by kernel_rfl) (fun _ _ _ h => h) (Or.inl ⟨by rfl, ?_⟩) (by assumption) ?_
      rotate_left
      · intro w hSw; (try dsimp only at hSw); go_simp; (try with_reducible rfl)
      try simp only [Act.put, List.setIfInBounds_toArray, List.set_cons_zero, List.set_cons_succ]
      refine wpAnyH_take (i := 6) (oi := ⟨some 69, _, _, _, _, _⟩) (v := ?_) rfl (by kernel_rfl) (by kernel_rfl) (by kernel_rfl) (fun _ _ _ h => h) (Or.inl ⟨by rfl, ?_⟩) (by assumption) ?_
      rotate_left
      · intro w hSw; (try dsimp only at hSw); go_simp; (try with_reducible rfl)
      try simp only [Act.put, List.setIfInBounds_toArray, List.set_cons_zero, List.set_cons_succ]
      refine wpAnyH_take (i := 7) (oi := ⟨some 70, _, _, _, _, _⟩) (v := ?_) rfl (by kernel_rfl) (by kernel_rfl) (by kernel_rfl) (fun _ _ _ h => h) (Or.inl ⟨by rfl, ?_⟩) (by assumption) ?_
      rotate_left
      · intro w hSw; (try dsimp only at hSw); go_simp; (try with_reducible rfl)
      try simp only [Act.put, List.setIfInBounds_toArray, List.set_cons_zero, List.set_cons_succ]
      refine wpAnyH_take (i := 8) (oi := ⟨some 71, _, _, _, _, _⟩) (v := ?_) rfl (by kernel_rfl) (by kernel_rfl) (by kernel_rfl) (fun _ _ _ h => h) (Or.inl ⟨by rfl, ?_⟩) (by assumption) ?_
      rotate_left
      · intro w hSw; (try dsimp only at hSw); have hcw := hSw.2.1; go_simp; (try with_reducible rfl)
      try simp only [Act.put, List.setIfInBounds_toArray, List.set_cons_zero, List.set_cons_succ]
      refine wpAnyH_take (i := 9) (oi := ⟨some 72, _, _, _, _, _⟩) (v := ?_) rfl (by kernel_rfl) (by kernel_rfl) (by kernel_rfl) (fun _ _ _ h => h) (Or.inl ⟨by rfl, ?_⟩) (by assumption) ?_
      rotate_left
      · intro w hSw; (try dsimp only at hSw); have hcw := HCQ.out w hSw.2.2.2; go_simp; (try with_reducible rfl)
      try simp only [Act.put, List.setIfInBounds_toArray, List.set_cons_zero, List.set_cons_succ]
      refine wpAnyH_take (i := 10) (oi := ⟨some 73, _, _, _, _, _⟩) (v := ?_) rfl (by kernel_rfl) (by kernel_rfl) (by kernel_rfl) (fun _ _ _ h => h) (Or.inl ⟨by rfl, ?_⟩) (by assumption) ?_
      rotate_left
      · intro w hSw; (try dsimp only at hSw); go_simp; (try with_reducible rfl)
      try simp only [Act.put, List.setIfInBounds_toArray, List.set_cons_zero, List.set_cons_succ]
      refine wpAnyH_done (by kernel_rfl) ?_ _
      try simp only [Act.put]
      go_wp2_with fail
      have hS1 : v0.drew.cell? ⟨gA, k, none⟩ = some (.slice Ap lp cp) ∧ v0.drew.cell? ⟨gB, k, none⟩ = some (.slice Aq lq cq) := ⟨hS0.1, hS0.2.1⟩
      have E1 : Chg none wr v0.drew := E0.drew
      refine wp_region_held_drew (S := fun w' => w'.cell? ⟨gA, k, none⟩ = some (.slice Ap lp cp) ∧ w'.cell? ⟨gB, k, none⟩ = some (.slice Aq lq cq)) (by kernel_rfl) hS1 (fun _ => ?_)
      clear hns HCP HCQ hS0 E0
      obtain ⟨D, hD⟩ : ∃ D : Dg, D = digDg xp := ⟨_, rfl⟩
      have HDP : Hid (dig xp = D.1) := by rw [hD]; rfl
      have HDQ : Hid (dig xq = D.1) := by show _ = _; rw [← HDG.out]; exact HDP.out
      have hqq : ∀ v : World, (binOp .eql 30 (.agg (byteVals D.1).toArray) (.agg (byteVals D.1).toArray)).run Tryd.prog v = .ok (.bool true) v := fun v => by rw [eql30 D.1 D.1 D.2 D.2 v]; simp
      have hg30 := guard30
      clear hD
      generalize v0.drew = v1 at *
      refine wpAnyH_take (i := 0) (oi := ⟨some 74, _, _, _, _, _⟩) (v := ?_) rfl (by kernel_rfl) (by kernel_rfl) (by kernel_rfl) (fun _ _ _ h => h) (Or.inl ⟨by rfl, ?_⟩) (by assumption) ?_
      rotate_left
      · intro w hSw; (try dsimp only at hSw); go_simp; (try with_reducible rfl)
      try simp only [Act.put, List.setIfInBounds_toArray, List.set_cons_zero, List.set_cons_succ]
      refine wpAnyH_take (i := 1) (oi := ⟨some 75, _, _, _, _, _⟩) (v := ?_) rfl (by kernel_rfl) (by kernel_rfl) (by kernel_rfl) (fun _ _ _ h => h) (Or.inl ⟨by rfl, ?_⟩) (by assumption) ?_
      rotate_left
      · intro w hSw; (try dsimp only at hSw); go_simp; (try with_reducible rfl)
      try simp only [Act.put, List.setIfInBounds_toArray, List.set_cons_zero, List.set_cons_succ]
      refine wpAnyH_take (i := 2) (oi := ⟨some 76, _, _, _, _, _⟩) (v := ?_) rfl (by kernel_rfl) (by kernel_rfl) (by kernel_rfl) (fun _ _ _ h => h) (Or.inl ⟨by rfl, ?_⟩) (by assumption) ?_
      rotate_left
      · intro w hSw; (try dsimp only at hSw); go_simp; (try with_reducible rfl)
      try simp only [Act.put, List.setIfInBounds_toArray, List.set_cons_zero, List.set_cons_succ]
      refine wpAnyH_take (i := 3) (oi := ⟨some 77, _, _, _, _, _⟩) (v := ?_) rfl (by kernel_rfl) (by kernel_rfl) (by kernel_rfl) (fun _ _ _ h => h) (Or.inl ⟨by rfl, ?_⟩) (by assumption) ?_
      rotate_left
      · intro w hSw; (try dsimp only at hSw); have hcw := hSw.1; go_simp; (try with_reducible rfl)
      try simp only [Act.put, List.setIfInBounds_toArray, List.set_cons_zero, List.set_cons_succ]
      refine wpAnyH_take (i := 4) (oi := ⟨some 78, _, _, _, _, _⟩) (v := ?_) rfl (by kernel_rfl) (by kernel_rfl) (by kernel_rfl) (fun _ _ _ h => h) (Or.inl ⟨by rfl, ?_⟩) (by assumption) ?_
      rotate_left
      · intro w hSw; (try dsimp only at hSw); go_simp; (try with_reducible rfl)
      try simp only [Act.put, List.setIfInBounds_toArray, List.set_cons_zero, List.set_cons_succ]
      refine wpAnyH_take (i := 5) (oi := ⟨some 79, _, _, _, _, _⟩) (v := ?_) rfl (by kernel_rfl) (by kernel_rfl) (by kernel_rfl) (fun _ _ _ h => h) (Or.inl ⟨by rfl, ?_⟩) (by assumption) ?_
      rotate_left
      · intro w hSw; (try dsimp only at hSw); go_simp; (try with_reducible rfl)
      try simp only [Act.put, List.setIfInBounds_toArray, List.set_cons_zero, List.set_cons_succ]
      refine wpAnyH_take (i := 6) (oi := ⟨some 80, _, _, _, _, _⟩) (v := ?_) rfl (by kernel_rfl) (by kernel_rfl) (by kernel_rfl) (fun _ _ _ h => h) (Or.inl ⟨by rfl, ?_⟩) (by assumption) ?_
      rotate_left
      · intro w hSw; (try dsimp only at hSw); go_simp; (try with_reducible rfl)
      try simp only [Act.put, List.setIfInBounds_toArray, List.set_cons_zero, List.set_cons_succ]
      refine wpAnyH_take (i := 7) (oi := ⟨some 81, _, _, _, _, _⟩) (v := ?_) rfl (by kernel_rfl) (by kernel_rfl) (by kernel_rfl) (fun _ _ _ h => h) (Or.inl ⟨by rfl, ?_⟩) (by assumption) ?_
      rotate_left
      · intro w hSw; (try dsimp only at hSw); have hcw := hSw.2; go_simp; (try with_reducible rfl)
      try simp only [Act.put, List.setIfInBounds_toArray, List.set_cons_zero, List.set_cons_succ]
      refine wpAnyH_take (i := 8) (oi := ⟨some 82, _, _, _, _, _⟩) (v := ?_) rfl (by kernel_rfl) (by kernel_rfl) (by kernel_rfl) (fun _ _ _ h => h) (Or.inl ⟨by rfl, ?_⟩) (by assumption) ?_
      rotate_left
      · intro w hSw; (try dsimp only at hSw); go_simp; (try with_reducible rfl)
      try simp only [Act.put, List.setIfInBounds_toArray, List.set_cons_zero, List.set_cons_succ]
      refine wpAnyH_take (i := 9) (oi := ⟨some 83, _, _, _, _, _⟩) (v := ?_) rfl (by kernel_rfl) (by kernel_rfl) (by kernel_rfl) (fun _ _ _ h => h) (Or.inl ⟨by rfl, ?_⟩) (by assumption) ?_
      rotate_left
      · intro w hSw; (try dsimp only at hSw); go_simp; (try with_reducible rfl)
      try simp only [Act.put, List.setIfInBounds_toArray, List.set_cons_zero, List.set_cons_succ]
      refine wpAnyH_take (i := 10) (oi := ⟨some 84, _, _, _, _, _⟩) (v := ?_) rfl (by kernel_rfl) (by kernel_rfl) (by kernel_rfl) (fun _ _ _ h => h) (Or.inl ⟨by rfl, ?_⟩) (by assumption) ?_
      rotate_left
      · intro w hSw; (try dsimp only at hSw); go_simp; (try with_reducible rfl)
      try simp only [Act.put, List.setIfInBounds_toArray, List.set_cons_zero, List.set_cons_succ]
      refine wpAnyH_take (i := 11) (oi := ⟨some 85, _, _, _, _, _⟩) (v := ?_) rfl (by kernel_rfl) (by kernel_rfl) (by kernel_rfl) (fun _ _ _ h => h) (Or.inl ⟨by rfl, ?_⟩) (by assumption) ?_
      rotate_left
      · intro w hSw; (try dsimp only at hSw); go_simp; (try with_reducible rfl)
      try simp only [Act.put, List.setIfInBounds_toArray, List.set_cons_zero, List.set_cons_succ]
      refine wpAnyH_take (i := 12) (oi := ⟨some 86, _, _, _, _, _⟩) (v := ?_) rfl (by kernel_rfl) (by kernel_rfl) (by kernel_rfl) (fun _ _ _ h => h) (Or.inl ⟨by rfl, ?_⟩) (by assumption) ?_
      rotate_left
      · intro w hSw; (try dsimp only at hSw); have hcw := hSw.1; go_simp; (try with_reducible rfl)
      try simp only [Act.put, List.setIfInBounds_toArray, List.set_cons_zero, List.set_cons_succ]
      refine wpAnyH_take (i := 14) (oi := ⟨some 88, _, _, _, _, _⟩) (v := ?_) rfl (by kernel_rfl) (by kernel_rfl) (by kernel_rfl) (fun _ _ _ h => h) (Or.inl ⟨by rfl, ?_⟩) (by assumption) ?_
      rotate_left
      · intro w hSw; (try dsimp only at hSw); go_simp; (try with_reducible rfl)
      try simp only [Act.put, List.setIfInBounds_toArray, List.set_cons_zero, List.set_cons_succ]
      refine wpAnyH_take (i := 15) (oi := ⟨some 89, _, _, _, _, _⟩) (v := ?_) rfl (by kernel_rfl) (by kernel_rfl) (by kernel_rfl) (fun _ _ _ h => h) (Or.inl ⟨by rfl, ?_⟩) (by assumption) ?_
      rotate_left
      · intro w hSw; (try dsimp only at hSw); go_simp; (try with_reducible rfl)
      try simp only [Act.put, List.setIfInBounds_toArray, List.set_cons_zero, List.set_cons_succ]
      refine wpAnyH_take (i := 16) (oi := ⟨some 90, _, _, _, _, _⟩) (v := ?_) rfl (by kernel_rfl) (by kernel_rfl) (by kernel_rfl) (fun _ _ _ h => h) (Or.inl ⟨by rfl, ?_⟩) (by assumption) ?_
      rotate_left
      · intro w hSw; (try dsimp only at hSw); go_simp; (try with_reducible rfl)
      try simp only [Act.put, List.setIfInBounds_toArray, List.set_cons_zero, List.set_cons_succ]
      refine wpAnyH_take (i := 17) (oi := ⟨some 91, _, _, _, _, _⟩) (v := ?_) rfl (by kernel_rfl) (by kernel_rfl) (by kernel_rfl) (fun _ _ _ h => h) (Or.inl ⟨by rfl, ?_⟩) (by assumption) ?_
      rotate_left
      · intro w hSw; (try dsimp only at hSw); go_simp; (try with_reducible rfl)
      try simp only [Act.put, List.setIfInBounds_toArray, List.set_cons_zero, List.set_cons_succ]
      refine wpAnyH_take (i := 18) (oi := ⟨some 92, _, _, _, _, _⟩) (v := ?_) rfl (by kernel_rfl) (by kernel_rfl) (by kernel_rfl) (fun _ _ _ h => h) (Or.inl ⟨by rfl, ?_⟩) (by assumption) ?_
      rotate_left
      · intro w hSw; (try dsimp only at hSw); have hcw := hSw.2; go_simp; (try with_reducible rfl)
      try simp only [Act.put, List.setIfInBounds_toArray, List.set_cons_zero, List.set_cons_succ]
      refine wpAnyH_ready (rs := [13]) (by kernel_rfl) (by simp) ?_
      refine AllReadyH.cons (o := ⟨some 87, _, _, _, _, _⟩) rfl (fun K hK => ?_) (AllReadyH.nil)
      have HC1 := Lib.hid (HSM.out v1 ⟨Ap, xp, cp⟩ lp (g04.trans (gk.trans E1)) (HOP.out v1 E1) HLP.out hb1)
      dsimp only at HC1
      rw [HDP.out] at HC1
      go_simp
      go_at_call 52
      refine HC1.out.mono ?_
      rintro e v2 ⟨rfl, g2⟩
      have E2 := E1.trans g2
      have hS2 : v2.cell? ⟨gA, k, none⟩ = some (.slice Ap lp cp) ∧ v2.cell? ⟨gB, k, none⟩ = some (.slice Aq lq cq) := ⟨World.grownBy.cell g2 hS1.1 (by simp), World.grownBy.cell g2 hS1.2 (by simp)⟩
      clear HC1
      go_wp2_with fail
      refine hK.out _ _ hS2 (fun _ => ?_)
      clear hK K
      try simp only [Act.put, List.setIfInBounds_toArray, List.set_cons_zero, List.set_cons_succ]
      refine wpAnyH_ready (rs := [19]) (by kernel_rfl) (by simp) ?_
      refine AllReadyH.cons (o := ⟨some 93, _, _, _, _, _⟩) rfl (fun K hK => ?_) (AllReadyH.nil)
      have HC2 := Lib.hid (HSM.out v2 ⟨Aq, xq, cq⟩ lq (g04.trans (gk.trans E2)) (HOQ.out v2 E2) HLQ.out hb2)
      dsimp only at HC2
      rw [HDQ.out] at HC2
      go_simp
      go_at_call 52
      refine HC2.out.mono ?_
      rintro e v3 ⟨rfl, g3⟩
      have E3 := E2.trans g3
      have hS3 : v3.cell? ⟨gA, k, none⟩ = some (.slice Ap lp cp) ∧ v3.cell? ⟨gB, k, none⟩ = some (.slice Aq lq cq) := ⟨World.grownBy.cell g3 hS2.1 (by simp), World.grownBy.cell g3 hS2.2 (by simp)⟩
      clear HC2
      go_wp2_with fail
      refine hK.out _ _ hS3 (fun _ => ?_)
      clear hK K
      try simp only [Act.put, List.setIfInBounds_toArray, List.set_cons_zero, List.set_cons_succ]
      refine wpAnyH_take (i := 20) (oi := ⟨some 94, _, _, _, _, _⟩) (v := ?_) rfl (by kernel_rfl) (by kernel_rfl) (by kernel_rfl) (fun _ _ _ h => h) (Or.inl ⟨by rfl, ?_⟩) (by assumption) ?_
      rotate_left
      · intro w hSw; (try dsimp only at hSw); go_simp; (try with_reducible rfl)
      try simp only [Act.put, List.setIfInBounds_toArray, List.set_cons_zero, List.set_cons_succ]
      refine wpAnyH_take (i := 21) (oi := ⟨some 10, _, _, _, _, _⟩) (v := ?_) rfl (by kernel_rfl) (by kernel_rfl) (by kernel_rfl) (fun _ _ _ h => h) (Or.inl ⟨by rfl, ?_⟩) (by assumption) ?_
      rotate_left
      · intro w hSw; (try dsimp only at hSw); go_simp; (try with_reducible rfl)
      try simp only [Act.put, List.setIfInBounds_toArray, List.set_cons_zero, List.set_cons_succ]
      refine wpAnyH_take (i := 22) (oi := ⟨some 11, _, _, _, _, _⟩) (v := ?_) rfl (by kernel_rfl) (by kernel_rfl) (by kernel_rfl) (fun _ _ _ h => h) (Or.inl ⟨by rfl, ?_⟩) (by assumption) ?_
      rotate_left
      · intro w hSw; (try dsimp only at hSw); go_simp; (try with_reducible rfl)
      try simp only [Act.put, List.setIfInBounds_toArray, List.set_cons_zero, List.set_cons_succ]
      refine wpAnyH_take (i := 23) (oi := ⟨some 12, _, _, _, _, _⟩) (v := ?_) rfl (by kernel_rfl) (by kernel_rfl) (by kernel_rfl) (fun _ _ _ h => h) (Or.inl ⟨by rfl, ?_⟩) (by assumption) ?_
      rotate_left
      · intro w hSw; (try dsimp only at hSw); go_simp; (try with_reducible rfl)
      try simp only [Act.put, List.setIfInBounds_toArray, List.set_cons_zero, List.set_cons_succ]
      refine wpAnyH_done (by kernel_rfl) ?_ _
      try simp only [Act.put]
      go_wp2_with fail
      go_ret3
      exact ⟨Ap, xp, lp, cp, Aq, xq, lq, cq, rfl, HLP.out, HLQ.out, HOP.out v3 E3, HOQ.out v3 E3, HX.out, HDG.out, hb1, hb2, g04.trans (gk.trans E3)⟩

end Go.Proofs.YtdkgecphkppglaaDoor
