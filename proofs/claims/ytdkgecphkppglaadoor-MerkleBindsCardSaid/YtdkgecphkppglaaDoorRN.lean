/-
  The document's merkle: the way from a chunk up.
-/
import Derived.Test.YtdkgecphkppglaaDoorRM
namespace Go.Proofs.YtdkgecphkppglaaDoor
open Go.RowKit

/-- A row of bytes in a block of bytes. -/
def Prt5 (w : World) (p : Prt) : Prop := p.x.length ≤ p.c ∧ ∃ (b : Nat) (cs : Array Value), p.A = some ⟨b, 0, none⟩ ∧ w.heap[b]? = some (.cells cs 5 (0, 0)) ∧ ∀ (j : Nat) (c : UInt8), p.x[j]? = some c → cs[j]? = some (Value.int .u8 c.toNat)
theorem Prt5.keep {w w' : World} {p : Prt} (h : Prt5 w p) (hk : ∀ (b : Nat) (cs : Array Value), w.heap[b]? = some (.cells cs 5 (0, 0)) → w'.heap[b]? = w.heap[b]?) : Prt5 w' p := by
  obtain ⟨h1, b, cs, h2, h3, h4⟩ := h
  exact ⟨h1, b, cs, h2, (hk b cs h3).trans h3, h4⟩
theorem heap_lt {w : World} {b : Nat} {o : Obj} (h : w.heap[b]? = some o) : b < w.heap.size := (Array.getElem?_eq_some_iff.1 h).1
theorem Prt5.chg {w w' : World} {p : Prt} (h : Prt5 w p) (g : Chg none w w') : Prt5 w' p := h.keep fun b _ hb => g.block b (heap_lt hb) (by simp)
theorem own_type {w : World} {base n b : Nat} {e T : TypeId} {v : Value} {xs : List Value} {cs : Array Value} (ho : w.ownsRow base e 1 v n xs) (hb : w.heap[b]? = some (.cells cs T (0, 0))) (hT : T ≠ e) : some b ≠ v.ownBlock := by
  intro he
  rcases ho.2 with ⟨h, _⟩ | ⟨g, cap, cur, h1, _, h2, _⟩
  · rw [h] at he; cases he
  · rw [h1] at he
    injection he with he
    have he' : b = g := he
    subst he'
    rw [h2] at hb
    injection hb with hb
    injection hb with _ h3 _
    exact hT h3.symm
theorem Prt5.own {w w' : World} {p : Prt} {base n : Nat} {v : Value} {xs : List Value} (h : Prt5 w p) (ho : w.ownsRow base 22 1 v n xs) (g : Chg v.ownBlock w w') : Prt5 w' p :=
  h.keep fun b _ hb => g.block b (heap_lt hb) (own_type ho hb (by decide))
theorem Prt5.set {w w' : World} {p : Prt} {d : Nat} {ds : Array Value} (h : Prt5 w p) (hd : Blk w d ds 30) (g : Chg (some d) w w') : Prt5 w' p :=
  h.keep fun b cs hb => g.block b (heap_lt hb) (by
    intro he
    injection he with he
    subst he
    unfold Blk at hd
    rw [hb] at hd
    injection hd with hd
    injection hd with _ h3 _
    exact absurd h3 (by decide))
theorem blk_own {w w' : World} {b base n : Nat} {cs : Array Value} {v : Value} {xs : List Value} (h : Blk w b cs 30) (ho : w.ownsRow base 22 1 v n xs) (g : Chg v.ownBlock w w') : Blk w' b cs 30 :=
  Blk.chg h g (own_type ho h (by decide))
theorem own_set {w w' : World} {b base n : Nat} {cs : Array Value} {v : Value} {xs : List Value} (ho : w.ownsRow base 22 1 v n xs) (h : Blk w b cs 30) (g : Chg (some b) w w') : w'.ownsRow base 22 1 v n xs :=
  ho.kept g (.inr fun e => own_type ho h (by decide) e.symm)
theorem prt5_of_own {w : World} {base n c : Nat} {A : Option Addr} {bs : List UInt8} (h : w.ownsRow base 5 1 (.slice A n c) n (byteVals bs)) (h0 : 0 < n) : Prt5 w ⟨A, bs, c⟩ := by
  have hl := h.1
  rw [byteVals_len, Nat.mul_one] at hl
  rcases h.2 with ⟨_, h2⟩ | ⟨g, cap, cur, h1, _, h3, h4, _, _, h7⟩
  · omega
  · injection h1 with e1 _ e3
    subst e1; subst e3
    refine ⟨by show bs.length ≤ c; omega, g, cur, rfl, h3, fun j x hj => ?_⟩
    have hjl : j < bs.length := (List.getElem?_eq_some_iff.1 hj).1
    have h8 : (cur.toList.take (n * 1))[j]? = some (.int .u8 x.toNat) := by rw [h7]; exact byteVals_get hj
    rw [List.getElem?_take_of_lt (by omega)] at h8
    rw [← Array.getElem?_toList]; exact h8
theorem Prt5.ok {w : World} {p : Prt} (h : Prt5 w p) : p.ok w := by
  obtain ⟨h1, b, cs, h2, h3, h4⟩ := h
  refine ⟨fun _ => ⟨b, 0, h2, heap_lt h3, fun j c hj => ?_⟩, h1⟩
  rw [Nat.zero_add]
  have := h4 j c hj
  simp [World.cell?, h3, this]
theorem own_one22 (w : World) (B : Nat) (hB : B ≤ w.heap.size) (v : Value) : (w.alloc (.cells #[v] 22 (0, 0))).ownsRow B 22 1 (.slice (some ⟨w.heap.size, 0, none⟩) 1 1) 1 [v] :=
  ⟨rfl, .inr ⟨w.heap.size, 1, #[v], rfl, hB, heap_alloc_new w _, Nat.le_refl _, by unfold maxLen; decide, rfl, rfl⟩⟩
theorem reads_prow (w : World) (v : Value) : Reads (w.alloc (.cells #[v] 22 (0, 0))) (w.alloc (.cells #[v] 22 (0, 0))).heap.size 1 (some ⟨w.heap.size, 0, none⟩) 1 [v] :=
  ⟨rfl, fun _ => ⟨_, rfl, by simp, fun q u hu => by
    match q, hu with
    | 0, hu =>
      simp only [List.getElem?_cons_zero, Option.some.injEq] at hu
      subst hu
      rw [Go.WideShapes.add_plain, Nat.zero_add, (Blk.new w _ 22).cell]; rfl⟩⟩

/-- What path tells. -/
def PathPost (w : World) (lf : List UInt8) (N nd pl : Nat) (R : Option (List (List UInt8) × Dg)) (e : Ending) (w' : World) : Prop :=
  Chg none w w' ∧ ((R = none ∧ e = .returned (.tuple #[.slice none 0 0, .bool false])) ∨
    ∃ (l : List (List UInt8)) (t : Dg) (A : Option Addr) (m c : Nat) (Lp : List Prt), R = some (l, t) ∧ e = .returned (.tuple #[.slice A m c, .bool (decide (nd = pl))]) ∧ Lp.map Prt.x = lf :: (l ++ [rootBytes N t]) ∧ (∀ p ∈ Lp, Prt5 w' p) ∧ w'.ownsRow w.heap.size 22 1 (.slice A m c) m (Lp.map Prt.val))

set_option maxRecDepth 100000 in
set_option maxHeartbeats 16000000 in
theorem path_any (px N i : Nat) (p : Prt) (A : Option Addr) (P : List Dg) (pl c : Nat) (w : World) (hh : HashAt w px) (hp : p.ok w) (hN : N < 9223372036854775808) (hi : i < cntN N) (hx : p.x.length ≤ 1000)
    (hpl : pl = P.length) (hP : DgsAt w w.heap.size A P) (hPl : pl ≤ 100000) :
    Calls Tryd.prog 63 #[.pointer (some ⟨px, 0, none⟩), .int .i64 N, .int .i64 i, .slice p.A p.x.length p.c, .slice A pl c] w
      (PathPost w (0 :: (be 8 i ++ p.x)) N (needN (cntN N) i) pl (pathN (cntN N) i (digDg (0 :: (be 8 i ++ p.x))) P)) := by
  obtain ⟨j0, hj0, hy0, hy1, hy2⟩ := info_parts Tryd.info22
  have hcnt : cntN N ≤ 200000000000000000 := by unfold cntN; omega
  have HLF0 := leafr_any i p w hp (by omega) (by omega)
  obtain ⟨lf, hlf⟩ : ∃ lf, lf = 0 :: (be 8 i ++ p.x) := ⟨_, rfl⟩
  have hll : lf.length = p.x.length + 9 := by rw [hlf, List.length_cons, List.length_append, be_len]; omega
  rw [← hlf] at HLF0 ⊢
  obtain ⟨ll, hlle⟩ : ∃ ll, ll = lf.length := ⟨_, rfl⟩
  unfold OwnPost at HLF0
  rw [← hlle] at HLF0
  have HLF := Lib.hid HLF0
  obtain ⟨d0, hd0⟩ : ∃ d0, d0 = digDg lf := ⟨_, rfl⟩
  have hd1 : dig lf = d0.1 := by rw [hd0]; rfl
  rw [← hd0]
  have HCT := Lib.hid (fun v => countr_nat N hN v)
  have HSM : Hid (∀ (v : World) (q : Prt) (n : Nat), Chg none w v → q.ok v → n = q.x.length → n ≤ 1100 → Calls Tryd.prog 52 #[.pointer (some ⟨px, 0, none⟩), .slice q.A n q.c] v fun e w' => e = .returned (.agg (byteVals (dig q.x)).toArray) ∧ Chg none v w') := fun v q n g h1 h2 h3 => by
    subst h2
    exact hsum_any px q v (hh.chg g (by simp)) h1 (by omega)
  have HND : Hid (∀ (v : World) (l r : Dg), ∃ ls : List UInt8, ls = 1 :: (l.1 ++ r.1) ∧ 65 = ls.length ∧ Calls Tryd.prog 74 #[.agg (byteVals l.1).toArray, .agg (byteVals r.1).toArray] v fun e w' => ∃ A c, e = .returned (.slice A 65 c) ∧ w'.ownsRow v.heap.size 5 1 (.slice A 65 c) 65 (byteVals ls) ∧ Chg none v w') := fun v l r => by
    have hl : (1 :: (l.1 ++ r.1)).length = 65 := by rw [List.length_cons, List.length_append, l.2, r.2]
    refine ⟨1 :: (l.1 ++ r.1), rfl, hl.symm, ?_⟩
    have := noder_any l r v
    unfold OwnPost at this
    rwa [hl] at this
  have HRB : Hid (∀ v (d : Dg), ∃ ls : List UInt8, ls = rootBytes N d ∧ 41 = ls.length ∧ Calls Tryd.prog 53 #[.int .i64 N, .agg (byteVals d.1).toArray] v fun e w' => ∃ A c, e = .returned (.slice A 41 c) ∧ w'.ownsRow v.heap.size 5 1 (.slice A 41 c) 41 (byteVals ls) ∧ Chg none v w') := fun v d => by
    have hl : (rootBytes N d).length = 41 := by unfold rootBytes; rw [List.length_cons, List.length_append, be_len, d.2]
    refine ⟨rootBytes N d, rfl, hl.symm, ?_⟩
    have : Calls Tryd.prog 53 #[.int .i64 N, .agg (byteVals d.1).toArray] v (OwnPost v (rootBytes N d)) := rootr_bytes N d v hN
    unfold OwnPost at this
    rwa [hl] at this
  have HPW : Hid (∀ v, Chg none w v → DgsAt v w.heap.size A P) := fun v g => hP.chg g (by simp)
  have HPL := Lib.hid hpl
  have HIL : Hid (∀ d : Dg, (Tryd.prog.info? 30).map (·.size) = some (byteVals d.1).length) := fun d => by rw [byteVals_len, d.2]; show _ = _; kernel_rfl
  have HIS : Hid (∀ d : Dg, (Tryd.prog.info? 30).map (·.size) = some (byteVals d.1).toArray.size) := fun d => by rw [(row_facts d.1 32 d.2).1]; show _ = _; kernel_rfl
  have HZS : Hid (∀ d : Dg, zero32.size = (byteVals d.1).toArray.size) := fun d => by rw [(row_facts d.1 32 d.2).1]; rfl
  have HDS : Hid (∀ d e : Dg, (byteVals d.1).toArray.size = (byteVals e.1).toArray.size) := fun d e => by rw [(row_facts d.1 32 d.2).1, (row_facts e.1 32 e.2).1]
  have HOS : Hid (∀ d : Dg, (byteVals d.1).toArray.all (·.oneCell') = true) := fun d => (row_facts d.1 32 d.2).2
  obtain ⟨nd, hnd⟩ : ∃ nd, nd = needN (cntN N) i := ⟨_, rfl⟩
  obtain ⟨R0, hR0⟩ : ∃ R0, R0 = pathN (cntN N) i d0 P := ⟨_, rfl⟩
  rw [← hnd, ← hR0]
  have HND0 : Hid (0 + needN (cntN N) i = nd) := by show _ = _; rw [hnd, Nat.zero_add]
  have HR0 : Hid ((pathN (cntN N) i d0 (P.drop 0)).map (fun r => ([] ++ r.1, r.2)) = R0) := by
    show _ = _
    rw [hR0, List.drop_zero]
    cases pathN (cntN N) i d0 P <;> simp
  have hi2 : i < 9223372036854775808 := by omega
  have hll2 : ll ≤ 1009 := by omega
  have hll3 : 0 < ll := by omega
  have HLL := Lib.hid hlle
  have HD1 := Lib.hid hd1
  obtain ⟨H, hH⟩ : ∃ H, H = w.heap.size := ⟨_, rfl⟩
  have HH := Lib.hid hH
  unfold PathPost
  rw [← hH]
  rw [← hH] at HPW
  generalize cntN N = C0 at *
  clear hlf hll hlle hd0 hd1 hnd hR0 hH HLF0 hpl hP hh hp
  go_enter Tryd.func63, Tryd.ntmps63
  go_wp2_with fail
  refine HLF.out.mono ?_
  rintro e w2 ⟨A2, c2, rfl, hown2, g2⟩
  have hP2 := prt5_of_own hown2 hll3
  have gA : Chg none w2 (w2.alloc (.cells #[.slice A2 ll c2] 22)) := (Chg.refl _ _).alloc _
  have HC1 := Lib.hid (HSM.out _ ⟨A2, lf, c2⟩ ll (g2.trans gA) (hP2.chg gA).ok HLL.out (by omega))
  dsimp only at HC1
  rw [HD1.out] at HC1
  have hown22 := own_one22 w2 H (by rw [HH.out]; exact g2.size) (.slice A2 ll c2)
  have HO22 := Lib.hid hown22
  have HP2 := Lib.hid hP2
  have cK : (w2.alloc (.cells #[.slice A2 ll c2] 22)).cell? ⟨w2.heap.size, 0, none⟩ = some (.slice A2 ll c2) := by rw [(Blk.new w2 _ 22).cell]; rfl
  clear hown2 hP2 hown22 HLF
  go_wp2_with fail
  refine HC1.out.mono ?_
  rintro e w3 ⟨rfl, g3⟩
  have g03 := (g2.trans gA).trans g3
  have HO23 := Lib.hid (HO22.out.kept g3 (.inr (by simp [Value.ownBlock])))
  have HP3 := Lib.hid ((HP2.out.chg gA).chg g3)
  have HNW := Lib.hid (heap_alloc_new w3 (.cells zero32 30))
  obtain ⟨gN, hN2⟩ := new_row w3 (byteVals d0.1).toArray
  obtain ⟨W4, hW4⟩ : ∃ W4, W4 = (w3.alloc (.cells zero32 30)).setRow w3.heap.size (byteVals d0.1).toArray := ⟨_, rfl⟩
  have HW4 : Hid ((w3.alloc (.cells #[Value.int IntKind.u8 0, Value.int IntKind.u8 0, Value.int IntKind.u8 0, Value.int IntKind.u8 0, Value.int IntKind.u8 0, Value.int IntKind.u8 0, Value.int IntKind.u8 0, Value.int IntKind.u8 0, Value.int IntKind.u8 0, Value.int IntKind.u8 0, Value.int IntKind.u8 0, Value.int IntKind.u8 0, Value.int IntKind.u8 0, Value.int IntKind.u8 0, Value.int IntKind.u8 0, Value.int IntKind.u8 0, Value.int IntKind.u8 0, Value.int IntKind.u8 0, Value.int IntKind.u8 0, Value.int IntKind.u8 0, Value.int IntKind.u8 0, Value.int IntKind.u8 0, Value.int IntKind.u8 0, Value.int IntKind.u8 0, Value.int IntKind.u8 0, Value.int IntKind.u8 0, Value.int IntKind.u8 0, Value.int IntKind.u8 0, Value.int IntKind.u8 0, Value.int IntKind.u8 0, Value.int IntKind.u8 0, Value.int IntKind.u8 0] 30)).setRow w3.heap.size (byteVals d0.1).toArray = W4) := hW4.symm
  rw [← hW4] at gN hN2
  clear hW4 HC1 HO22 HP2 cK gA g3 g2
  go_wp2_with (refine wpList_store_row rfl 30 _ _ rfl w3.heap.size (byteVals d0.1).toArray rfl rfl 30 _ HNW.out (HIS.out d0) (HZS.out d0) (HOS.out d0) ?_)
  rw [HW4.out]
  clear HW4 HNW
  have HO24 := Lib.hid (HO23.out.kept gN (.inr (by simp [Value.ownBlock])))
  have HP4 : Hid (∀ q ∈ [(⟨A2, lf, c2⟩ : Prt)], Prt5 W4 q) := fun q hq => by obtain rfl := List.mem_singleton.1 hq; exact HP3.out.chg gN
  have hpDH : H ≤ w3.heap.size := by rw [HH.out]; exact g03.size
  have HPD := Lib.hid hpDH
  have g04 := g03.trans gN
  clear hpDH HO23 HP3 g03 gN
  generalize w3.heap.size = pD at *
  refine (HCT.out _).mono ?_
  rintro e w' ⟨rfl, rfl⟩
  have HV : Hid ([Value.slice A2 ll c2] = [(⟨A2, lf, c2⟩ : Prt)].map Prt.val) := by
    show _ = [Value.slice A2 lf.length c2]
    rw [HLL.out]
  rw [HV.out] at HO24
  generalize hpQ : (some ⟨w2.heap.size, 0, none⟩ : Option Addr) = AQ at *
  clear hpQ HV
  go_wp2_with fail
  go_loopw [2, 12, 14, 15] (fun s2 s12 s14 s15 wr => ∃ (j n a m : Nat) (d : Dg) (Lp : List Prt) (A12 : Option Addr) (c12 : Nat) (acc : List (List UInt8)), s2 = .int .i64 j ∧ s14 = .int .i64 n ∧ s15 = .int .i64 a ∧ s12 = .slice A12 m c12 ∧
      BlkL wr pD (byteVals d.1) 30 ∧ Hid (wr.ownsRow H 22 1 (.slice A12 m c12) m (Lp.map Prt.val)) ∧ Hid (∀ q ∈ Lp, Prt5 wr q) ∧ Hid (Lp.map Prt.x = lf :: acc) ∧ Hid ((pathN n j d (P.drop a)).map (fun r => (acc ++ r.1, r.2)) = R0) ∧ Hid (a + needN n j = nd) ∧
      j < n ∧ a ≤ pl ∧ n ≤ 200000000000000000 ∧ m ≤ 100001 ∧ Hid (m = a + 1) ∧ Chg none w wr) (fun _ _ s14 _ _ => (intOf s14).toNat)
  case atStart => exact ⟨i, C0, 0, 1, d0, [⟨A2, lf, c2⟩], AQ, 1, [], rfl, rfl, rfl, rfl, hN2, HO24.out, HP4.out, rfl, HR0.out, HND0.out, hi, by omega, hcnt, by omega, rfl, g04⟩
  case round =>
    obtain ⟨j, n, a, m, d, Lp, A12, c12, acc, rfl, rfl, rfl, rfl, bD, HO12, HP5, HLX, HR, HNE, hj, ha, hn, hm9, HM, gr⟩ := hrel
    clear HO24 HP4 HR0 HND0 hN2 g04 hi hi2 hll2 hll3
    by_cases hn1 : 1 < n
    · have hns := need_step n j hn1
      by_cases hpar : j % 2 = 0
      · have e2 : ((j : Int) % 2 == 0) = true := by simp; omega
        have e5 : ((j : Int) % 2 == 1) = false := by simp; omega
        by_cases hal : j + 1 = n
        · have e3 : ((j : Int) == (n : Int) - 1) = true := by simp; omega
          have haln : aloneB n j = true := by unfold aloneB; simp; omega
          have hst := pathN_alone n j d (P.drop a) hn1 haln
          rw [haln, if_pos rfl, Nat.zero_add] at hns
          have HR2 : Hid ((pathN ((n + 1) / 2) (j / 2) d (P.drop a)).map (fun r => (acc ++ r.1, r.2)) = R0) := by show _ = _; rw [← hst]; exact HR.out
          have HNE2 : Hid (a + needN ((n + 1) / 2) (j / 2) = nd) := by show _ = _; rw [← hns]; exact HNE.out
          clear hst hns haln HR HNE
          go_wp2_with fail
          go_roundw
          case rel => exact ⟨j / 2, (n + 1) / 2, a, m, d, Lp, A12, c12, acc, by congr 1, by congr 1, rfl, rfl, bD, HO12.out, HP5.out, HLX.out, HR2.out, HNE2.out, by omega, ha, by omega, hm9, HM.out, gr⟩
          case measure => simp only [intOf]; omega
        · have e3 : ((j : Int) == (n : Int) - 1) = false := by simp; omega
          have haln : aloneB n j = false := by unfold aloneB; simp; omega
          rw [haln, if_neg (by decide)] at hns
          by_cases hap : a < pl
          · have hapL : a < P.length := by rw [← HPL.out]; exact hap
            have hdr : P.drop a = P[a] :: P.drop (a + 1) := List.drop_eq_getElem_cons hapL
            obtain ⟨b, o, hAb, hbH, hrg⟩ := HPW.out wr gr (by omega)
            subst hAb
            have hq := flat_part hrg a hapL
            generalize P[a] = q at *
            have hst := pathN_cons n j d q (P.drop (a + 1)) hn1 haln
            rw [← hdr] at hst
            obtain ⟨lb, hlb⟩ : ∃ lb, lb = nodeB j d q := ⟨_, rfl⟩
            have HR2 : Hid ((pathN ((n + 1) / 2) (j / 2) (digDg lb) (P.drop (a + 1))).map (fun r => ((acc ++ [lb]) ++ r.1, r.2)) = R0) := by
              show _ = _
              rw [← HR.out, hst, hlb]
              cases pathN ((n + 1) / 2) (j / 2) (digDg (nodeB j d q)) (P.drop (a + 1)) <;> simp
            have HNE2 : Hid (a + 1 + needN ((n + 1) / 2) (j / 2) = nd) := by show _ = _; rw [← HNE.out, hns]; omega
            have hlb2 : lb = 1 :: (d.1 ++ q.1) := by rw [hlb]; unfold nodeB; rw [if_pos hpar]
            have HLB := Lib.hid hlb2
            have hdl : decide ((a : Int) ≥ (pl : Int)) = false := by simp; omega
            have t1 : (a : Int) < (pl : Int) := by omega
            have hS0 : wr.drew.rangeAt pD 0 (byteVals d.1) ∧ wr.drew.rangeAt b (o + a * 32) (byteVals q.1) := ⟨Blk.range bD, hq⟩
            clear hst hns haln HR HNE hapL hdr hrg hq hlb hlb2
            go_wp2_with fail
            have E0 : Chg none w wr.drew := gr.drew
            have bD0 : BlkL wr.drew pD (byteVals d.1) 30 := bD
            have O0 : Hid (wr.drew.ownsRow H 22 1 (.slice A12 m c12) m (Lp.map Prt.val)) := HO12.out.kept ((Chg.refl none wr).drew) (by cases (Value.slice A12 m c12).ownBlock <;> simp)
            have P0 : Hid (∀ q ∈ Lp, Prt5 wr.drew q) := HP5.out
            refine wp_region_held_drew (S := fun w' => w'.rangeAt pD 0 (byteVals d.1) ∧ w'.rangeAt b (o + a * 32) (byteVals q.1)) (by kernel_rfl) hS0 (fun _ => ?_)
            clear bD HO12 HP5 gr
            generalize wr.drew = v0 at *
            refine wpAnyH_take (i := 0) (oi := ⟨some 46, _, _, _, _, _⟩) (v := .agg (byteVals d.1).toArray) rfl (by kernel_rfl) (by kernel_rfl) (by kernel_rfl) (fun _ _ _ h => h) (yieldsIf_load_mid (by rfl) 30 _ rfl pD (0) rfl (byteVals d.1) _ (fun _ h => h.1) Tryd.underlying30 rfl (HIL.out d)) (by assumption) ?_
            try simp only [Act.put, List.setIfInBounds_toArray, List.set_cons_zero, List.set_cons_succ]
            refine wpAnyH_take (i := 1) (oi := ⟨some 47, _, _, _, _, _⟩) (v := ?_) rfl (by kernel_rfl) (by kernel_rfl) (by kernel_rfl) (fun _ _ _ h => h) (Or.inl ⟨by rfl, ?_⟩) (by assumption) ?_
            rotate_left
            · intro w hSw; (try dsimp only at hSw); go_simp; (try with_reducible rfl)
            try simp only [Act.put, List.setIfInBounds_toArray, List.set_cons_zero, List.set_cons_succ]
            refine wpAnyH_take (i := 2) (oi := ⟨some 48, _, _, _, _, _⟩) (v := ?_) rfl (by kernel_rfl) (by kernel_rfl) (by kernel_rfl) (fun _ _ _ h => h) (Or.inl ⟨by rfl, ?_⟩) (by assumption) ?_
            rotate_left
            · intro w hSw; (try dsimp only at hSw); go_simp; (try with_reducible rfl)
            try simp only [Act.put, List.setIfInBounds_toArray, List.set_cons_zero, List.set_cons_succ]
            refine wpAnyH_take (i := 3) (oi := ⟨some 49, _, _, _, _, _⟩) (v := ?_) rfl (by kernel_rfl) (by kernel_rfl) (by kernel_rfl) (fun _ _ _ h => h) (Or.inl ⟨by rfl, ?_⟩) (by assumption) ?_
            rotate_left
            · intro w hSw; (try dsimp only at hSw); go_simp; (try with_reducible rfl)
            try simp only [Act.put, List.setIfInBounds_toArray, List.set_cons_zero, List.set_cons_succ]
            refine wpAnyH_take (i := 4) (oi := ⟨some 50, _, _, _, _, _⟩) (v := .agg (byteVals q.1).toArray) rfl (by kernel_rfl) (by kernel_rfl) (by kernel_rfl) (fun _ _ _ h => h) (yieldsIf_load_mid (by rfl) 30 _ rfl b (o + a * 32) rfl (byteVals q.1) _ (fun _ h => h.2) Tryd.underlying30 rfl (HIL.out q)) (by assumption) ?_
            try simp only [Act.put, List.setIfInBounds_toArray, List.set_cons_zero, List.set_cons_succ]
            refine wpAnyH_ready (rs := [5]) (by kernel_rfl) (by simp) ?_
            refine AllReadyH.cons (o := ⟨some 51, _, _, _, _, _⟩) rfl (fun K hK => ?_) (AllReadyH.nil)
            obtain ⟨ls, hls, h65, hlc⟩ := HND.out v0 d q
            rw [← HLB.out] at hls
            rw [hls] at h65 hlc
            clear hls
            have HC1 := Lib.hid hlc
            have H65 := Lib.hid h65
            clear hlc h65
            go_simp
            go_at_call 74
            refine HC1.out.mono ?_
            rintro e v1 ⟨A17, c17, rfl, hown1, g1⟩
            have P17 := Lib.hid (prt5_of_own hown1 (by decide))
            have E1 := E0.trans g1
            have hS1 : v1.rangeAt pD 0 (byteVals d.1) ∧ v1.rangeAt b (o + a * 32) (byteVals q.1) := ⟨rangeAt_chg hS0.1 g1 (by simp), rangeAt_chg hS0.2 g1 (by simp)⟩
            have HS1 := Lib.hid hS1
            have bD1 : BlkL v1 pD (byteVals d.1) 30 := Blk.chg bD0 g1 (by simp)
            have O1 := Lib.hid (O0.out.kept g1 (by cases (Value.slice A12 m c12).ownBlock <;> simp))
            have P1 : Hid (∀ q ∈ Lp, Prt5 v1 q) := fun q hq => (P0.out q hq).chg g1
            clear hown1 g1 HC1 bD0 O0 P0 E0
            go_wp2_with fail
            refine hK.out _ _ hS1 (fun _ => ?_)
            clear hK K
            try simp only [Act.put, List.setIfInBounds_toArray, List.set_cons_zero, List.set_cons_succ]
            refine wpAnyH_take (i := 6) (oi := ⟨some 17, _, _, _, _, _⟩) (v := ?_) rfl (by kernel_rfl) (by kernel_rfl) (by kernel_rfl) (fun _ _ _ h => h) (Or.inl ⟨by rfl, ?_⟩) (by assumption) ?_
            rotate_left
            · intro w hSw; (try dsimp only at hSw); go_simp; (try with_reducible rfl)
            try simp only [Act.put, List.setIfInBounds_toArray, List.set_cons_zero, List.set_cons_succ]
            refine wpAnyH_done (by kernel_rfl) ?_ _
            try simp only [Act.put]
            have gA : Chg none v1 (v1.alloc (.cells #[.slice A17 65 c17] 22)) := (Chg.refl _ _).alloc _
            have bD2 := Blk.chg bD1 gA (by simp)
            have HRD := Lib.hid (reads_prow v1 (.slice A17 65 c17))
            have HO7 : Hid (∀ u ∈ [Value.slice A17 65 c17], u.oneCell' = true) := fun u hu => by obtain rfl := List.mem_singleton.1 hu; rfl
            have HSZ : Hid (H ≤ (v1.alloc (.cells #[.slice A17 65 c17] 22)).heap.size) := by rw [HH.out]; exact (E1.trans gA).size
            have EA := E1.trans gA
            have PA : Hid (∀ q ∈ Lp, Prt5 (v1.alloc (.cells #[.slice A17 65 c17] 22)) q) := fun q hq => (P1.out q hq).chg gA
            have P17A := Lib.hid (P17.out.chg gA)
            clear gA
            go_wp2_with (at_builtin; refine wpList_append_any _ rfl (.tmp 63) (.tmp 65) 34 rfl H 22 j0 (.slice none 0 0) 1 24 Tryd.underlying34 hj0 hy0 hy1 hy2 rfl (by decide) _ m _ rfl (O1.out.alloc _) _ (some ⟨v1.heap.size, 0, none⟩) 1 1 [Value.slice A17 65 c17] rfl HRD.out HO7.out (by unfold maxLen; omega) (by omega) HSZ.out ?_)
            intro v6 w6 hown6 hgr6 _
            have g6 : Chg none w w6 := own_chg EA (O1.out.alloc _) (by rw [HH.out]; exact Nat.le_refl _) hgr6
            have hv17 : Lp.map Prt.val ++ [Value.slice A17 65 c17] = (Lp ++ [(⟨A17, lb, c17⟩ : Prt)]).map Prt.val := by rw [List.map_append]; show _ = _ ++ [Value.slice A17 lb.length c17]; rw [← H65.out]
            rw [hv17] at hown6
            have P6 : Hid (∀ q ∈ Lp ++ [⟨A17, lb, c17⟩], Prt5 w6 q) := fun q hq => by
              rcases List.mem_append.1 hq with h | h
              · exact (PA.out q h).own (O1.out.alloc _) hgr6
              · obtain rfl := List.mem_singleton.1 h; exact P17A.out.own (O1.out.alloc _) hgr6
            have bD6 := blk_own bD2 (O1.out.alloc _) hgr6
            obtain ⟨A6, c6, rfl⟩ := own_slice hown6
            have O6 := Lib.hid hown6
            have HC6 := Lib.hid (HSM.out w6 ⟨A17, lb, c17⟩ 65 g6 (P6.out _ (List.mem_append_right _ (List.mem_singleton.2 rfl))).ok H65.out (by decide))
            dsimp only at HC6
            change Hid (Calls _ _ _ _ fun e w' => e = .returned (.agg (byteVals (digDg lb).1).toArray) ∧ _) at HC6
            clear hown6 hgr6 hv17 bD2 HRD HSZ EA PA P17A O1 P1 bD1 P17
            go_wp2_with fail
            refine HC6.out.mono ?_
            rintro e w7 ⟨rfl, g7⟩
            have bD7 := Blk.chg bD6 g7 (by simp)
            have O7 := Lib.hid (O6.out.kept g7 (by cases (Value.slice A6 (m + 1) c6).ownBlock <;> simp))
            have P7 : Hid (∀ q ∈ Lp ++ [⟨A17, lb, c17⟩], Prt5 w7 q) := fun q hq => (P6.out q hq).chg g7
            have g07 := g6.trans g7
            have HB7 : Hid (w7.heap[pD]? = some (.cells (byteVals d.1).toArray 30 (0, 0))) := bD7
            have gS : Chg (some pD) w7 (w7.setRow pD (byteVals (digDg lb).1).toArray) := chg_setRow _ _ _
            have bD8 : BlkL (w7.setRow pD (byteVals (digDg lb).1).toArray) pD (byteVals (digDg lb).1) 30 := setRow_heap _ _ _ _ _ _ bD7
            have O8 := Lib.hid (own_set O7.out bD7 gS)
            have P8 : Hid (∀ q ∈ Lp ++ [⟨A17, lb, c17⟩], Prt5 (w7.setRow pD (byteVals (digDg lb).1).toArray) q) := fun q hq => (P7.out q hq).set bD7 gS
            have g08 : Chg none w (w7.setRow pD (byteVals (digDg lb).1).toArray) := Chg.own (b := pD) g07 gS (by rw [← HH.out]; exact HPD.out)
            clear HC6 bD6 bD7 O6 O7 P6 P7 g7 g6 g07 gS
            go_wp2_with (refine wpList_store_row rfl 30 _ _ rfl pD (byteVals (digDg lb).1).toArray rfl rfl 30 _ HB7.out (HIS.out _) (HDS.out _ _) (HOS.out _) ?_)
            go_roundw
            case rel => exact ⟨j / 2, (n + 1) / 2, a + 1, m + 1, digDg lb, Lp ++ [(⟨A17, lb, c17⟩ : Prt)], A6, c6, acc ++ [lb], by congr 1, by congr 1, by go_num, rfl, bD8, O8, P8, by show _ = _; rw [List.map_append, HLX.out]; rfl, HR2.out, HNE2.out, by omega, by omega, by omega, by have := HM.out; omega, by show _ = _; rw [HM.out], g08⟩
            case measure => simp only [intOf]; omega
          · have hnil : P.drop a = [] := List.drop_eq_nil_of_le (by rw [← HPL.out]; omega)
            have hst := pathN_nil n j d hn1 haln
            rw [← hnil] at hst
            have hr := HR.out
            rw [hst] at hr
            have hrn : R0 = none := hr.symm
            have hdl : decide ((a : Int) ≥ (pl : Int)) = true := by simp; omega
            have HRN := Lib.hid hrn
            clear hst hns haln HR HNE hnil hr hrn
            go_wp2_with fail
            go_ret2
            exact ⟨gr, .inl ⟨HRN.out, rfl⟩⟩
      · have e2 : ((j : Int) % 2 == 0) = false := by simp; omega
        have e5 : ((j : Int) % 2 == 1) = true := by simp; omega
        have haln : aloneB n j = false := by unfold aloneB; simp; omega
        rw [haln, if_neg (by decide)] at hns
        by_cases hap : a < pl
        · have hapL : a < P.length := by rw [← HPL.out]; exact hap
          have hdr : P.drop a = P[a] :: P.drop (a + 1) := List.drop_eq_getElem_cons hapL
          obtain ⟨b, o, hAb, hbH, hrg⟩ := HPW.out wr gr (by omega)
          subst hAb
          have hq := flat_part hrg a hapL
          generalize P[a] = q at *
          have hst := pathN_cons n j d q (P.drop (a + 1)) hn1 haln
          rw [← hdr] at hst
          obtain ⟨lb, hlb⟩ : ∃ lb, lb = nodeB j d q := ⟨_, rfl⟩
          have HR2 : Hid ((pathN ((n + 1) / 2) (j / 2) (digDg lb) (P.drop (a + 1))).map (fun r => ((acc ++ [lb]) ++ r.1, r.2)) = R0) := by
            show _ = _
            rw [← HR.out, hst, hlb]
            cases pathN ((n + 1) / 2) (j / 2) (digDg (nodeB j d q)) (P.drop (a + 1)) <;> simp
          have HNE2 : Hid (a + 1 + needN ((n + 1) / 2) (j / 2) = nd) := by show _ = _; rw [← HNE.out, hns]; omega
          have hlb2 : lb = 1 :: (q.1 ++ d.1) := by rw [hlb]; unfold nodeB; rw [if_neg hpar]
          have HLB := Lib.hid hlb2
          have hdl : decide ((a : Int) ≥ (pl : Int)) = false := by simp; omega
          have t1 : (a : Int) < (pl : Int) := by omega
          have hS0 : wr.drew.rangeAt pD 0 (byteVals d.1) ∧ wr.drew.rangeAt b (o + a * 32) (byteVals q.1) := ⟨Blk.range bD, hq⟩
          clear hst hns haln HR HNE hapL hdr hrg hq hlb hlb2
          go_wp2_with fail
          have E0 : Chg none w wr.drew := gr.drew
          have bD0 : BlkL wr.drew pD (byteVals d.1) 30 := bD
          have O0 : Hid (wr.drew.ownsRow H 22 1 (.slice A12 m c12) m (Lp.map Prt.val)) := HO12.out.kept ((Chg.refl none wr).drew) (by cases (Value.slice A12 m c12).ownBlock <;> simp)
          have P0 : Hid (∀ q ∈ Lp, Prt5 wr.drew q) := HP5.out
          refine wp_region_held_drew (S := fun w' => w'.rangeAt pD 0 (byteVals d.1) ∧ w'.rangeAt b (o + a * 32) (byteVals q.1)) (by kernel_rfl) hS0 (fun _ => ?_)
          clear bD HO12 HP5 gr
          generalize wr.drew = v0 at *
          refine wpAnyH_take (i := 0) (oi := ⟨some 46, _, _, _, _, _⟩) (v := .agg (byteVals d.1).toArray) rfl (by kernel_rfl) (by kernel_rfl) (by kernel_rfl) (fun _ _ _ h => h) (yieldsIf_load_mid (by rfl) 30 _ rfl pD (0) rfl (byteVals d.1) _ (fun _ h => h.1) Tryd.underlying30 rfl (HIL.out d)) (by assumption) ?_
          try simp only [Act.put, List.setIfInBounds_toArray, List.set_cons_zero, List.set_cons_succ]
          refine wpAnyH_take (i := 1) (oi := ⟨some 47, _, _, _, _, _⟩) (v := ?_) rfl (by kernel_rfl) (by kernel_rfl) (by kernel_rfl) (fun _ _ _ h => h) (Or.inl ⟨by rfl, ?_⟩) (by assumption) ?_
          rotate_left
          · intro w hSw; (try dsimp only at hSw); go_simp; (try with_reducible rfl)
          try simp only [Act.put, List.setIfInBounds_toArray, List.set_cons_zero, List.set_cons_succ]
          refine wpAnyH_take (i := 2) (oi := ⟨some 48, _, _, _, _, _⟩) (v := ?_) rfl (by kernel_rfl) (by kernel_rfl) (by kernel_rfl) (fun _ _ _ h => h) (Or.inl ⟨by rfl, ?_⟩) (by assumption) ?_
          rotate_left
          · intro w hSw; (try dsimp only at hSw); go_simp; (try with_reducible rfl)
          try simp only [Act.put, List.setIfInBounds_toArray, List.set_cons_zero, List.set_cons_succ]
          refine wpAnyH_take (i := 3) (oi := ⟨some 49, _, _, _, _, _⟩) (v := ?_) rfl (by kernel_rfl) (by kernel_rfl) (by kernel_rfl) (fun _ _ _ h => h) (Or.inl ⟨by rfl, ?_⟩) (by assumption) ?_
          rotate_left
          · intro w hSw; (try dsimp only at hSw); go_simp; (try with_reducible rfl)
          try simp only [Act.put, List.setIfInBounds_toArray, List.set_cons_zero, List.set_cons_succ]
          refine wpAnyH_take (i := 4) (oi := ⟨some 50, _, _, _, _, _⟩) (v := .agg (byteVals q.1).toArray) rfl (by kernel_rfl) (by kernel_rfl) (by kernel_rfl) (fun _ _ _ h => h) (yieldsIf_load_mid (by rfl) 30 _ rfl b (o + a * 32) rfl (byteVals q.1) _ (fun _ h => h.2) Tryd.underlying30 rfl (HIL.out q)) (by assumption) ?_
          try simp only [Act.put, List.setIfInBounds_toArray, List.set_cons_zero, List.set_cons_succ]
          refine wpAnyH_ready (rs := [5]) (by kernel_rfl) (by simp) ?_
          refine AllReadyH.cons (o := ⟨some 51, _, _, _, _, _⟩) rfl (fun K hK => ?_) (AllReadyH.nil)
          obtain ⟨ls, hls, h65, hlc⟩ := HND.out v0 d q
          have HC1 := Lib.hid hlc
          have H65 := Lib.hid h65
          clear hlc h65
          go_simp
          go_at_call 74
          refine HC1.out.mono ?_
          rintro e v1 ⟨A17, c17, rfl, hown1, g1⟩
          have P17 := Lib.hid (prt5_of_own hown1 (by decide))
          have E1 := E0.trans g1
          have hS1 : v1.rangeAt pD 0 (byteVals d.1) ∧ v1.rangeAt b (o + a * 32) (byteVals q.1) := ⟨rangeAt_chg hS0.1 g1 (by simp), rangeAt_chg hS0.2 g1 (by simp)⟩
          have HS1 := Lib.hid hS1
          have bD1 : BlkL v1 pD (byteVals d.1) 30 := Blk.chg bD0 g1 (by simp)
          have O1 := Lib.hid (O0.out.kept g1 (by cases (Value.slice A12 m c12).ownBlock <;> simp))
          have P1 : Hid (∀ q ∈ Lp, Prt5 v1 q) := fun q hq => (P0.out q hq).chg g1
          clear hown1 g1 HC1 bD0 O0 P0 E0
          go_wp2_with fail
          refine hK.out _ _ hS1 (fun _ => ?_)
          clear hK K
          try simp only [Act.put, List.setIfInBounds_toArray, List.set_cons_zero, List.set_cons_succ]
          refine wpAnyH_take (i := 6) (oi := ⟨some 17, _, _, _, _, _⟩) (v := ?_) rfl (by kernel_rfl) (by kernel_rfl) (by kernel_rfl) (fun _ _ _ h => h) (Or.inl ⟨by rfl, ?_⟩) (by assumption) ?_
          rotate_left
          · intro w hSw; (try dsimp only at hSw); go_simp; (try with_reducible rfl)
          try simp only [Act.put, List.setIfInBounds_toArray, List.set_cons_zero, List.set_cons_succ]
          refine wpAnyH_done (by kernel_rfl) ?_ _
          try simp only [Act.put]
          clear P17 H65 hS1 hS0
          go_wp2_with fail
          have E2 : Chg none w v1.drew := E1.drew
          have bD2 : BlkL v1.drew pD (byteVals d.1) 30 := bD1
          have O2 : Hid (v1.drew.ownsRow H 22 1 (.slice A12 m c12) m (Lp.map Prt.val)) := O1.out.kept ((Chg.refl none v1).drew) (by cases (Value.slice A12 m c12).ownBlock <;> simp)
          have P2 : Hid (∀ q ∈ Lp, Prt5 v1.drew q) := P1.out
          have hS2 : v1.drew.rangeAt pD 0 (byteVals d.1) ∧ v1.drew.rangeAt b (o + a * 32) (byteVals q.1) := HS1.out
          refine wp_region_held_drew (S := fun w' => w'.rangeAt pD 0 (byteVals d.1) ∧ w'.rangeAt b (o + a * 32) (byteVals q.1)) (by kernel_rfl) hS2 (fun _ => ?_)
          clear bD1 O1 P1 E1
          generalize v1.drew = v2 at *
          refine wpAnyH_take (i := 0) (oi := ⟨some 55, _, _, _, _, _⟩) (v := ?_) rfl (by kernel_rfl) (by kernel_rfl) (by kernel_rfl) (fun _ _ _ h => h) (Or.inl ⟨by rfl, ?_⟩) (by assumption) ?_
          rotate_left
          · intro w hSw; (try dsimp only at hSw); go_simp; (try with_reducible rfl)
          try simp only [Act.put, List.setIfInBounds_toArray, List.set_cons_zero, List.set_cons_succ]
          refine wpAnyH_take (i := 1) (oi := ⟨some 56, _, _, _, _, _⟩) (v := ?_) rfl (by kernel_rfl) (by kernel_rfl) (by kernel_rfl) (fun _ _ _ h => h) (Or.inl ⟨by rfl, ?_⟩) (by assumption) ?_
          rotate_left
          · intro w hSw; (try dsimp only at hSw); go_simp; (try with_reducible rfl)
          try simp only [Act.put, List.setIfInBounds_toArray, List.set_cons_zero, List.set_cons_succ]
          refine wpAnyH_take (i := 2) (oi := ⟨some 57, _, _, _, _, _⟩) (v := ?_) rfl (by kernel_rfl) (by kernel_rfl) (by kernel_rfl) (fun _ _ _ h => h) (Or.inl ⟨by rfl, ?_⟩) (by assumption) ?_
          rotate_left
          · intro w hSw; (try dsimp only at hSw); go_simp; (try with_reducible rfl)
          try simp only [Act.put, List.setIfInBounds_toArray, List.set_cons_zero, List.set_cons_succ]
          refine wpAnyH_take (i := 3) (oi := ⟨some 58, _, _, _, _, _⟩) (v := .agg (byteVals q.1).toArray) rfl (by kernel_rfl) (by kernel_rfl) (by kernel_rfl) (fun _ _ _ h => h) (yieldsIf_load_mid (by rfl) 30 _ rfl b (o + a * 32) rfl (byteVals q.1) _ (fun _ h => h.2) Tryd.underlying30 rfl (HIL.out q)) (by assumption) ?_
          try simp only [Act.put, List.setIfInBounds_toArray, List.set_cons_zero, List.set_cons_succ]
          refine wpAnyH_take (i := 4) (oi := ⟨some 59, _, _, _, _, _⟩) (v := .agg (byteVals d.1).toArray) rfl (by kernel_rfl) (by kernel_rfl) (by kernel_rfl) (fun _ _ _ h => h) (yieldsIf_load_mid (by rfl) 30 _ rfl pD (0) rfl (byteVals d.1) _ (fun _ h => h.1) Tryd.underlying30 rfl (HIL.out d)) (by assumption) ?_
          try simp only [Act.put, List.setIfInBounds_toArray, List.set_cons_zero, List.set_cons_succ]
          refine wpAnyH_ready (rs := [5]) (by kernel_rfl) (by simp) ?_
          refine AllReadyH.cons (o := ⟨some 60, _, _, _, _, _⟩) rfl (fun K hK => ?_) (AllReadyH.nil)
          obtain ⟨ls, hls, h65, hlc⟩ := HND.out v2 q d
          rw [← HLB.out] at hls
          rw [hls] at h65 hlc
          clear hls
          have HC1 := Lib.hid hlc
          have H65 := Lib.hid h65
          clear hlc h65
          go_simp
          go_at_call 74
          refine HC1.out.mono ?_
          rintro e v3 ⟨A17, c17, rfl, hown1, g1⟩
          have P17 := Lib.hid (prt5_of_own hown1 (by decide))
          have E3 := E2.trans g1
          have hS3 : v3.rangeAt pD 0 (byteVals d.1) ∧ v3.rangeAt b (o + a * 32) (byteVals q.1) := ⟨rangeAt_chg hS2.1 g1 (by simp), rangeAt_chg hS2.2 g1 (by simp)⟩
          have HS3 := Lib.hid hS3
          have bD3 : BlkL v3 pD (byteVals d.1) 30 := Blk.chg bD2 g1 (by simp)
          have O3 := Lib.hid (O2.out.kept g1 (by cases (Value.slice A12 m c12).ownBlock <;> simp))
          have P3 : Hid (∀ q ∈ Lp, Prt5 v3 q) := fun q hq => (P2.out q hq).chg g1
          clear hown1 g1 HC1 bD2 O2 P2 E2
          go_wp2_with fail
          refine hK.out _ _ hS3 (fun _ => ?_)
          clear hK K
          try simp only [Act.put, List.setIfInBounds_toArray, List.set_cons_zero, List.set_cons_succ]
          refine wpAnyH_take (i := 6) (oi := ⟨some 17, _, _, _, _, _⟩) (v := ?_) rfl (by kernel_rfl) (by kernel_rfl) (by kernel_rfl) (fun _ _ _ h => h) (Or.inl ⟨by rfl, ?_⟩) (by assumption) ?_
          rotate_left
          · intro w hSw; (try dsimp only at hSw); go_simp; (try with_reducible rfl)
          try simp only [Act.put, List.setIfInBounds_toArray, List.set_cons_zero, List.set_cons_succ]
          refine wpAnyH_done (by kernel_rfl) ?_ _
          try simp only [Act.put]
          have gA : Chg none v3 (v3.alloc (.cells #[.slice A17 65 c17] 22)) := (Chg.refl _ _).alloc _
          have bD2 := Blk.chg bD3 gA (by simp)
          have HRD := Lib.hid (reads_prow v3 (.slice A17 65 c17))
          have HO7 : Hid (∀ u ∈ [Value.slice A17 65 c17], u.oneCell' = true) := fun u hu => by obtain rfl := List.mem_singleton.1 hu; rfl
          have HSZ : Hid (H ≤ (v3.alloc (.cells #[.slice A17 65 c17] 22)).heap.size) := by rw [HH.out]; exact (E3.trans gA).size
          have EA := E3.trans gA
          have PA : Hid (∀ q ∈ Lp, Prt5 (v3.alloc (.cells #[.slice A17 65 c17] 22)) q) := fun q hq => (P3.out q hq).chg gA
          have P17A := Lib.hid (P17.out.chg gA)
          clear gA
          go_wp2_with (at_builtin; refine wpList_append_any _ rfl (.tmp 63) (.tmp 65) 34 rfl H 22 j0 (.slice none 0 0) 1 24 Tryd.underlying34 hj0 hy0 hy1 hy2 rfl (by decide) _ m _ rfl (O3.out.alloc _) _ (some ⟨v3.heap.size, 0, none⟩) 1 1 [Value.slice A17 65 c17] rfl HRD.out HO7.out (by unfold maxLen; omega) (by omega) HSZ.out ?_)
          intro v6 w6 hown6 hgr6 _
          have g6 : Chg none w w6 := own_chg EA (O3.out.alloc _) (by rw [HH.out]; exact Nat.le_refl _) hgr6
          have hv17 : Lp.map Prt.val ++ [Value.slice A17 65 c17] = (Lp ++ [(⟨A17, lb, c17⟩ : Prt)]).map Prt.val := by rw [List.map_append]; show _ = _ ++ [Value.slice A17 lb.length c17]; rw [← H65.out]
          rw [hv17] at hown6
          have P6 : Hid (∀ q ∈ Lp ++ [⟨A17, lb, c17⟩], Prt5 w6 q) := fun q hq => by
            rcases List.mem_append.1 hq with h | h
            · exact (PA.out q h).own (O3.out.alloc _) hgr6
            · obtain rfl := List.mem_singleton.1 h; exact P17A.out.own (O3.out.alloc _) hgr6
          have bD6 := blk_own bD2 (O3.out.alloc _) hgr6
          obtain ⟨A6, c6, rfl⟩ := own_slice hown6
          have O6 := Lib.hid hown6
          have HC6 := Lib.hid (HSM.out w6 ⟨A17, lb, c17⟩ 65 g6 (P6.out _ (List.mem_append_right _ (List.mem_singleton.2 rfl))).ok H65.out (by decide))
          dsimp only at HC6
          change Hid (Calls _ _ _ _ fun e w' => e = .returned (.agg (byteVals (digDg lb).1).toArray) ∧ _) at HC6
          clear hown6 hgr6 hv17 bD2 HRD HSZ EA PA P17A O3 P3 bD3 P17
          go_wp2_with fail
          refine HC6.out.mono ?_
          rintro e w7 ⟨rfl, g7⟩
          have bD7 := Blk.chg bD6 g7 (by simp)
          have O7 := Lib.hid (O6.out.kept g7 (by cases (Value.slice A6 (m + 1) c6).ownBlock <;> simp))
          have P7 : Hid (∀ q ∈ Lp ++ [⟨A17, lb, c17⟩], Prt5 w7 q) := fun q hq => (P6.out q hq).chg g7
          have g07 := g6.trans g7
          have HB7 : Hid (w7.heap[pD]? = some (.cells (byteVals d.1).toArray 30 (0, 0))) := bD7
          have gS : Chg (some pD) w7 (w7.setRow pD (byteVals (digDg lb).1).toArray) := chg_setRow _ _ _
          have bD8 : BlkL (w7.setRow pD (byteVals (digDg lb).1).toArray) pD (byteVals (digDg lb).1) 30 := setRow_heap _ _ _ _ _ _ bD7
          have O8 := Lib.hid (own_set O7.out bD7 gS)
          have P8 : Hid (∀ q ∈ Lp ++ [⟨A17, lb, c17⟩], Prt5 (w7.setRow pD (byteVals (digDg lb).1).toArray) q) := fun q hq => (P7.out q hq).set bD7 gS
          have g08 : Chg none w (w7.setRow pD (byteVals (digDg lb).1).toArray) := Chg.own (b := pD) g07 gS (by rw [← HH.out]; exact HPD.out)
          clear HC6 bD6 bD7 O6 O7 P6 P7 g7 g6 g07 gS
          go_wp2_with (refine wpList_store_row rfl 30 _ _ rfl pD (byteVals (digDg lb).1).toArray rfl rfl 30 _ HB7.out (HIS.out _) (HDS.out _ _) (HOS.out _) ?_)
          go_roundw
          case rel => exact ⟨j / 2, (n + 1) / 2, a + 1, m + 1, digDg lb, Lp ++ [(⟨A17, lb, c17⟩ : Prt)], A6, c6, acc ++ [lb], by congr 1, by congr 1, by go_num, rfl, bD8, O8, P8, by show _ = _; rw [List.map_append, HLX.out]; rfl, HR2.out, HNE2.out, by omega, by omega, by omega, by have := HM.out; omega, by show _ = _; rw [HM.out], g08⟩
          case measure => simp only [intOf]; omega
        · have hnil : P.drop a = [] := List.drop_eq_nil_of_le (by rw [← HPL.out]; omega)
          have hst := pathN_nil n j d hn1 haln
          rw [← hnil] at hst
          have hr := HR.out
          rw [hst] at hr
          have hrn : R0 = none := hr.symm
          have hdl : decide ((a : Int) ≥ (pl : Int)) = true := by simp; omega
          have HRN := Lib.hid hrn
          clear hst hns haln HR HNE hnil hr hrn
          go_wp2_with fail
          go_ret2
          exact ⟨gr, .inl ⟨HRN.out, rfl⟩⟩
    · have hn2 : n ≤ 1 := by omega
      have hst := pathN_end n j d (P.drop a) hn2
      have hre := HR.out
      rw [hst] at hre
      have hrs : R0 = some (acc, d) := by rw [← hre]; simp
      have hna := HNE.out
      rw [need_end n j hn2, Nat.add_zero] at hna
      have hd1' : decide ((n : Int) > 1) = false := by simp; omega
      have hd2' : decide ((1 : Int) < (n : Int)) = false := by simp; omega
      have hbe : ((a : Int) == (pl : Int)) = decide (nd = pl) := by rw [Bool.eq_iff_iff]; simp; omega
      have HBE := Lib.hid hbe
      have HRS := Lib.hid hrs
      obtain ⟨ls, hls, h41, hlc⟩ := HRB.out wr d
      have HC1 := Lib.hid hlc
      have HLS := Lib.hid hls
      have H41 := Lib.hid h41
      have HRG := Lib.hid (Blk.range bD)
      clear hst hre hrs hna hbe HR HNE hls h41 hlc hn2
      go_wp2_with (refine wpList_load_mid rfl 30 _ rfl pD 0 rfl (byteVals d.1) _ HRG.out Tryd.underlying30 rfl (HIL.out d) ?_)
      refine HC1.out.mono ?_
      rintro e w5 ⟨A5, c5, rfl, hown5, g5⟩
      have P5 := Lib.hid (prt5_of_own hown5 (by decide))
      have O5 := Lib.hid (HO12.out.kept g5 (by cases (Value.slice A12 m c12).ownBlock <;> simp))
      have gA : Chg none w5 (w5.alloc (.cells #[.slice A5 41 c5] 22)) := (Chg.refl _ _).alloc _
      have HRD := Lib.hid (reads_prow w5 (.slice A5 41 c5))
      have HO7 : Hid (∀ u ∈ [Value.slice A5 41 c5], u.oneCell' = true) := fun u hu => by obtain rfl := List.mem_singleton.1 hu; rfl
      have EA := (gr.trans g5).trans gA
      have HSZ : Hid (H ≤ (w5.alloc (.cells #[.slice A5 41 c5] 22)).heap.size) := by rw [HH.out]; exact EA.size
      have PA : Hid (∀ q ∈ Lp ++ [⟨A5, ls, c5⟩], Prt5 (w5.alloc (.cells #[.slice A5 41 c5] 22)) q) := fun q hq => by
        rcases List.mem_append.1 hq with h | h
        · exact ((HP5.out q h).chg g5).chg gA
        · obtain rfl := List.mem_singleton.1 h; exact P5.out.chg gA
      have HV : Hid (Lp.map Prt.val ++ [Value.slice A5 41 c5] = (Lp ++ [(⟨A5, ls, c5⟩ : Prt)]).map Prt.val) := by
        show _ = _
        rw [List.map_append]; show _ = _ ++ [Value.slice A5 ls.length c5]; rw [← H41.out]
      clear hown5 g5 gA HO12 HP5 P5 HC1 HRG bD gr
      go_wp2_with (at_builtin; refine wpList_append_any _ rfl (.tmp 75) (.tmp 79) 34 rfl H 22 j0 (.slice none 0 0) 1 24 Tryd.underlying34 hj0 hy0 hy1 hy2 rfl (by decide) _ m _ rfl (O5.out.alloc _) _ (some ⟨w5.heap.size, 0, none⟩) 1 1 [Value.slice A5 41 c5] rfl HRD.out HO7.out (by unfold maxLen; omega) (by omega) HSZ.out ?_)
      intro v6 w6 hown6 hgr6 _
      rw [HV.out] at hown6
      have g6 : Chg none w w6 := own_chg EA (O5.out.alloc _) (by rw [HH.out]; exact Nat.le_refl _) hgr6
      have P6 : Hid (∀ q ∈ Lp ++ [⟨A5, ls, c5⟩], Prt5 w6 q) := fun q hq => (PA.out q hq).own (O5.out.alloc _) hgr6
      obtain ⟨A6, c6, rfl⟩ := own_slice hown6
      have O6 := Lib.hid hown6
      clear hown6 hgr6 O5 PA HV HRD HO7 HSZ EA
      go_wp2_with fail
      go_ret2
      exact ⟨g6, .inr ⟨acc, d, A6, m + 1, c6, Lp ++ [⟨A5, ls, c5⟩], HRS.out, by rw [HBE.out]; rfl, by rw [List.map_append, HLX.out, HLS.out]; rfl, P6.out, O6.out⟩⟩

end Go.Proofs.YtdkgecphkppglaaDoor
