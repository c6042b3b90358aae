/-
  Package adverts, the document's: what a sum is the digest of.
-/
import Derived.Test.YtkcammaccgkflaaDoorSO
import Derived.Test.YtkcammaccgkflaaDoorZB
namespace Go.Proofs.YtkcammaccgkflaaDoor
open Go.RowKit

def rowB (L : List Att) : List UInt8 := 32 :: L.flatMap (fun a => attBytes a (u64n a.n))
theorem rowB_len (L : List Att) : (rowB L).length = 1 + 104 * L.length := by
  unfold rowB
  rw [List.length_cons]
  induction L with
  | nil => rfl
  | cons x L ih => rw [List.flatMap_cons, List.length_append, attBytes_len, List.length_cons]; omega
theorem rowB_step {L : List Att} {k : Nat} {x : Att} (h : L[k]? = some x) : rowB (L.take (k + 1)) = rowB (L.take k) ++ attBytes x (u64n x.n) := by
  unfold rowB
  rw [List.take_add_one, h, List.flatMap_append]
  simp
theorem ones_bytes (bs : List UInt8) : ∀ v ∈ byteVals bs, v.oneCell' = true := fun v hv => byteVals_one bs v hv
set_option maxRecDepth 100000 in
set_option maxHeartbeats 8000000 in
theorem row57_any (L : List Att) (B : Nat) (A : Option Addr) (c : Nat) (w : World) (h : w.ownsRow B 46 97 (.slice A L.length c) L.length (L.flatMap attCells)) (hl : L.length ≤ 1000) :
    Calls Tryd.prog 57 #[.slice A L.length c] w fun e w' =>
      ∃ A' c', e = .returned (.slice A' (rowB L).length c') ∧ w'.ownsRow w.heap.size 5 1 (.slice A' (rowB L).length c') (rowB L).length (byteVals (rowB L)) ∧ Chg none w w' := by
  obtain ⟨i0, hi0, hz0, hz1, hz2⟩ := info_parts Tryd.info5
  have HROW : Hid (∀ k x, L[k]? = some x → ∃ b, A = some ⟨b, 0, none⟩ ∧ ∀ v, Chg none w v → v.rangeAt b (k * 97) (attCells x)) := Lib.hid fun k x hk => by
    obtain ⟨b, c', e, -, hbl, hr⟩ := arow_at h hk
    injection e with e1 _ _
    exact ⟨b, e1, fun v g => rangeAt_chg hr g (by simp)⟩
  have HST : Hid ((w.alloc (.cells #[.int .u8 32] 5)).ownsRow w.heap.size 5 1 (.slice (some ⟨w.heap.size, 0, none⟩) (rowB (L.take 0)).length 1) (rowB (L.take 0)).length (byteVals (rowB (L.take 0))) ∧ Chg none w (w.alloc (.cells #[.int .u8 32] 5))) :=
    Lib.hid ⟨own_oneB w w.heap.size (Nat.le_refl _) 32, (Chg.refl _ _).alloc _⟩
  have HL := Lib.hid hl
  clear h hl
  go_enter Tryd.func57, Tryd.ntmps57
  go_upto_region 3 with fail
  go_loopw [3, 4] (fun s3 s4 wr => ∃ (k : Nat) (A' : Option Addr) (c' : Nat), k ≤ L.length ∧ s4 = .int .i64 k ∧ s3 = .slice A' (rowB (L.take k)).length c' ∧
      Hid (wr.ownsRow w.heap.size 5 1 (.slice A' (rowB (L.take k)).length c') (rowB (L.take k)).length (byteVals (rowB (L.take k)))) ∧ Hid (Chg none w wr)) (fun _ s4 _ => L.length - (intOf s4).toNat)
  case atStart => exact ⟨0, some ⟨w.heap.size, 0, none⟩, 1, Nat.zero_le _, rfl, rfl, Lib.hid HST.out.1, Lib.hid HST.out.2⟩
  case round =>
    obtain ⟨k, A', c', hk, rfl, rfl, HOW, HG⟩ := hrel
    have hkl : (k : Int) ≤ 1000 := by have := HL.out; omega
    by_cases hlt : k < L.length
    · have hd : decide (k < L.length) = true := by rw [decide_eq_true_eq]; exact hlt
      have hd2 : decide ((k : Int) < (L.length : Int)) = true := by rw [decide_eq_true_eq]; omega
      have hlt' : (k : Int) < (L.length : Int) := by omega
      obtain ⟨x, hx⟩ : ∃ x, L[k]? = some x := ⟨_, List.getElem?_eq_getElem hlt⟩
      obtain ⟨rb, rfl, hr⟩ := HROW.out k x hx
      have HRX := Lib.hid (hr wr HG.out)
      have HIX := Lib.hid (info46 x)
      have HLT := Lib.hid hlt
      have HBY := Lib.hid (bytesq_any x wr)
      have HSP := Lib.hid (rowB_step hx)
      have hml : (rowB (L.take k)).length ≤ 104001 := by
        rw [rowB_len, List.length_take]
        have := HL.out; omega
      clear hr hx hlt
      go_wp2_with (first
        | (refine wpList_load_mid rfl 46 _ rfl rb (k * 97) rfl (attCells x) _ HRX.out Tryd.underlying46 rfl HIX.out ?_))
      refine HBY.out.mono ?_
      rintro e w1 ⟨A1, c1, rfl, hown, g1⟩
      obtain ⟨g2, rfl, hcell⟩ : ∃ g2, A1 = some ⟨g2, 0, none⟩ ∧ ∀ j u, (byteVals (attBytes x (u64n x.n)))[j]? = some u → w1.cell? ((⟨g2, 0, none⟩ : Addr).add j) = some u := by
        rcases hown.2 with ⟨e, h0⟩ | ⟨g, cap, cur, e, -⟩
        · omega
        · injection e with e1 _ _
          subst e1
          exact ⟨g, rfl, fun j u hj => hown.cells rfl j u hj⟩
      have HOW1 := Lib.hid (World.ownsRow.kept HOW.out g1 (by cases (Value.slice A' (rowB (L.take k)).length c').ownBlock <;> simp))
      have HG1 := Lib.hid (HG.out.trans g1)
      have HNW := Lib.hid hcell
      have HNL : Hid ((byteVals (attBytes x (u64n x.n))).length = 104 * 1) := Lib.hid (by rw [byteVals_len, attBytes_len])
      have HONE := Lib.hid (ones_bytes (attBytes x (u64n x.n)))
      have hs1 : (rowB (L.take k)).length + 104 ≤ maxLen := by unfold maxLen; omega
      have hs2 : ((rowB (L.take k)).length + 104) * 1 ≤ 140737488355328 := by omega
      have hs3 : w.heap.size ≤ w1.heap.size := HG1.out.size
      clear hown g1 hcell HBY
      go_wp2_with (first
        | (refine wpList_append_own _ rfl (.tmp 12) (.tmp 17) 22 rfl w.heap.size 5 i0 (.int .u8 0) 1 1 Tryd.underlying22 hi0 hz0 hz1 hz2 rfl (by decide) (.slice A' (rowB (L.take k)).length c') (rowB (L.take k)).length _ rfl HOW1.out ⟨g2, 0, none⟩ 104 c1 (byteVals (attBytes x (u64n x.n))) rfl HNL.out HNW.out HONE.out hs1 hs2 hs3 ?_
           intro v' w' hown hgr _
           obtain ⟨A2, c2, rfl⟩ : ∃ A2 c2, v' = .slice A2 ((rowB (L.take k)).length + 104) c2 := by
             rcases hown.2 with ⟨e, h0⟩ | ⟨g, cap, cur, e, -⟩
             · omega
             · exact ⟨_, _, e⟩
           have HOW2 := Lib.hid hown
           have HG2 : Hid (Chg none w w') := Lib.hid (Chg.ownRow HG1.out hgr (fun y hy => (HOW1.out.lt y hy).1))
           clear hown hgr))
      go_roundw
      case rel =>
        refine ⟨k + 1, A2, c2, by have := HLT.out; omega, by first | rfl | go_num, by rw [HSP.out, List.length_append, attBytes_len], ?_, HG2⟩
        rw [HSP.out, List.length_append, attBytes_len]
        have := HOW2.out
        refine Lib.hid ?_
        simpa [byteVals] using this
      case measure => have := HLT.out; first | omega | (simp only [intOf]; omega) | (simp [intOf]; omega)
    · have hd : decide (k < L.length) = false := by rw [decide_eq_false_iff_not]; exact hlt
      have hd2 : decide ((k : Int) < (L.length : Int)) = false := by rw [decide_eq_false_iff_not]; omega
      obtain rfl : k = L.length := by omega
      rw [List.take_length] at HOW ⊢
      clear hlt
      go_wp2_with fail
      go_ret
      exact ⟨A', c', rfl, HOW.out, HG.out⟩

end Go.Proofs.YtkcammaccgkflaaDoor
