/-
  The document's Great of targets, and of a target, sources and outs: some bool.
-/
import Derived.Test.YtbadkkilblgpmaaDoorNE
import Derived.Test.YtbadkkilblgpmaaDoorPGR
import Derived.Test.YtbadkkilblgpmaaDoorTG
namespace Go.Proofs.YtbadkkilblgpmaaDoor
open Go.RowKit

set_option maxHeartbeats 8000000 in
set_option maxRecDepth 100000 in
theorem tgt_great (t : Tgt) (b : Nat) (w : World) (ht : TgtAt w t) (hb : Blk w b (tgtCells t).toArray 77) :
    Calls Tryd.prog 93 #[.slice (some ⟨b, 0, none⟩) 1 1] w fun e w' => ∃ g : Bool, e = .returned (.bool g) ∧ Chg none w w' := by
  have HP := Lib.hid (fun v (g : Chg none w v) => great_any t.P t.B t.d v (RowsAt.chg ht.prog g) ht.pl)
  have HD : Hid (∀ v, Chg none w v → StrsAt v t.A t.D) := Lib.hid fun v g => ht.deps.chg g
  have hdl := ht.dl
  have hnl := ht.nl
  have HC : Hid (∀ v, Chg none w v → v.cell? ⟨b, 0, none⟩ = some (.string ⟨t.n.toArray⟩) ∧ v.cell? ⟨b, 1, none⟩ = some (.slice t.A t.D.length t.c) ∧ v.cell? ⟨b, 2, none⟩ = some (.int .i64 t.fuel) ∧ v.cell? ⟨b, 3, none⟩ = some (.slice t.B t.P.length t.d)) := Lib.hid fun v g => by
    have h := hb.chg g (by simp)
    exact ⟨h.cell 0, h.cell 1, h.cell 2, h.cell 3⟩
  obtain ⟨n, A, D, c, fuel, B, P, d⟩ := t
  dsimp only at HP HD HC hdl hnl
  clear ht hb
  go_enter Tryd.func93, Tryd.ntmps93
  go_wp2_with fail
  go_loopw [3, 4] (fun s3 s4 wr => (s3 = .int .i64 0 ∨ s3 = .int .i64 1) ∧ Hid (Chg none w wr)) (fun i _ _ => 1 - (intOf i).toNat)
  case atStart => exact ⟨.inl rfl, Lib.hid (Chg.refl _ _)⟩
  case round =>
    obtain ⟨rfl | rfl, H1⟩ := hrel
    · obtain ⟨c0, c1, c2, c3⟩ := HC.out wr H1.out
      by_cases h100 : 100 < n.length
      · have d1 : decide ((100 : Int) < (n.length : Int)) = true := by rw [decide_eq_true_eq]; omega
        go_wp2_with fail
        go_ret
        exact ⟨_, rfl, H1.out⟩
      · have d1 : decide ((100 : Int) < (n.length : Int)) = false := by rw [decide_eq_false_iff_not]; omega
        by_cases h20 : 20 < D.length
        · have d2 : decide ((20 : Int) < (D.length : Int)) = true := by rw [decide_eq_true_eq]; omega
          go_wp2_with fail
          go_ret
          exact ⟨_, rfl, H1.out⟩
        · have d2 : decide ((20 : Int) < (D.length : Int)) = false := by rw [decide_eq_false_iff_not]; omega
          go_wp2_with fail
          refine (HP.out _ H1.out).mono ?_
          rintro e w2 ⟨⟨g, rfl, -⟩, g2⟩
          have G2 := Lib.hid (H1.out.trans g2)
          clear g2 c0 c1 c2 c3 d1 d2 h100 h20
          cases g with
          | true =>
            go_wp2_with fail
            go_ret
            exact ⟨_, rfl, G2.out⟩
          | false =>
            go_wp2_with fail
            go_loopw [4] (fun s4 wr => ∃ k : Nat, s4 = .int .i64 k ∧ Hid (k ≤ D.length) ∧ Hid (Chg none w wr)) (fun i _ => D.length - (intOf i).toNat)
            case atStart => exact ⟨0, rfl, Lib.hid (Nat.zero_le _), G2⟩
            case round =>
              obtain ⟨k, rfl, HK, H3⟩ := hrel
              obtain ⟨c0, c1, c2, c3⟩ := HC.out wr H3.out
              by_cases hlt : k < D.length
              · have hdd : decide ((k : Int) < (D.length : Int)) = true := by rw [decide_eq_true_eq]; omega
                obtain ⟨s, hks⟩ : ∃ s, D[k]? = some s := ⟨_, List.getElem?_eq_getElem hlt⟩
                obtain ⟨b', off', rfl, hb', x1⟩ := (HD.out wr H3.out).one hks
                have HLT := Lib.hid hlt
                clear hks HK
                by_cases h100 : 100 < s.length
                · have d1 : decide ((100 : Int) < (s.length : Int)) = true := by rw [decide_eq_true_eq]; omega
                  go_wp2_with fail
                  go_ret
                  exact ⟨_, rfl, H3.out⟩
                · have d1 : decide ((100 : Int) < (s.length : Int)) = false := by rw [decide_eq_false_iff_not]; omega
                  go_wp2_with fail
                  go_roundw
                  case rel => exact ⟨k + 1, by first | rfl | go_num, Lib.hid HLT.out, H3⟩
                  case measure => have := HLT.out; first | omega | (simp only [intOf]; omega) | (simp [intOf]; omega)
              · have hdd : decide ((k : Int) < (D.length : Int)) = false := by rw [decide_eq_false_iff_not]; omega
                go_wp2_with fail
                go_roundw
                case rel => exact ⟨.inr rfl, H3⟩
                case measure => simp [intOf]
    · go_wp2_with fail
      go_ret
      exact ⟨_, rfl, H1.out⟩

end Go.Proofs.YtbadkkilblgpmaaDoor
