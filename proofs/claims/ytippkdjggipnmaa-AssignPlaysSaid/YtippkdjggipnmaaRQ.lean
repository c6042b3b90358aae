/-
  The law AssignPlays, all inputs.
-/
import Derived.Test.YtippkdjggipnmaaRO
namespace Go.Proofs.Ytippkdjggipnmaa
open Go.RowKit Go.Maps

set_option maxRecDepth 100000 in
set_option maxHeartbeats 4000000 in
theorem plays_not (nc np win tim : Int) (A : Option Addr) (n ca : Nat) (w : World) (hm : ¬ mayP nc np win tim) :
    Calls Try.prog 3 #[.int .i64 nc, .int .i64 np, .int .i64 win, .int .i64 tim, .slice A n ca] w fun e w' => e = .returned (.bool true) ∧ Chg none w w' := by
  have HN := Lib.hid (new_no nc np win tim w hm)
  have HMY := Lib.hid (fun v => rmay_any nc np win tim v)
  rw [mayQ_no hm] at HMY
  clear hm
  go_enter Try.func3, Try.ntmps3
  go_wp2_with fail
  refine HN.out.mono ?_
  rintro e w1 ⟨rfl, rfl⟩
  go_wp2_with fail
  refine (HMY.out _).mono ?_
  rintro e w2 ⟨rfl, rfl⟩
  go_wp2_with fail
  refine (known_any _).mono ?_
  rintro e w2 ⟨rfl, g2⟩
  have G2 := Lib.hid g2
  clear g2
  go_wp2_with fail
  go_ret
  exact ⟨rfl, G2.out⟩

set_option maxRecDepth 100000 in
set_option maxHeartbeats 4000000 in
theorem plays_long (nc np : Nat) (win tim : Int) (A : Option Addr) (n ca : Nat) (w : World) (hm : mayP nc np win tim) (hn : 150 < n) :
    Calls Try.prog 3 #[.int .i64 nc, .int .i64 np, .int .i64 win, .int .i64 tim, .slice A n ca] w fun e w' => e = .returned (.bool true) ∧ Chg none w w' := by
  have HN := Lib.hid (new_yes nc np win tim w hm)
  have HMY := Lib.hid (fun v => rmay_any nc np win tim v)
  rw [mayQ_yes hm] at HMY
  have e2 : decide ((150 : Int) < (n : Int)) = true := by simp; omega
  clear hm hn
  go_enter Try.func3, Try.ntmps3
  go_wp2_with fail
  refine HN.out.mono ?_
  rintro e w1 ⟨q, rfl, h1, hq, g1⟩
  have G1 := Lib.hid g1
  clear h1 hq g1
  go_wp2_with fail
  refine (HMY.out _).mono ?_
  rintro e w2 ⟨rfl, rfl⟩
  go_wp2_with fail
  refine (known_any _).mono ?_
  rintro e w2 ⟨rfl, g2⟩
  have G2 := Lib.hid (G1.out.trans g2)
  clear g2
  go_wp2_with fail
  go_ret
  exact ⟨rfl, G2.out⟩

theorem plays_all (nc np win tim : Int) (A : Option Addr) (L : List Opn) (ca : Nat) (w : World) (hL : ∀ o ∈ L, o.wide) (hA : RowsAt w 4 A Opn.cells L) :
    Calls Try.prog 3 #[.int .i64 nc, .int .i64 np, .int .i64 win, .int .i64 tim, .slice A L.length ca] w fun e w' => e = .returned (.bool true) ∧ Chg none w w' := by
  by_cases hm : mayP nc np win tim
  · obtain ⟨c, rfl⟩ := Int.eq_ofNat_of_zero_le hm.1.1
    obtain ⟨p, rfl⟩ := Int.eq_ofNat_of_zero_le hm.2.1.1
    by_cases hn : L.length ≤ 150
    · exact plays_main c p win tim A L ca w hm hL hA hn
    · exact plays_long c p win tim A L.length ca w hm (by omega)
  · exact plays_not nc np win tim A L.length ca w hm

end Go.Proofs.Ytippkdjggipnmaa
