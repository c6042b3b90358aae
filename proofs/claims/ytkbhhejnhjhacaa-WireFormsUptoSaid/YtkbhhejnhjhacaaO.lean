/-
  The document's answer of layer 3: whether rows are the same.
-/
import Derived.Test.YtkbhhejnhjhacaaN
import Derived.Lib.Strings
namespace Go.Proofs.Ytkbhhejnhjhacaa
open Go.RowKit

theorem str_list (l : List UInt8) : (strOf l).toList = l := by rw [ByteArray.toList_eq]; simp [strOf]
theorem str_size (l : List UInt8) : (strOf l).size = l.length := by simp [strOf, ByteArray.size]
theorem str_cut (l : List UInt8) (k : Nat) : ((strOf l).extract 0 k).toList = l.take k := by
  rw [ByteArray.toList_eq, Lib.extract_data]; simp [strOf]

theorem Chg.belowLe {w w' : World} {B : Nat} (h : Chg none w w') (hB : B ≤ w.heap.size) : Below B w w' := h.belowNone hB

theorem map_take {La Lb : List Row} {k : Nat} {ra rb : Row} (ha : La[k]? = some ra) (hb : Lb[k]? = some rb) (h : (La.take k).map Row.bs = (Lb.take k).map Row.bs) (he : ra.bs = rb.bs) :
    (La.take (k + 1)).map Row.bs = (Lb.take (k + 1)).map Row.bs := by
  obtain ⟨h1, rfl⟩ := List.getElem?_eq_some_iff.1 ha
  obtain ⟨h2, rfl⟩ := List.getElem?_eq_some_iff.1 hb
  rw [List.take_succ_eq_append_getElem h1, List.take_succ_eq_append_getElem h2, List.map_append, List.map_append, h, List.map_singleton, List.map_singleton, he]

theorem map_ne {La Lb : List Row} {k : Nat} {ra rb : Row} (ha : La[k]? = some ra) (hb : Lb[k]? = some rb) (he : ra.bs ≠ rb.bs) : La.map Row.bs ≠ Lb.map Row.bs := by
  intro e
  have h1 : (La.map Row.bs)[k]? = some ra.bs := by rw [List.getElem?_map, ha]; rfl
  have h2 : (Lb.map Row.bs)[k]? = some rb.bs := by rw [List.getElem?_map, hb]; rfl
  rw [e, h2] at h1
  exact he (by simpa using h1.symm)

set_option maxHeartbeats 4000000 in
theorem same_any (Aa Ab : Option Addr) (La Lb : List Row) (ca cb B : Nat) (w : World) (hB : B ≤ w.heap.size) (ha : RowsIn w B Aa La) (hb : RowsIn w B Ab Lb) (hl : La.length ≤ 9223372036854775807) (hl2 : Lb.length ≤ 9223372036854775807) :
    Calls Try.prog 22 #[.slice Aa La.length ca, .slice Ab Lb.length cb] w fun e w' => e = .returned (.bool (decide (La.map Row.bs = Lb.map Row.bs))) ∧ Chg none w w' := by
  by_cases hlen : La.length = Lb.length
  · have hlb : ((La.length : Int) != (Lb.length : Int)) = false := by simp; omega
    have HA := Lib.hid ha
    have HB := Lib.hid hb
    have HL := Lib.hid hlen
    obtain ⟨d, hd⟩ : ∃ d, d = decide (La.map Row.bs = Lb.map Row.bs) := ⟨_, rfl⟩
    rw [← hd]
    have HD := Lib.hid hd
    clear hlen ha hb hd
    go_enter Try.func22, Try.ntmps22
    go_wp2_with fail
    go_loopw [5] (fun v5 wr => ∃ k : Nat, k ≤ La.length ∧ v5 = .int .i64 k ∧ (La.take k).map Row.bs = (Lb.take k).map Row.bs ∧ Chg none w wr) (fun v5 _ => La.length - (intOf v5).toNat)
    case atStart => exact ⟨0, by omega, rfl, rfl, Chg.refl _ _⟩
    case round =>
      obtain ⟨k, hk, rfl, htk, hch⟩ := hrel
      have HTK := Lib.hid htk
      clear htk
      by_cases hlt : k < La.length
      · have hlt2 : k < Lb.length := by rw [← HL.out]; exact hlt
        obtain ⟨ra, hra⟩ : ∃ r, La[k]? = some r := ⟨_, List.getElem?_eq_getElem hlt⟩
        obtain ⟨rb, hrb⟩ : ∃ r, Lb[k]? = some r := ⟨_, List.getElem?_eq_getElem hlt2⟩
        have ha := HA.out.below (hch.belowLe hB)
        have hb := HB.out.below (hch.belowLe hB)
        obtain ⟨ba, oa, rfl, _, hca⟩ := ha.reads.plainV (by omega)
        obtain ⟨bb, ob, rfl, _, hcb⟩ := hb.reads.plainV (by omega)
        have qa := hca k _ (by rw [List.getElem?_map, hra]; rfl)
        have qb := hcb k _ (by rw [List.getElem?_map, hrb]; rfl)
        unfold Row.val at qa qb
        have va := conv_reads wr.drew (c := ra.c) (ha.each ra (List.mem_of_getElem? hra)).reads.drew
        have vb := conv_reads wr.drew (c := rb.c) (hb.each rb (List.mem_of_getElem? hrb)).reads.drew
        have hS := And.intro (show wr.drew.cell? ⟨ba, oa + k, none⟩ = _ from qa) (And.intro (show wr.drew.cell? ⟨bb, ob + k, none⟩ = _ from qb) (And.intro va vb))
        have HS := Lib.hid hS
        have HRA := Lib.hid hra
        have HRB := Lib.hid hrb
        have j0 : (0 : Int) ≤ (k : Int) := by omega
        have j1 : (k : Int) < (La.length : Int) := by omega
        have j2 : (k : Int) < (Lb.length : Int) := by omega
        clear ha hb hca hcb qa qb va vb hra hrb hS
        by_cases he : ra.bs = rb.bs
        · have hS := HS.out
          have dd : (strOf ra.bs).toList = (strOf rb.bs).toList := by rw [he]
          have dn : ((strOf ra.bs).toList != (strOf rb.bs).toList) = false := by rw [dd]; simp
          have dm : ((strOf ra.bs).toList == (strOf rb.bs).toList) = true := by rw [dd]; simp
          have HT := Lib.hid (map_take HRA.out HRB.out HTK.out he)
          clear he dd
          go_wp2_with fail
          refine wp_region_held_drew (S := (fun w' => w'.cell? ⟨ba, oa + k, none⟩ = some (.slice ra.A ra.bs.length ra.c) ∧ w'.cell? ⟨bb, ob + k, none⟩ = some (.slice rb.A rb.bs.length rb.c) ∧ (convert 22 9 (.slice ra.A ra.bs.length ra.c)).run Try.prog w' = .ok (.string (strOf ra.bs)) w' ∧ (convert 22 9 (.slice rb.A rb.bs.length rb.c)).run Try.prog w' = .ok (.string (strOf rb.bs)) w')) (by kernel_rfl) hS (fun _ => ?_)
          refine wpAnyH_take (i := 0) (oi := ⟨some 17, _, _, _, _, _⟩) (v := ?_) rfl (by kernel_rfl) (by kernel_rfl) (by kernel_rfl) (fun _ _ _ h => h) (Or.inl ⟨by rfl, ?_⟩) (by assumption) ?_
          rotate_left
          · intro w hSw; (try dsimp only at hSw); go_simp; (try with_reducible rfl)
          try simp only [Act.put, List.setIfInBounds_toArray, List.set_cons_zero, List.set_cons_succ]
          refine wpAnyH_take (i := 1) (oi := ⟨some 18, _, _, _, _, _⟩) (v := ?_) rfl (by kernel_rfl) (by kernel_rfl) (by kernel_rfl) (fun _ _ _ h => h) (Or.inl ⟨by rfl, ?_⟩) (by assumption) ?_
          rotate_left
          · intro w hSw; (try dsimp only at hSw); go_simp; (try with_reducible rfl)
          try simp only [Act.put, List.setIfInBounds_toArray, List.set_cons_zero, List.set_cons_succ]
          refine wpAnyH_take (i := 2) (oi := ⟨some 19, _, _, _, _, _⟩) (v := ?_) rfl (by kernel_rfl) (by kernel_rfl) (by kernel_rfl) (fun _ _ _ h => h) (Or.inl ⟨by rfl, ?_⟩) (by assumption) ?_
          rotate_left
          · intro w hSw; (try dsimp only at hSw); go_simp; (try with_reducible rfl)
          try simp only [Act.put, List.setIfInBounds_toArray, List.set_cons_zero, List.set_cons_succ]
          refine wpAnyH_take (i := 3) (oi := ⟨some 20, _, _, _, _, _⟩) (v := ?_) rfl (by kernel_rfl) (by kernel_rfl) (by kernel_rfl) (fun _ _ _ h => h) (Or.inl ⟨by rfl, ?_⟩) (by assumption) ?_
          rotate_left
          · intro w hSw; (try dsimp only at hSw); go_simp; (try with_reducible rfl)
          try simp only [Act.put, List.setIfInBounds_toArray, List.set_cons_zero, List.set_cons_succ]
          refine wpAnyH_take (i := 4) (oi := ⟨some 21, _, _, _, _, _⟩) (v := ?_) rfl (by kernel_rfl) (by kernel_rfl) (by kernel_rfl) (fun _ _ _ h => h) (Or.inl ⟨by rfl, ?_⟩) (by assumption) ?_
          rotate_left
          · intro w hSw; (try dsimp only at hSw); go_simp; (try with_reducible rfl)
          try simp only [Act.put, List.setIfInBounds_toArray, List.set_cons_zero, List.set_cons_succ]
          refine wpAnyH_take (i := 5) (oi := ⟨some 22, _, _, _, _, _⟩) (v := ?_) rfl (by kernel_rfl) (by kernel_rfl) (by kernel_rfl) (fun _ _ _ h => h) (Or.inl ⟨by rfl, ?_⟩) (by assumption) ?_
          rotate_left
          · intro w hSw; (try dsimp only at hSw); go_simp; (try with_reducible rfl)
          try simp only [Act.put, List.setIfInBounds_toArray, List.set_cons_zero, List.set_cons_succ]
          refine wpAnyH_take (i := 6) (oi := ⟨some 23, _, _, _, _, _⟩) (v := ?_) rfl (by kernel_rfl) (by kernel_rfl) (by kernel_rfl) (fun _ _ _ h => h) (Or.inl ⟨by rfl, ?_⟩) (by assumption) ?_
          rotate_left
          · intro w hSw; (try dsimp only at hSw); go_simp; (try with_reducible rfl)
          try simp only [Act.put, List.setIfInBounds_toArray, List.set_cons_zero, List.set_cons_succ]
          refine wpAnyH_take (i := 7) (oi := ⟨some 24, _, _, _, _, _⟩) (v := ?_) rfl (by kernel_rfl) (by kernel_rfl) (by kernel_rfl) (fun _ _ _ h => h) (Or.inl ⟨by rfl, ?_⟩) (by assumption) ?_
          rotate_left
          · intro w hSw; (try dsimp only at hSw); go_simp; (try with_reducible rfl)
          try simp only [Act.put, List.setIfInBounds_toArray, List.set_cons_zero, List.set_cons_succ]
          refine wpAnyH_take (i := 8) (oi := ⟨some 25, _, _, _, _, _⟩) (v := ?_) rfl (by kernel_rfl) (by kernel_rfl) (by kernel_rfl) (fun _ _ _ h => h) (Or.inl ⟨by rfl, ?_⟩) (by assumption) ?_
          rotate_left
          · intro w hSw; (try dsimp only at hSw); go_simp; (try with_reducible rfl)
          try simp only [Act.put, List.setIfInBounds_toArray, List.set_cons_zero, List.set_cons_succ]
          refine wpAnyH_take (i := 9) (oi := ⟨some 26, _, _, _, _, _⟩) (v := ?_) rfl (by kernel_rfl) (by kernel_rfl) (by kernel_rfl) (fun _ _ _ h => h) (Or.inl ⟨by rfl, ?_⟩) (by assumption) ?_
          rotate_left
          · intro w hSw; (try dsimp only at hSw); go_simp; (try with_reducible rfl)
          try simp only [Act.put, List.setIfInBounds_toArray, List.set_cons_zero, List.set_cons_succ]
          refine wpAnyH_take (i := 10) (oi := ⟨some 27, _, _, _, _, _⟩) (v := ?_) rfl (by kernel_rfl) (by kernel_rfl) (by kernel_rfl) (fun _ _ _ h => h) (Or.inl ⟨by rfl, ?_⟩) (by assumption) ?_
          rotate_left
          · intro w hSw; (try dsimp only at hSw); go_simp; (try with_reducible rfl)
          try simp only [Act.put, List.setIfInBounds_toArray, List.set_cons_zero, List.set_cons_succ]
          refine wpAnyH_done (by kernel_rfl) ?_ _
          go_wp2_with fail
          go_roundw
          case rel => exact ⟨k + 1, by omega, by go_num, HT.out, hch.drew⟩
          case measure => simp [intOf]; omega
        · have hS := HS.out
          have dn : ((strOf ra.bs).toList != (strOf rb.bs).toList) = true := by rw [str_list, str_list]; simpa using he
          have dm : ((strOf ra.bs).toList == (strOf rb.bs).toList) = false := by rw [str_list, str_list]; simpa using he
          have hdf : d = false := by rw [HD.out]; exact decide_eq_false (map_ne HRA.out HRB.out he)
          have HDF := Lib.hid hdf
          clear he hdf
          go_wp2_with fail
          refine wp_region_held_drew (S := (fun w' => w'.cell? ⟨ba, oa + k, none⟩ = some (.slice ra.A ra.bs.length ra.c) ∧ w'.cell? ⟨bb, ob + k, none⟩ = some (.slice rb.A rb.bs.length rb.c) ∧ (convert 22 9 (.slice ra.A ra.bs.length ra.c)).run Try.prog w' = .ok (.string (strOf ra.bs)) w' ∧ (convert 22 9 (.slice rb.A rb.bs.length rb.c)).run Try.prog w' = .ok (.string (strOf rb.bs)) w')) (by kernel_rfl) hS (fun _ => ?_)
          refine wpAnyH_take (i := 0) (oi := ⟨some 17, _, _, _, _, _⟩) (v := ?_) rfl (by kernel_rfl) (by kernel_rfl) (by kernel_rfl) (fun _ _ _ h => h) (Or.inl ⟨by rfl, ?_⟩) (by assumption) ?_
          rotate_left
          · intro w hSw; (try dsimp only at hSw); go_simp; (try with_reducible rfl)
          try simp only [Act.put, List.setIfInBounds_toArray, List.set_cons_zero, List.set_cons_succ]
          refine wpAnyH_take (i := 1) (oi := ⟨some 18, _, _, _, _, _⟩) (v := ?_) rfl (by kernel_rfl) (by kernel_rfl) (by kernel_rfl) (fun _ _ _ h => h) (Or.inl ⟨by rfl, ?_⟩) (by assumption) ?_
          rotate_left
          · intro w hSw; (try dsimp only at hSw); go_simp; (try with_reducible rfl)
          try simp only [Act.put, List.setIfInBounds_toArray, List.set_cons_zero, List.set_cons_succ]
          refine wpAnyH_take (i := 2) (oi := ⟨some 19, _, _, _, _, _⟩) (v := ?_) rfl (by kernel_rfl) (by kernel_rfl) (by kernel_rfl) (fun _ _ _ h => h) (Or.inl ⟨by rfl, ?_⟩) (by assumption) ?_
          rotate_left
          · intro w hSw; (try dsimp only at hSw); go_simp; (try with_reducible rfl)
          try simp only [Act.put, List.setIfInBounds_toArray, List.set_cons_zero, List.set_cons_succ]
          refine wpAnyH_take (i := 3) (oi := ⟨some 20, _, _, _, _, _⟩) (v := ?_) rfl (by kernel_rfl) (by kernel_rfl) (by kernel_rfl) (fun _ _ _ h => h) (Or.inl ⟨by rfl, ?_⟩) (by assumption) ?_
          rotate_left
          · intro w hSw; (try dsimp only at hSw); go_simp; (try with_reducible rfl)
          try simp only [Act.put, List.setIfInBounds_toArray, List.set_cons_zero, List.set_cons_succ]
          refine wpAnyH_take (i := 4) (oi := ⟨some 21, _, _, _, _, _⟩) (v := ?_) rfl (by kernel_rfl) (by kernel_rfl) (by kernel_rfl) (fun _ _ _ h => h) (Or.inl ⟨by rfl, ?_⟩) (by assumption) ?_
          rotate_left
          · intro w hSw; (try dsimp only at hSw); go_simp; (try with_reducible rfl)
          try simp only [Act.put, List.setIfInBounds_toArray, List.set_cons_zero, List.set_cons_succ]
          refine wpAnyH_take (i := 5) (oi := ⟨some 22, _, _, _, _, _⟩) (v := ?_) rfl (by kernel_rfl) (by kernel_rfl) (by kernel_rfl) (fun _ _ _ h => h) (Or.inl ⟨by rfl, ?_⟩) (by assumption) ?_
          rotate_left
          · intro w hSw; (try dsimp only at hSw); go_simp; (try with_reducible rfl)
          try simp only [Act.put, List.setIfInBounds_toArray, List.set_cons_zero, List.set_cons_succ]
          refine wpAnyH_take (i := 6) (oi := ⟨some 23, _, _, _, _, _⟩) (v := ?_) rfl (by kernel_rfl) (by kernel_rfl) (by kernel_rfl) (fun _ _ _ h => h) (Or.inl ⟨by rfl, ?_⟩) (by assumption) ?_
          rotate_left
          · intro w hSw; (try dsimp only at hSw); go_simp; (try with_reducible rfl)
          try simp only [Act.put, List.setIfInBounds_toArray, List.set_cons_zero, List.set_cons_succ]
          refine wpAnyH_take (i := 7) (oi := ⟨some 24, _, _, _, _, _⟩) (v := ?_) rfl (by kernel_rfl) (by kernel_rfl) (by kernel_rfl) (fun _ _ _ h => h) (Or.inl ⟨by rfl, ?_⟩) (by assumption) ?_
          rotate_left
          · intro w hSw; (try dsimp only at hSw); go_simp; (try with_reducible rfl)
          try simp only [Act.put, List.setIfInBounds_toArray, List.set_cons_zero, List.set_cons_succ]
          refine wpAnyH_take (i := 8) (oi := ⟨some 25, _, _, _, _, _⟩) (v := ?_) rfl (by kernel_rfl) (by kernel_rfl) (by kernel_rfl) (fun _ _ _ h => h) (Or.inl ⟨by rfl, ?_⟩) (by assumption) ?_
          rotate_left
          · intro w hSw; (try dsimp only at hSw); go_simp; (try with_reducible rfl)
          try simp only [Act.put, List.setIfInBounds_toArray, List.set_cons_zero, List.set_cons_succ]
          refine wpAnyH_take (i := 9) (oi := ⟨some 26, _, _, _, _, _⟩) (v := ?_) rfl (by kernel_rfl) (by kernel_rfl) (by kernel_rfl) (fun _ _ _ h => h) (Or.inl ⟨by rfl, ?_⟩) (by assumption) ?_
          rotate_left
          · intro w hSw; (try dsimp only at hSw); go_simp; (try with_reducible rfl)
          try simp only [Act.put, List.setIfInBounds_toArray, List.set_cons_zero, List.set_cons_succ]
          refine wpAnyH_take (i := 10) (oi := ⟨some 27, _, _, _, _, _⟩) (v := ?_) rfl (by kernel_rfl) (by kernel_rfl) (by kernel_rfl) (fun _ _ _ h => h) (Or.inl ⟨by rfl, ?_⟩) (by assumption) ?_
          rotate_left
          · intro w hSw; (try dsimp only at hSw); go_simp; (try with_reducible rfl)
          try simp only [Act.put, List.setIfInBounds_toArray, List.set_cons_zero, List.set_cons_succ]
          refine wpAnyH_done (by kernel_rfl) ?_ _
          go_wp2_with fail
          go_ret
          exact ⟨by rw [HDF.out]; rfl, hch.drew⟩
      · obtain rfl : k = La.length := by omega
        have hdt : d = true := by
          rw [HD.out]
          have := HTK.out
          rw [List.take_length, HL.out, List.take_length] at this
          exact decide_eq_true this
        have HDT := Lib.hid hdt
        clear hdt
        go_wp2_with fail
        go_ret
        exact ⟨by rw [HDT.out]; rfl, hch⟩
  · have hlb : ((La.length : Int) != (Lb.length : Int)) = true := by simp; omega
    have hd : decide (La.map Row.bs = Lb.map Row.bs) = false := decide_eq_false (fun e => hlen (by have := congrArg List.length e; simpa using this))
    rw [hd]
    clear hd hlen ha hb
    go_enter Try.func22, Try.ntmps22
    go_wp2_with fail
    go_ret
    exact ⟨rfl, Chg.refl _ _⟩

end Go.Proofs.Ytkbhhejnhjhacaa
