/-
  Layer 16's known.
-/
import Derived.Test.YtbadkkilblgpmaaDoorNH
import Derived.Test.YtbadkkilblgpmaaDoorTK
namespace Go.Proofs.YtbadkkilblgpmaaDoor
open Go.RowKit

def kIn : List (List UInt8 × List UInt8) := [([105, 110, 47, 98, 47, 121], [50]), ([115, 114, 99, 47, 120], [49])]
def kT (b : Nat) : Tgt := ⟨[97], some ⟨b, 0, none⟩, [[98]], 1, 0, none, [], 0⟩
theorem k_tgt (b : Nat) : mayTgt (kT b) = true := by rfl
theorem k_may16 (A : Option Addr) (c : Nat) : mayT [⟨[120], A, [49], c⟩] = true := by rfl
theorem k_may16b (A : Option Addr) (c : Nat) : mayT [⟨[121], A, [50], c⟩] = true := by rfl
theorem k_inK (A B C : Option Addr) (c d e : Nat) : inK [⟨[120], A, [49], c⟩] ([[98]].zip [⟨B, [⟨[121], C, [50], d⟩], e⟩]) = [([115, 114, 99, 47, 120], [49]), ([105, 110, 47, 98, 47, 121], [50])] := by rfl
theorem k_okK : okK [([115, 114, 99, 47, 120], [49]), ([105, 110, 47, 98, 47, 121], [50])] := by
  unfold okK
  refine ⟨by decide, by decide +kernel, by decide, by decide⟩
theorem k_up : Up kIn := by
  unfold Up kIn
  rw [List.pairwise_cons]
  refine ⟨fun a ha => ?_, List.pairwise_singleton _ _⟩
  rw [List.mem_singleton.1 ha]
  decide +kernel

set_option maxHeartbeats 4000000 in
theorem known_in (w : World) (hF : Flds w) :
    Calls Tryd.prog 59
    #[Value.agg #[Value.string { data := #[97] }, Value.slice (some { block := w.heap.size, off := 0 }) 1 1, Value.int IntKind.i64 0, Value.slice none 0 0],
      Value.slice (some { block := w.heap.size + 1 + 1, off := 0 }) 1 1,
      Value.slice (some { block := w.heap.size + 1 + 1 + 1 + 1 + 1, off := 0 }) 1 1]
    ((((((w.alloc (Obj.cells #[Value.string { data := #[98] }] 9)).alloc (Obj.cells #[Value.int IntKind.u8 49] 5 (1, 2))).alloc
                  (Obj.cells #[Value.string { data := #[120] }, Value.slice (some { block := w.heap.size + 1, off := 0 }) 1 1] 91)).alloc
              (Obj.cells #[Value.int IntKind.u8 50] 5 (1, 2))).alloc
          (Obj.cells #[Value.string { data := #[121] }, Value.slice (some { block := w.heap.size + 3, off := 0 }) 1 1] 91)).alloc
      (Obj.cells #[Value.slice (some { block := w.heap.size + 1 + 1 + 1 + 1, off := 0 }) 1 1] 40))
    fun e w' => ∃ A c M, e = .returned (.tuple #[.slice A 2 c, .int .i64 0]) ∧ TreeAt w' A M ∧ keys M = kIn ∧ Chg none w w' := by
  obtain ⟨W1, h1⟩ : ∃ W, W = w.alloc (Obj.cells #[Value.string { data := #[98] }] 9) := ⟨_, rfl⟩
  have s1 : W1.heap.size = w.heap.size + 1 := by rw [h1]; simp
  have T1 := lit_tree [120] [49] (1, 2) W1 (by decide) (by decide)
  rw [s1] at T1
  obtain ⟨W3, h3⟩ : ∃ W, W = (W1.alloc (Obj.cells #[Value.int IntKind.u8 49] 5 (1, 2))).alloc (Obj.cells #[Value.string { data := #[120] }, Value.slice (some { block := w.heap.size + 1, off := 0 }) 1 1] 91) := ⟨_, rfl⟩
  have s3 : W3.heap.size = w.heap.size + 3 := by rw [h3]; simp [s1]
  replace T1 : TreeAt W3 (some ⟨w.heap.size + 1 + 1, 0, none⟩) [⟨[120], some ⟨w.heap.size + 1, 0, none⟩, [49], 1⟩] := by rw [h3]; exact T1
  have T2 := lit_tree [121] [50] (1, 2) W3 (by decide) (by decide)
  rw [s3] at T2
  obtain ⟨W5, h5⟩ : ∃ W, W = (W3.alloc (Obj.cells #[Value.int IntKind.u8 50] 5 (1, 2))).alloc (Obj.cells #[Value.string { data := #[121] }, Value.slice (some { block := w.heap.size + 3, off := 0 }) 1 1] 91) := ⟨_, rfl⟩
  have s5 : W5.heap.size = w.heap.size + 5 := by rw [h5]; simp [s3]
  replace T2 : TreeAt W5 (some ⟨w.heap.size + 3 + 1, 0, none⟩) [⟨[121], some ⟨w.heap.size + 3, 0, none⟩, [50], 1⟩] := by rw [h5]; exact T2
  obtain ⟨W6, h6⟩ : ∃ W, W = W5.alloc (Obj.cells #[Value.slice (some { block := w.heap.size + 1 + 1 + 1 + 1, off := 0 }) 1 1] 40) := ⟨_, rfl⟩
  have g01 : Chg none w W1 := by rw [h1]; exact (Chg.refl _ _).alloc _
  have g13 : Chg none W1 W3 := by rw [h3]; exact ((Chg.refl _ _).alloc _).alloc _
  have g35 : Chg none W3 W5 := by rw [h5]; exact ((Chg.refl _ _).alloc _).alloc _
  have g56 : Chg none W5 W6 := by rw [h6]; exact (Chg.refl _ _).alloc _
  have g16 := g13.trans (g35.trans g56)
  have b0 : Blk W6 w.heap.size #[.string ⟨#[98]⟩] 9 := by
    have h : Blk W1 w.heap.size #[.string ⟨#[98]⟩] 9 := by rw [h1]; exact Blk.new _ _ _
    exact h.chg g16 (by simp)
  have b6 : Blk W6 (w.heap.size + 5) #[.slice (some ⟨w.heap.size + 3 + 1, 0, none⟩) 1 1] 40 := by
    have h : Blk W6 W5.heap.size #[.slice (some ⟨w.heap.size + 3 + 1, 0, none⟩) 1 1] 40 := by rw [h6]; exact Blk.new _ _ _
    rwa [s5] at h
  have hS : StrsAt W6 (some ⟨w.heap.size, 0, none⟩) [[98]] := by
    refine ⟨fun _ => ⟨_, 0, rfl, b0.lt, fun i a hi j hj => ?_⟩, fun s hs => by rw [List.mem_singleton.1 hs]; decide⟩
    have hi0 : i = 0 := by
      have := (List.getElem?_eq_some_iff.1 hi).1
      simp at this; exact this
    subst hi0
    obtain rfl : [98] = a := by simpa using hi
    obtain rfl : j = 0 := by omega
    rw [b0.cell]; rfl
  have hO : OutsAt W6 (some ⟨w.heap.size + 5, 0, none⟩) [⟨some ⟨w.heap.size + 3 + 1, 0, none⟩, [⟨[121], some ⟨w.heap.size + 3, 0, none⟩, [50], 1⟩], 1⟩] := by
    refine ⟨fun _ => ⟨_, 0, rfl, b6.lt, fun i a hi j hj => ?_⟩, fun o ho => by rw [List.mem_singleton.1 ho]; exact ⟨T2.chg g56, by show (1 : Nat) ≤ _; omega⟩⟩
    have hi0 : i = 0 := by
      have := (List.getElem?_eq_some_iff.1 hi).1
      simp at this; exact this
    subst hi0
    obtain rfl : (⟨some ⟨w.heap.size + 3 + 1, 0, none⟩, [⟨[121], some ⟨w.heap.size + 3, 0, none⟩, [50], 1⟩], 1⟩ : Tr) = a := by simpa using hi
    obtain rfl : j = 0 := by omega
    rw [b6.cell]; rfl
  have hT : TgtAt W6 (kT w.heap.size) := by
    refine ⟨by show ([97] : List UInt8).length ≤ _; decide, hS, by show ([[98]] : List (List UInt8)).length ≤ _; decide, Nat.le_refl _, by show 1 ≤ _; decide, fun h => absurd rfl h, (fun x hx => by cases hx), Nat.zero_le _, by show _ ≤ (0 : Int) ∧ (0 : Int) ≤ _; decide⟩
  have hC := inputs_any (kT w.heap.size) [⟨[120], some ⟨w.heap.size + 1, 0, none⟩, [49], 1⟩] (some ⟨w.heap.size + 1 + 1, 0, none⟩) 1 [⟨some ⟨w.heap.size + 3 + 1, 0, none⟩, [⟨[121], some ⟨w.heap.size + 3, 0, none⟩, [50], 1⟩], 1⟩] (some ⟨w.heap.size + 5, 0, none⟩) 1 W6 hT (T1.chg (g35.trans g56)) hO (hF.chg (g01.trans g16)) (by show (1 : Nat) ≤ _; omega) (by show (1 : Nat) ≤ _; omega)
  have g06 := g01.trans g16
  rw [h6, h5, h3, h1] at hC
  refine hC.mono ?_
  rw [← h1, ← h3, ← h5, ← h6]
  rintro e w' ⟨n, hcd, hg, hr⟩
  have hk := k_inK (some ⟨w.heap.size + 1, 0, none⟩) (some ⟨w.heap.size + 3 + 1, 0, none⟩) (some ⟨w.heap.size + 3, 0, none⟩) 1 1 1
  have hkk : inK [⟨[120], some ⟨w.heap.size + 1, 0, none⟩, [49], 1⟩] ((kT w.heap.size).D.zip [⟨some ⟨w.heap.size + 3 + 1, 0, none⟩, [⟨[121], some ⟨w.heap.size + 3, 0, none⟩, [50], 1⟩], 1⟩]) = _ := hk
  rw [hkk] at hcd hr
  have hn : n = 0 := hcd.zero.2 ⟨⟨k_tgt _, k_may16 _ _, rfl, rfl⟩, fun h => h, k_okK⟩
  subst hn
  rcases hr with ⟨h, -⟩ | ⟨-, A, c, M, rfl, hTM, hp, hm⟩
  · exact absurd rfl h
  · have hkM : keys M = kIn := up_unique ((mayT_iff M).1 hm).2 k_up (hp.trans (List.Perm.swap _ _ _))
    have hl : M.length = 2 := by rw [← keys_length, hkM]; rfl
    exact ⟨A, c, M, by rw [hl], hTM, hkM, g06.trans hg⟩

theorem two_known {w : World} {A : Option Addr} {M : List Fil} (h : TreeAt w A M) (hk : keys M = kIn) :
    ∃ b off A0 c0 A1 c1, A = some ⟨b, off, none⟩ ∧ w.cell? ⟨b, off, none⟩ = some (.string ⟨#[105, 110, 47, 98, 47, 121]⟩) ∧ w.cell? ⟨b, off + 1, none⟩ = some (.slice A0 1 c0) ∧
      w.cell? ⟨b, off + 2, none⟩ = some (.string ⟨#[115, 114, 99, 47, 120]⟩) ∧ w.cell? ⟨b, off + 2 + 1, none⟩ = some (.slice A1 1 c1) ∧ Txt w A0 [50] := by
  rcases M with _ | ⟨m0, _ | ⟨m1, _ | ⟨m2, M⟩⟩⟩
  · simp [keys, kIn] at hk
  · simp [keys, kIn] at hk
  · obtain ⟨p0, A0, x0, c0⟩ := m0
    obtain ⟨p1, A1, x1, c1⟩ := m1
    unfold keys keyF kIn at hk
    simp only [List.map_cons, List.map_nil, List.cons.injEq, Prod.mk.injEq, and_true] at hk
    obtain ⟨⟨rfl, rfl⟩, rfl, rfl⟩ := hk
    obtain ⟨b, off, rfl, -, -⟩ := h.1 (by simp)
    obtain ⟨-, h0, h1⟩ := h.1.two (i := 0) rfl
    obtain ⟨-, h2, h3⟩ := h.1.two (i := 1) rfl
    exact ⟨b, off, A0, c0, A1, c1, rfl, h0, h1, h2, h3, (h.2 _ (List.mem_cons_self)).t⟩
  · simp [keys, kIn] at hk

set_option maxHeartbeats 16000000 in
set_option maxRecDepth 100000 in
theorem known16_any (w : World) (hF : Flds w) : Calls Tryd.prog 58 #[] w fun e w' => e = .returned (.bool true) ∧ Chg none w w' := by
  have kc := fun (w : World) (C : Array Value) (n c : Nat) => Lib.run_convert_bytes_const (P := Tryd.prog) w 22 5 C n c Tryd.underlying22 Tryd.underlying5
  have kc1 := fun (w : World) (o : Obj) (C : Array Value) (n c : Nat) => by
    have h := kc (w.alloc o) C n c
    rwa [show (w.alloc o).heap.size = w.heap.size + 1 by simp] at h
  have kc3 := fun (w : World) (o1 o2 o3 : Obj) (C : Array Value) (n c : Nat) => by
    have h := kc (((w.alloc o1).alloc o2).alloc o3) C n c
    rwa [show (((w.alloc o1).alloc o2).alloc o3).heap.size = w.heap.size + 3 by simp] at h
  have HK := Lib.hid (known_in w hF)
  clear hF
  go_enter Tryd.func58, Tryd.ntmps58
  go_wp2_with fail
  refine HK.out.mono ?_
  rintro e w2 ⟨A, c, M, rfl, hT, hk, g2⟩
  have G2 := Lib.hid g2
  obtain ⟨b, off, A0, c0, A1, c1, rfl, x0, x1, x2, x3, ht⟩ := two_known hT hk
  have hcv : (convert 22 9 (.slice A0 1 c0)).run Tryd.prog w2 = .ok (.string ⟨#[50]⟩) w2 := conv_reads (c := c0) w2 (txt_reads ht)
  clear hT hk g2 ht HK kc kc1 kc3
  go_wp2_with fail
  go_ret
  exact ⟨rfl, G2.out⟩

end Go.Proofs.YtbadkkilblgpmaaDoor
