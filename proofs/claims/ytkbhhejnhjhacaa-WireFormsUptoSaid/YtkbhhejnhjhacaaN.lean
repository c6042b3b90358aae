/-
  The document's answers of layer 3: List; whether rows are the same.
-/
import Derived.Test.YtkbhhejnhjhacaaJ
namespace Go.Proofs.Ytkbhhejnhjhacaa
open Go.RowKit

theorem Gath.push {w0 w1 w2 : World} {base : Nat} {rows : List Row} {v : Value} {nl : Nat} {r : Row} {v2 : Value} (h : Gath w1 base v nl rows) (hB : base ≤ w0.heap.size)
    (hr : w1.ownsRow w0.heap.size 5 1 (.slice r.A r.bs.length r.c) r.bs.length (byteVals r.bs))
    (hown : w2.ownsRow base 22 1 v2 (nl + 1) (rows.map Row.val ++ [.slice r.A r.bs.length r.c]))
    (hg : (w1.alloc (.cells #[.slice r.A r.bs.length r.c] 22)).grownBy w2 v.ownBlock) : Gath w2 base v2 (nl + 1) (rows ++ [r]) := by
  refine ⟨by rw [List.length_append, List.length_singleton, h.len], by rw [List.map_append]; exact hown, fun q hq => ?_⟩
  rcases List.mem_append.1 hq with hq | hq
  · exact ((h.each q hq).alloc _).kept hg (own_blk_ne ((h.each q hq).alloc (.cells #[.slice r.A r.bs.length r.c] 22)) (h.list.alloc _) (by decide))
  · rw [List.mem_singleton] at hq
    subst hq
    have hr' := World.ownsRow.mono hr hB
    exact (hr'.alloc _).kept hg (own_blk_ne (hr'.alloc (.cells #[.slice q.A q.bs.length q.c] 22)) (h.list.alloc _) (by decide))

def RefRel (w0 : World) (bs : List UInt8) (most : Int) (n : Nat) (start : Int) (j : Nat) (v : Value) (next : Int) (w : World) : Prop :=
  ∃ acc, Gath w w0.heap.size v j acc ∧ Below w0.heap.size w0 w ∧ (j : Int) ≤ next ∧ next ≤ bs.length ∧ readRows bs most n start = joinR (acc.map Row.bs) (readRows bs most (n - j) next)

set_option maxHeartbeats 8000000 in
theorem refList_any (A : Option Addr) (bs : List UInt8) (c : Nat) (place many most : Int) (w : World) (hr : Reads w w.heap.size 1 A bs.length (byteVals bs)) (hl : bs.length ≤ 1000000)
    (hmy : many ≤ 9223372036854775807) (hmo : most ≤ 9223372036854775807) :
    Calls Try.prog 21 #[.slice A bs.length c, .int .i64 place, .int .i64 many, .int .i64 most] w (ToldL w (readL bs place many most)) := by
  obtain ⟨i0, hi, hz0, hz1, hz2⟩ := info_parts Try.info22
  have HU := Lib.hid (refUint_any A bs c place w hr hl)
  have hw := readU_well bs place
  obtain ⟨n, next, er, hq⟩ : ∃ n next er, readU bs place = (n, next, er) := ⟨_, _, _, rfl⟩
  have hC : readC bs place many = if er = 0 then (if many < 0 ∨ many < (n : Int) then (0, 0, 3) else (n, next, er)) else (0, 0, er) := by unfold readC; rw [hq]
  rw [hq] at hw HU
  have htop := hw.top
  dsimp only at htop
  by_cases he : er = 0
  · subst he
    rw [if_pos rfl] at hC
    by_cases hm0 : many < 0
    · rw [if_pos (.inl hm0)] at hC
      have hB : readL bs place many most = ([], 0, 3) := by unfold readL; rw [hC]; rfl
      rw [hB]
      clear hB hC hq hw hr
      go_enter Try.func21, Try.ntmps21
      go_wp2_with fail
      refine HU.out.mono ?_
      rintro e w' ⟨rfl, rfl⟩
      go_wp2_with fail
      go_ret3
      exact ⟨_, _, _, [], rfl, rfl, Gath.nil_ _ _, Below.refl _ _⟩
    · have d0 : decide (many < 0) = false := by simpa using hm0
      have hm1 : 0 ≤ many := by omega
      by_cases hmn : many < (n : Int)
      · rw [if_pos (.inr hmn)] at hC
        have hB : readL bs place many most = ([], 0, 3) := by unfold readL; rw [hC]; rfl
        rw [hB]
        clear hB hC hq hw hr hm0
        go_enter Try.func21, Try.ntmps21
        go_wp2_with fail
        refine HU.out.mono ?_
        rintro e w' ⟨rfl, rfl⟩
        go_wp2_with fail
        go_ret3
        exact ⟨_, _, _, [], rfl, rfl, Gath.nil_ _ _, Below.refl _ _⟩
      · rw [if_neg (by omega)] at hC
        obtain ⟨p0, p1, p2⟩ := hw.ok rfl
        dsimp only at p1 p2
        have hB : readL bs place many most = readRows bs most n next := by unfold readL; rw [hC]; rfl
        rw [hB]
        have d1 : decide (many < (n : Int)) = false := by simpa using hmn
        have hn9 : (n : Int) ≤ 9223372036854775807 := by omega
        have hrel0 : RefRel w bs most n next 0 (.slice none 0 0) next w := ⟨[], Gath.nil_ _ _, Below.refl _ _, by omega, by omega, (readRows_nil _ _ _ _).symm⟩
        have HREL0 := Lib.hid hrel0
        have HR := Lib.hid hr
        clear hB hC hq hw hr hm0 hmn hrel0
        go_enter Try.func21, Try.ntmps21
        go_wp2_with fail
        refine HU.out.mono ?_
        rintro e w' ⟨rfl, rfl⟩
        go_wp2_with fail
        go_loopw [12, 14, 15] (fun v12 v14 v15 wr => ∃ (j : Nat) (nx : Int), j ≤ n ∧ v15 = .int .u64 j ∧ v12 = .int .i64 nx ∧ RefRel w bs most n next j v14 nx wr) (fun _ _ v15 _ => n - (intOf v15).toNat)
        case atStart => exact ⟨0, next, by omega, rfl, rfl, HREL0.out⟩
        case round =>
          obtain ⟨j, nx, hj, rfl, rfl, acc, hga, hbl, hn1, hn2, hread⟩ := hrel
          clear HREL0
          obtain ⟨A2, c2, rfl⟩ := own_slice hga.list
          have HGA := Lib.hid hga
          have HREAD := Lib.hid hread
          have hs2 := hbl.size
          clear hga hread
          by_cases hlt : j < n
          · obtain ⟨x, ny, er, hq⟩ : ∃ x ny er, readB bs nx most = (x, ny, er) := ⟨_, _, _, rfl⟩
            have hstep : readRows bs most (n - j) nx = if er = 0 then joinR [x] (readRows bs most (n - (j + 1)) ny) else ([], 0, er) := by
              rw [show n - j = (n - (j + 1)) + 1 by omega, readRows, hq]
            have hb := refBytes_any A bs c nx most wr ((HR.out.below hbl).more hs2) hl hmo
            rw [hq] at hb
            by_cases he : er = 0
            · subst he
              rw [if_pos rfl] at hstep
              have hbw := readB_well bs nx most (by rw [hq])
              rw [hq] at hbw
              dsimp only at hbw
              have HB := Lib.hid hb
              have HSTEP := Lib.hid hstep
              clear hq hstep hb
              go_wp2_with fail
              refine HB.out.mono ?_
              rintro e w2 ⟨Ax, n2, cx, rfl, hn2, hown2, hb2⟩
              dsimp only at hn2
              subst hn2
              dsimp only at hown2
              have HGA2 := Lib.hid (HGA.out.kept hb2)
              have HR1 := Lib.hid (reads_val w2 (.slice Ax x.length cx))
              have HO1 : Hid (∀ u ∈ [Value.slice Ax x.length cx], u.oneCell' = true) := by intro u hu; simp at hu; subst hu; rfl
              have HOWN2 := Lib.hid hown2
              have hb2s := hb2.size
              have hj9 : j ≤ 1000000 := by omega
              clear hown2
              go_wp2_with (at_builtin; refine wpList_append_any _ rfl (.tmp 53) (.tmp 55) 24 rfl w.heap.size 22 i0 (.slice none 0 0) 1 24 Try.underlying24 hi hz0 hz1 hz2 rfl (by decide) _ j (acc.map Row.val) rfl (HGA2.out.list.alloc _) _ _ 1 1 [.slice Ax x.length cx] rfl HR1.out HO1.out ?c1 ?c2 ?c3 ?_)
              case c1 => unfold maxLen; omega
              case c2 => omega
              case c3 => simp; omega
              intro v3 w3 hown3 hgr3 _
              have hga3 := Gath.push (r := ⟨Ax, cx, x⟩) HGA2.out hs2 HOWN2.out hown3 hgr3
              have hbl3 : Below w.heap.size w w3 := ((hbl.trans (hb2.mono hs2)).alloc (by omega) _).grown hgr3 (by simp; omega) (fun g hg => (HGA2.out.list.lt g hg).1)
              have hrel : RefRel w bs most n next (j + 1) v3 ny w3 := ⟨acc ++ [⟨Ax, cx, x⟩], hga3, hbl3, by omega, by omega, by rw [HREAD.out, HSTEP.out, joinR_joinR, List.map_append]; rfl⟩
              have HREL := Lib.hid hrel
              clear hrel hown3 hgr3 hga3
              go_wp2_with fail
              go_roundw
              case rel => exact ⟨j + 1, ny, by omega, by go_num, rfl, HREL.out⟩
              case measure => simp [intOf]; omega
            · rw [if_neg he] at hstep
              have hfin : readRows bs most n next = ([], 0, er) := by
                rw [HREAD.out, hstep]; unfold joinR; rw [if_neg he]
              have HFIN := Lib.hid hfin
              have HB := Lib.hid hb
              have d2 : (er != 0) = true := by simpa using he
              clear hq hstep he hfin hb
              go_wp2_with fail
              refine HB.out.mono ?_
              rintro e w2 ⟨Ax, n2, cx, rfl, hn2, hown2, hb2⟩
              clear hn2 hown2
              go_wp2_with fail
              go_ret3
              rw [HFIN.out]
              exact ⟨_, _, _, [], rfl, rfl, Gath.nil_ _ _, hbl.trans (hb2.mono hs2)⟩
          · obtain rfl : j = n := by omega
            have hfin : readRows bs most j next = (acc.map Row.bs, nx, 0) := by rw [HREAD.out]; unfold joinR; simp [readRows]
            have HFIN := Lib.hid hfin
            clear hfin
            go_wp2_with fail
            go_ret3
            rw [HFIN.out]
            exact ⟨_, _, _, acc, rfl, rfl, HGA.out, hbl⟩
  · rw [if_neg he] at hC
    have hB : readL bs place many most = ([], 0, er) := by unfold readL; rw [hC, if_neg he]
    rw [hB]
    have d0 : (er != 0) = true := by simpa using he
    clear he hw hr hC hB hq
    go_enter Try.func21, Try.ntmps21
    go_wp2_with fail
    refine HU.out.mono ?_
    rintro e w' ⟨rfl, rfl⟩
    go_wp2_with fail
    go_ret3
    exact ⟨_, _, _, [], rfl, rfl, Gath.nil_ _ _, Below.refl _ _⟩

end Go.Proofs.Ytkbhhejnhjhacaa
