/-
  Package wire: List, walked.
-/
import Derived.Test.YtkbhhejnhjhacaaH
import Derived.Deep.RegionHeld3
namespace Go.Proofs.Ytkbhhejnhjhacaa
open Go.RowKit

theorem Gath.mono {w : World} {base base' n : Nat} {v : Value} {rows : List Row} (h : Gath w base v n rows) (hb : base' ≤ base) : Gath w base' v n rows :=
  ⟨h.len, World.ownsRow.mono h.list hb, fun r hr => World.ownsRow.mono (h.each r hr) hb⟩

theorem readC_le (bs : List UInt8) (place many : Int) (he : (readC bs place many).2.2 = 0) : ((readC bs place many).1 : Int) ≤ many := by
  unfold readC at *
  by_cases h0 : (readU bs place).2.2 = 0
  · rw [if_pos h0] at *
    by_cases h1 : many < 0 ∨ many < ((readU bs place).1 : Int)
    · rw [if_pos h1] at he; simp at he
    · rw [if_neg h1]; omega
  · rw [if_neg h0] at he
    exact absurd he h0

theorem readB_well (bs : List UInt8) (next most : Int) (he : (readB bs next most).2.2 = 0) : next < (readB bs next most).2.1 ∧ (readB bs next most).2.1 ≤ bs.length := by
  have hw := readC_well bs next most
  unfold readB at *
  by_cases h0 : (readC bs next most).2.2 = 0
  · rw [if_pos h0] at *
    obtain ⟨a, b, c⟩ := hw.ok h0
    by_cases h1 : (bs.length : Int) - (readC bs next most).2.1 < ((readC bs next most).1 : Int)
    · rw [if_pos h1] at he; simp at he
    · rw [if_neg h1]; dsimp only; omega
  · rw [if_neg h0] at he
    exact absurd he h0

def ToldL (w : World) (r : ListRes) (e : Ending) (w' : World) : Prop :=
  ∃ A n c rows, e = .returned (.tuple #[.slice A n c, .int .i64 r.2.1, .int .i64 r.2.2]) ∧ rows.map Row.bs = r.1 ∧ Gath w' w.heap.size (.slice A n c) n rows ∧ Below w.heap.size w w'

theorem Gath.nil_ (w : World) (base : Nat) : Gath w base (.slice none 0 0) 0 [] := ⟨rfl, World.ownsRow_nil _ _ _ _, fun r hr => by simp at hr⟩

theorem LSt.start (w : World) (A : Option Addr) (bs : List UInt8) (c : Nat) (most next : Int) (hr : Reads w w.heap.size 1 A bs.length (byteVals bs)) :
    LSt w ((((w.alloc (.cells #[.slice A bs.length c] 22)).alloc (.cells #[.int .i64 most] 3)).alloc (.cells #[.slice none 0 0] 24)).alloc (.cells #[.int .i64 next] 3))
      w.heap.size A bs c most next [] none 0 0 := by
  have b0 := (((Blk.new w #[.slice A bs.length c] 22).alloc (.cells #[.int .i64 most] 3)).alloc (.cells #[.slice none 0 0] 24)).alloc (.cells #[.int .i64 next] 3)
  have b1 := ((Blk.new (w.alloc (.cells #[.slice A bs.length c] 22)) #[.int .i64 most] 3).alloc (.cells #[.slice none 0 0] 24)).alloc (.cells #[.int .i64 next] 3)
  have b2 := (Blk.new ((w.alloc (.cells #[.slice A bs.length c] 22)).alloc (.cells #[.int .i64 most] 3)) #[.slice none 0 0] 24).alloc (.cells #[.int .i64 next] 3)
  have b3 := Blk.new (((w.alloc (.cells #[.slice A bs.length c] 22)).alloc (.cells #[.int .i64 most] 3)).alloc (.cells #[.slice none 0 0] 24)) #[.int .i64 next] 3
  simp only [World.size_alloc] at b1 b2 b3
  refine ⟨b0, b1, b2, b3, ?_, Gath.nil_ _ _, ?_, ?_⟩
  · exact ((((hr.alloc (Nat.le_refl _) _).alloc (by simp) _).alloc (by simp; omega) _).alloc (by simp; omega) _)
  · exact ((((Below.refl _ w).alloc (Nat.le_refl _) _).alloc (by simp) _).alloc (by simp; omega) _).alloc (by simp; omega) _
  · simp

theorem LSt.put2 {w0 w : World} {H : Nat} {A : Option Addr} {bs : List UInt8} {c : Nat} {most next : Int} {rows : List Row} {Al : Option Addr} {nl cl : Nat} (h : LSt w0 w H A bs c most next rows Al nl cl) :
    LSt w0 (w.setCell ⟨H + 2, 0, none⟩ (.slice Al nl cl)) H A bs c most next rows Al nl cl :=
  ⟨h.b0.setOther _ _ (by simp), h.b1.setOther _ _ (by simp), h.b2.set 0 _, h.b3.setOther _ _ (by simp), h.rd.setCell (by simp) _, h.ga.far _ _ (by simp), h.bl.setCell (by simp) _, by have := h.sz; simpa [World.setCell] using this⟩
theorem LSt.put3 {w0 w : World} {H : Nat} {A : Option Addr} {bs : List UInt8} {c : Nat} {most next : Int} {rows : List Row} {Al : Option Addr} {nl cl : Nat} (h : LSt w0 w H A bs c most next rows Al nl cl) :
    LSt w0 (w.setCell ⟨H + 3, 0, none⟩ (.int .i64 next)) H A bs c most next rows Al nl cl :=
  ⟨h.b0.setOther _ _ (by simp), h.b1.setOther _ _ (by simp), h.b2.setOther _ _ (by simp), h.b3.set 0 _, h.rd.setCell (by simp) _, h.ga.far _ _ (by simp), h.bl.setCell (by simp) _, by have := h.sz; simpa [World.setCell] using this⟩
theorem LSt.drew {w0 w : World} {H : Nat} {A : Option Addr} {bs : List UInt8} {c : Nat} {most next : Int} {rows : List Row} {Al : Option Addr} {nl cl : Nat} (h : LSt w0 w H A bs c most next rows Al nl cl) :
    LSt w0 w.drew H A bs c most next rows Al nl cl :=
  ⟨h.b0.drew, h.b1.drew, h.b2.drew, h.b3.drew, h.rd.drew, ⟨h.ga.len, h.ga.list, h.ga.each⟩, h.bl.drew, h.sz⟩

theorem LSt.putA {w0 w : World} {H a : Nat} {A : Option Addr} {bs : List UInt8} {c : Nat} {most next : Int} {rows : List Row} {Al : Option Addr} {nl cl : Nat} (h : LSt w0 w H A bs c most next rows Al nl cl) (ha : a = H + 2) :
    LSt w0 (w.setCell ⟨a, 0, none⟩ (.slice Al nl cl)) H A bs c most next rows Al nl cl := by subst ha; exact h.put2
theorem LSt.putB {w0 w : World} {H a : Nat} {A : Option Addr} {bs : List UInt8} {c : Nat} {most next : Int} {rows : List Row} {Al : Option Addr} {nl cl : Nat} (h : LSt w0 w H A bs c most next rows Al nl cl) (ha : a = H + 3) :
    LSt w0 (w.setCell ⟨a, 0, none⟩ (.int .i64 next)) H A bs c most next rows Al nl cl := by subst ha; exact h.put3
theorem LSt.wipe {w0 w : World} {H a2 a3 : Nat} {A : Option Addr} {bs : List UInt8} {c : Nat} {most next : Int} {rows : List Row} {Al : Option Addr} {nl cl : Nat} (h : LSt w0 w H A bs c most next rows Al nl cl) (h2 : a2 = H + 2) (h3 : a3 = H + 3) :
    LSt w0 ((w.setCell ⟨a2, 0, none⟩ (.slice none 0 0)).setCell ⟨a3, 0, none⟩ (.int .i64 0)) H A bs c most 0 [] none 0 0 := by
  subst h2 h3
  exact ⟨(h.b0.setOther _ _ (by simp)).setOther _ _ (by simp), (h.b1.setOther _ _ (by simp)).setOther _ _ (by simp), (h.b2.set 0 _).setOther _ _ (by simp), (h.b3.setOther _ _ (by simp)).set 0 _, (h.rd.setCell (by simp) _).setCell (by simp) _, Gath.nil_ _ _,
    (h.bl.setCell (by simp) _).setCell (by simp) _, by have := h.sz; simpa [World.setCell] using this⟩

theorem LSt.ends {w0 w : World} {H : Nat} {A : Option Addr} {bs : List UInt8} {c : Nat} {most next : Int} {rows : List Row} {Al : Option Addr} {nl cl : Nat} (h : LSt w0 w H A bs c most next rows Al nl cl) (hH : H = w0.heap.size)
    {r : ListRes} (hr : rows.map Row.bs = r.1) (hn : next = r.2.1) (e : Int) (he : e = r.2.2) : ToldL w0 r (.returned (.tuple #[.slice Al nl cl, .int .i64 next, .int .i64 e])) w := by
  subst hH hn he
  exact ⟨Al, nl, cl, rows, rfl, hr, h.ga.mono (by omega), h.bl⟩

theorem readRows_err (bs : List UInt8) (most : Int) : ∀ (n : Nat) (next : Int), (readRows bs most n next).2.2 ≠ 0 → readRows bs most n next = ([], 0, (readRows bs most n next).2.2)
  | 0, next, h => by simp [readRows] at h
  | n + 1, next, h => by
    rw [readRows] at *
    by_cases h0 : (readB bs next most).2.2 = 0
    · rw [if_pos h0] at *
      unfold joinR at *
      by_cases h1 : (readRows bs most n (readB bs next most).2.1).2.2 = 0
      · rw [if_pos h1] at h; simp at h
      · rw [if_neg h1]
    · rw [if_neg h0]
theorem readRows_nil (bs : List UInt8) (most : Int) (n : Nat) (next : Int) : joinR [] (readRows bs most n next) = readRows bs most n next := by
  unfold joinR
  by_cases h : (readRows bs most n next).2.2 = 0
  · rw [if_pos h, List.nil_append, ← h]
  · rw [if_neg h, ← readRows_err bs most n next h]

/-- List, behind so many rounds. -/
def ListRel (w0 : World) (H : Nat) (A : Option Addr) (bs : List UInt8) (c : Nat) (most : Int) (n : Nat) (start : Int) (j : Nat) (w : World) : Prop :=
  ∃ acc next Al nl cl, LSt w0 w H A bs c most next acc Al nl cl ∧ acc.length = j ∧ (j : Int) ≤ next ∧ next ≤ bs.length ∧ readRows bs most n start = joinR (acc.map Row.bs) (readRows bs most (n - j) next)

set_option maxHeartbeats 8000000 in
theorem list_any (A : Option Addr) (bs : List UInt8) (c : Nat) (place many most : Int) (w : World) (hr : Reads w w.heap.size 1 A bs.length (byteVals bs)) (hcap : bs.length ≤ c) (hl : bs.length ≤ 1000000)
    (hmy : many ≤ 9223372036854775807) (hmo : most ≤ 9223372036854775807) :
    Calls Try.prog 20 #[.slice A bs.length c, .int .i64 place, .int .i64 many, .int .i64 most] w (ToldL w (readL bs place many most)) := by
  have hw := readC_well bs place many
  obtain ⟨n, next, er, hq⟩ : ∃ n next er, readC bs place many = (n, next, er) := ⟨_, _, _, rfl⟩
  have hB : readL bs place many most = if er = 0 then readRows bs most n next else ([], 0, er) := by unfold readL; rw [hq]
  have hC := fun W (g : Below w.heap.size w W) => count_any A bs c place many W ((hr.below g).more g.size) hcap hl hmy
  rw [hq] at hw hC
  rw [hB]
  have hst := fun nx => LSt.start w A bs c most nx hr
  have HST := Lib.hid hst
  have HC := Lib.hid (hC ((((w.alloc (.cells #[.slice A bs.length c] 22)).alloc (.cells #[.int .i64 most] 3)).alloc (.cells #[.slice none 0 0] 24)).alloc (.cells #[.int .i64 0] 3))
    (((((Below.refl _ w).alloc (Nat.le_refl _) _).alloc (by simp) _).alloc (by simp; omega) _).alloc (by simp; omega) _))
  have hnm := readC_le bs place many
  rw [hq] at hnm
  clear hq hB hC hr hst
  by_cases he : er = 0
  · subst he
    rw [if_pos rfl]
    have hn9 : (n : Int) ≤ 9223372036854775807 := by have := hnm rfl; dsimp only at this; omega
    obtain ⟨p0, p1, p2⟩ := hw.ok rfl
    dsimp only at p1 p2
    clear hw hnm
    go_enter Try.func20, Try.ntmps20
    go_wp2_with fail
    refine HC.out.mono ?_
    rintro e w' ⟨rfl, rfl⟩
    go_wp2_with fail
    have hrel0 : ListRel w w.heap.size A bs c most n next 0 ((((w.alloc (.cells #[.slice A bs.length c] 22)).alloc (.cells #[.int .i64 most] 3)).alloc (.cells #[.slice none 0 0] 24)).alloc (.cells #[.int .i64 next] 3)) :=
      ⟨[], next, none, 0, 0, HST.out next, rfl, by omega, by omega, (readRows_nil _ _ _ _).symm⟩
    have HREL0 := Lib.hid hrel0
    clear hrel0 HST HC
    go_loopw [27] (fun s27 wr => ∃ j : Nat, j ≤ n ∧ s27 = .int .i64 j ∧ ListRel w w.heap.size A bs c most n next j wr) (fun s27 _ => n - (intOf s27).toNat)
    case atStart => exact ⟨0, by omega, rfl, HREL0.out⟩
    case round =>
      obtain ⟨j, hj, rfl, acc, next', Al, nl, cl, hst, hacc, hn1, hn2, hread⟩ := hrel
      clear HREL0
      have HACC := Lib.hid hacc
      have HREAD := Lib.hid hread
      have HS := Lib.hid hst
      clear hacc hread
      by_cases hlt : j < n
      · obtain ⟨x, nx, er, hq⟩ : ∃ x nx er, readB bs next' most = (x, nx, er) := ⟨_, _, _, rfl⟩
        have hstep : readRows bs most (n - j) next' = if er = 0 then joinR [x] (readRows bs most (n - (j + 1)) nx) else ([], 0, er) := by
          rw [show n - j = (n - (j + 1)) + 1 by omega, readRows, hq]
        by_cases he : er = 0
        · subst he
          rw [if_pos rfl] at hstep
          have hbw := readB_well bs next' most (by rw [hq])
          rw [hq] at hbw
          dsimp only at hbw
          have HG := Lib.hid (gather_yes w wr w.heap.size A bs c most next' acc Al nl cl hst hcap hl hmo (by have := HACC.out; omega) x nx hq)
          have HSTEP := Lib.hid hstep
          clear hq hstep hst
          go_wp2_with fail
          refine HG.out.mono ?_
          rintro e w2 ⟨rfl, r, Al', nl', cl', hrx, hst2⟩
          have hrel : ListRel w w.heap.size A bs c most n next (j + 1) w2 := by
            refine ⟨acc ++ [r], nx, Al', nl', cl', hst2, by rw [List.length_append, HACC.out]; rfl, by omega, by omega, ?_⟩
            rw [HREAD.out, HSTEP.out, joinR_joinR, List.map_append, List.map_singleton, hrx]
          have HREL := Lib.hid hrel
          clear hrel hst2 hrx
          go_wp2_with fail
          go_roundw
          case rel => exact ⟨j + 1, by omega, by go_num, HREL.out⟩
          case measure => simp [intOf]; omega
        · rw [if_neg he] at hstep
          have HG := Lib.hid (gather_no w wr w.heap.size A bs c most next' acc Al nl cl hst hcap hl hmo x nx er hq he)
          have hfin : readRows bs most n next = ([], 0, er) := by
            rw [HREAD.out, hstep]; unfold joinR; rw [if_neg he]
          have HFIN := Lib.hid hfin
          have d0 : (er != 0) = true := by simpa using he
          clear hq hstep hst he hfin
          go_wp2_with fail
          refine HG.out.mono ?_
          rintro e w2 ⟨rfl, hst2⟩
          have k2 : w2.cell? ⟨w.heap.size + 1 + 1, 0, none⟩ = some (.slice Al nl cl) := hst2.b2.cell 0
          have k3 : w2.cell? ⟨w.heap.size + 1 + 1 + 1, 0, none⟩ = some (.int .i64 next') := hst2.b3.cell 0
          have f2 : w2.frozen? ⟨w.heap.size + 1 + 1, 0, none⟩ = false := hst2.b2.frozen 0
          have f3 : w2.frozen? ⟨w.heap.size + 1 + 1 + 1, 0, none⟩ = false := hst2.b3.frozen 0
          have H2 := Lib.hid hst2
          clear hst2
          go_wp2_with fail
          have HW := Lib.hid (LSt.wipe H2.out (a2 := w.heap.size + 1 + 1) (a3 := w.heap.size + 1 + 1 + 1) rfl rfl)
          have q2 := HW.out.b2.cell 0
          have q3 := HW.out.b3.cell 0
          simp only [List.getElem?_toArray, List.getElem?_cons_zero] at q2 q3
          have HE := LSt.ends HW.out rfl (r := readRows bs most n next) (by rw [HFIN.out]; rfl) (by rw [HFIN.out]) er (by rw [HFIN.out])
          exact bodyPost_ret (v := .tuple #[.slice none 0 0, .int .i64 0, .int .i64 er]) (by simp [results, Try.results20, go_sem, q2, q3]) rfl HE
      · obtain rfl : j = n := by omega
        have k2 : wr.cell? ⟨w.heap.size + 1 + 1, 0, none⟩ = some (.slice Al nl cl) := hst.b2.cell 0
        have k3 : wr.cell? ⟨w.heap.size + 1 + 1 + 1, 0, none⟩ = some (.int .i64 next') := hst.b3.cell 0
        have f2 : wr.frozen? ⟨w.heap.size + 1 + 1, 0, none⟩ = false := hst.b2.frozen 0
        have f3 : wr.frozen? ⟨w.heap.size + 1 + 1 + 1, 0, none⟩ = false := hst.b3.frozen 0
        have HA := Lib.hid (LSt.putA (a := w.heap.size + 1 + 1) hst rfl).drew
        have HB := Lib.hid (LSt.putB (a := w.heap.size + 1 + 1 + 1) (LSt.putA (a := w.heap.size + 1 + 1) hst rfl) rfl).drew
        have hS0 := And.intro (show wr.drew.cell? ⟨w.heap.size + 1 + 1, 0, none⟩ = some (.slice Al nl cl) from k2) (show wr.drew.cell? ⟨w.heap.size + 1 + 1 + 1, 0, none⟩ = some (.int .i64 next') from k3)
        have hSA := And.intro (HA.out.b2.cell 0) (HA.out.b3.cell 0)
        have hSB := And.intro (HB.out.b2.cell 0) (HB.out.b3.cell 0)
        have z2 : w.heap.size + 1 + 1 < wr.heap.size := hst.b2.lt
        have z3 : w.heap.size + 1 + 1 + 1 < wr.heap.size := hst.b3.lt
        have f3' : (wr.setCell ⟨w.heap.size + 1 + 1, 0, none⟩ (.slice Al nl cl)).frozen? ⟨w.heap.size + 1 + 1 + 1, 0, none⟩ = false := HA.out.b3.frozen 0
        clear hst
        go_wp2_with fail
        refine wp_region_held_drew (S := (fun w' => w'.cell? ⟨w.heap.size + 1 + 1, 0, none⟩ = some (.slice Al nl cl) ∧ w'.cell? ⟨w.heap.size + 1 + 1 + 1, 0, none⟩ = some (.int .i64 next'))) (by kernel_rfl) hS0 (fun _ => ?_)
        refine wpAnyH_take (i := 0) (oi := ⟨some 35, _, _, _, _, _⟩) (v := ?_) rfl (by kernel_rfl) (by kernel_rfl) (by kernel_rfl) (fun _ _ _ h => h) (Or.inl ⟨by rfl, ?_⟩) (by assumption) ?_
        rotate_left
        · intro w hSw; (try dsimp only at hSw); go_simp; (try with_reducible rfl)
        try simp only [Act.put, List.setIfInBounds_toArray, List.set_cons_zero, List.set_cons_succ]
        refine wpAnyH_take (i := 1) (oi := ⟨some 36, _, _, _, _, _⟩) (v := ?_) rfl (by kernel_rfl) (by kernel_rfl) (by kernel_rfl) (fun _ _ _ h => h) (Or.inl ⟨by rfl, ?_⟩) (by assumption) ?_
        rotate_left
        · intro w hSw; (try dsimp only at hSw); go_simp; (try with_reducible rfl)
        try simp only [Act.put, List.setIfInBounds_toArray, List.set_cons_zero, List.set_cons_succ]
        refine wpAnyH_ready (rs := [2]) (by kernel_rfl) (by simp) ?_
        refine AllReadyH.cons (o := ⟨none, _, _, _, _, _⟩) rfl (fun K hK => ?_) ?_
        rotate_left
        · exact AllReadyH.nil
        go_simp
        refine hK.out _ _ hSA (fun _ => ?_)
        clear hK K
        refine wpAnyH_ready (rs := [3]) (by kernel_rfl) (by simp) ?_
        refine AllReadyH.cons (o := ⟨none, _, _, _, _, _⟩) rfl (fun K hK => ?_) ?_
        rotate_left
        · exact AllReadyH.nil
        go_simp
        refine hK.out _ _ hSB (fun _ => ?_)
        clear hK K
        refine wpAnyH_take (i := 4) (oi := ⟨some 10, _, _, _, _, _⟩) (v := ?_) rfl (by kernel_rfl) (by kernel_rfl) (by kernel_rfl) (fun _ _ _ h => h) (Or.inl ⟨by rfl, ?_⟩) (by assumption) ?_
        rotate_left
        · intro w hSw; (try dsimp only at hSw); go_simp; (try with_reducible rfl)
        try simp only [Act.put, List.setIfInBounds_toArray, List.set_cons_zero, List.set_cons_succ]
        refine wpAnyH_done (by kernel_rfl) ?_ _
        go_wp2_with fail
        have q2 : ((wr.setCell ⟨w.heap.size + 1 + 1, 0, none⟩ (.slice Al nl cl)).setCell ⟨w.heap.size + 1 + 1 + 1, 0, none⟩ (.int .i64 next')).cell? ⟨w.heap.size + 1 + 1, 0, none⟩ = some (.slice Al nl cl) := HB.out.b2.cell 0
        have q3 : ((wr.setCell ⟨w.heap.size + 1 + 1, 0, none⟩ (.slice Al nl cl)).setCell ⟨w.heap.size + 1 + 1 + 1, 0, none⟩ (.int .i64 next')).cell? ⟨w.heap.size + 1 + 1 + 1, 0, none⟩ = some (.int .i64 next') := HB.out.b3.cell 0
        have HE := LSt.ends HB.out rfl (r := readRows bs most j next) (by rw [HREAD.out]; unfold joinR; simp [readRows]) (by rw [HREAD.out]; unfold joinR; simp [readRows]) 0 (by rw [HREAD.out]; unfold joinR; simp [readRows])
        exact bodyPost_ret (v := .tuple #[.slice Al nl cl, .int .i64 next', .int .i64 0]) (by simp [results, Try.results20, go_sem, q2, q3]) rfl HE
  · rw [if_neg he]
    have d0 : (er != 0) = true := by simpa using he
    clear he hw hnm
    go_enter Try.func20, Try.ntmps20
    go_wp2_with fail
    refine HC.out.mono ?_
    rintro e w' ⟨rfl, rfl⟩
    go_wp2_with fail
    have q2 := (HST.out 0).b2.cell 0
    have q3 := (HST.out 0).b3.cell 0
    simp only [List.getElem?_toArray, List.getElem?_cons_zero] at q2 q3
    have HE := LSt.ends (HST.out 0) rfl (r := ([], 0, er)) rfl rfl er rfl
    exact bodyPost_ret (v := .tuple #[.slice none 0 0, .int .i64 0, .int .i64 er]) (by simp [results, Try.results20, go_sem, q2, q3]) rfl HE

end Go.Proofs.Ytkbhhejnhjhacaa
