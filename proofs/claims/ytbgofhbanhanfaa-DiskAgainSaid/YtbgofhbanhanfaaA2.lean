/-
  The law DiskAgain: what stands of two disks.
-/
import Derived.Test.YtbgofhbanhanfaaLasts
namespace Go.Proofs.Ytbgofhbanhanfaa
open Go.RowKit

/-- Two disks of the call's own, that have no memory together. -/
structure Two (w : World) (kb : Nat) (kp0 kp1 : Int) (B C : Nat) (fc fd : List File) (wr : World) : Prop where
  c : DRel w B fc wr
  d : DRel w C fd wr
  apart : ∀ g, foot B fc g → ¬ foot C fd g
  kp : Blk wr kb #[.int .i64 kp0, .int .i64 kp1] 28
  kc : ¬ foot B fc kb
  kd : ¬ foot C fd kb

theorem not_foot_step {w w' : World} {b g : Nat} {fs fs' : List File} (k : DStep w b fs w' fs') (h : ¬ foot b fs g) (hg : g < w.heap.size) : ¬ foot b fs' g := fun hc => by
  rcases k.foot g hc with h1 | h1
  · exact h h1
  · omega

section
variable {kb : Nat} {kp0 kp1 : Int}
theorem Two.symm {w wr : World} {B C : Nat} {fc fd : List File} (h : Two w kb kp0 kp1 B C fc fd wr) : Two w kb kp0 kp1 C B fd fc wr := ⟨h.d, h.c, fun g h1 h2 => h.apart g h2 h1, h.kp, h.kd, h.kc⟩
theorem Two.chg {w wr w' : World} {B C : Nat} {fc fd : List File} (h : Two w kb kp0 kp1 B C fc fd wr) (g : Chg none wr w') : Two w kb kp0 kp1 B C fc fd w' := ⟨h.c.more g, h.d.more g, h.apart, Blk.chg h.kp g (by simp), h.kc, h.kd⟩
theorem Two.stepC {w wr w' : World} {B C : Nat} {fc fd fc' : List File} (h : Two w kb kp0 kp1 B C fc fd wr) (k : DStep wr B fc w' fc') : Two w kb kp0 kp1 B C fc' fd w' := by
  refine ⟨h.c.step k, ⟨h.d.disk.kept k.kept (fun g hg hc => h.apart g hc hg), h.d.chg.kept k.kept h.c.own, h.d.own⟩, fun g hg hc => ?_, (k.kept.block kb (Blk.lt h.kp) h.kc).trans h.kp, not_foot_step k h.kc (Blk.lt h.kp), h.kd⟩
  rcases k.foot g hg with h1 | h1
  · exact h.apart g h1 hc
  · exact absurd (h.d.disk.footLt g hc) (by omega)
theorem Two.stepD {w wr w' : World} {B C : Nat} {fc fd fd' : List File} (h : Two w kb kp0 kp1 B C fc fd wr) (k : DStep wr C fd w' fd') : Two w kb kp0 kp1 B C fc fd' w' := (h.symm.stepC k).symm
end

/-- What an op makes of a disk. -/
def eff (o : Opn) (D : List Fl) : List Fl :=
  if o.kind = 1 then (appended D o.f o.bs).1 else if o.kind = 2 then (turned D o.f fun f => ⟨f.bs, f.bs.length⟩).1 else if o.kind = 3 then (turned D o.f fun _ => ⟨[], 0⟩).1 else D

def Small (n : Nat) (D : List Fl) : Prop := ∀ f ∈ D, f.bs.length ≤ n

theorem Small.set {n m : Nat} {D : List Fl} (h : Small n D) (hm : n ≤ m) (k : Nat) (f : Fl) (hf : f.bs.length ≤ m) : Small m (D.set k f) := by
  intro x hx
  rcases List.mem_or_eq_of_mem_set hx with h1 | h1
  · exact Nat.le_trans (h x h1) hm
  · rw [h1]; exact hf
theorem Small.getD {n : Nat} {D : List Fl} (h : Small n D) (k : Nat) : (D.getD k default).bs.length ≤ n := by
  rw [List.getD_eq_getElem?_getD]
  cases hk : D[k]? with
  | none => exact Nat.zero_le _
  | some x => exact h x (List.mem_of_getElem? hk)

theorem eff_small {n : Nat} {D : List Fl} (o : Opn) (h : Small n D) (hb : o.bs.length ≤ 1000) : Small (n + 1000) (eff o D) := by
  have hs : Small (n + 1000) D := fun f hf => Nat.le_trans (h f hf) (by omega)
  unfold eff appended turned
  repeat' split
  all_goals first
    | exact hs
    | (refine h.set (by omega) _ _ ?_; have := h.getD o.f.toNat; dsimp only; first | (rw [List.length_append]; omega) | omega | (rw [List.length_nil]; omega))

theorem crash1_twice (f : Fl) (k : Int) (hf : f.syn ≤ f.bs.length) : crash1 (crash1 f k) 0 = crash1 f k := by
  have h := stays_le f k hf
  have e : stays (crash1 f k) 0 = stays f k := by
    unfold crash1
    show ((stays f k).toNat : Int) + max 0 (min 0 (((f.bs.take (stays f k).toNat).length : Int) - ((stays f k).toNat : Int))) = _
    rw [List.length_take]
    omega
  unfold crash1 at *
  rw [e]
  congr 1
  rw [List.take_take, Nat.min_self]

theorem crashed_twice {D : List Fl} {k0 k1 : Int} (h : D.length = 2) (hs : ∀ f ∈ D, f.syn ≤ f.bs.length) : crashed (crashed D k0 k1) 0 0 = crashed D k0 k1 := by
  obtain ⟨x, y, rfl⟩ : ∃ x y, D = [x, y] := by
    match D, h with
    | [x, y], _ => exact ⟨x, y, rfl⟩
  have h1 := crash1_twice x k0 (hs x (by simp))
  have h2 := crash1_twice y k1 (hs y (by simp))
  show [crash1 (crash1 x k0) 0, crash1 (crash1 y k1) 0] = [crash1 x k0, crash1 y k1]
  rw [h1, h2]

theorem fls_ok {w : World} {b : Nat} {fs : List File} (h : DiskAt w b fs) : ∀ f ∈ fls fs, f.syn ≤ f.bs.length := by
  intro f hf
  unfold fls at hf
  obtain ⟨x, hx, rfl⟩ := List.mem_map.1 hf
  exact (h.ok x hx).syn

/-- Within the round of both disks: j of them have had the op. -/
structure Both (w : World) (kb : Nat) (kp0 kp1 : Int) (B C : Nat) (b5 : Nat) (o : Opn) (D : List Fl) (j : Nat) (fc fd : List File) (wr : World) : Prop where
  two : Two w kb kp0 kp1 B C fc fd wr
  op : OpS b5 o wr
  nc : ¬ foot B fc b5
  nd : ¬ foot C fd b5
  dc : fls fc = if 0 < j then eff o D else D
  dd : fls fd = if 1 < j then eff o D else D

theorem Both.stepC {w wr w' : World} {kb : Nat} {kp0 kp1 : Int} {B C b5 : Nat} {o : Opn} {D : List Fl} {fc fd fc' : List File} (h : Both w kb kp0 kp1 B C b5 o D 0 fc fd wr) (k : DStep wr B fc w' fc') (hd : fls fc' = eff o D) :
    Both w kb kp0 kp1 B C b5 o D 1 fc' fd w' :=
  ⟨h.two.stepC k, h.op.step k h.nc, not_foot_step k h.nc (Blk.lt h.op), h.nd, hd, h.dd⟩
theorem Both.stepD {w wr w' : World} {kb : Nat} {kp0 kp1 : Int} {B C b5 : Nat} {o : Opn} {D : List Fl} {fc fd fd' : List File} (h : Both w kb kp0 kp1 B C b5 o D 1 fc fd wr) (k : DStep wr C fd w' fd') (hd : fls fd' = eff o D) :
    Both w kb kp0 kp1 B C b5 o D 2 fc fd' w' :=
  ⟨h.two.stepD k, h.op.step k h.nd, h.nc, not_foot_step k h.nd (Blk.lt h.op), h.dc, hd⟩

def BothEx (w : World) (kb : Nat) (kp0 kp1 : Int) (B C : Nat) (b5 : Nat) (o : Opn) (D : List Fl) (j : Nat) (wr : World) : Prop := ∃ fc fd, Both w kb kp0 kp1 B C b5 o D j fc fd wr
def blkOf (B C j : Nat) : Nat := if j = 0 then B else C

/-- A call on the disk whose turn it is, by any contract that has the op's effect. -/
theorem both_call {w wr : World} {kb : Nat} {kp0 kp1 : Int} {B C b5 j : Nat} {o : Opn} {D : List Fl} {p : FuncId} {args : Nat → Array Value} (h : BothEx w kb kp0 kp1 B C b5 o D j wr) (hj : j < 2)
    (hc : ∀ (b : Nat) (fs : List File), DiskAt wr b fs → Calls Try.prog p (args b) wr fun e w' => (∃ r, e = .returned (.int .i64 r)) ∧ ∃ fs', DStep wr b fs w' fs' ∧ fls fs' = eff o (fls fs)) :
    Calls Try.prog p (args (blkOf B C j)) wr fun e w' => (∃ r, e = .returned (.int .i64 r)) ∧ BothEx w kb kp0 kp1 B C b5 o D (j + 1) w' := by
  obtain ⟨fc, fd, hb⟩ := h
  obtain rfl | rfl : j = 0 ∨ j = 1 := by omega
  · refine (hc B fc hb.two.c.disk).mono fun e w' ⟨he, fs', hs, hf⟩ => ⟨he, fs', fd, hb.stepC hs ?_⟩
    rw [hf, hb.dc]; rfl
  · refine (hc C fd hb.two.d.disk).mono fun e w' ⟨he, fs', hs, hf⟩ => ⟨he, fc, fs', hb.stepD hs ?_⟩
    rw [hf, hb.dd]; rfl

theorem both_none {w wr : World} {kb : Nat} {kp0 kp1 : Int} {B C b5 j : Nat} {o : Opn} {D : List Fl} (h : BothEx w kb kp0 kp1 B C b5 o D j wr) (he : eff o D = D) : BothEx w kb kp0 kp1 B C b5 o D (j + 1) wr := by
  obtain ⟨fc, fd, hb⟩ := h
  refine ⟨fc, fd, hb.two, hb.op, hb.nc, hb.nd, ?_, ?_⟩
  · rw [hb.dc, he]; split <;> split <;> rfl
  · rw [hb.dd, he]; split <;> split <;> rfl

theorem both_append {w wr : World} {kb : Nat} {kp0 kp1 : Int} {B C b5 j : Nat} {o : Opn} {D : List Fl} (h : BothEx w kb kp0 kp1 B C b5 o D j wr) (hj : j < 2) (hk : o.kind = 1) (hr : Reads wr wr.heap.size 1 o.A o.bs.length (byteVals o.bs)) :
    Calls Try.prog 11 #[.pointer (some ⟨blkOf B C j, 0, none⟩), .int .i64 o.f, .slice o.A o.bs.length o.c] wr fun e w' => (∃ r, e = .returned (.int .i64 r)) ∧ BothEx w kb kp0 kp1 B C b5 o D (j + 1) w' :=
  both_call (p := 11) (args := fun b => #[.pointer (some ⟨b, 0, none⟩), .int .i64 o.f, .slice o.A o.bs.length o.c]) h hj fun b fs hd =>
    (append_any b fs o.f o.A o.bs o.c wr hd hr).mono fun _ _ hp => ⟨⟨_, hp.step.1⟩, by have := hp.step.2; unfold eff; rw [if_pos hk]; exact this⟩

theorem both_sync {w wr : World} {kb : Nat} {kp0 kp1 : Int} {B C b5 j : Nat} {o : Opn} {D : List Fl} (h : BothEx w kb kp0 kp1 B C b5 o D j wr) (hj : j < 2) (hk : o.kind = 2) :
    Calls Try.prog 13 #[.pointer (some ⟨blkOf B C j, 0, none⟩), .int .i64 o.f] wr fun e w' => (∃ r, e = .returned (.int .i64 r)) ∧ BothEx w kb kp0 kp1 B C b5 o D (j + 1) w' :=
  both_call (p := 13) (args := fun b => #[.pointer (some ⟨b, 0, none⟩), .int .i64 o.f]) h hj fun b fs hd =>
    (sync_any b fs o.f wr hd).mono fun _ _ hp => ⟨⟨_, hp.step.1⟩, by have := hp.step.2; unfold eff; rw [if_neg (by omega), if_pos hk]; exact this⟩

theorem both_clear {w wr : World} {kb : Nat} {kp0 kp1 : Int} {B C b5 j : Nat} {o : Opn} {D : List Fl} (h : BothEx w kb kp0 kp1 B C b5 o D j wr) (hj : j < 2) (hk : o.kind = 3) :
    Calls Try.prog 14 #[.pointer (some ⟨blkOf B C j, 0, none⟩), .int .i64 o.f] wr fun e w' => (∃ r, e = .returned (.int .i64 r)) ∧ BothEx w kb kp0 kp1 B C b5 o D (j + 1) w' :=
  both_call (p := 14) (args := fun b => #[.pointer (some ⟨b, 0, none⟩), .int .i64 o.f]) h hj fun b fs hd =>
    (clear_any b fs o.f wr hd).mono fun _ _ hp => ⟨⟨_, hp.step.1⟩, by have := hp.step.2; unfold eff; rw [if_neg (by omega), if_neg (by omega), if_pos hk]; exact this⟩

theorem index50 (B C j : Nat) (hj : j < 2) (w : World) : (Instr.index 50 (.agg #[.pointer (some ⟨B, 0, none⟩), .pointer (some ⟨C, 0, none⟩)]) (.int .i64 j)).run Try.prog w = .ok (.pointer (some ⟨blkOf B C j, 0, none⟩)) w := by
  obtain rfl | rfl : j = 0 ∨ j = 1 := by omega
  · kernel_rfl
  · kernel_rfl

end Go.Proofs.Ytbgofhbanhanfaa
