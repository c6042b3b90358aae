/-
  Walks over package builder.
-/
import Derived.Test.YtcfpjlojknahlaaL
import Derived.Test.YtcfpjlojknahlaaA
namespace Go.Proofs.Ytcfpjlojknahlaa
open Go.RowKit

structure T where
  cap : Int
  bud : Int
  st : Int
  begun : Bool
  first : Int
  fetched : Bool
  fb : Int
  ans : Int

structure F where
  stored : Bool
  heard : Bool
  lease : Bool
  ready : Bool
  got : Bool
  failed : Bool
  ran : Bool
  wrong : Bool

def T.cells (t : T) : Array Value :=
  #[.int .i64 t.cap, .int .i64 t.bud, .int .i64 t.st, .bool t.begun, .int .i64 t.first, .bool t.fetched, .int .i64 t.fb, .int .u8 t.ans]
def F.parts (f : F) : Array Value :=
  #[.bool f.stored, .bool f.heard, .bool f.lease, .bool f.ready, .bool f.got, .bool f.failed, .bool f.ran, .bool f.wrong]
def F.val (f : F) : Value := .agg f.parts

def I64 (n : Int) : Prop := -9223372036854775808 ≤ n ∧ n ≤ 9223372036854775807
def T.ok (t : T) : Prop := I64 t.cap ∧ I64 t.bud ∧ I64 t.first ∧ I64 t.fb

def TurnAt (w : World) (b : Nat) (t : T) : Prop := Blk w b t.cells 42

theorem TurnAt.open {w : World} {b : Nat} {t : T} (h : TurnAt w b t) :
    w.cell? ⟨b, 0, none⟩ = some (.int .i64 t.cap) ∧ w.cell? ⟨b, 1, none⟩ = some (.int .i64 t.bud) ∧
    w.cell? ⟨b, 2, none⟩ = some (.int .i64 t.st) ∧ w.cell? ⟨b, 3, none⟩ = some (.bool t.begun) ∧
    w.cell? ⟨b, 4, none⟩ = some (.int .i64 t.first) ∧ w.cell? ⟨b, 5, none⟩ = some (.bool t.fetched) ∧
    w.cell? ⟨b, 6, none⟩ = some (.int .i64 t.fb) ∧ w.cell? ⟨b, 7, none⟩ = some (.int .u8 t.ans) ∧
    (∀ o, w.frozen? ⟨b, o, none⟩ = false) := by
  refine ⟨?_, ?_, ?_, ?_, ?_, ?_, ?_, ?_, h.frozen⟩ <;> (rw [Blk.cell h]; rfl)

def look (t : T) (now : Int) (f : F) : T × Int :=
  if f.heard && !t.fetched then ({ t with st := 2, fb := now }, 2)
  else if f.ready || pastB now t.first t.cap then ({ t with st := 3 }, 3)
  else if f.lease then (t, 0) else (t, 1)

def StepPost (b : Nat) (w : World) (r : T × Int) (e : Ending) (w' : World) : Prop :=
  e = .returned (.int .u8 r.2) ∧ TurnAt w' b r.1 ∧ Chg (some b) w w'

set_option maxHeartbeats 400000 in
theorem end_any (b : Nat) (t : T) (a : Int) (w : World) (ht : TurnAt w b t) :
    Calls Try.prog 14 #[.pointer (some ⟨b, 0, none⟩), .int .u8 a] w (StepPost b w ({ t with st := 4, ans := a }, a)) := by
  obtain ⟨-, -, c2, -, -, -, -, c7, fz⟩ := ht.open
  go_enter Try.func14, Try.ntmps14
  go_wp2
  go_ret
  refine ⟨rfl, ?_, ((Chg.refl _ _).setCell _ _).setCell _ _⟩
  exact (Blk.set (Blk.set ht 2 _) 7 _)

def runM (t : T) (f : F) : T × Int :=
  if f.ran then ({ t with st := 4, ans := 4 }, 4) else if f.wrong then ({ t with st := 4, ans := 5 }, 5) else (t, 3)

set_option maxHeartbeats 400000 in
theorem run_any (b : Nat) (t : T) (f : F) (w : World) (ht : TurnAt w b t) :
    Calls Try.prog 15 #[.pointer (some ⟨b, 0, none⟩), f.val] w (StepPost b w (runM t f)) := by
  obtain ⟨-, -, c2, -, -, -, -, c7, fz⟩ := ht.open
  obtain ⟨f0, f1, f2, f3, f4, f5, f6, f7⟩ := f
  unfold F.val F.parts
  cases f6
  · cases f7
    · go_enter Try.func15, Try.ntmps15
      go_wp2
      go_ret
      exact ⟨rfl, Blk.alloc ht _, (Chg.refl _ _).alloc _⟩
    · go_enter Try.func15, Try.ntmps15
      go_wp2_with fail
      refine (end_any b t 5 _ (Blk.alloc ht _)).mono ?_
      rintro e w' ⟨rfl, h1, h2⟩
      go_wp2
      go_ret
      exact ⟨rfl, h1, ((Chg.refl _ _).alloc _).trans h2⟩
  · go_enter Try.func15, Try.ntmps15
    go_wp2_with fail
    refine (end_any b t 4 _ (Blk.alloc ht _)).mono ?_
    rintro e w' ⟨rfl, h1, h2⟩
    go_wp2
    go_ret
    exact ⟨rfl, h1, ((Chg.refl _ _).alloc _).trans h2⟩

set_option maxHeartbeats 400000 in
theorem look_any (b : Nat) (t : T) (now : Int) (f : F) (w : World) (ht : TurnAt w b t) (hok : t.ok) (hn : I64 now) :
    Calls Try.prog 17 #[.pointer (some ⟨b, 0, none⟩), .int .i64 now, f.val] w (StepPost b w (look t now f)) := by
  obtain ⟨c0, -, c2, -, c4, c5, c6, -, fz⟩ := ht.open
  have hb := Blk.lt ht
  obtain ⟨⟨hc0, hc1⟩, -, ⟨hf0, hf1⟩, -⟩ := hok
  obtain ⟨hn0, hn1⟩ := hn
  obtain ⟨cap, bud, st, begun, first, fetched, fb, ans⟩ := t
  obtain ⟨f0, f1, f2, f3, f4, f5, f6, f7⟩ := f
  unfold F.val F.parts
  dsimp only at *
  by_cases hH : f1 = true ∧ fetched = false
  · obtain ⟨rfl, rfl⟩ := hH
    go_enter Try.func17, Try.ntmps17
    go_wp2
    go_ret
    refine ⟨rfl, ?_, (((Chg.refl _ _).setCell _ _).setCell _ _).alloc _⟩
    exact Blk.alloc (Blk.set (Blk.set ht 2 _) 6 _) _
  · cases f3
    · have hp : look ⟨cap, bud, st, begun, first, fetched, fb, ans⟩ now ⟨f0, f1, f2, false, f4, f5, f6, f7⟩ = if pastB now first cap then ({ cap := cap, bud := bud, st := 3, begun := begun, first := first, fetched := fetched, fb := fb, ans := ans }, 3) else if f2 then (⟨cap, bud, st, begun, first, fetched, fb, ans⟩, 0) else (⟨cap, bud, st, begun, first, fetched, fb, ans⟩, 1) := by
        cases f1 <;> cases fetched <;> simp_all [look]
      rw [hp]
      have HP : Hid (∀ W, Calls Try.prog 16 #[.int .i64 now, .int .i64 first, .int .i64 cap] W fun e w' => e = .returned (.bool (pastB now first cap)) ∧ W = w') := fun W => past_any now first cap W hn0 hn1 hf0 hf1 hc0 hc1
      clear hp
      cases f1 <;> cases fetched <;> first | (exfalso; exact hH ⟨rfl, rfl⟩) | skip
      all_goals
        clear hH
        generalize hpp : pastB now first cap = pp at *
        clear hpp
        cases pp
        · cases f2
          all_goals
            go_enter Try.func17, Try.ntmps17
            go_wp2
            go_quiet ((go_at_call 16; exact Calls.quiet_of_same ((HP.out _).mono fun _ _ ⟨h1, h2⟩ => ⟨h1, h2.symm⟩)))
            go_wp2
            go_ret
            exact ⟨rfl, (Blk.alloc ht _).drewN _, ((Chg.refl _ _).alloc _).drewN _⟩
        · go_enter Try.func17, Try.ntmps17
          go_wp2
          go_quiet ((go_at_call 16; exact Calls.quiet_of_same ((HP.out _).mono fun _ _ ⟨h1, h2⟩ => ⟨h1, h2.symm⟩)))
          go_wp2
          go_ret
          exact ⟨rfl, (Blk.set (Blk.alloc ht _) 2 _).drewN _, (((Chg.refl _ _).alloc _).setCell _ _).drewN _⟩
    · have hp : look ⟨cap, bud, st, begun, first, fetched, fb, ans⟩ now ⟨f0, f1, f2, true, f4, f5, f6, f7⟩ = ({ cap := cap, bud := bud, st := 3, begun := begun, first := first, fetched := fetched, fb := fb, ans := ans }, 3) := by
        cases f1 <;> cases fetched <;> simp_all [look]
      rw [hp]
      clear hp
      cases f1 <;> cases fetched <;> first | (exfalso; exact hH ⟨rfl, rfl⟩) | skip
      all_goals
        clear hH
        go_enter Try.func17, Try.ntmps17
        go_wp2
        go_quiet (fail)
        go_wp2
        go_ret
        exact ⟨rfl, (Blk.set (Blk.alloc ht _) 2 _).drewN _, (((Chg.refl _ _).alloc _).setCell _ _).drewN _⟩

end Go.Proofs.Ytcfpjlojknahlaa
