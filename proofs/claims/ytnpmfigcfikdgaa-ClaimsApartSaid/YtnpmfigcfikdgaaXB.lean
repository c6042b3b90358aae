/-
  The closure of ClaimsApart: what is told of three keys.
-/
import Derived.Test.YtnpmfigcfikdgaaXA
namespace Go.Proofs.Ytnpmfigcfikdgaa
open Go.RowKit Go.Maps

theorem blk_ne {v : World} {a b : Nat} {c1 c2 : Array Value} {T1 T2 : TypeId} (h1 : Blk v a c1 T1) (h2 : Blk v b c2 T2) (ht : T1 ≠ T2) : a ≠ b := by
  rintro rfl
  unfold Blk at h1 h2
  rw [h1] at h2
  injection h2 with h2
  injection h2 with _ h3
  exact ht h3
theorem has_ne {v : World} {a : Nat} {c1 : Array Value} {T1 : TypeId} {q : Qk} {n : Nat} {B : Bk} (h1 : Blk v a c1 T1) (ht : T1 ≠ 59) (k : BookAt v q n B) : ¬ q.has a := by
  rintro (h | h | h | h)
  · exact blk_ne h1 k.head ht h
  · exact blk_map h1 k.mine h
  · exact blk_map h1 k.last h
  · exact blk_map h1 k.lea h

/-- What the closure reads and writes. -/
structure LookAt (w0 : World) (q : Qk) (n : Nat) (B : Bk) (now : Int) (pb nb xb yb zb : Nat) (f g h : Nat → Int) (v : World) : Prop where
  p : Blk v pb #[.pointer (some ⟨q.b, 0, none⟩)] 24
  t : Blk v nb #[.int .i64 now] 3
  x : Blk v xb (arr3 f) 62
  y : Blk v yb (arr3 g) 62
  z : Blk v zb (arr3 h) 62
  bk : BookAt v q n B
  kept : Kept (fun b => b = xb ∨ b = yb ∨ b = zb) w0 v

section
variable {w0 v v' : World} {q : Qk} {n : Nat} {B : Bk} {now : Int} {pb nb xb yb zb : Nat} {f g h : Nat → Int}
theorem LookAt.chg (H : LookAt w0 q n B now pb nb xb yb zb f g h v) (k : Chg none v v') : LookAt w0 q n B now pb nb xb yb zb f g h v' :=
  ⟨H.p.chg k (by simp), H.t.chg k (by simp), H.x.chg k (by simp), H.y.chg k (by simp), H.z.chg k (by simp), H.bk.chg k, H.kept.chg k⟩
theorem book_set {a : Addr} {u : Value} (k : BookAt v q n B) (hn : ¬ q.has a.block) : BookAt (v.setCell a u) q n B :=
  k.kept (S := fun b => b = a.block) ((Kept.refl _ _).setCell a u (.inl rfl)) (fun _ hb e => hn (e ▸ hb))
theorem LookAt.setX (H : LookAt w0 q n B now pb nb xb yb zb f g h v) (hxy : xb ≠ yb) (hxz : xb ≠ zb) {m : Nat} (hm : m < 3) (u : Int) :
    LookAt w0 q n B now pb nb xb yb zb (at3 f m u) g h (v.setCell ⟨xb, m, none⟩ (.int .i64 u)) :=
  ⟨H.p.setOther _ _ (blk_ne H.p H.x (by decide)), H.t.setOther _ _ (blk_ne H.t H.x (by decide)), by rw [← arr3_set f m hm]; exact H.x.set _ _, H.y.setOther _ _ hxy.symm, H.z.setOther _ _ hxz.symm,
    book_set H.bk (has_ne H.x (by decide) H.bk), H.kept.setCell _ _ (.inl (.inl rfl))⟩
theorem LookAt.setY (H : LookAt w0 q n B now pb nb xb yb zb f g h v) (hxy : xb ≠ yb) (hyz : yb ≠ zb) {m : Nat} (hm : m < 3) (u : Int) :
    LookAt w0 q n B now pb nb xb yb zb f (at3 g m u) h (v.setCell ⟨yb, m, none⟩ (.int .i64 u)) :=
  ⟨H.p.setOther _ _ (blk_ne H.p H.y (by decide)), H.t.setOther _ _ (blk_ne H.t H.y (by decide)), H.x.setOther _ _ hxy, by rw [← arr3_set g m hm]; exact H.y.set _ _, H.z.setOther _ _ hyz.symm,
    book_set H.bk (has_ne H.y (by decide) H.bk), H.kept.setCell _ _ (.inl (.inr (.inl rfl)))⟩
theorem LookAt.setZ (H : LookAt w0 q n B now pb nb xb yb zb f g h v) (hxz : xb ≠ zb) (hyz : yb ≠ zb) {m : Nat} (hm : m < 3) (u : Int) :
    LookAt w0 q n B now pb nb xb yb zb f g (at3 h m u) (v.setCell ⟨zb, m, none⟩ (.int .i64 u)) :=
  ⟨H.p.setOther _ _ (blk_ne H.p H.z (by decide)), H.t.setOther _ _ (blk_ne H.t H.z (by decide)), H.x.setOther _ _ hxz, H.y.setOther _ _ hyz, by rw [← arr3_set h m hm]; exact H.z.set _ _,
    book_set H.bk (has_ne H.z (by decide) H.bk), H.kept.setCell _ _ (.inl (.inr (.inr rfl)))⟩
theorem LookAt.conv (H : LookAt w0 q n B now pb nb xb yb zb f g h v) {f' g' h' : Nat → Int} (e1 : f = f') (e2 : g = g') (e3 : h = h') : LookAt w0 q n B now pb nb xb yb zb f' g' h' v := by
  subst e1 e2 e3; exact H
theorem next0 {F : Nat → Int} {m : Nat} {u : Int} (e : F m = u) : at3 (mix m F f) m u = mix (m + 1) F f := by rw [← e]; exact mix_next _ _ _
theorem next1 {F : Nat → Int} {m : Nat} {u y : Int} (e : F m = u) : at3 (at3 (mix m F f) m y) m u = mix (m + 1) F f := by rw [at3_twice, ← e]; exact mix_next _ _ _
end

theorem opt_parts (B : Bk) (now : Int) (m : Nat) : ∃ lb : Bool, optPair (liveM B (kd3 m) now) = .tuple #[.int .i64 (nodeV B now m), .bool lb] ∧ liveV B now m = if lb = true then 1 else 0 := by
  unfold nodeV liveV
  cases liveM B (kd3 m) now with
  | none => exact ⟨false, rfl, rfl⟩
  | some c => exact ⟨true, rfl, rfl⟩

set_option maxRecDepth 100000 in
set_option maxHeartbeats 4000000 in
theorem look_any (w : World) (q : Qk) (n : Nat) (B : Bk) (now : Int) (pb nb xb yb zb : Nat) (f g h : Nat → Int) (hxy : xb ≠ yb) (hxz : xb ≠ zb) (hyz : yb ≠ zb) (H : LookAt w q n B now pb nb xb yb zb f g h w) (ho : B.ok n) (hnow : I64 now) :
    Calls Try.prog 21 #[.pointer (some ⟨pb, 0, none⟩), .pointer (some ⟨nb, 0, none⟩), .pointer (some ⟨xb, 0, none⟩), .pointer (some ⟨yb, 0, none⟩), .pointer (some ⟨zb, 0, none⟩)] w
      fun e w' => e = .returned (.tuple #[]) ∧ LookAt w q n B now pb nb xb yb zb (nodeV B now) (liveV B now) (mineV B) w' := by
  have HO := Lib.hid ho
  have HNOW := Lib.hid hnow
  have HS : Hid (LookAt w q n B now pb nb xb yb zb (mix 0 (nodeV B now) f) (mix 0 (liveV B now) g) (mix 0 (mineV B) h) w) := Lib.hid (by rw [mix_zero, mix_zero, mix_zero]; exact H)
  have HXY := Lib.hid hxy
  have HXZ := Lib.hid hxz
  have HYZ := Lib.hid hyz
  clear H ho hnow hxy hxz hyz
  go_enter Try.func21, Try.ntmps21
  go_wp2_with fail
  go_loopw [5] (fun s5 wr => ∃ m : Nat, m ≤ 3 ∧ s5 = .int .u8 m ∧ Hid (LookAt w q n B now pb nb xb yb zb (mix m (nodeV B now) f) (mix m (liveV B now) g) (mix m (mineV B) h) wr)) (fun i _ => 3 - (intOf i).toNat)
  case atStart => exact ⟨0, by omega, rfl, HS⟩
  case round =>
    obtain ⟨m, hm, rfl, HR⟩ := hrel
    by_cases hlt : m < 3
    · have hlt' : decide (m < 3) = true := by simpa using hlt
      have hltI : (m : Int) < 3 := by omega
      have hbd : Try.prog.built 31 [(0, .int .u8 m)] = some (kd3 m).cells.toArray := by rw [kd3_is m hlt]; exact built31 _ _
      have HBD := Lib.hid hbd
      have cp' : wr.cell? ⟨pb, 0, none⟩ = some (.pointer (some ⟨q.b, 0, none⟩)) := by rw [HR.out.p.cell]; rfl
      have ct' : wr.cell? ⟨nb, 0, none⟩ = some (.int .i64 now) := by rw [HR.out.t.cell]; rfl
      have HL := Lib.hid (live_any (kd3 m) now wr q n B HR.out.bk HO.out HNOW.out)
      clear hbd
      go_wp2_with (refine wpList_build_is rfl 31 _ rfl (kd3 m).cells.toArray (by simp only [List.map_toArray, List.map_cons, List.map_nil]; exact HBD.out) ?_)
      refine HL.out.mono ?_
      rintro e wv ⟨rfl, gv⟩
      have h1 := HR.out.chg gv
      have HLV := Lib.hid (h1.setX HXY.out HXZ.out hlt (nodeV B now m))
      have HLV2 := Lib.hid (HLV.out.setY HXY.out HYZ.out hlt 0)
      have HLV3 := Lib.hid (HLV2.out.setZ HXZ.out HYZ.out hlt 0)
      have HLV4 := Lib.hid (HLV3.out.setY HXY.out HYZ.out hlt 1)
      have cx : wv.cell? ⟨xb, m, none⟩ = some (.int .i64 (mix m (nodeV B now) f m)) := by rw [h1.x.cell]; exact arr3_at _ _ hlt
      have fx := h1.x.frozen m
      have cy : wv.cell? ⟨yb, m, none⟩ = some (.int .i64 (mix m (liveV B now) g m)) := by rw [h1.y.cell]; exact arr3_at _ _ hlt
      have fy := h1.y.frozen m
      have cz : wv.cell? ⟨zb, m, none⟩ = some (.int .i64 (mix m (mineV B) h m)) := by rw [h1.z.cell]; exact arr3_at _ _ hlt
      have fz := h1.z.frozen m
      have np1 : ¬ pb = xb := blk_ne h1.p h1.x (by decide)
      have np2 : ¬ pb = yb := blk_ne h1.p h1.y (by decide)
      have np3 : ¬ pb = zb := blk_ne h1.p h1.z (by decide)
      have cp : wv.cell? ⟨pb, 0, none⟩ = some (.pointer (some ⟨q.b, 0, none⟩)) := by rw [h1.p.cell]; rfl
      have n1 := HXY.out
      have n2 := HXZ.out
      have n3 := HYZ.out
      have n4 := n1.symm
      have n5 := n2.symm
      have n6 := n3.symm
      obtain ⟨lb, hlb, hlv⟩ := opt_parts B now m
      rw [hlb]
      have HLB := Lib.hid hlv
      have HMV : Hid (mineV B m = if mineB B (kd3 m) = true then 1 else 0) := Lib.hid rfl
      clear HLV HLV2 h1 gv hlb hlv HL cp' ct'
      cases lb
      · go_wp2_with (refine wpList_build_is rfl 31 _ rfl (kd3 m).cells.toArray (by simp only [List.map_toArray, List.map_cons, List.map_nil]; exact HBD.out) ?_)
        refine (mine_any (kd3 m) _ q n B HLV3.out.bk).mono ?_
        rintro e wm ⟨rfl, gm⟩
        have h4 := HLV3.out.chg gm
        have H4 := Lib.hid h4
        have dz : wm.cell? ⟨zb, m, none⟩ = some (.int .i64 0) := by rw [h4.z.cell]; rw [arr3_at _ _ hlt]; unfold at3; rw [if_pos rfl]
        have gz := h4.z.frozen m
        have H5 := Lib.hid (h4.setZ HXZ.out HYZ.out hlt 1)
        clear h4 gm cx cy cz fx fy fz cp np1 np2 np3
        generalize mineB B (kd3 m) = mb at *
        cases mb
        · go_wp2_with fail
          go_roundw
          case rel => exact ⟨m + 1, by omega, by go_num, Lib.hid (H4.out.conv (next0 rfl) (next0 (by rw [HLB.out]; rfl)) (next0 (by rw [HMV.out]; rfl)))⟩
          case measure => simp [intOf]; omega
        · go_wp2_with fail
          go_roundw
          case rel => exact ⟨m + 1, by omega, by go_num, Lib.hid (H5.out.conv (next0 rfl) (next0 (by rw [HLB.out]; rfl)) (next1 (by rw [HMV.out]; rfl)))⟩
          case measure => simp [intOf]; omega
      · go_wp2_with (refine wpList_build_is rfl 31 _ rfl (kd3 m).cells.toArray (by simp only [List.map_toArray, List.map_cons, List.map_nil]; exact HBD.out) ?_)
        refine (mine_any (kd3 m) _ q n B HLV4.out.bk).mono ?_
        rintro e wm ⟨rfl, gm⟩
        have h4 := HLV4.out.chg gm
        have H4 := Lib.hid h4
        have dz : wm.cell? ⟨zb, m, none⟩ = some (.int .i64 0) := by rw [h4.z.cell]; rw [arr3_at _ _ hlt]; unfold at3; rw [if_pos rfl]
        have gz := h4.z.frozen m
        have H5 := Lib.hid (h4.setZ HXZ.out HYZ.out hlt 1)
        clear h4 gm cx cy cz fx fy fz cp np1 np2 np3
        generalize mineB B (kd3 m) = mb at *
        cases mb
        · go_wp2_with fail
          go_roundw
          case rel => exact ⟨m + 1, by omega, by go_num, Lib.hid (H4.out.conv (next0 rfl) (next1 (by rw [HLB.out]; rfl)) (next0 (by rw [HMV.out]; rfl)))⟩
          case measure => simp [intOf]; omega
        · go_wp2_with fail
          go_roundw
          case rel => exact ⟨m + 1, by omega, by go_num, Lib.hid (H5.out.conv (next0 rfl) (next1 (by rw [HLB.out]; rfl)) (next1 (by rw [HMV.out]; rfl)))⟩
          case measure => simp [intOf]; omega
    · have hlt' : decide (m < 3) = false := by simpa using hlt
      have hm3 : m = 3 := by omega
      have HE : Hid (LookAt w q n B now pb nb xb yb zb (nodeV B now) (liveV B now) (mineV B) wr) := Lib.hid (by
        have hh := HR.out
        rw [hm3] at hh
        exact ⟨hh.p, hh.t, by rw [← arr3_mix (nodeV B now) f]; exact hh.x, by rw [← arr3_mix (liveV B now) g]; exact hh.y, by rw [← arr3_mix (mineV B) h]; exact hh.z, hh.bk, hh.kept⟩)
      clear hm3
      go_wp2_with fail
      exact bodyPost_end (results_none rfl _ _ _) rfl ⟨rfl, HE.out⟩

end Go.Proofs.Ytnpmfigcfikdgaa
