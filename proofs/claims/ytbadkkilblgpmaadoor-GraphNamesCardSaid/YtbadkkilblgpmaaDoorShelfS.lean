/-
  DERIVED: THE SHELF's CONTRACTS AT THIS DUMP, IN PLAIN WORDS (tools/lay-plain.mjs out of 'TrydShelfS.lean', which tools/lay-shelf.mjs wrote): THE SAME DECLARATIONS UNDER THE SAME NAMES: 'import', 'namespace', 'open', 'def', 'theorem' AND NOTHING ELSE: no command of the shelf's: FOR A HAND-IN. Each laying: the table of numbers ('.._ren') and one theorem, a field a fact of the dump's own or the kernel's comparison; each contract: ONE APPLICATION.
-/
import Derived.Shelf.Sort.Plain
import Derived.Shelf.Slices.In.SortNone
import Derived.Ground.NamesProg
import Derived.Test.YtbadkkilblgpmaaDoorProg
namespace Go.Proofs
open Go.Shelf
def Tryd.lays190_ren : Go.Shelf.Ren := ⟨fun | 190 => 104 | 125 => 144 | 258 => 150 | 128 => 186 | 129 => 162 | 302 => 190 | 303 => 191 | 304 => 192 | 305 => 193 | 306 => 194 | 307 => 195 | 308 => 196 | 309 => 197 | 310 => 198 | 333 => 212 | 329 => 208 | 330 => 209 | 334 => 213 | 335 => 214 | 336 => 215 | 344 => 225 | n => n, fun | 31 => 64 | 9 => 9 | 3 => 3 | 46 => 105 | 0 => 0 | 51 => 24 | 53 => 35 | 4 => 4 | 183 => 205 | 182 => 204 | 131 => 80 | 5 => 5 | 218 => 221 | 222 => 225 | 228 => 234 | 229 => 235 | n => n, fun | n => n⟩
theorem Tryd.lays190 : Go.Proofs.Lays.n190 Tryd.prog Tryd.lays190_ren := {
  mixed := by kernel_rfl
  f125 := Tryd.func144.trans (congrArg some (by kernel_rfl))
  f128 := Tryd.func186.trans (congrArg some (by kernel_rfl))
  f129 := Tryd.func162.trans (congrArg some (by kernel_rfl))
  f190 := Tryd.func104.trans (congrArg some (by kernel_rfl))
  f258 := Tryd.func150.trans (congrArg some (by kernel_rfl))
  f302 := Tryd.func190.trans (congrArg some (by kernel_rfl))
  f303 := Tryd.func191.trans (congrArg some (by kernel_rfl))
  f304 := Tryd.func192.trans (congrArg some (by kernel_rfl))
  f305 := Tryd.func193.trans (congrArg some (by kernel_rfl))
  f306 := Tryd.func194.trans (congrArg some (by kernel_rfl))
  f307 := Tryd.func195.trans (congrArg some (by kernel_rfl))
  f308 := Tryd.func196.trans (congrArg some (by kernel_rfl))
  f309 := Tryd.func197.trans (congrArg some (by kernel_rfl))
  f310 := Tryd.func198.trans (congrArg some (by kernel_rfl))
  f329 := Tryd.func208.trans (congrArg some (by kernel_rfl))
  f330 := Tryd.func209.trans (congrArg some (by kernel_rfl))
  f333 := Tryd.func212.trans (congrArg some (by kernel_rfl))
  f334 := Tryd.func213.trans (congrArg some (by kernel_rfl))
  f335 := Tryd.func214.trans (congrArg some (by kernel_rfl))
  f336 := Tryd.func215.trans (congrArg some (by kernel_rfl))
  f344 := Tryd.func225.trans (congrArg some (by kernel_rfl))
  t0 := Tryd.underlying0
  a0 := Tryd.isAgg0
  z0 := Tryd.sizeOf0
  v0 := Tryd.zeroValue0
  t3 := Tryd.underlying3
  a3 := Tryd.isAgg3
  z3 := Tryd.sizeOf3
  v3 := Tryd.zeroValue3
  t4 := Tryd.underlying4
  a4 := Tryd.isAgg4
  z4 := Tryd.sizeOf4
  v4 := Tryd.zeroValue4
  t5 := Tryd.underlying5
  a5 := Tryd.isAgg5
  z5 := Tryd.sizeOf5
  v5 := Tryd.zeroValue5
  t9 := Tryd.underlying9
  a9 := Tryd.isAgg9
  z9 := Tryd.sizeOf9
  v9 := Tryd.zeroValue9
  t31 := Tryd.underlying64
  a31 := Tryd.isAgg64
  z31 := Tryd.sizeOf64
  v31 := Tryd.zeroValue64
  t46 := Tryd.underlying105
  a46 := Tryd.isAgg105
  z46 := Tryd.sizeOf105
  v46 := Tryd.zeroValue105
  t51 := Tryd.underlying24
  a51 := Tryd.isAgg24
  z51 := Tryd.sizeOf24
  v51 := Tryd.zeroValue24
  t53 := Tryd.underlying35
  a53 := Tryd.isAgg35
  z53 := Tryd.sizeOf35
  v53 := Tryd.zeroValue35
  t131 := Tryd.underlying80
  a131 := Tryd.isAgg80
  z131 := Tryd.sizeOf80
  v131 := Tryd.zeroValue80
  t182 := Tryd.underlying204
  a182 := Tryd.isAgg204
  z182 := Tryd.sizeOf204
  v182 := Tryd.zeroValue204
  t183 := Tryd.underlying205
  a183 := Tryd.isAgg205
  z183 := Tryd.sizeOf205
  v183 := Tryd.zeroValue205
  t218 := Tryd.underlying221
  a218 := Tryd.isAgg221
  z218 := Tryd.sizeOf221
  v218 := Tryd.zeroValue221
  t222 := Tryd.underlying225
  a222 := Tryd.isAgg225
  z222 := Tryd.sizeOf225
  v222 := Tryd.zeroValue225
  t228 := Tryd.underlying234
  a228 := Tryd.isAgg234
  z228 := Tryd.sizeOf234
  v228 := Tryd.zeroValue234
  t229 := Tryd.underlying235
  a229 := Tryd.isAgg235
  z229 := Tryd.sizeOf235
  v229 := Tryd.zeroValue235 }
open Go.Sort Go.RowKit in
theorem Tryd.slices_Sort_string (blk off cap : Nat) (ss : List (List UInt8)) (w : World) (hH : Holds encStr w blk off ss.toArray) (hblk : blk < w.heap.size) (hsz : ss.length < 4611686018427387904) :
    Calls Tryd.prog 104 #[.slice (some ⟨blk, off, none⟩) ss.length cap] w fun e w' =>
      e = .returned (.tuple #[]) ∧ ∃ n os, w' = grow (putRow encStr (Sort.ahead w n) blk off (ss.mergeSort fun x y => decide (x ≤ y)).toArray) os := Any.slices_Sort_string Tryd.lays190 blk off cap ss w hH hblk hsz
open Go.RowKit Go.Sort in
/-- .. and plain. (LAID: no walk: one application.) -/
theorem Tryd.slices_Sort_string_none (p : Option Addr) (cap : Nat) (w : World) :
    Calls Tryd.prog 104 #[.slice p 0 cap] w fun e w' => e = .returned (.tuple #[]) ∧ w' = w := Any.slices_Sort_string_none Tryd.lays190 p cap w
end Go.Proofs
