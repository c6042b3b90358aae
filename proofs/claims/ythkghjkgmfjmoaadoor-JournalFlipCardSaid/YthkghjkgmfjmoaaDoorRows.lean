/-
  NARROWER THAN 'FOR EVERY INPUT', by the rows' own cells (each row's printed sentence says how): ShaSums: laid · ShaParts: laid · ShaLong: laid · JournalForms: laid · JournalReads: laid · JournalCuts: laid · JournalMore: laid · JournalFlip: laid.
  DERIVED. THE GIVEN ROWS OF THIS SEAT. 8 by the template 'for every input the law returns true; each argument reads behind the call as it read before'; 0 by the template 'total and deterministic' (their statements: YthkghjkgmfjmoaaDoorTotals.lean).
  GIVEN WITH THE SEED: the statements are not yours to turn. If you find one false, say at which input.
  Laid BY PROGRAM, IN A SANDBOX (cutbox-rows.mjs): the forced cells as the released guide's own fill.sh prints them over the translation ad6e8d8132623548… (all of the seat's roots in one cut). By AI agents, Wed Nov 11 2026. No macro, syntax, notation, axiom, sorry.
-/
import Derived.Test.YthkghjkgmfjmoaaDoorChecked
import GoSem.Claim
import GoSem.ClaimJoined
import GoSem.ClaimMapViews
import Derived.JoinedTies
import Derived.KernelRfl
namespace Go.Proofs.YthkghjkgmfjmoaaDoor
/- THE CELL 'sum', in the pinned program and in every row, IS THE sha256 OF THE DUMP (.gsa) THAT YthkghjkgmfjmoaaDoorProg.lean LOADS. Nothing in Lean hashes anything: it is a label: what it is worth is what the hold of that sum in a sandbox is worth. -/
noncomputable def Tryd.pinned : Pinned := { name := "ythkghjkgmfjmoaadoor", sum := "ad6e8d81326235485ea7c95c92384c20062260c60d8429eb0b91f550f8257683", checked := Tryd.checked }
namespace Rows
def none {H : Type} : Left H := { results := [], args := [] }

/- WHAT THE LISTED PACKAGE-LEVEL VARIABLES READ AS WHEN THE CALL BEGINS. Each datum BY PROGRAM (the guide's laid-datum.mjs) off the statement by which the dump's own 'gosem.cut.vars' lays the variable. In a bare row this is a premise. The card (YthkghjkgmfjmoaaDoorCards.lean) ties it to the program's text. -/
def laid_murmuration_sha_roundWords {H : Type} : DataW H := .agg [.lit (.int .u32 1116352408), .lit (.int .u32 1899447441), .lit (.int .u32 3049323471), .lit (.int .u32 3921009573), .lit (.int .u32 961987163), .lit (.int .u32 1508970993), .lit (.int .u32 2453635748), .lit (.int .u32 2870763221), .lit (.int .u32 3624381080), .lit (.int .u32 310598401), .lit (.int .u32 607225278), .lit (.int .u32 1426881987), .lit (.int .u32 1925078388), .lit (.int .u32 2162078206), .lit (.int .u32 2614888103), .lit (.int .u32 3248222580), .lit (.int .u32 3835390401), .lit (.int .u32 4022224774), .lit (.int .u32 264347078), .lit (.int .u32 604807628), .lit (.int .u32 770255983), .lit (.int .u32 1249150122), .lit (.int .u32 1555081692), .lit (.int .u32 1996064986), .lit (.int .u32 2554220882), .lit (.int .u32 2821834349), .lit (.int .u32 2952996808), .lit (.int .u32 3210313671), .lit (.int .u32 3336571891), .lit (.int .u32 3584528711), .lit (.int .u32 113926993), .lit (.int .u32 338241895), .lit (.int .u32 666307205), .lit (.int .u32 773529912), .lit (.int .u32 1294757372), .lit (.int .u32 1396182291), .lit (.int .u32 1695183700), .lit (.int .u32 1986661051), .lit (.int .u32 2177026350), .lit (.int .u32 2456956037), .lit (.int .u32 2730485921), .lit (.int .u32 2820302411), .lit (.int .u32 3259730800), .lit (.int .u32 3345764771), .lit (.int .u32 3516065817), .lit (.int .u32 3600352804), .lit (.int .u32 4094571909), .lit (.int .u32 275423344), .lit (.int .u32 430227734), .lit (.int .u32 506948616), .lit (.int .u32 659060556), .lit (.int .u32 883997877), .lit (.int .u32 958139571), .lit (.int .u32 1322822218), .lit (.int .u32 1537002063), .lit (.int .u32 1747873779), .lit (.int .u32 1955562222), .lit (.int .u32 2024104815), .lit (.int .u32 2227730452), .lit (.int .u32 2361852424), .lit (.int .u32 2428436474), .lit (.int .u32 2756734187), .lit (.int .u32 3204031479), .lit (.int .u32 3329325298)]
def laid_murmuration_sha_firstWords {H : Type} : DataW H := .agg [.lit (.int .u32 1779033703), .lit (.int .u32 3144134277), .lit (.int .u32 1013904242), .lit (.int .u32 2773480762), .lit (.int .u32 1359893119), .lit (.int .u32 2600822924), .lit (.int .u32 528734635), .lit (.int .u32 1541459225)]

/-- 'murmurationlaw01.ShaSums': WHATEVER THE INPUT: true; the input reads as it did. -/
def shaSumsSpec : ChangeSpec := { name := "shaSums", fn := fun _ => fun
  | [d] => { results := [.lit (.bool true)], args := [d] }
  | _ => none }
def shaSumsRow : OpenClaim := { program := "ythkghjkgmfjmoaadoor", sum := "ad6e8d81326235485ea7c95c92384c20062260c60d8429eb0b91f550f8257683", func := "murmuration/murmurationlaw01.ShaSums", spec := "shaSums", named := ["murmuration/sha.firstWords", "murmuration/sha.roundWords"], apart := false, laid := [("murmuration/sha.roundWords", laid_murmuration_sha_roundWords), ("murmuration/sha.firstWords", laid_murmuration_sha_firstWords)] }
def ShaSumsSaid : Prop := shaSumsRow.holds Tryd.pinned (OpenSpec.ofChange shaSumsSpec)

/-- ITS FALSE NEIGHBOUR: 'it returns false'. Refute it at one input. -/
def shaSumsWrong : ChangeSpec := { name := "shaSums", fn := fun _ => fun
  | [d] => { results := [.lit (.bool false)], args := [d] }
  | _ => none }
def ShaSumsWrongFalsely : Prop := shaSumsRow.holds Tryd.pinned (OpenSpec.ofChange shaSumsWrong)

/-- 'murmurationlaw01.ShaParts': WHATEVER THE INPUT: true; the input reads as it did. -/
def shaPartsSpec : ChangeSpec := { name := "shaParts", fn := fun _ => fun
  | [d1, d2, d3] => { results := [.lit (.bool true)], args := [d1, d2, d3] }
  | _ => none }
def shaPartsRow : OpenClaim := { program := "ythkghjkgmfjmoaadoor", sum := "ad6e8d81326235485ea7c95c92384c20062260c60d8429eb0b91f550f8257683", func := "murmuration/murmurationlaw01.ShaParts", spec := "shaParts", named := ["murmuration/sha.firstWords", "murmuration/sha.roundWords"], apart := false, laid := [("murmuration/sha.roundWords", laid_murmuration_sha_roundWords), ("murmuration/sha.firstWords", laid_murmuration_sha_firstWords)] }
def ShaPartsSaid : Prop := shaPartsRow.holds Tryd.pinned (OpenSpec.ofChange shaPartsSpec)

/-- ITS FALSE NEIGHBOUR: 'it returns false'. Refute it at one input. -/
def shaPartsWrong : ChangeSpec := { name := "shaParts", fn := fun _ => fun
  | [d1, d2, d3] => { results := [.lit (.bool false)], args := [d1, d2, d3] }
  | _ => none }
def ShaPartsWrongFalsely : Prop := shaPartsRow.holds Tryd.pinned (OpenSpec.ofChange shaPartsWrong)

/-- 'murmurationlaw01.ShaLong': WHATEVER THE INPUT: true; the input reads as it did. -/
def shaLongSpec : ChangeSpec := { name := "shaLong", fn := fun _ => fun
  | [d1, d2] => { results := [.lit (.bool true)], args := [d1, d2] }
  | _ => none }
def shaLongRow : OpenClaim := { program := "ythkghjkgmfjmoaadoor", sum := "ad6e8d81326235485ea7c95c92384c20062260c60d8429eb0b91f550f8257683", func := "murmuration/murmurationlaw01.ShaLong", spec := "shaLong", named := ["murmuration/sha.firstWords", "murmuration/sha.roundWords"], apart := false, laid := [("murmuration/sha.roundWords", laid_murmuration_sha_roundWords), ("murmuration/sha.firstWords", laid_murmuration_sha_firstWords)] }
def ShaLongSaid : Prop := shaLongRow.holds Tryd.pinned (OpenSpec.ofChange shaLongSpec)

/-- ITS FALSE NEIGHBOUR: 'it returns false'. Refute it at one input. -/
def shaLongWrong : ChangeSpec := { name := "shaLong", fn := fun _ => fun
  | [d1, d2] => { results := [.lit (.bool false)], args := [d1, d2] }
  | _ => none }
def ShaLongWrongFalsely : Prop := shaLongRow.holds Tryd.pinned (OpenSpec.ofChange shaLongWrong)

/-- 'murmurationlaw11.JournalForms': WHATEVER THE INPUT: true; the input reads as it did. -/
def journalFormsSpec : ChangeSpec := { name := "journalForms", fn := fun _ => fun
  | [d] => { results := [.lit (.bool true)], args := [d] }
  | _ => none }
def journalFormsRow : OpenClaim := { program := "ythkghjkgmfjmoaadoor", sum := "ad6e8d81326235485ea7c95c92384c20062260c60d8429eb0b91f550f8257683", func := "murmuration/murmurationlaw11.JournalForms", spec := "journalForms", unfollowed := true, recurses := true, named := ["murmuration/sha.firstWords", "murmuration/sha.roundWords"], apart := false, laid := [("murmuration/sha.roundWords", laid_murmuration_sha_roundWords), ("murmuration/sha.firstWords", laid_murmuration_sha_firstWords)] }
def JournalFormsSaid : Prop := journalFormsRow.holds Tryd.pinned (OpenSpec.ofChange journalFormsSpec)

/-- ITS FALSE NEIGHBOUR: 'it returns false'. Refute it at one input. -/
def journalFormsWrong : ChangeSpec := { name := "journalForms", fn := fun _ => fun
  | [d] => { results := [.lit (.bool false)], args := [d] }
  | _ => none }
def JournalFormsWrongFalsely : Prop := journalFormsRow.holds Tryd.pinned (OpenSpec.ofChange journalFormsWrong)

/-- 'murmurationlaw11.JournalReads': WHATEVER THE INPUT: true; the input reads as it did. -/
def journalReadsSpec : ChangeSpec := { name := "journalReads", fn := fun _ => fun
  | [d] => { results := [.lit (.bool true)], args := [d] }
  | _ => none }
def journalReadsRow : OpenClaim := { program := "ythkghjkgmfjmoaadoor", sum := "ad6e8d81326235485ea7c95c92384c20062260c60d8429eb0b91f550f8257683", func := "murmuration/murmurationlaw11.JournalReads", spec := "journalReads", unfollowed := true, recurses := true, named := ["murmuration/sha.firstWords", "murmuration/sha.roundWords"], apart := false, laid := [("murmuration/sha.roundWords", laid_murmuration_sha_roundWords), ("murmuration/sha.firstWords", laid_murmuration_sha_firstWords)] }
def JournalReadsSaid : Prop := journalReadsRow.holds Tryd.pinned (OpenSpec.ofChange journalReadsSpec)

/-- ITS FALSE NEIGHBOUR: 'it returns false'. Refute it at one input. -/
def journalReadsWrong : ChangeSpec := { name := "journalReads", fn := fun _ => fun
  | [d] => { results := [.lit (.bool false)], args := [d] }
  | _ => none }
def JournalReadsWrongFalsely : Prop := journalReadsRow.holds Tryd.pinned (OpenSpec.ofChange journalReadsWrong)

/-- 'murmurationlaw11.JournalCuts': WHATEVER THE INPUT: true; the input reads as it did. -/
def journalCutsSpec : ChangeSpec := { name := "journalCuts", fn := fun _ => fun
  | [d1, d2] => { results := [.lit (.bool true)], args := [d1, d2] }
  | _ => none }
def journalCutsRow : OpenClaim := { program := "ythkghjkgmfjmoaadoor", sum := "ad6e8d81326235485ea7c95c92384c20062260c60d8429eb0b91f550f8257683", func := "murmuration/murmurationlaw11.JournalCuts", spec := "journalCuts", unfollowed := true, recurses := true, named := ["murmuration/sha.firstWords", "murmuration/sha.roundWords"], apart := false, laid := [("murmuration/sha.roundWords", laid_murmuration_sha_roundWords), ("murmuration/sha.firstWords", laid_murmuration_sha_firstWords)] }
def JournalCutsSaid : Prop := journalCutsRow.holds Tryd.pinned (OpenSpec.ofChange journalCutsSpec)

/-- ITS FALSE NEIGHBOUR: 'it returns false'. Refute it at one input. -/
def journalCutsWrong : ChangeSpec := { name := "journalCuts", fn := fun _ => fun
  | [d1, d2] => { results := [.lit (.bool false)], args := [d1, d2] }
  | _ => none }
def JournalCutsWrongFalsely : Prop := journalCutsRow.holds Tryd.pinned (OpenSpec.ofChange journalCutsWrong)

/-- 'murmurationlaw11.JournalMore': WHATEVER THE INPUT: true; the input reads as it did. -/
def journalMoreSpec : ChangeSpec := { name := "journalMore", fn := fun _ => fun
  | [d1, d2] => { results := [.lit (.bool true)], args := [d1, d2] }
  | _ => none }
def journalMoreRow : OpenClaim := { program := "ythkghjkgmfjmoaadoor", sum := "ad6e8d81326235485ea7c95c92384c20062260c60d8429eb0b91f550f8257683", func := "murmuration/murmurationlaw11.JournalMore", spec := "journalMore", unfollowed := true, recurses := true, named := ["murmuration/sha.firstWords", "murmuration/sha.roundWords"], apart := false, laid := [("murmuration/sha.roundWords", laid_murmuration_sha_roundWords), ("murmuration/sha.firstWords", laid_murmuration_sha_firstWords)] }
def JournalMoreSaid : Prop := journalMoreRow.holds Tryd.pinned (OpenSpec.ofChange journalMoreSpec)

/-- ITS FALSE NEIGHBOUR: 'it returns false'. Refute it at one input. -/
def journalMoreWrong : ChangeSpec := { name := "journalMore", fn := fun _ => fun
  | [d1, d2] => { results := [.lit (.bool false)], args := [d1, d2] }
  | _ => none }
def JournalMoreWrongFalsely : Prop := journalMoreRow.holds Tryd.pinned (OpenSpec.ofChange journalMoreWrong)

/-- 'murmurationlaw11.JournalFlip': WHATEVER THE INPUT: true; the input reads as it did. -/
def journalFlipSpec : ChangeSpec := { name := "journalFlip", fn := fun _ => fun
  | [d1, d2, d3, d4] => { results := [.lit (.bool true)], args := [d1, d2, d3, d4] }
  | _ => none }
def journalFlipRow : OpenClaim := { program := "ythkghjkgmfjmoaadoor", sum := "ad6e8d81326235485ea7c95c92384c20062260c60d8429eb0b91f550f8257683", func := "murmuration/murmurationlaw11.JournalFlip", spec := "journalFlip", unfollowed := true, recurses := true, named := ["murmuration/sha.firstWords", "murmuration/sha.roundWords"], apart := false, laid := [("murmuration/sha.roundWords", laid_murmuration_sha_roundWords), ("murmuration/sha.firstWords", laid_murmuration_sha_firstWords)] }
def JournalFlipSaid : Prop := journalFlipRow.holds Tryd.pinned (OpenSpec.ofChange journalFlipSpec)

/-- ITS FALSE NEIGHBOUR: 'it returns false'. Refute it at one input. -/
def journalFlipWrong : ChangeSpec := { name := "journalFlip", fn := fun _ => fun
  | [d1, d2, d3, d4] => { results := [.lit (.bool false)], args := [d1, d2, d3, d4] }
  | _ => none }
def JournalFlipWrongFalsely : Prop := journalFlipRow.holds Tryd.pinned (OpenSpec.ofChange journalFlipWrong)

/- THE SECOND FORM. 'bulk': how many values and letters a reading holds, each counted each time it is reached (what is shared counts as often as it is met; a slice's spare places count too). A statement '..UptoSaid' is the law's where the arguments, and the package variables that the reading takes, are together of bulk at most 1048576: NARROWER than '..Said'. Prove '..Said' where nothing that the law and all that it calls make is longer than what came in: it says more and counts as full. Else prove '..UptoSaid'. A law counts once. -/
mutual
def uptoBulk {H : Type} : DataW H → Nat
  | .lit (.string bytes) => bytes.length + 1
  | .lit _ => 1
  | .nil => 1
  | .ptr d => uptoBulk d + 1
  | .slice elems spare => uptoBulkAll elems + uptoBulkAll spare + 1
  | .agg parts => uptoBulkAll parts + 1
  | .iface _ d => uptoBulk d + 1
  | .map entries => uptoBulkEntries entries + 1
  | .held _ => 1
def uptoBulkAll {H : Type} : List (DataW H) → Nat
  | [] => 0
  | d :: r => uptoBulk d + uptoBulkAll r
def uptoBulkEntries {H : Type} : List (Lit × DataW H) → Nat
  | [] => 0
  | x :: r => uptoBulkEntry x + uptoBulkEntries r
def uptoBulkEntry {H : Type} : Lit × DataW H → Nat
  | (.string bytes, d) => bytes.length + uptoBulk d + 1
  | (_, d) => uptoBulk d + 1
 end
def uptoSmall : (H : Type) → List (DataW H) → Bool := fun _ ds => decide (uptoBulkAll ds ≤ 1048576)
def OpenSpec.upto (s : _root_.Go.ChangeSpec) : _root_.Go.OpenSpec := { _root_.Go.OpenSpec.ofChange s with cond := some uptoSmall }

/-- 'murmurationlaw01.ShaSums', WHERE WHAT IT READS IS OF BULK AT MOST 1048576: true; the input reads as it did. -/
def shaSumsUptoRow : OpenClaim := { program := "ythkghjkgmfjmoaadoor", sum := "ad6e8d81326235485ea7c95c92384c20062260c60d8429eb0b91f550f8257683", func := "murmuration/murmurationlaw01.ShaSums", spec := "shaSums", named := ["murmuration/sha.firstWords", "murmuration/sha.roundWords"], apart := false, laid := [("murmuration/sha.roundWords", laid_murmuration_sha_roundWords), ("murmuration/sha.firstWords", laid_murmuration_sha_firstWords)], narrowed := true }
def ShaSumsUptoSaid : Prop := shaSumsUptoRow.holds Tryd.pinned (OpenSpec.upto shaSumsSpec)

/-- 'murmurationlaw01.ShaParts', WHERE WHAT IT READS IS OF BULK AT MOST 1048576: true; the input reads as it did. -/
def shaPartsUptoRow : OpenClaim := { program := "ythkghjkgmfjmoaadoor", sum := "ad6e8d81326235485ea7c95c92384c20062260c60d8429eb0b91f550f8257683", func := "murmuration/murmurationlaw01.ShaParts", spec := "shaParts", named := ["murmuration/sha.firstWords", "murmuration/sha.roundWords"], apart := false, laid := [("murmuration/sha.roundWords", laid_murmuration_sha_roundWords), ("murmuration/sha.firstWords", laid_murmuration_sha_firstWords)], narrowed := true }
def ShaPartsUptoSaid : Prop := shaPartsUptoRow.holds Tryd.pinned (OpenSpec.upto shaPartsSpec)

/-- 'murmurationlaw01.ShaLong', WHERE WHAT IT READS IS OF BULK AT MOST 1048576: true; the input reads as it did. -/
def shaLongUptoRow : OpenClaim := { program := "ythkghjkgmfjmoaadoor", sum := "ad6e8d81326235485ea7c95c92384c20062260c60d8429eb0b91f550f8257683", func := "murmuration/murmurationlaw01.ShaLong", spec := "shaLong", named := ["murmuration/sha.firstWords", "murmuration/sha.roundWords"], apart := false, laid := [("murmuration/sha.roundWords", laid_murmuration_sha_roundWords), ("murmuration/sha.firstWords", laid_murmuration_sha_firstWords)], narrowed := true }
def ShaLongUptoSaid : Prop := shaLongUptoRow.holds Tryd.pinned (OpenSpec.upto shaLongSpec)

/-- 'murmurationlaw11.JournalForms', WHERE WHAT IT READS IS OF BULK AT MOST 1048576: true; the input reads as it did. -/
def journalFormsUptoRow : OpenClaim := { program := "ythkghjkgmfjmoaadoor", sum := "ad6e8d81326235485ea7c95c92384c20062260c60d8429eb0b91f550f8257683", func := "murmuration/murmurationlaw11.JournalForms", spec := "journalForms", unfollowed := true, recurses := true, named := ["murmuration/sha.firstWords", "murmuration/sha.roundWords"], apart := false, laid := [("murmuration/sha.roundWords", laid_murmuration_sha_roundWords), ("murmuration/sha.firstWords", laid_murmuration_sha_firstWords)], narrowed := true }
def JournalFormsUptoSaid : Prop := journalFormsUptoRow.holds Tryd.pinned (OpenSpec.upto journalFormsSpec)

/-- 'murmurationlaw11.JournalReads', WHERE WHAT IT READS IS OF BULK AT MOST 1048576: true; the input reads as it did. -/
def journalReadsUptoRow : OpenClaim := { program := "ythkghjkgmfjmoaadoor", sum := "ad6e8d81326235485ea7c95c92384c20062260c60d8429eb0b91f550f8257683", func := "murmuration/murmurationlaw11.JournalReads", spec := "journalReads", unfollowed := true, recurses := true, named := ["murmuration/sha.firstWords", "murmuration/sha.roundWords"], apart := false, laid := [("murmuration/sha.roundWords", laid_murmuration_sha_roundWords), ("murmuration/sha.firstWords", laid_murmuration_sha_firstWords)], narrowed := true }
def JournalReadsUptoSaid : Prop := journalReadsUptoRow.holds Tryd.pinned (OpenSpec.upto journalReadsSpec)

/-- 'murmurationlaw11.JournalCuts', WHERE WHAT IT READS IS OF BULK AT MOST 1048576: true; the input reads as it did. -/
def journalCutsUptoRow : OpenClaim := { program := "ythkghjkgmfjmoaadoor", sum := "ad6e8d81326235485ea7c95c92384c20062260c60d8429eb0b91f550f8257683", func := "murmuration/murmurationlaw11.JournalCuts", spec := "journalCuts", unfollowed := true, recurses := true, named := ["murmuration/sha.firstWords", "murmuration/sha.roundWords"], apart := false, laid := [("murmuration/sha.roundWords", laid_murmuration_sha_roundWords), ("murmuration/sha.firstWords", laid_murmuration_sha_firstWords)], narrowed := true }
def JournalCutsUptoSaid : Prop := journalCutsUptoRow.holds Tryd.pinned (OpenSpec.upto journalCutsSpec)

/-- 'murmurationlaw11.JournalMore', WHERE WHAT IT READS IS OF BULK AT MOST 1048576: true; the input reads as it did. -/
def journalMoreUptoRow : OpenClaim := { program := "ythkghjkgmfjmoaadoor", sum := "ad6e8d81326235485ea7c95c92384c20062260c60d8429eb0b91f550f8257683", func := "murmuration/murmurationlaw11.JournalMore", spec := "journalMore", unfollowed := true, recurses := true, named := ["murmuration/sha.firstWords", "murmuration/sha.roundWords"], apart := false, laid := [("murmuration/sha.roundWords", laid_murmuration_sha_roundWords), ("murmuration/sha.firstWords", laid_murmuration_sha_firstWords)], narrowed := true }
def JournalMoreUptoSaid : Prop := journalMoreUptoRow.holds Tryd.pinned (OpenSpec.upto journalMoreSpec)

/-- 'murmurationlaw11.JournalFlip', WHERE WHAT IT READS IS OF BULK AT MOST 1048576: true; the input reads as it did. -/
def journalFlipUptoRow : OpenClaim := { program := "ythkghjkgmfjmoaadoor", sum := "ad6e8d81326235485ea7c95c92384c20062260c60d8429eb0b91f550f8257683", func := "murmuration/murmurationlaw11.JournalFlip", spec := "journalFlip", unfollowed := true, recurses := true, named := ["murmuration/sha.firstWords", "murmuration/sha.roundWords"], apart := false, laid := [("murmuration/sha.roundWords", laid_murmuration_sha_roundWords), ("murmuration/sha.firstWords", laid_murmuration_sha_firstWords)], narrowed := true }
def JournalFlipUptoSaid : Prop := journalFlipUptoRow.holds Tryd.pinned (OpenSpec.upto journalFlipSpec)

end Rows
end Go.Proofs.YthkghjkgmfjmoaaDoor
