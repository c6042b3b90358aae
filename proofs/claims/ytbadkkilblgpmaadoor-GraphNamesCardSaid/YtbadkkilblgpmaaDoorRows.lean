/-
  NARROWER THAN 'FOR EVERY INPUT', by the rows' own cells (each row's printed sentence says how): ShaSums: laid · ShaParts: laid · ShaLong: laid · TreeForms: laid · TreeRoots: laid · ProgramForms: laid · ProgramReads: laid · ProgramOnly: laid · ProgramMore: laid · GraphOrders: laid · GraphRight: laid · GraphDirty: laid · GraphNames: laid · GraphEnds: laid · PlanInputs: laid · PlanBelow: laid · PlanOrder: laid · PlanGrows: laid.
  DERIVED. THE GIVEN ROWS OF THIS SEAT. 18 by the template 'for every input the law returns true; each argument reads behind the call as it read before'; 0 by the template 'total and deterministic' (their statements: YtbadkkilblgpmaaDoorTotals.lean).
  GIVEN WITH THE SEED: the statements are not yours to turn. If you find one false, say at which input.
  Laid BY PROGRAM, IN A SANDBOX (cutbox-rows.mjs): the forced cells as the released guide's own fill.sh prints them over the translation 16bcef7fdb5dc509… (all of the seat's roots in one cut). By AI agents, Wed Nov 11 2026. No macro, syntax, notation, axiom, sorry.
-/
import Derived.Test.YtbadkkilblgpmaaDoorChecked
import GoSem.Claim
import GoSem.ClaimJoined
import GoSem.ClaimMapViews
import Derived.JoinedTies
import Derived.KernelRfl
namespace Go.Proofs.YtbadkkilblgpmaaDoor
/- THE CELL 'sum', in the pinned program and in every row, IS THE sha256 OF THE DUMP (.gsa) THAT YtbadkkilblgpmaaDoorProg.lean LOADS. Nothing in Lean hashes anything: it is a label: what it is worth is what the hold of that sum in a sandbox is worth. -/
noncomputable def Tryd.pinned : Pinned := { name := "ytbadkkilblgpmaadoor", sum := "16bcef7fdb5dc509122b6702f2e623104c610801fa6feead327672006df1fef8", checked := Tryd.checked }
namespace Rows
def none {H : Type} : Left H := { results := [], args := [] }

/- WHAT THE LISTED PACKAGE-LEVEL VARIABLES READ AS WHEN THE CALL BEGINS. Each datum BY PROGRAM (the guide's laid-datum.mjs) off the statement by which the dump's own 'gosem.cut.vars' lays the variable. In a bare row this is a premise. The card (YtbadkkilblgpmaaDoorCards.lean) ties it to the program's text. -/
def laid_murmuration_sha_roundWords {H : Type} : DataW H := .agg [.lit (.int .u32 1116352408), .lit (.int .u32 1899447441), .lit (.int .u32 3049323471), .lit (.int .u32 3921009573), .lit (.int .u32 961987163), .lit (.int .u32 1508970993), .lit (.int .u32 2453635748), .lit (.int .u32 2870763221), .lit (.int .u32 3624381080), .lit (.int .u32 310598401), .lit (.int .u32 607225278), .lit (.int .u32 1426881987), .lit (.int .u32 1925078388), .lit (.int .u32 2162078206), .lit (.int .u32 2614888103), .lit (.int .u32 3248222580), .lit (.int .u32 3835390401), .lit (.int .u32 4022224774), .lit (.int .u32 264347078), .lit (.int .u32 604807628), .lit (.int .u32 770255983), .lit (.int .u32 1249150122), .lit (.int .u32 1555081692), .lit (.int .u32 1996064986), .lit (.int .u32 2554220882), .lit (.int .u32 2821834349), .lit (.int .u32 2952996808), .lit (.int .u32 3210313671), .lit (.int .u32 3336571891), .lit (.int .u32 3584528711), .lit (.int .u32 113926993), .lit (.int .u32 338241895), .lit (.int .u32 666307205), .lit (.int .u32 773529912), .lit (.int .u32 1294757372), .lit (.int .u32 1396182291), .lit (.int .u32 1695183700), .lit (.int .u32 1986661051), .lit (.int .u32 2177026350), .lit (.int .u32 2456956037), .lit (.int .u32 2730485921), .lit (.int .u32 2820302411), .lit (.int .u32 3259730800), .lit (.int .u32 3345764771), .lit (.int .u32 3516065817), .lit (.int .u32 3600352804), .lit (.int .u32 4094571909), .lit (.int .u32 275423344), .lit (.int .u32 430227734), .lit (.int .u32 506948616), .lit (.int .u32 659060556), .lit (.int .u32 883997877), .lit (.int .u32 958139571), .lit (.int .u32 1322822218), .lit (.int .u32 1537002063), .lit (.int .u32 1747873779), .lit (.int .u32 1955562222), .lit (.int .u32 2024104815), .lit (.int .u32 2227730452), .lit (.int .u32 2361852424), .lit (.int .u32 2428436474), .lit (.int .u32 2756734187), .lit (.int .u32 3204031479), .lit (.int .u32 3329325298)]
def laid_murmuration_sha_firstWords {H : Type} : DataW H := .agg [.lit (.int .u32 1779033703), .lit (.int .u32 3144134277), .lit (.int .u32 1013904242), .lit (.int .u32 2773480762), .lit (.int .u32 1359893119), .lit (.int .u32 2600822924), .lit (.int .u32 528734635), .lit (.int .u32 1541459225)]
def laid_murmuration_program_fields {H : Type} : DataW H := .agg [.lit (.string []), .lit (.string [112, 112, 45, 45, 45]), .lit (.string [112, 112, 112, 45, 45]), .lit (.string [112, 112, 45, 110, 110]), .lit (.string [112, 119, 118, 45, 45]), .lit (.string [112, 45, 45, 45, 45]), .lit (.string [112, 112, 45, 45, 45]), .lit (.string [112, 112, 45, 45, 45]), .lit (.string [45, 45, 45, 108, 45]), .lit (.string [112, 45, 45, 108, 45]), .lit (.string [112, 112, 45, 108, 45]), .lit (.string [45, 45, 45, 45, 45])]

/-- 'murmurationlaw01.ShaSums': WHATEVER THE INPUT: true; the input reads as it did. -/
def shaSumsSpec : ChangeSpec := { name := "shaSums", fn := fun _ => fun
  | [d] => { results := [.lit (.bool true)], args := [d] }
  | _ => none }
def shaSumsRow : OpenClaim := { program := "ytbadkkilblgpmaadoor", sum := "16bcef7fdb5dc509122b6702f2e623104c610801fa6feead327672006df1fef8", func := "murmuration/murmurationlaw01.ShaSums", spec := "shaSums", named := ["murmuration/sha.firstWords", "murmuration/sha.roundWords"], apart := false, laid := [("murmuration/sha.roundWords", laid_murmuration_sha_roundWords), ("murmuration/sha.firstWords", laid_murmuration_sha_firstWords)] }
def ShaSumsSaid : Prop := shaSumsRow.holds Tryd.pinned (OpenSpec.ofChange shaSumsSpec)

/-- ITS FALSE NEIGHBOUR: 'it returns false'. Refute it at one input. -/
def shaSumsWrong : ChangeSpec := { name := "shaSums", fn := fun _ => fun
  | [d] => { results := [.lit (.bool false)], args := [d] }
  | _ => none }
def ShaSumsWrongFalsely : Prop := shaSumsRow.holds Tryd.pinned (OpenSpec.ofChange shaSumsWrong)

/-- 'murmurationlaw01.ShaParts': WHATEVER THE INPUT: true; the input reads as it did. -/
def shaPartsSpec : ChangeSpec := { name := "shaParts", fn := fun _ => fun
  | [d1, d2, d3] => { results := [.lit (.bool true)], args := [d1, d2, d3] }
  | _ => none }
def shaPartsRow : OpenClaim := { program := "ytbadkkilblgpmaadoor", sum := "16bcef7fdb5dc509122b6702f2e623104c610801fa6feead327672006df1fef8", func := "murmuration/murmurationlaw01.ShaParts", spec := "shaParts", named := ["murmuration/sha.firstWords", "murmuration/sha.roundWords"], apart := false, laid := [("murmuration/sha.roundWords", laid_murmuration_sha_roundWords), ("murmuration/sha.firstWords", laid_murmuration_sha_firstWords)] }
def ShaPartsSaid : Prop := shaPartsRow.holds Tryd.pinned (OpenSpec.ofChange shaPartsSpec)

/-- ITS FALSE NEIGHBOUR: 'it returns false'. Refute it at one input. -/
def shaPartsWrong : ChangeSpec := { name := "shaParts", fn := fun _ => fun
  | [d1, d2, d3] => { results := [.lit (.bool false)], args := [d1, d2, d3] }
  | _ => none }
def ShaPartsWrongFalsely : Prop := shaPartsRow.holds Tryd.pinned (OpenSpec.ofChange shaPartsWrong)

/-- 'murmurationlaw01.ShaLong': WHATEVER THE INPUT: true; the input reads as it did. -/
def shaLongSpec : ChangeSpec := { name := "shaLong", fn := fun _ => fun
  | [d1, d2] => { results := [.lit (.bool true)], args := [d1, d2] }
  | _ => none }
def shaLongRow : OpenClaim := { program := "ytbadkkilblgpmaadoor", sum := "16bcef7fdb5dc509122b6702f2e623104c610801fa6feead327672006df1fef8", func := "murmuration/murmurationlaw01.ShaLong", spec := "shaLong", named := ["murmuration/sha.firstWords", "murmuration/sha.roundWords"], apart := false, laid := [("murmuration/sha.roundWords", laid_murmuration_sha_roundWords), ("murmuration/sha.firstWords", laid_murmuration_sha_firstWords)] }
def ShaLongSaid : Prop := shaLongRow.holds Tryd.pinned (OpenSpec.ofChange shaLongSpec)

/-- ITS FALSE NEIGHBOUR: 'it returns false'. Refute it at one input. -/
def shaLongWrong : ChangeSpec := { name := "shaLong", fn := fun _ => fun
  | [d1, d2] => { results := [.lit (.bool false)], args := [d1, d2] }
  | _ => none }
def ShaLongWrongFalsely : Prop := shaLongRow.holds Tryd.pinned (OpenSpec.ofChange shaLongWrong)

/-- 'murmurationlaw05.TreeForms': WHATEVER THE INPUT: true; the input reads as it did. -/
def treeFormsSpec : ChangeSpec := { name := "treeForms", fn := fun _ => fun
  | [d] => { results := [.lit (.bool true)], args := [d] }
  | _ => none }
def treeFormsRow : OpenClaim := { program := "ytbadkkilblgpmaadoor", sum := "16bcef7fdb5dc509122b6702f2e623104c610801fa6feead327672006df1fef8", func := "murmuration/murmurationlaw05.TreeForms", spec := "treeForms", inPlace := ["internal/bytealg.abigen_runtime_cmpstring"], unfollowed := true, recurses := true, named := ["murmuration/sha.firstWords", "murmuration/sha.roundWords"], apart := false, laid := [("murmuration/sha.roundWords", laid_murmuration_sha_roundWords), ("murmuration/sha.firstWords", laid_murmuration_sha_firstWords)] }
def TreeFormsSaid : Prop := treeFormsRow.holds Tryd.pinned (OpenSpec.ofChange treeFormsSpec)

/-- ITS FALSE NEIGHBOUR: 'it returns false'. Refute it at one input. -/
def treeFormsWrong : ChangeSpec := { name := "treeForms", fn := fun _ => fun
  | [d] => { results := [.lit (.bool false)], args := [d] }
  | _ => none }
def TreeFormsWrongFalsely : Prop := treeFormsRow.holds Tryd.pinned (OpenSpec.ofChange treeFormsWrong)

/-- 'murmurationlaw05.TreeRoots': WHATEVER THE INPUT: true; the input reads as it did. -/
def treeRootsSpec : ChangeSpec := { name := "treeRoots", fn := fun _ => fun
  | [d1, d2] => { results := [.lit (.bool true)], args := [d1, d2] }
  | _ => none }
def treeRootsRow : OpenClaim := { program := "ytbadkkilblgpmaadoor", sum := "16bcef7fdb5dc509122b6702f2e623104c610801fa6feead327672006df1fef8", func := "murmuration/murmurationlaw05.TreeRoots", spec := "treeRoots", inPlace := ["internal/bytealg.abigen_runtime_cmpstring"], unfollowed := true, recurses := true, named := ["murmuration/sha.firstWords", "murmuration/sha.roundWords"], apart := false, laid := [("murmuration/sha.roundWords", laid_murmuration_sha_roundWords), ("murmuration/sha.firstWords", laid_murmuration_sha_firstWords)] }
def TreeRootsSaid : Prop := treeRootsRow.holds Tryd.pinned (OpenSpec.ofChange treeRootsSpec)

/-- ITS FALSE NEIGHBOUR: 'it returns false'. Refute it at one input. -/
def treeRootsWrong : ChangeSpec := { name := "treeRoots", fn := fun _ => fun
  | [d1, d2] => { results := [.lit (.bool false)], args := [d1, d2] }
  | _ => none }
def TreeRootsWrongFalsely : Prop := treeRootsRow.holds Tryd.pinned (OpenSpec.ofChange treeRootsWrong)

/-- 'murmurationlaw06.ProgramForms': WHATEVER THE INPUT: true; the input reads as it did. -/
def programFormsSpec : ChangeSpec := { name := "programForms", fn := fun _ => fun
  | [d1, d2] => { results := [.lit (.bool true)], args := [d1, d2] }
  | _ => none }
def programFormsRow : OpenClaim := { program := "ytbadkkilblgpmaadoor", sum := "16bcef7fdb5dc509122b6702f2e623104c610801fa6feead327672006df1fef8", func := "murmuration/murmurationlaw06.ProgramForms", spec := "programForms", named := ["murmuration/program.fields"], apart := false, laid := [("murmuration/program.fields", laid_murmuration_program_fields)] }
def ProgramFormsSaid : Prop := programFormsRow.holds Tryd.pinned (OpenSpec.ofChange programFormsSpec)

/-- ITS FALSE NEIGHBOUR: 'it returns false'. Refute it at one input. -/
def programFormsWrong : ChangeSpec := { name := "programForms", fn := fun _ => fun
  | [d1, d2] => { results := [.lit (.bool false)], args := [d1, d2] }
  | _ => none }
def ProgramFormsWrongFalsely : Prop := programFormsRow.holds Tryd.pinned (OpenSpec.ofChange programFormsWrong)

/-- 'murmurationlaw06.ProgramReads': WHATEVER THE INPUT: true; the input reads as it did. -/
def programReadsSpec : ChangeSpec := { name := "programReads", fn := fun _ => fun
  | [d] => { results := [.lit (.bool true)], args := [d] }
  | _ => none }
def programReadsRow : OpenClaim := { program := "ytbadkkilblgpmaadoor", sum := "16bcef7fdb5dc509122b6702f2e623104c610801fa6feead327672006df1fef8", func := "murmuration/murmurationlaw06.ProgramReads", spec := "programReads", named := ["murmuration/program.fields"], apart := false, laid := [("murmuration/program.fields", laid_murmuration_program_fields)] }
def ProgramReadsSaid : Prop := programReadsRow.holds Tryd.pinned (OpenSpec.ofChange programReadsSpec)

/-- ITS FALSE NEIGHBOUR: 'it returns false'. Refute it at one input. -/
def programReadsWrong : ChangeSpec := { name := "programReads", fn := fun _ => fun
  | [d] => { results := [.lit (.bool false)], args := [d] }
  | _ => none }
def ProgramReadsWrongFalsely : Prop := programReadsRow.holds Tryd.pinned (OpenSpec.ofChange programReadsWrong)

/-- 'murmurationlaw06.ProgramOnly': WHATEVER THE INPUT: true; the input reads as it did. -/
def programOnlySpec : ChangeSpec := { name := "programOnly", fn := fun _ => fun
  | [d1, d2, d3, d4] => { results := [.lit (.bool true)], args := [d1, d2, d3, d4] }
  | _ => none }
def programOnlyRow : OpenClaim := { program := "ytbadkkilblgpmaadoor", sum := "16bcef7fdb5dc509122b6702f2e623104c610801fa6feead327672006df1fef8", func := "murmuration/murmurationlaw06.ProgramOnly", spec := "programOnly", named := ["murmuration/program.fields"], apart := false, laid := [("murmuration/program.fields", laid_murmuration_program_fields)] }
def ProgramOnlySaid : Prop := programOnlyRow.holds Tryd.pinned (OpenSpec.ofChange programOnlySpec)

/-- ITS FALSE NEIGHBOUR: 'it returns false'. Refute it at one input. -/
def programOnlyWrong : ChangeSpec := { name := "programOnly", fn := fun _ => fun
  | [d1, d2, d3, d4] => { results := [.lit (.bool false)], args := [d1, d2, d3, d4] }
  | _ => none }
def ProgramOnlyWrongFalsely : Prop := programOnlyRow.holds Tryd.pinned (OpenSpec.ofChange programOnlyWrong)

/-- 'murmurationlaw06.ProgramMore': WHATEVER THE INPUT: true; the input reads as it did. -/
def programMoreSpec : ChangeSpec := { name := "programMore", fn := fun _ => fun
  | [d1, d2] => { results := [.lit (.bool true)], args := [d1, d2] }
  | _ => none }
def programMoreRow : OpenClaim := { program := "ytbadkkilblgpmaadoor", sum := "16bcef7fdb5dc509122b6702f2e623104c610801fa6feead327672006df1fef8", func := "murmuration/murmurationlaw06.ProgramMore", spec := "programMore", named := ["murmuration/program.fields"], apart := false, laid := [("murmuration/program.fields", laid_murmuration_program_fields)] }
def ProgramMoreSaid : Prop := programMoreRow.holds Tryd.pinned (OpenSpec.ofChange programMoreSpec)

/-- ITS FALSE NEIGHBOUR: 'it returns false'. Refute it at one input. -/
def programMoreWrong : ChangeSpec := { name := "programMore", fn := fun _ => fun
  | [d1, d2] => { results := [.lit (.bool false)], args := [d1, d2] }
  | _ => none }
def ProgramMoreWrongFalsely : Prop := programMoreRow.holds Tryd.pinned (OpenSpec.ofChange programMoreWrong)

/-- 'murmurationlaw15.GraphOrders': WHATEVER THE INPUT: true; the input reads as it did. -/
def graphOrdersSpec : ChangeSpec := { name := "graphOrders", fn := fun _ => fun
  | [d1, d2, d3] => { results := [.lit (.bool true)], args := [d1, d2, d3] }
  | _ => none }
def graphOrdersRow : OpenClaim := { program := "ytbadkkilblgpmaadoor", sum := "16bcef7fdb5dc509122b6702f2e623104c610801fa6feead327672006df1fef8", func := "murmuration/murmurationlaw15.GraphOrders", spec := "graphOrders", inPlace := ["internal/bytealg.abigen_runtime_cmpstring"], unfollowed := true, recurses := true, named := ["murmuration/program.fields"], apart := false, laid := [("murmuration/program.fields", laid_murmuration_program_fields)] }
def GraphOrdersSaid : Prop := graphOrdersRow.holds Tryd.pinned (OpenSpec.ofChange graphOrdersSpec)

/-- ITS FALSE NEIGHBOUR: 'it returns false'. Refute it at one input. -/
def graphOrdersWrong : ChangeSpec := { name := "graphOrders", fn := fun _ => fun
  | [d1, d2, d3] => { results := [.lit (.bool false)], args := [d1, d2, d3] }
  | _ => none }
def GraphOrdersWrongFalsely : Prop := graphOrdersRow.holds Tryd.pinned (OpenSpec.ofChange graphOrdersWrong)

/-- 'murmurationlaw15.GraphRight': WHATEVER THE INPUT: true; the input reads as it did. -/
def graphRightSpec : ChangeSpec := { name := "graphRight", fn := fun _ => fun
  | [d1, d2] => { results := [.lit (.bool true)], args := [d1, d2] }
  | _ => none }
def graphRightRow : OpenClaim := { program := "ytbadkkilblgpmaadoor", sum := "16bcef7fdb5dc509122b6702f2e623104c610801fa6feead327672006df1fef8", func := "murmuration/murmurationlaw15.GraphRight", spec := "graphRight", inPlace := ["internal/bytealg.abigen_runtime_cmpstring"], unfollowed := true, recurses := true, named := ["murmuration/program.fields"], apart := false, laid := [("murmuration/program.fields", laid_murmuration_program_fields)] }
def GraphRightSaid : Prop := graphRightRow.holds Tryd.pinned (OpenSpec.ofChange graphRightSpec)

/-- ITS FALSE NEIGHBOUR: 'it returns false'. Refute it at one input. -/
def graphRightWrong : ChangeSpec := { name := "graphRight", fn := fun _ => fun
  | [d1, d2] => { results := [.lit (.bool false)], args := [d1, d2] }
  | _ => none }
def GraphRightWrongFalsely : Prop := graphRightRow.holds Tryd.pinned (OpenSpec.ofChange graphRightWrong)

/-- 'murmurationlaw15.GraphDirty': WHATEVER THE INPUT: true; the input reads as it did. -/
def graphDirtySpec : ChangeSpec := { name := "graphDirty", fn := fun _ => fun
  | [d1, d2, d3] => { results := [.lit (.bool true)], args := [d1, d2, d3] }
  | _ => none }
def graphDirtyRow : OpenClaim := { program := "ytbadkkilblgpmaadoor", sum := "16bcef7fdb5dc509122b6702f2e623104c610801fa6feead327672006df1fef8", func := "murmuration/murmurationlaw15.GraphDirty", spec := "graphDirty", inPlace := ["internal/bytealg.abigen_runtime_cmpstring"], unfollowed := true, recurses := true, named := ["murmuration/program.fields"], apart := false, laid := [("murmuration/program.fields", laid_murmuration_program_fields)] }
def GraphDirtySaid : Prop := graphDirtyRow.holds Tryd.pinned (OpenSpec.ofChange graphDirtySpec)

/-- ITS FALSE NEIGHBOUR: 'it returns false'. Refute it at one input. -/
def graphDirtyWrong : ChangeSpec := { name := "graphDirty", fn := fun _ => fun
  | [d1, d2, d3] => { results := [.lit (.bool false)], args := [d1, d2, d3] }
  | _ => none }
def GraphDirtyWrongFalsely : Prop := graphDirtyRow.holds Tryd.pinned (OpenSpec.ofChange graphDirtyWrong)

/-- 'murmurationlaw15.GraphNames': WHATEVER THE INPUT: true; the input reads as it did. -/
def graphNamesSpec : ChangeSpec := { name := "graphNames", fn := fun _ => fun
  | [d1, d2] => { results := [.lit (.bool true)], args := [d1, d2] }
  | _ => none }
def graphNamesRow : OpenClaim := { program := "ytbadkkilblgpmaadoor", sum := "16bcef7fdb5dc509122b6702f2e623104c610801fa6feead327672006df1fef8", func := "murmuration/murmurationlaw15.GraphNames", spec := "graphNames", inPlace := ["internal/bytealg.abigen_runtime_cmpstring"], unfollowed := true, recurses := true, named := ["murmuration/program.fields"], apart := false, laid := [("murmuration/program.fields", laid_murmuration_program_fields)] }
def GraphNamesSaid : Prop := graphNamesRow.holds Tryd.pinned (OpenSpec.ofChange graphNamesSpec)

/-- ITS FALSE NEIGHBOUR: 'it returns false'. Refute it at one input. -/
def graphNamesWrong : ChangeSpec := { name := "graphNames", fn := fun _ => fun
  | [d1, d2] => { results := [.lit (.bool false)], args := [d1, d2] }
  | _ => none }
def GraphNamesWrongFalsely : Prop := graphNamesRow.holds Tryd.pinned (OpenSpec.ofChange graphNamesWrong)

/-- 'murmurationlaw15.GraphEnds': WHATEVER THE INPUT: true; the input reads as it did. -/
def graphEndsSpec : ChangeSpec := { name := "graphEnds", fn := fun _ => fun
  | [d1, d2, d3] => { results := [.lit (.bool true)], args := [d1, d2, d3] }
  | _ => none }
def graphEndsRow : OpenClaim := { program := "ytbadkkilblgpmaadoor", sum := "16bcef7fdb5dc509122b6702f2e623104c610801fa6feead327672006df1fef8", func := "murmuration/murmurationlaw15.GraphEnds", spec := "graphEnds", inPlace := ["internal/bytealg.abigen_runtime_cmpstring"], unfollowed := true, recurses := true, named := ["murmuration/program.fields"], apart := false, laid := [("murmuration/program.fields", laid_murmuration_program_fields)] }
def GraphEndsSaid : Prop := graphEndsRow.holds Tryd.pinned (OpenSpec.ofChange graphEndsSpec)

/-- ITS FALSE NEIGHBOUR: 'it returns false'. Refute it at one input. -/
def graphEndsWrong : ChangeSpec := { name := "graphEnds", fn := fun _ => fun
  | [d1, d2, d3] => { results := [.lit (.bool false)], args := [d1, d2, d3] }
  | _ => none }
def GraphEndsWrongFalsely : Prop := graphEndsRow.holds Tryd.pinned (OpenSpec.ofChange graphEndsWrong)

/-- 'murmurationlaw16.PlanInputs': WHATEVER THE INPUT: true; the input reads as it did. -/
def planInputsSpec : ChangeSpec := { name := "planInputs", fn := fun _ => fun
  | [d1, d2, d3] => { results := [.lit (.bool true)], args := [d1, d2, d3] }
  | _ => none }
def planInputsRow : OpenClaim := { program := "ytbadkkilblgpmaadoor", sum := "16bcef7fdb5dc509122b6702f2e623104c610801fa6feead327672006df1fef8", func := "murmuration/murmurationlaw16.PlanInputs", spec := "planInputs", inPlace := ["internal/bytealg.abigen_runtime_cmpstring"], unfollowed := true, recurses := true, named := ["murmuration/program.fields"], apart := false, laid := [("murmuration/program.fields", laid_murmuration_program_fields)] }
def PlanInputsSaid : Prop := planInputsRow.holds Tryd.pinned (OpenSpec.ofChange planInputsSpec)

/-- ITS FALSE NEIGHBOUR: 'it returns false'. Refute it at one input. -/
def planInputsWrong : ChangeSpec := { name := "planInputs", fn := fun _ => fun
  | [d1, d2, d3] => { results := [.lit (.bool false)], args := [d1, d2, d3] }
  | _ => none }
def PlanInputsWrongFalsely : Prop := planInputsRow.holds Tryd.pinned (OpenSpec.ofChange planInputsWrong)

/-- 'murmurationlaw16.PlanBelow': WHATEVER THE INPUT: true; the input reads as it did. -/
def planBelowSpec : ChangeSpec := { name := "planBelow", fn := fun _ => fun
  | [d1, d2, d3] => { results := [.lit (.bool true)], args := [d1, d2, d3] }
  | _ => none }
def planBelowRow : OpenClaim := { program := "ytbadkkilblgpmaadoor", sum := "16bcef7fdb5dc509122b6702f2e623104c610801fa6feead327672006df1fef8", func := "murmuration/murmurationlaw16.PlanBelow", spec := "planBelow", inPlace := ["internal/bytealg.abigen_runtime_cmpstring"], unfollowed := true, recurses := true, named := ["murmuration/program.fields"], apart := false, laid := [("murmuration/program.fields", laid_murmuration_program_fields)] }
def PlanBelowSaid : Prop := planBelowRow.holds Tryd.pinned (OpenSpec.ofChange planBelowSpec)

/-- ITS FALSE NEIGHBOUR: 'it returns false'. Refute it at one input. -/
def planBelowWrong : ChangeSpec := { name := "planBelow", fn := fun _ => fun
  | [d1, d2, d3] => { results := [.lit (.bool false)], args := [d1, d2, d3] }
  | _ => none }
def PlanBelowWrongFalsely : Prop := planBelowRow.holds Tryd.pinned (OpenSpec.ofChange planBelowWrong)

/-- 'murmurationlaw16.PlanOrder': WHATEVER THE INPUT: true; the input reads as it did. -/
def planOrderSpec : ChangeSpec := { name := "planOrder", fn := fun _ => fun
  | [d1, d2, d3, d4] => { results := [.lit (.bool true)], args := [d1, d2, d3, d4] }
  | _ => none }
def planOrderRow : OpenClaim := { program := "ytbadkkilblgpmaadoor", sum := "16bcef7fdb5dc509122b6702f2e623104c610801fa6feead327672006df1fef8", func := "murmuration/murmurationlaw16.PlanOrder", spec := "planOrder", inPlace := ["internal/bytealg.abigen_runtime_cmpstring"], unfollowed := true, recurses := true, named := ["murmuration/program.fields"], apart := false, laid := [("murmuration/program.fields", laid_murmuration_program_fields)] }
def PlanOrderSaid : Prop := planOrderRow.holds Tryd.pinned (OpenSpec.ofChange planOrderSpec)

/-- ITS FALSE NEIGHBOUR: 'it returns false'. Refute it at one input. -/
def planOrderWrong : ChangeSpec := { name := "planOrder", fn := fun _ => fun
  | [d1, d2, d3, d4] => { results := [.lit (.bool false)], args := [d1, d2, d3, d4] }
  | _ => none }
def PlanOrderWrongFalsely : Prop := planOrderRow.holds Tryd.pinned (OpenSpec.ofChange planOrderWrong)

/-- 'murmurationlaw16.PlanGrows': WHATEVER THE INPUT: true; the input reads as it did. -/
def planGrowsSpec : ChangeSpec := { name := "planGrows", fn := fun _ => fun
  | [d1, d2, d3, d4, d5] => { results := [.lit (.bool true)], args := [d1, d2, d3, d4, d5] }
  | _ => none }
def planGrowsRow : OpenClaim := { program := "ytbadkkilblgpmaadoor", sum := "16bcef7fdb5dc509122b6702f2e623104c610801fa6feead327672006df1fef8", func := "murmuration/murmurationlaw16.PlanGrows", spec := "planGrows", inPlace := ["internal/bytealg.abigen_runtime_cmpstring"], unfollowed := true, recurses := true, named := ["murmuration/program.fields"], apart := false, laid := [("murmuration/program.fields", laid_murmuration_program_fields)] }
def PlanGrowsSaid : Prop := planGrowsRow.holds Tryd.pinned (OpenSpec.ofChange planGrowsSpec)

/-- ITS FALSE NEIGHBOUR: 'it returns false'. Refute it at one input. -/
def planGrowsWrong : ChangeSpec := { name := "planGrows", fn := fun _ => fun
  | [d1, d2, d3, d4, d5] => { results := [.lit (.bool false)], args := [d1, d2, d3, d4, d5] }
  | _ => none }
def PlanGrowsWrongFalsely : Prop := planGrowsRow.holds Tryd.pinned (OpenSpec.ofChange planGrowsWrong)

/- THE SECOND FORM. 'bulk': how many values and letters a reading holds, each counted each time it is reached (what is shared counts as often as it is met; a slice's spare places count too). A statement '..UptoSaid' is the law's where the arguments, and the package variables that the reading takes, are together of bulk at most 1048576: NARROWER than '..Said'. Prove '..Said' where nothing that the law and all that it calls make is longer than what came in: it says more and counts as full. Else prove '..UptoSaid'. A law counts once. -/
mutual
def uptoBulk {H : Type} : DataW H → Nat
  | .lit (.string bytes) => bytes.length + 1
  | .lit _ => 1
  | .nil => 1
  | .ptr d => uptoBulk d + 1
  | .slice elems spare => uptoBulkAll elems + uptoBulkAll spare + 1
  | .agg parts => uptoBulkAll parts + 1
  | .iface _ d => uptoBulk d + 1
  | .map entries => uptoBulkEntries entries + 1
  | .held _ => 1
def uptoBulkAll {H : Type} : List (DataW H) → Nat
  | [] => 0
  | d :: r => uptoBulk d + uptoBulkAll r
def uptoBulkEntries {H : Type} : List (Lit × DataW H) → Nat
  | [] => 0
  | x :: r => uptoBulkEntry x + uptoBulkEntries r
def uptoBulkEntry {H : Type} : Lit × DataW H → Nat
  | (.string bytes, d) => bytes.length + uptoBulk d + 1
  | (_, d) => uptoBulk d + 1
 end
def uptoSmall : (H : Type) → List (DataW H) → Bool := fun _ ds => decide (uptoBulkAll ds ≤ 1048576)
def OpenSpec.upto (s : _root_.Go.ChangeSpec) : _root_.Go.OpenSpec := { _root_.Go.OpenSpec.ofChange s with cond := some uptoSmall }

/-- 'murmurationlaw01.ShaSums', WHERE WHAT IT READS IS OF BULK AT MOST 1048576: true; the input reads as it did. -/
def shaSumsUptoRow : OpenClaim := { program := "ytbadkkilblgpmaadoor", sum := "16bcef7fdb5dc509122b6702f2e623104c610801fa6feead327672006df1fef8", func := "murmuration/murmurationlaw01.ShaSums", spec := "shaSums", named := ["murmuration/sha.firstWords", "murmuration/sha.roundWords"], apart := false, laid := [("murmuration/sha.roundWords", laid_murmuration_sha_roundWords), ("murmuration/sha.firstWords", laid_murmuration_sha_firstWords)], narrowed := true }
def ShaSumsUptoSaid : Prop := shaSumsUptoRow.holds Tryd.pinned (OpenSpec.upto shaSumsSpec)

/-- 'murmurationlaw01.ShaParts', WHERE WHAT IT READS IS OF BULK AT MOST 1048576: true; the input reads as it did. -/
def shaPartsUptoRow : OpenClaim := { program := "ytbadkkilblgpmaadoor", sum := "16bcef7fdb5dc509122b6702f2e623104c610801fa6feead327672006df1fef8", func := "murmuration/murmurationlaw01.ShaParts", spec := "shaParts", named := ["murmuration/sha.firstWords", "murmuration/sha.roundWords"], apart := false, laid := [("murmuration/sha.roundWords", laid_murmuration_sha_roundWords), ("murmuration/sha.firstWords", laid_murmuration_sha_firstWords)], narrowed := true }
def ShaPartsUptoSaid : Prop := shaPartsUptoRow.holds Tryd.pinned (OpenSpec.upto shaPartsSpec)

/-- 'murmurationlaw01.ShaLong', WHERE WHAT IT READS IS OF BULK AT MOST 1048576: true; the input reads as it did. -/
def shaLongUptoRow : OpenClaim := { program := "ytbadkkilblgpmaadoor", sum := "16bcef7fdb5dc509122b6702f2e623104c610801fa6feead327672006df1fef8", func := "murmuration/murmurationlaw01.ShaLong", spec := "shaLong", named := ["murmuration/sha.firstWords", "murmuration/sha.roundWords"], apart := false, laid := [("murmuration/sha.roundWords", laid_murmuration_sha_roundWords), ("murmuration/sha.firstWords", laid_murmuration_sha_firstWords)], narrowed := true }
def ShaLongUptoSaid : Prop := shaLongUptoRow.holds Tryd.pinned (OpenSpec.upto shaLongSpec)

/-- 'murmurationlaw05.TreeForms', WHERE WHAT IT READS IS OF BULK AT MOST 1048576: true; the input reads as it did. -/
def treeFormsUptoRow : OpenClaim := { program := "ytbadkkilblgpmaadoor", sum := "16bcef7fdb5dc509122b6702f2e623104c610801fa6feead327672006df1fef8", func := "murmuration/murmurationlaw05.TreeForms", spec := "treeForms", inPlace := ["internal/bytealg.abigen_runtime_cmpstring"], unfollowed := true, recurses := true, named := ["murmuration/sha.firstWords", "murmuration/sha.roundWords"], apart := false, laid := [("murmuration/sha.roundWords", laid_murmuration_sha_roundWords), ("murmuration/sha.firstWords", laid_murmuration_sha_firstWords)], narrowed := true }
def TreeFormsUptoSaid : Prop := treeFormsUptoRow.holds Tryd.pinned (OpenSpec.upto treeFormsSpec)

/-- 'murmurationlaw05.TreeRoots', WHERE WHAT IT READS IS OF BULK AT MOST 1048576: true; the input reads as it did. -/
def treeRootsUptoRow : OpenClaim := { program := "ytbadkkilblgpmaadoor", sum := "16bcef7fdb5dc509122b6702f2e623104c610801fa6feead327672006df1fef8", func := "murmuration/murmurationlaw05.TreeRoots", spec := "treeRoots", inPlace := ["internal/bytealg.abigen_runtime_cmpstring"], unfollowed := true, recurses := true, named := ["murmuration/sha.firstWords", "murmuration/sha.roundWords"], apart := false, laid := [("murmuration/sha.roundWords", laid_murmuration_sha_roundWords), ("murmuration/sha.firstWords", laid_murmuration_sha_firstWords)], narrowed := true }
def TreeRootsUptoSaid : Prop := treeRootsUptoRow.holds Tryd.pinned (OpenSpec.upto treeRootsSpec)

/-- 'murmurationlaw06.ProgramForms', WHERE WHAT IT READS IS OF BULK AT MOST 1048576: true; the input reads as it did. -/
def programFormsUptoRow : OpenClaim := { program := "ytbadkkilblgpmaadoor", sum := "16bcef7fdb5dc509122b6702f2e623104c610801fa6feead327672006df1fef8", func := "murmuration/murmurationlaw06.ProgramForms", spec := "programForms", named := ["murmuration/program.fields"], apart := false, laid := [("murmuration/program.fields", laid_murmuration_program_fields)], narrowed := true }
def ProgramFormsUptoSaid : Prop := programFormsUptoRow.holds Tryd.pinned (OpenSpec.upto programFormsSpec)

/-- 'murmurationlaw06.ProgramReads', WHERE WHAT IT READS IS OF BULK AT MOST 1048576: true; the input reads as it did. -/
def programReadsUptoRow : OpenClaim := { program := "ytbadkkilblgpmaadoor", sum := "16bcef7fdb5dc509122b6702f2e623104c610801fa6feead327672006df1fef8", func := "murmuration/murmurationlaw06.ProgramReads", spec := "programReads", named := ["murmuration/program.fields"], apart := false, laid := [("murmuration/program.fields", laid_murmuration_program_fields)], narrowed := true }
def ProgramReadsUptoSaid : Prop := programReadsUptoRow.holds Tryd.pinned (OpenSpec.upto programReadsSpec)

/-- 'murmurationlaw06.ProgramOnly', WHERE WHAT IT READS IS OF BULK AT MOST 1048576: true; the input reads as it did. -/
def programOnlyUptoRow : OpenClaim := { program := "ytbadkkilblgpmaadoor", sum := "16bcef7fdb5dc509122b6702f2e623104c610801fa6feead327672006df1fef8", func := "murmuration/murmurationlaw06.ProgramOnly", spec := "programOnly", named := ["murmuration/program.fields"], apart := false, laid := [("murmuration/program.fields", laid_murmuration_program_fields)], narrowed := true }
def ProgramOnlyUptoSaid : Prop := programOnlyUptoRow.holds Tryd.pinned (OpenSpec.upto programOnlySpec)

/-- 'murmurationlaw06.ProgramMore', WHERE WHAT IT READS IS OF BULK AT MOST 1048576: true; the input reads as it did. -/
def programMoreUptoRow : OpenClaim := { program := "ytbadkkilblgpmaadoor", sum := "16bcef7fdb5dc509122b6702f2e623104c610801fa6feead327672006df1fef8", func := "murmuration/murmurationlaw06.ProgramMore", spec := "programMore", named := ["murmuration/program.fields"], apart := false, laid := [("murmuration/program.fields", laid_murmuration_program_fields)], narrowed := true }
def ProgramMoreUptoSaid : Prop := programMoreUptoRow.holds Tryd.pinned (OpenSpec.upto programMoreSpec)

/-- 'murmurationlaw15.GraphOrders', WHERE WHAT IT READS IS OF BULK AT MOST 1048576: true; the input reads as it did. -/
def graphOrdersUptoRow : OpenClaim := { program := "ytbadkkilblgpmaadoor", sum := "16bcef7fdb5dc509122b6702f2e623104c610801fa6feead327672006df1fef8", func := "murmuration/murmurationlaw15.GraphOrders", spec := "graphOrders", inPlace := ["internal/bytealg.abigen_runtime_cmpstring"], unfollowed := true, recurses := true, named := ["murmuration/program.fields"], apart := false, laid := [("murmuration/program.fields", laid_murmuration_program_fields)], narrowed := true }
def GraphOrdersUptoSaid : Prop := graphOrdersUptoRow.holds Tryd.pinned (OpenSpec.upto graphOrdersSpec)

/-- 'murmurationlaw15.GraphRight', WHERE WHAT IT READS IS OF BULK AT MOST 1048576: true; the input reads as it did. -/
def graphRightUptoRow : OpenClaim := { program := "ytbadkkilblgpmaadoor", sum := "16bcef7fdb5dc509122b6702f2e623104c610801fa6feead327672006df1fef8", func := "murmuration/murmurationlaw15.GraphRight", spec := "graphRight", inPlace := ["internal/bytealg.abigen_runtime_cmpstring"], unfollowed := true, recurses := true, named := ["murmuration/program.fields"], apart := false, laid := [("murmuration/program.fields", laid_murmuration_program_fields)], narrowed := true }
def GraphRightUptoSaid : Prop := graphRightUptoRow.holds Tryd.pinned (OpenSpec.upto graphRightSpec)

/-- 'murmurationlaw15.GraphDirty', WHERE WHAT IT READS IS OF BULK AT MOST 1048576: true; the input reads as it did. -/
def graphDirtyUptoRow : OpenClaim := { program := "ytbadkkilblgpmaadoor", sum := "16bcef7fdb5dc509122b6702f2e623104c610801fa6feead327672006df1fef8", func := "murmuration/murmurationlaw15.GraphDirty", spec := "graphDirty", inPlace := ["internal/bytealg.abigen_runtime_cmpstring"], unfollowed := true, recurses := true, named := ["murmuration/program.fields"], apart := false, laid := [("murmuration/program.fields", laid_murmuration_program_fields)], narrowed := true }
def GraphDirtyUptoSaid : Prop := graphDirtyUptoRow.holds Tryd.pinned (OpenSpec.upto graphDirtySpec)

/-- 'murmurationlaw15.GraphNames', WHERE WHAT IT READS IS OF BULK AT MOST 1048576: true; the input reads as it did. -/
def graphNamesUptoRow : OpenClaim := { program := "ytbadkkilblgpmaadoor", sum := "16bcef7fdb5dc509122b6702f2e623104c610801fa6feead327672006df1fef8", func := "murmuration/murmurationlaw15.GraphNames", spec := "graphNames", inPlace := ["internal/bytealg.abigen_runtime_cmpstring"], unfollowed := true, recurses := true, named := ["murmuration/program.fields"], apart := false, laid := [("murmuration/program.fields", laid_murmuration_program_fields)], narrowed := true }
def GraphNamesUptoSaid : Prop := graphNamesUptoRow.holds Tryd.pinned (OpenSpec.upto graphNamesSpec)

/-- 'murmurationlaw15.GraphEnds', WHERE WHAT IT READS IS OF BULK AT MOST 1048576: true; the input reads as it did. -/
def graphEndsUptoRow : OpenClaim := { program := "ytbadkkilblgpmaadoor", sum := "16bcef7fdb5dc509122b6702f2e623104c610801fa6feead327672006df1fef8", func := "murmuration/murmurationlaw15.GraphEnds", spec := "graphEnds", inPlace := ["internal/bytealg.abigen_runtime_cmpstring"], unfollowed := true, recurses := true, named := ["murmuration/program.fields"], apart := false, laid := [("murmuration/program.fields", laid_murmuration_program_fields)], narrowed := true }
def GraphEndsUptoSaid : Prop := graphEndsUptoRow.holds Tryd.pinned (OpenSpec.upto graphEndsSpec)

/-- 'murmurationlaw16.PlanInputs', WHERE WHAT IT READS IS OF BULK AT MOST 1048576: true; the input reads as it did. -/
def planInputsUptoRow : OpenClaim := { program := "ytbadkkilblgpmaadoor", sum := "16bcef7fdb5dc509122b6702f2e623104c610801fa6feead327672006df1fef8", func := "murmuration/murmurationlaw16.PlanInputs", spec := "planInputs", inPlace := ["internal/bytealg.abigen_runtime_cmpstring"], unfollowed := true, recurses := true, named := ["murmuration/program.fields"], apart := false, laid := [("murmuration/program.fields", laid_murmuration_program_fields)], narrowed := true }
def PlanInputsUptoSaid : Prop := planInputsUptoRow.holds Tryd.pinned (OpenSpec.upto planInputsSpec)

/-- 'murmurationlaw16.PlanBelow', WHERE WHAT IT READS IS OF BULK AT MOST 1048576: true; the input reads as it did. -/
def planBelowUptoRow : OpenClaim := { program := "ytbadkkilblgpmaadoor", sum := "16bcef7fdb5dc509122b6702f2e623104c610801fa6feead327672006df1fef8", func := "murmuration/murmurationlaw16.PlanBelow", spec := "planBelow", inPlace := ["internal/bytealg.abigen_runtime_cmpstring"], unfollowed := true, recurses := true, named := ["murmuration/program.fields"], apart := false, laid := [("murmuration/program.fields", laid_murmuration_program_fields)], narrowed := true }
def PlanBelowUptoSaid : Prop := planBelowUptoRow.holds Tryd.pinned (OpenSpec.upto planBelowSpec)

/-- 'murmurationlaw16.PlanOrder', WHERE WHAT IT READS IS OF BULK AT MOST 1048576: true; the input reads as it did. -/
def planOrderUptoRow : OpenClaim := { program := "ytbadkkilblgpmaadoor", sum := "16bcef7fdb5dc509122b6702f2e623104c610801fa6feead327672006df1fef8", func := "murmuration/murmurationlaw16.PlanOrder", spec := "planOrder", inPlace := ["internal/bytealg.abigen_runtime_cmpstring"], unfollowed := true, recurses := true, named := ["murmuration/program.fields"], apart := false, laid := [("murmuration/program.fields", laid_murmuration_program_fields)], narrowed := true }
def PlanOrderUptoSaid : Prop := planOrderUptoRow.holds Tryd.pinned (OpenSpec.upto planOrderSpec)

/-- 'murmurationlaw16.PlanGrows', WHERE WHAT IT READS IS OF BULK AT MOST 1048576: true; the input reads as it did. -/
def planGrowsUptoRow : OpenClaim := { program := "ytbadkkilblgpmaadoor", sum := "16bcef7fdb5dc509122b6702f2e623104c610801fa6feead327672006df1fef8", func := "murmuration/murmurationlaw16.PlanGrows", spec := "planGrows", inPlace := ["internal/bytealg.abigen_runtime_cmpstring"], unfollowed := true, recurses := true, named := ["murmuration/program.fields"], apart := false, laid := [("murmuration/program.fields", laid_murmuration_program_fields)], narrowed := true }
def PlanGrowsUptoSaid : Prop := planGrowsUptoRow.holds Tryd.pinned (OpenSpec.upto planGrowsSpec)

end Rows
end Go.Proofs.YtbadkkilblgpmaaDoor
