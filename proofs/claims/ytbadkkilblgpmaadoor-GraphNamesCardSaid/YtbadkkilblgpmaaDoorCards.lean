/-
  DERIVED. GIVEN WITH THE SEED: THE CARDS: each row of YtbadkkilblgpmaaDoorRows.lean that lists a variable, with what it lists TIED to the program's text (the seventh form; the later family's looks); each row that meets fmt, with fmt's text TOLD by the authors' own Lean function (tested against real Go, not proved from fmt's source: count such statements apart). THE CARD IS WHAT COUNTS. Prove the row's statement (the work); the ties are given (YtbadkkilblgpmaaDoorTie.lean); close each card by the builder's one call (the guide's Derived/Test/ToyasCard.lean, 'card_holds'). Laid BY PROGRAM, IN A SANDBOX (cutbox-door.mjs). By AI agents, Wed Nov 11 2026. No macro, syntax, notation, axiom, sorry.
-/
import Derived.Test.YtbadkkilblgpmaaDoorRows
import GoSem.ClaimSeven
namespace Go.Proofs.YtbadkkilblgpmaaDoor
namespace Rows

/-- THE TIED CARD OF 'murmurationlaw01.ShaSums'. -/
def shaSumsCard : Claim7 := { stood := { row := shaSumsRow, standIns := [], harness := (true, "5c8649663a603df984334e8b882f2ca833624ba6e21d51dc1c512a01fa069efd"), looks := false }, kinds := [], alts := [], laidByText := true, laidKinds := [.data, .data], laidTests := true, laidLooks := .later }
def ShaSumsCardSaid : Prop := Claim7.holds Tryd.pinned (.plain (OpenSpec.ofChange shaSumsSpec)) shaSumsCard

/-- THE TIED CARD OF 'murmurationlaw01.ShaParts'. -/
def shaPartsCard : Claim7 := { stood := { row := shaPartsRow, standIns := [], harness := (true, "5c8649663a603df984334e8b882f2ca833624ba6e21d51dc1c512a01fa069efd"), looks := false }, kinds := [], alts := [], laidByText := true, laidKinds := [.data, .data], laidTests := true, laidLooks := .later }
def ShaPartsCardSaid : Prop := Claim7.holds Tryd.pinned (.plain (OpenSpec.ofChange shaPartsSpec)) shaPartsCard

/-- THE TIED CARD OF 'murmurationlaw01.ShaLong'. -/
def shaLongCard : Claim7 := { stood := { row := shaLongRow, standIns := [], harness := (true, "5c8649663a603df984334e8b882f2ca833624ba6e21d51dc1c512a01fa069efd"), looks := false }, kinds := [], alts := [], laidByText := true, laidKinds := [.data, .data], laidTests := true, laidLooks := .later }
def ShaLongCardSaid : Prop := Claim7.holds Tryd.pinned (.plain (OpenSpec.ofChange shaLongSpec)) shaLongCard

/-- THE TIED CARD OF 'murmurationlaw05.TreeForms'. -/
def treeFormsCard : Claim7 := { stood := { row := treeFormsRow, standIns := [], harness := (true, "5c8649663a603df984334e8b882f2ca833624ba6e21d51dc1c512a01fa069efd"), looks := false }, kinds := [], alts := [], laidByText := true, laidKinds := [.data, .data], laidTests := true, laidLooks := .later }
def TreeFormsCardSaid : Prop := Claim7.holds Tryd.pinned (.plain (OpenSpec.ofChange treeFormsSpec)) treeFormsCard

/-- THE TIED CARD OF 'murmurationlaw05.TreeRoots'. -/
def treeRootsCard : Claim7 := { stood := { row := treeRootsRow, standIns := [], harness := (true, "5c8649663a603df984334e8b882f2ca833624ba6e21d51dc1c512a01fa069efd"), looks := false }, kinds := [], alts := [], laidByText := true, laidKinds := [.data, .data], laidTests := true, laidLooks := .later }
def TreeRootsCardSaid : Prop := Claim7.holds Tryd.pinned (.plain (OpenSpec.ofChange treeRootsSpec)) treeRootsCard

/-- THE TIED CARD OF 'murmurationlaw06.ProgramForms'. -/
def programFormsCard : Claim7 := { stood := { row := programFormsRow, standIns := [], harness := (true, "5c8649663a603df984334e8b882f2ca833624ba6e21d51dc1c512a01fa069efd"), looks := false }, kinds := [], alts := [], laidByText := true, laidKinds := [.data], laidTests := true, laidLooks := .later }
def ProgramFormsCardSaid : Prop := Claim7.holds Tryd.pinned (.plain (OpenSpec.ofChange programFormsSpec)) programFormsCard

/-- THE TIED CARD OF 'murmurationlaw06.ProgramReads'. -/
def programReadsCard : Claim7 := { stood := { row := programReadsRow, standIns := [], harness := (true, "5c8649663a603df984334e8b882f2ca833624ba6e21d51dc1c512a01fa069efd"), looks := false }, kinds := [], alts := [], laidByText := true, laidKinds := [.data], laidTests := true, laidLooks := .later }
def ProgramReadsCardSaid : Prop := Claim7.holds Tryd.pinned (.plain (OpenSpec.ofChange programReadsSpec)) programReadsCard

/-- THE TIED CARD OF 'murmurationlaw06.ProgramOnly'. -/
def programOnlyCard : Claim7 := { stood := { row := programOnlyRow, standIns := [], harness := (true, "5c8649663a603df984334e8b882f2ca833624ba6e21d51dc1c512a01fa069efd"), looks := false }, kinds := [], alts := [], laidByText := true, laidKinds := [.data], laidTests := true, laidLooks := .later }
def ProgramOnlyCardSaid : Prop := Claim7.holds Tryd.pinned (.plain (OpenSpec.ofChange programOnlySpec)) programOnlyCard

/-- THE TIED CARD OF 'murmurationlaw06.ProgramMore'. -/
def programMoreCard : Claim7 := { stood := { row := programMoreRow, standIns := [], harness := (true, "5c8649663a603df984334e8b882f2ca833624ba6e21d51dc1c512a01fa069efd"), looks := false }, kinds := [], alts := [], laidByText := true, laidKinds := [.data], laidTests := true, laidLooks := .later }
def ProgramMoreCardSaid : Prop := Claim7.holds Tryd.pinned (.plain (OpenSpec.ofChange programMoreSpec)) programMoreCard

/-- THE TIED CARD OF 'murmurationlaw15.GraphOrders'. -/
def graphOrdersCard : Claim7 := { stood := { row := graphOrdersRow, standIns := [], harness := (true, "5c8649663a603df984334e8b882f2ca833624ba6e21d51dc1c512a01fa069efd"), looks := false }, kinds := [], alts := [], laidByText := true, laidKinds := [.data], laidTests := true, laidLooks := .later }
def GraphOrdersCardSaid : Prop := Claim7.holds Tryd.pinned (.plain (OpenSpec.ofChange graphOrdersSpec)) graphOrdersCard

/-- THE TIED CARD OF 'murmurationlaw15.GraphRight'. -/
def graphRightCard : Claim7 := { stood := { row := graphRightRow, standIns := [], harness := (true, "5c8649663a603df984334e8b882f2ca833624ba6e21d51dc1c512a01fa069efd"), looks := false }, kinds := [], alts := [], laidByText := true, laidKinds := [.data], laidTests := true, laidLooks := .later }
def GraphRightCardSaid : Prop := Claim7.holds Tryd.pinned (.plain (OpenSpec.ofChange graphRightSpec)) graphRightCard

/-- THE TIED CARD OF 'murmurationlaw15.GraphDirty'. -/
def graphDirtyCard : Claim7 := { stood := { row := graphDirtyRow, standIns := [], harness := (true, "5c8649663a603df984334e8b882f2ca833624ba6e21d51dc1c512a01fa069efd"), looks := false }, kinds := [], alts := [], laidByText := true, laidKinds := [.data], laidTests := true, laidLooks := .later }
def GraphDirtyCardSaid : Prop := Claim7.holds Tryd.pinned (.plain (OpenSpec.ofChange graphDirtySpec)) graphDirtyCard

/-- THE TIED CARD OF 'murmurationlaw15.GraphNames'. -/
def graphNamesCard : Claim7 := { stood := { row := graphNamesRow, standIns := [], harness := (true, "5c8649663a603df984334e8b882f2ca833624ba6e21d51dc1c512a01fa069efd"), looks := false }, kinds := [], alts := [], laidByText := true, laidKinds := [.data], laidTests := true, laidLooks := .later }
def GraphNamesCardSaid : Prop := Claim7.holds Tryd.pinned (.plain (OpenSpec.ofChange graphNamesSpec)) graphNamesCard

/-- THE TIED CARD OF 'murmurationlaw15.GraphEnds'. -/
def graphEndsCard : Claim7 := { stood := { row := graphEndsRow, standIns := [], harness := (true, "5c8649663a603df984334e8b882f2ca833624ba6e21d51dc1c512a01fa069efd"), looks := false }, kinds := [], alts := [], laidByText := true, laidKinds := [.data], laidTests := true, laidLooks := .later }
def GraphEndsCardSaid : Prop := Claim7.holds Tryd.pinned (.plain (OpenSpec.ofChange graphEndsSpec)) graphEndsCard

/-- THE TIED CARD OF 'murmurationlaw16.PlanInputs'. -/
def planInputsCard : Claim7 := { stood := { row := planInputsRow, standIns := [], harness := (true, "5c8649663a603df984334e8b882f2ca833624ba6e21d51dc1c512a01fa069efd"), looks := false }, kinds := [], alts := [], laidByText := true, laidKinds := [.data], laidTests := true, laidLooks := .later }
def PlanInputsCardSaid : Prop := Claim7.holds Tryd.pinned (.plain (OpenSpec.ofChange planInputsSpec)) planInputsCard

/-- THE TIED CARD OF 'murmurationlaw16.PlanBelow'. -/
def planBelowCard : Claim7 := { stood := { row := planBelowRow, standIns := [], harness := (true, "5c8649663a603df984334e8b882f2ca833624ba6e21d51dc1c512a01fa069efd"), looks := false }, kinds := [], alts := [], laidByText := true, laidKinds := [.data], laidTests := true, laidLooks := .later }
def PlanBelowCardSaid : Prop := Claim7.holds Tryd.pinned (.plain (OpenSpec.ofChange planBelowSpec)) planBelowCard

/-- THE TIED CARD OF 'murmurationlaw16.PlanOrder'. -/
def planOrderCard : Claim7 := { stood := { row := planOrderRow, standIns := [], harness := (true, "5c8649663a603df984334e8b882f2ca833624ba6e21d51dc1c512a01fa069efd"), looks := false }, kinds := [], alts := [], laidByText := true, laidKinds := [.data], laidTests := true, laidLooks := .later }
def PlanOrderCardSaid : Prop := Claim7.holds Tryd.pinned (.plain (OpenSpec.ofChange planOrderSpec)) planOrderCard

/-- THE TIED CARD OF 'murmurationlaw16.PlanGrows'. -/
def planGrowsCard : Claim7 := { stood := { row := planGrowsRow, standIns := [], harness := (true, "5c8649663a603df984334e8b882f2ca833624ba6e21d51dc1c512a01fa069efd"), looks := false }, kinds := [], alts := [], laidByText := true, laidKinds := [.data], laidTests := true, laidLooks := .later }
def PlanGrowsCardSaid : Prop := Claim7.holds Tryd.pinned (.plain (OpenSpec.ofChange planGrowsSpec)) planGrowsCard

/-- THE SECOND FORM's CARD OF 'murmurationlaw01.ShaSums'. -/
def shaSumsUptoCard : Claim7 := { stood := { row := shaSumsUptoRow, standIns := [], harness := (true, "5c8649663a603df984334e8b882f2ca833624ba6e21d51dc1c512a01fa069efd"), looks := false }, kinds := [], alts := [], laidByText := true, laidKinds := [.data, .data], laidTests := true, laidLooks := .later }
def ShaSumsUptoCardSaid : Prop := Claim7.holds Tryd.pinned (.plain (OpenSpec.upto shaSumsSpec)) shaSumsUptoCard

/-- THE SECOND FORM's CARD OF 'murmurationlaw01.ShaParts'. -/
def shaPartsUptoCard : Claim7 := { stood := { row := shaPartsUptoRow, standIns := [], harness := (true, "5c8649663a603df984334e8b882f2ca833624ba6e21d51dc1c512a01fa069efd"), looks := false }, kinds := [], alts := [], laidByText := true, laidKinds := [.data, .data], laidTests := true, laidLooks := .later }
def ShaPartsUptoCardSaid : Prop := Claim7.holds Tryd.pinned (.plain (OpenSpec.upto shaPartsSpec)) shaPartsUptoCard

/-- THE SECOND FORM's CARD OF 'murmurationlaw01.ShaLong'. -/
def shaLongUptoCard : Claim7 := { stood := { row := shaLongUptoRow, standIns := [], harness := (true, "5c8649663a603df984334e8b882f2ca833624ba6e21d51dc1c512a01fa069efd"), looks := false }, kinds := [], alts := [], laidByText := true, laidKinds := [.data, .data], laidTests := true, laidLooks := .later }
def ShaLongUptoCardSaid : Prop := Claim7.holds Tryd.pinned (.plain (OpenSpec.upto shaLongSpec)) shaLongUptoCard

/-- THE SECOND FORM's CARD OF 'murmurationlaw05.TreeForms'. -/
def treeFormsUptoCard : Claim7 := { stood := { row := treeFormsUptoRow, standIns := [], harness := (true, "5c8649663a603df984334e8b882f2ca833624ba6e21d51dc1c512a01fa069efd"), looks := false }, kinds := [], alts := [], laidByText := true, laidKinds := [.data, .data], laidTests := true, laidLooks := .later }
def TreeFormsUptoCardSaid : Prop := Claim7.holds Tryd.pinned (.plain (OpenSpec.upto treeFormsSpec)) treeFormsUptoCard

/-- THE SECOND FORM's CARD OF 'murmurationlaw05.TreeRoots'. -/
def treeRootsUptoCard : Claim7 := { stood := { row := treeRootsUptoRow, standIns := [], harness := (true, "5c8649663a603df984334e8b882f2ca833624ba6e21d51dc1c512a01fa069efd"), looks := false }, kinds := [], alts := [], laidByText := true, laidKinds := [.data, .data], laidTests := true, laidLooks := .later }
def TreeRootsUptoCardSaid : Prop := Claim7.holds Tryd.pinned (.plain (OpenSpec.upto treeRootsSpec)) treeRootsUptoCard

/-- THE SECOND FORM's CARD OF 'murmurationlaw06.ProgramForms'. -/
def programFormsUptoCard : Claim7 := { stood := { row := programFormsUptoRow, standIns := [], harness := (true, "5c8649663a603df984334e8b882f2ca833624ba6e21d51dc1c512a01fa069efd"), looks := false }, kinds := [], alts := [], laidByText := true, laidKinds := [.data], laidTests := true, laidLooks := .later }
def ProgramFormsUptoCardSaid : Prop := Claim7.holds Tryd.pinned (.plain (OpenSpec.upto programFormsSpec)) programFormsUptoCard

/-- THE SECOND FORM's CARD OF 'murmurationlaw06.ProgramReads'. -/
def programReadsUptoCard : Claim7 := { stood := { row := programReadsUptoRow, standIns := [], harness := (true, "5c8649663a603df984334e8b882f2ca833624ba6e21d51dc1c512a01fa069efd"), looks := false }, kinds := [], alts := [], laidByText := true, laidKinds := [.data], laidTests := true, laidLooks := .later }
def ProgramReadsUptoCardSaid : Prop := Claim7.holds Tryd.pinned (.plain (OpenSpec.upto programReadsSpec)) programReadsUptoCard

/-- THE SECOND FORM's CARD OF 'murmurationlaw06.ProgramOnly'. -/
def programOnlyUptoCard : Claim7 := { stood := { row := programOnlyUptoRow, standIns := [], harness := (true, "5c8649663a603df984334e8b882f2ca833624ba6e21d51dc1c512a01fa069efd"), looks := false }, kinds := [], alts := [], laidByText := true, laidKinds := [.data], laidTests := true, laidLooks := .later }
def ProgramOnlyUptoCardSaid : Prop := Claim7.holds Tryd.pinned (.plain (OpenSpec.upto programOnlySpec)) programOnlyUptoCard

/-- THE SECOND FORM's CARD OF 'murmurationlaw06.ProgramMore'. -/
def programMoreUptoCard : Claim7 := { stood := { row := programMoreUptoRow, standIns := [], harness := (true, "5c8649663a603df984334e8b882f2ca833624ba6e21d51dc1c512a01fa069efd"), looks := false }, kinds := [], alts := [], laidByText := true, laidKinds := [.data], laidTests := true, laidLooks := .later }
def ProgramMoreUptoCardSaid : Prop := Claim7.holds Tryd.pinned (.plain (OpenSpec.upto programMoreSpec)) programMoreUptoCard

/-- THE SECOND FORM's CARD OF 'murmurationlaw15.GraphOrders'. -/
def graphOrdersUptoCard : Claim7 := { stood := { row := graphOrdersUptoRow, standIns := [], harness := (true, "5c8649663a603df984334e8b882f2ca833624ba6e21d51dc1c512a01fa069efd"), looks := false }, kinds := [], alts := [], laidByText := true, laidKinds := [.data], laidTests := true, laidLooks := .later }
def GraphOrdersUptoCardSaid : Prop := Claim7.holds Tryd.pinned (.plain (OpenSpec.upto graphOrdersSpec)) graphOrdersUptoCard

/-- THE SECOND FORM's CARD OF 'murmurationlaw15.GraphRight'. -/
def graphRightUptoCard : Claim7 := { stood := { row := graphRightUptoRow, standIns := [], harness := (true, "5c8649663a603df984334e8b882f2ca833624ba6e21d51dc1c512a01fa069efd"), looks := false }, kinds := [], alts := [], laidByText := true, laidKinds := [.data], laidTests := true, laidLooks := .later }
def GraphRightUptoCardSaid : Prop := Claim7.holds Tryd.pinned (.plain (OpenSpec.upto graphRightSpec)) graphRightUptoCard

/-- THE SECOND FORM's CARD OF 'murmurationlaw15.GraphDirty'. -/
def graphDirtyUptoCard : Claim7 := { stood := { row := graphDirtyUptoRow, standIns := [], harness := (true, "5c8649663a603df984334e8b882f2ca833624ba6e21d51dc1c512a01fa069efd"), looks := false }, kinds := [], alts := [], laidByText := true, laidKinds := [.data], laidTests := true, laidLooks := .later }
def GraphDirtyUptoCardSaid : Prop := Claim7.holds Tryd.pinned (.plain (OpenSpec.upto graphDirtySpec)) graphDirtyUptoCard

/-- THE SECOND FORM's CARD OF 'murmurationlaw15.GraphNames'. -/
def graphNamesUptoCard : Claim7 := { stood := { row := graphNamesUptoRow, standIns := [], harness := (true, "5c8649663a603df984334e8b882f2ca833624ba6e21d51dc1c512a01fa069efd"), looks := false }, kinds := [], alts := [], laidByText := true, laidKinds := [.data], laidTests := true, laidLooks := .later }
def GraphNamesUptoCardSaid : Prop := Claim7.holds Tryd.pinned (.plain (OpenSpec.upto graphNamesSpec)) graphNamesUptoCard

/-- THE SECOND FORM's CARD OF 'murmurationlaw15.GraphEnds'. -/
def graphEndsUptoCard : Claim7 := { stood := { row := graphEndsUptoRow, standIns := [], harness := (true, "5c8649663a603df984334e8b882f2ca833624ba6e21d51dc1c512a01fa069efd"), looks := false }, kinds := [], alts := [], laidByText := true, laidKinds := [.data], laidTests := true, laidLooks := .later }
def GraphEndsUptoCardSaid : Prop := Claim7.holds Tryd.pinned (.plain (OpenSpec.upto graphEndsSpec)) graphEndsUptoCard

/-- THE SECOND FORM's CARD OF 'murmurationlaw16.PlanInputs'. -/
def planInputsUptoCard : Claim7 := { stood := { row := planInputsUptoRow, standIns := [], harness := (true, "5c8649663a603df984334e8b882f2ca833624ba6e21d51dc1c512a01fa069efd"), looks := false }, kinds := [], alts := [], laidByText := true, laidKinds := [.data], laidTests := true, laidLooks := .later }
def PlanInputsUptoCardSaid : Prop := Claim7.holds Tryd.pinned (.plain (OpenSpec.upto planInputsSpec)) planInputsUptoCard

/-- THE SECOND FORM's CARD OF 'murmurationlaw16.PlanBelow'. -/
def planBelowUptoCard : Claim7 := { stood := { row := planBelowUptoRow, standIns := [], harness := (true, "5c8649663a603df984334e8b882f2ca833624ba6e21d51dc1c512a01fa069efd"), looks := false }, kinds := [], alts := [], laidByText := true, laidKinds := [.data], laidTests := true, laidLooks := .later }
def PlanBelowUptoCardSaid : Prop := Claim7.holds Tryd.pinned (.plain (OpenSpec.upto planBelowSpec)) planBelowUptoCard

/-- THE SECOND FORM's CARD OF 'murmurationlaw16.PlanOrder'. -/
def planOrderUptoCard : Claim7 := { stood := { row := planOrderUptoRow, standIns := [], harness := (true, "5c8649663a603df984334e8b882f2ca833624ba6e21d51dc1c512a01fa069efd"), looks := false }, kinds := [], alts := [], laidByText := true, laidKinds := [.data], laidTests := true, laidLooks := .later }
def PlanOrderUptoCardSaid : Prop := Claim7.holds Tryd.pinned (.plain (OpenSpec.upto planOrderSpec)) planOrderUptoCard

/-- THE SECOND FORM's CARD OF 'murmurationlaw16.PlanGrows'. -/
def planGrowsUptoCard : Claim7 := { stood := { row := planGrowsUptoRow, standIns := [], harness := (true, "5c8649663a603df984334e8b882f2ca833624ba6e21d51dc1c512a01fa069efd"), looks := false }, kinds := [], alts := [], laidByText := true, laidKinds := [.data], laidTests := true, laidLooks := .later }
def PlanGrowsUptoCardSaid : Prop := Claim7.holds Tryd.pinned (.plain (OpenSpec.upto planGrowsSpec)) planGrowsUptoCard
end Rows
end Go.Proofs.YtbadkkilblgpmaaDoor
