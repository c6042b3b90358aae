/-
  DERIVED. GIVEN WITH THE SEED: THE CARDS: each row of YtehpigmcmgfkoaaDoorRows.lean that lists a variable, with what it lists TIED to the program's text (the seventh form; the later family's looks); each row that meets fmt, with fmt's text TOLD by the authors' own Lean function (tested against real Go, not proved from fmt's source: count such statements apart). THE CARD IS WHAT COUNTS. Prove the row's statement (the work); the ties are given (YtehpigmcmgfkoaaDoorTie.lean); close each card by the builder's one call (the guide's Derived/Test/ToyasCard.lean, 'card_holds'). Laid BY PROGRAM, IN A SANDBOX (cutbox-door.mjs). By AI agents, Wed Nov 11 2026. No macro, syntax, notation, axiom, sorry.
-/
import Derived.Test.YtehpigmcmgfkoaaDoorRows
import GoSem.ClaimSeven
namespace Go.Proofs.YtehpigmcmgfkoaaDoor
namespace Rows

/-- THE TIED CARD OF 'murmurationlaw01.ShaSums'. -/
def shaSumsCard : Claim7 := { stood := { row := shaSumsRow, standIns := [], harness := (true, "a4d0f2afc011660e13c284abc3345613fa3412d25f7f8c6a0224bf832dbb9a1f"), looks := false }, kinds := [], alts := [], laidByText := true, laidKinds := [.data, .data], laidTests := true, laidLooks := .later }
def ShaSumsCardSaid : Prop := Claim7.holds Tryd.pinned (.plain (OpenSpec.ofChange shaSumsSpec)) shaSumsCard

/-- THE TIED CARD OF 'murmurationlaw01.ShaParts'. -/
def shaPartsCard : Claim7 := { stood := { row := shaPartsRow, standIns := [], harness := (true, "a4d0f2afc011660e13c284abc3345613fa3412d25f7f8c6a0224bf832dbb9a1f"), looks := false }, kinds := [], alts := [], laidByText := true, laidKinds := [.data, .data], laidTests := true, laidLooks := .later }
def ShaPartsCardSaid : Prop := Claim7.holds Tryd.pinned (.plain (OpenSpec.ofChange shaPartsSpec)) shaPartsCard

/-- THE TIED CARD OF 'murmurationlaw01.ShaLong'. -/
def shaLongCard : Claim7 := { stood := { row := shaLongRow, standIns := [], harness := (true, "a4d0f2afc011660e13c284abc3345613fa3412d25f7f8c6a0224bf832dbb9a1f"), looks := false }, kinds := [], alts := [], laidByText := true, laidKinds := [.data, .data], laidTests := true, laidLooks := .later }
def ShaLongCardSaid : Prop := Claim7.holds Tryd.pinned (.plain (OpenSpec.ofChange shaLongSpec)) shaLongCard

/-- THE TIED CARD OF 'murmurationlaw02.HmacTags'. -/
def hmacTagsCard : Claim7 := { stood := { row := hmacTagsRow, standIns := [], harness := (true, "a4d0f2afc011660e13c284abc3345613fa3412d25f7f8c6a0224bf832dbb9a1f"), looks := false }, kinds := [], alts := [], laidByText := true, laidKinds := [.data, .data], laidTests := true, laidLooks := .later }
def HmacTagsCardSaid : Prop := Claim7.holds Tryd.pinned (.plain (OpenSpec.ofChange hmacTagsSpec)) hmacTagsCard

/-- THE TIED CARD OF 'murmurationlaw02.HmacParts'. -/
def hmacPartsCard : Claim7 := { stood := { row := hmacPartsRow, standIns := [], harness := (true, "a4d0f2afc011660e13c284abc3345613fa3412d25f7f8c6a0224bf832dbb9a1f"), looks := false }, kinds := [], alts := [], laidByText := true, laidKinds := [.data, .data], laidTests := true, laidLooks := .later }
def HmacPartsCardSaid : Prop := Claim7.holds Tryd.pinned (.plain (OpenSpec.ofChange hmacPartsSpec)) hmacPartsCard

/-- THE TIED CARD OF 'murmurationlaw02.HmacSame'. -/
def hmacSameCard : Claim7 := { stood := { row := hmacSameRow, standIns := [], harness := (true, "a4d0f2afc011660e13c284abc3345613fa3412d25f7f8c6a0224bf832dbb9a1f"), looks := false }, kinds := [], alts := [], laidByText := true, laidKinds := [.data, .data], laidTests := true, laidLooks := .later }
def HmacSameCardSaid : Prop := Claim7.holds Tryd.pinned (.plain (OpenSpec.ofChange hmacSameSpec)) hmacSameCard

/-- THE TIED CARD OF 'murmurationlaw09.AttestMakes'. -/
def attestMakesCard : Claim7 := { stood := { row := attestMakesRow, standIns := [], harness := (true, "a4d0f2afc011660e13c284abc3345613fa3412d25f7f8c6a0224bf832dbb9a1f"), looks := false }, kinds := [], alts := [], laidByText := true, laidKinds := [.data, .data], laidTests := true, laidLooks := .later }
def AttestMakesCardSaid : Prop := Claim7.holds Tryd.pinned (.plain (OpenSpec.ofChange attestMakesSpec)) attestMakesCard

/-- THE TIED CARD OF 'murmurationlaw09.AttestRight'. -/
def attestRightCard : Claim7 := { stood := { row := attestRightRow, standIns := [], harness := (true, "a4d0f2afc011660e13c284abc3345613fa3412d25f7f8c6a0224bf832dbb9a1f"), looks := false }, kinds := [], alts := [], laidByText := true, laidKinds := [.data, .data], laidTests := true, laidLooks := .later }
def AttestRightCardSaid : Prop := Claim7.holds Tryd.pinned (.plain (OpenSpec.ofChange attestRightSpec)) attestRightCard

/-- THE TIED CARD OF 'murmurationlaw09.AttestBytes'. -/
def attestBytesCard : Claim7 := { stood := { row := attestBytesRow, standIns := [], harness := (true, "a4d0f2afc011660e13c284abc3345613fa3412d25f7f8c6a0224bf832dbb9a1f"), looks := false }, kinds := [], alts := [], laidByText := true, laidKinds := [.data, .data], laidTests := true, laidLooks := .later }
def AttestBytesCardSaid : Prop := Claim7.holds Tryd.pinned (.plain (OpenSpec.ofChange attestBytesSpec)) attestBytesCard

/-- THE TIED CARD OF 'murmurationlaw09.AttestOnly'. -/
def attestOnlyCard : Claim7 := { stood := { row := attestOnlyRow, standIns := [], harness := (true, "a4d0f2afc011660e13c284abc3345613fa3412d25f7f8c6a0224bf832dbb9a1f"), looks := false }, kinds := [], alts := [], laidByText := true, laidKinds := [.data, .data], laidTests := true, laidLooks := .later }
def AttestOnlyCardSaid : Prop := Claim7.holds Tryd.pinned (.plain (OpenSpec.ofChange attestOnlySpec)) attestOnlyCard

/-- THE TIED CARD OF 'murmurationlaw09.AttestOrder'. -/
def attestOrderCard : Claim7 := { stood := { row := attestOrderRow, standIns := [], harness := (true, "a4d0f2afc011660e13c284abc3345613fa3412d25f7f8c6a0224bf832dbb9a1f"), looks := false }, kinds := [], alts := [], laidByText := true, laidKinds := [.data, .data], laidTests := true, laidLooks := .later }
def AttestOrderCardSaid : Prop := Claim7.holds Tryd.pinned (.plain (OpenSpec.ofChange attestOrderSpec)) attestOrderCard

/-- THE TIED CARD OF 'murmurationlaw09.AttestSecrets'. -/
def attestSecretsCard : Claim7 := { stood := { row := attestSecretsRow, standIns := [], harness := (true, "a4d0f2afc011660e13c284abc3345613fa3412d25f7f8c6a0224bf832dbb9a1f"), looks := false }, kinds := [], alts := [], laidByText := true, laidKinds := [.data, .data], laidTests := true, laidLooks := .later }
def AttestSecretsCardSaid : Prop := Claim7.holds Tryd.pinned (.plain (OpenSpec.ofChange attestSecretsSpec)) attestSecretsCard

/-- THE SECOND FORM's CARD OF 'murmurationlaw01.ShaSums'. -/
def shaSumsUptoCard : Claim7 := { stood := { row := shaSumsUptoRow, standIns := [], harness := (true, "a4d0f2afc011660e13c284abc3345613fa3412d25f7f8c6a0224bf832dbb9a1f"), looks := false }, kinds := [], alts := [], laidByText := true, laidKinds := [.data, .data], laidTests := true, laidLooks := .later }
def ShaSumsUptoCardSaid : Prop := Claim7.holds Tryd.pinned (.plain (OpenSpec.upto shaSumsSpec)) shaSumsUptoCard

/-- THE SECOND FORM's CARD OF 'murmurationlaw01.ShaParts'. -/
def shaPartsUptoCard : Claim7 := { stood := { row := shaPartsUptoRow, standIns := [], harness := (true, "a4d0f2afc011660e13c284abc3345613fa3412d25f7f8c6a0224bf832dbb9a1f"), looks := false }, kinds := [], alts := [], laidByText := true, laidKinds := [.data, .data], laidTests := true, laidLooks := .later }
def ShaPartsUptoCardSaid : Prop := Claim7.holds Tryd.pinned (.plain (OpenSpec.upto shaPartsSpec)) shaPartsUptoCard

/-- THE SECOND FORM's CARD OF 'murmurationlaw01.ShaLong'. -/
def shaLongUptoCard : Claim7 := { stood := { row := shaLongUptoRow, standIns := [], harness := (true, "a4d0f2afc011660e13c284abc3345613fa3412d25f7f8c6a0224bf832dbb9a1f"), looks := false }, kinds := [], alts := [], laidByText := true, laidKinds := [.data, .data], laidTests := true, laidLooks := .later }
def ShaLongUptoCardSaid : Prop := Claim7.holds Tryd.pinned (.plain (OpenSpec.upto shaLongSpec)) shaLongUptoCard

/-- THE SECOND FORM's CARD OF 'murmurationlaw02.HmacTags'. -/
def hmacTagsUptoCard : Claim7 := { stood := { row := hmacTagsUptoRow, standIns := [], harness := (true, "a4d0f2afc011660e13c284abc3345613fa3412d25f7f8c6a0224bf832dbb9a1f"), looks := false }, kinds := [], alts := [], laidByText := true, laidKinds := [.data, .data], laidTests := true, laidLooks := .later }
def HmacTagsUptoCardSaid : Prop := Claim7.holds Tryd.pinned (.plain (OpenSpec.upto hmacTagsSpec)) hmacTagsUptoCard

/-- THE SECOND FORM's CARD OF 'murmurationlaw02.HmacParts'. -/
def hmacPartsUptoCard : Claim7 := { stood := { row := hmacPartsUptoRow, standIns := [], harness := (true, "a4d0f2afc011660e13c284abc3345613fa3412d25f7f8c6a0224bf832dbb9a1f"), looks := false }, kinds := [], alts := [], laidByText := true, laidKinds := [.data, .data], laidTests := true, laidLooks := .later }
def HmacPartsUptoCardSaid : Prop := Claim7.holds Tryd.pinned (.plain (OpenSpec.upto hmacPartsSpec)) hmacPartsUptoCard

/-- THE SECOND FORM's CARD OF 'murmurationlaw02.HmacSame'. -/
def hmacSameUptoCard : Claim7 := { stood := { row := hmacSameUptoRow, standIns := [], harness := (true, "a4d0f2afc011660e13c284abc3345613fa3412d25f7f8c6a0224bf832dbb9a1f"), looks := false }, kinds := [], alts := [], laidByText := true, laidKinds := [.data, .data], laidTests := true, laidLooks := .later }
def HmacSameUptoCardSaid : Prop := Claim7.holds Tryd.pinned (.plain (OpenSpec.upto hmacSameSpec)) hmacSameUptoCard

/-- THE SECOND FORM's CARD OF 'murmurationlaw09.AttestMakes'. -/
def attestMakesUptoCard : Claim7 := { stood := { row := attestMakesUptoRow, standIns := [], harness := (true, "a4d0f2afc011660e13c284abc3345613fa3412d25f7f8c6a0224bf832dbb9a1f"), looks := false }, kinds := [], alts := [], laidByText := true, laidKinds := [.data, .data], laidTests := true, laidLooks := .later }
def AttestMakesUptoCardSaid : Prop := Claim7.holds Tryd.pinned (.plain (OpenSpec.upto attestMakesSpec)) attestMakesUptoCard

/-- THE SECOND FORM's CARD OF 'murmurationlaw09.AttestRight'. -/
def attestRightUptoCard : Claim7 := { stood := { row := attestRightUptoRow, standIns := [], harness := (true, "a4d0f2afc011660e13c284abc3345613fa3412d25f7f8c6a0224bf832dbb9a1f"), looks := false }, kinds := [], alts := [], laidByText := true, laidKinds := [.data, .data], laidTests := true, laidLooks := .later }
def AttestRightUptoCardSaid : Prop := Claim7.holds Tryd.pinned (.plain (OpenSpec.upto attestRightSpec)) attestRightUptoCard

/-- THE SECOND FORM's CARD OF 'murmurationlaw09.AttestBytes'. -/
def attestBytesUptoCard : Claim7 := { stood := { row := attestBytesUptoRow, standIns := [], harness := (true, "a4d0f2afc011660e13c284abc3345613fa3412d25f7f8c6a0224bf832dbb9a1f"), looks := false }, kinds := [], alts := [], laidByText := true, laidKinds := [.data, .data], laidTests := true, laidLooks := .later }
def AttestBytesUptoCardSaid : Prop := Claim7.holds Tryd.pinned (.plain (OpenSpec.upto attestBytesSpec)) attestBytesUptoCard

/-- THE SECOND FORM's CARD OF 'murmurationlaw09.AttestOnly'. -/
def attestOnlyUptoCard : Claim7 := { stood := { row := attestOnlyUptoRow, standIns := [], harness := (true, "a4d0f2afc011660e13c284abc3345613fa3412d25f7f8c6a0224bf832dbb9a1f"), looks := false }, kinds := [], alts := [], laidByText := true, laidKinds := [.data, .data], laidTests := true, laidLooks := .later }
def AttestOnlyUptoCardSaid : Prop := Claim7.holds Tryd.pinned (.plain (OpenSpec.upto attestOnlySpec)) attestOnlyUptoCard

/-- THE SECOND FORM's CARD OF 'murmurationlaw09.AttestOrder'. -/
def attestOrderUptoCard : Claim7 := { stood := { row := attestOrderUptoRow, standIns := [], harness := (true, "a4d0f2afc011660e13c284abc3345613fa3412d25f7f8c6a0224bf832dbb9a1f"), looks := false }, kinds := [], alts := [], laidByText := true, laidKinds := [.data, .data], laidTests := true, laidLooks := .later }
def AttestOrderUptoCardSaid : Prop := Claim7.holds Tryd.pinned (.plain (OpenSpec.upto attestOrderSpec)) attestOrderUptoCard

/-- THE SECOND FORM's CARD OF 'murmurationlaw09.AttestSecrets'. -/
def attestSecretsUptoCard : Claim7 := { stood := { row := attestSecretsUptoRow, standIns := [], harness := (true, "a4d0f2afc011660e13c284abc3345613fa3412d25f7f8c6a0224bf832dbb9a1f"), looks := false }, kinds := [], alts := [], laidByText := true, laidKinds := [.data, .data], laidTests := true, laidLooks := .later }
def AttestSecretsUptoCardSaid : Prop := Claim7.holds Tryd.pinned (.plain (OpenSpec.upto attestSecretsSpec)) attestSecretsUptoCard
end Rows
end Go.Proofs.YtehpigmcmgfkoaaDoor
