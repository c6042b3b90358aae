/-
  DERIVED. GIVEN WITH THE SEED: THE CARDS: each row of YtkcammaccgkflaaDoorRows.lean that lists a variable, with what it lists TIED to the program's text (the seventh form; the later family's looks); each row that meets fmt, with fmt's text TOLD by the authors' own Lean function (tested against real Go, not proved from fmt's source: count such statements apart). THE CARD IS WHAT COUNTS. Prove the row's statement (the work); the ties are given (YtkcammaccgkflaaDoorTie.lean); close each card by the builder's one call (the guide's Derived/Test/ToyasCard.lean, 'card_holds'). Laid BY PROGRAM, IN A SANDBOX (cutbox-door.mjs). By AI agents, Wed Nov 11 2026. No macro, syntax, notation, axiom, sorry.
-/
import Derived.Test.YtkcammaccgkflaaDoorRows
import GoSem.ClaimSeven
namespace Go.Proofs.YtkcammaccgkflaaDoor
namespace Rows

/-- THE TIED CARD OF 'murmurationlaw01.ShaSums'. -/
def shaSumsCard : Claim7 := { stood := { row := shaSumsRow, standIns := [], harness := (true, "68a5d775ff901897768111386c9f939cac63446331190ee960e3ff2414119937"), looks := false }, kinds := [], alts := [], laidByText := true, laidKinds := [.data, .data], laidTests := true, laidLooks := .later }
def ShaSumsCardSaid : Prop := Claim7.holds Tryd.pinned (.plain (OpenSpec.ofChange shaSumsSpec)) shaSumsCard

/-- THE TIED CARD OF 'murmurationlaw01.ShaParts'. -/
def shaPartsCard : Claim7 := { stood := { row := shaPartsRow, standIns := [], harness := (true, "68a5d775ff901897768111386c9f939cac63446331190ee960e3ff2414119937"), looks := false }, kinds := [], alts := [], laidByText := true, laidKinds := [.data, .data], laidTests := true, laidLooks := .later }
def ShaPartsCardSaid : Prop := Claim7.holds Tryd.pinned (.plain (OpenSpec.ofChange shaPartsSpec)) shaPartsCard

/-- THE TIED CARD OF 'murmurationlaw01.ShaLong'. -/
def shaLongCard : Claim7 := { stood := { row := shaLongRow, standIns := [], harness := (true, "68a5d775ff901897768111386c9f939cac63446331190ee960e3ff2414119937"), looks := false }, kinds := [], alts := [], laidByText := true, laidKinds := [.data, .data], laidTests := true, laidLooks := .later }
def ShaLongCardSaid : Prop := Claim7.holds Tryd.pinned (.plain (OpenSpec.ofChange shaLongSpec)) shaLongCard

/-- THE TIED CARD OF 'murmurationlaw02.HmacTags'. -/
def hmacTagsCard : Claim7 := { stood := { row := hmacTagsRow, standIns := [], harness := (true, "68a5d775ff901897768111386c9f939cac63446331190ee960e3ff2414119937"), looks := false }, kinds := [], alts := [], laidByText := true, laidKinds := [.data, .data], laidTests := true, laidLooks := .later }
def HmacTagsCardSaid : Prop := Claim7.holds Tryd.pinned (.plain (OpenSpec.ofChange hmacTagsSpec)) hmacTagsCard

/-- THE TIED CARD OF 'murmurationlaw02.HmacParts'. -/
def hmacPartsCard : Claim7 := { stood := { row := hmacPartsRow, standIns := [], harness := (true, "68a5d775ff901897768111386c9f939cac63446331190ee960e3ff2414119937"), looks := false }, kinds := [], alts := [], laidByText := true, laidKinds := [.data, .data], laidTests := true, laidLooks := .later }
def HmacPartsCardSaid : Prop := Claim7.holds Tryd.pinned (.plain (OpenSpec.ofChange hmacPartsSpec)) hmacPartsCard

/-- THE TIED CARD OF 'murmurationlaw02.HmacSame'. -/
def hmacSameCard : Claim7 := { stood := { row := hmacSameRow, standIns := [], harness := (true, "68a5d775ff901897768111386c9f939cac63446331190ee960e3ff2414119937"), looks := false }, kinds := [], alts := [], laidByText := true, laidKinds := [.data, .data], laidTests := true, laidLooks := .later }
def HmacSameCardSaid : Prop := Claim7.holds Tryd.pinned (.plain (OpenSpec.ofChange hmacSameSpec)) hmacSameCard

/-- THE TIED CARD OF 'murmurationlaw09.AttestMakes'. -/
def attestMakesCard : Claim7 := { stood := { row := attestMakesRow, standIns := [], harness := (true, "68a5d775ff901897768111386c9f939cac63446331190ee960e3ff2414119937"), looks := false }, kinds := [], alts := [], laidByText := true, laidKinds := [.data, .data], laidTests := true, laidLooks := .later }
def AttestMakesCardSaid : Prop := Claim7.holds Tryd.pinned (.plain (OpenSpec.ofChange attestMakesSpec)) attestMakesCard

/-- THE TIED CARD OF 'murmurationlaw09.AttestRight'. -/
def attestRightCard : Claim7 := { stood := { row := attestRightRow, standIns := [], harness := (true, "68a5d775ff901897768111386c9f939cac63446331190ee960e3ff2414119937"), looks := false }, kinds := [], alts := [], laidByText := true, laidKinds := [.data, .data], laidTests := true, laidLooks := .later }
def AttestRightCardSaid : Prop := Claim7.holds Tryd.pinned (.plain (OpenSpec.ofChange attestRightSpec)) attestRightCard

/-- THE TIED CARD OF 'murmurationlaw09.AttestBytes'. -/
def attestBytesCard : Claim7 := { stood := { row := attestBytesRow, standIns := [], harness := (true, "68a5d775ff901897768111386c9f939cac63446331190ee960e3ff2414119937"), looks := false }, kinds := [], alts := [], laidByText := true, laidKinds := [.data, .data], laidTests := true, laidLooks := .later }
def AttestBytesCardSaid : Prop := Claim7.holds Tryd.pinned (.plain (OpenSpec.ofChange attestBytesSpec)) attestBytesCard

/-- THE TIED CARD OF 'murmurationlaw09.AttestOnly'. -/
def attestOnlyCard : Claim7 := { stood := { row := attestOnlyRow, standIns := [], harness := (true, "68a5d775ff901897768111386c9f939cac63446331190ee960e3ff2414119937"), looks := false }, kinds := [], alts := [], laidByText := true, laidKinds := [.data, .data], laidTests := true, laidLooks := .later }
def AttestOnlyCardSaid : Prop := Claim7.holds Tryd.pinned (.plain (OpenSpec.ofChange attestOnlySpec)) attestOnlyCard

/-- THE TIED CARD OF 'murmurationlaw09.AttestOrder'. -/
def attestOrderCard : Claim7 := { stood := { row := attestOrderRow, standIns := [], harness := (true, "68a5d775ff901897768111386c9f939cac63446331190ee960e3ff2414119937"), looks := false }, kinds := [], alts := [], laidByText := true, laidKinds := [.data, .data], laidTests := true, laidLooks := .later }
def AttestOrderCardSaid : Prop := Claim7.holds Tryd.pinned (.plain (OpenSpec.ofChange attestOrderSpec)) attestOrderCard

/-- THE TIED CARD OF 'murmurationlaw09.AttestSecrets'. -/
def attestSecretsCard : Claim7 := { stood := { row := attestSecretsRow, standIns := [], harness := (true, "68a5d775ff901897768111386c9f939cac63446331190ee960e3ff2414119937"), looks := false }, kinds := [], alts := [], laidByText := true, laidKinds := [.data, .data], laidTests := true, laidLooks := .later }
def AttestSecretsCardSaid : Prop := Claim7.holds Tryd.pinned (.plain (OpenSpec.ofChange attestSecretsSpec)) attestSecretsCard

/-- THE TIED CARD OF 'murmurationlaw20.AdvertsPlays'. -/
def advertsPlaysCard : Claim7 := { stood := { row := advertsPlaysRow, standIns := [], harness := (true, "68a5d775ff901897768111386c9f939cac63446331190ee960e3ff2414119937"), looks := false }, kinds := [], alts := [], laidByText := true, laidKinds := [.data, .data], laidTests := true, laidLooks := .later }
def AdvertsPlaysCardSaid : Prop := Claim7.holds Tryd.pinned (.plain (OpenSpec.ofChange advertsPlaysSpec)) advertsPlaysCard

/-- THE TIED CARD OF 'murmurationlaw20.AdvertsNone'. -/
def advertsNoneCard : Claim7 := { stood := { row := advertsNoneRow, standIns := [], harness := (true, "68a5d775ff901897768111386c9f939cac63446331190ee960e3ff2414119937"), looks := false }, kinds := [], alts := [], laidByText := true, laidKinds := [.data, .data], laidTests := true, laidLooks := .later }
def AdvertsNoneCardSaid : Prop := Claim7.holds Tryd.pinned (.plain (OpenSpec.ofChange advertsNoneSpec)) advertsNoneCard

/-- THE TIED CARD OF 'murmurationlaw20.AdvertsOrder'. -/
def advertsOrderCard : Claim7 := { stood := { row := advertsOrderRow, standIns := [], harness := (true, "68a5d775ff901897768111386c9f939cac63446331190ee960e3ff2414119937"), looks := false }, kinds := [], alts := [], laidByText := true, laidKinds := [.data, .data], laidTests := true, laidLooks := .later }
def AdvertsOrderCardSaid : Prop := Claim7.holds Tryd.pinned (.plain (OpenSpec.ofChange advertsOrderSpec)) advertsOrderCard

/-- THE TIED CARD OF 'murmurationlaw20.AdvertsParts'. -/
def advertsPartsCard : Claim7 := { stood := { row := advertsPartsRow, standIns := [], harness := (true, "68a5d775ff901897768111386c9f939cac63446331190ee960e3ff2414119937"), looks := false }, kinds := [], alts := [], laidByText := true, laidKinds := [.data, .data], laidTests := true, laidLooks := .later }
def AdvertsPartsCardSaid : Prop := Claim7.holds Tryd.pinned (.plain (OpenSpec.ofChange advertsPartsSpec)) advertsPartsCard

/-- THE TIED CARD OF 'murmurationlaw20.AdvertsSums'. -/
def advertsSumsCard : Claim7 := { stood := { row := advertsSumsRow, standIns := [], harness := (true, "68a5d775ff901897768111386c9f939cac63446331190ee960e3ff2414119937"), looks := false }, kinds := [], alts := [], laidByText := true, laidKinds := [.data, .data], laidTests := true, laidLooks := .later }
def AdvertsSumsCardSaid : Prop := Claim7.holds Tryd.pinned (.plain (OpenSpec.ofChange advertsSumsSpec)) advertsSumsCard

/-- THE TIED CARD OF 'murmurationlaw20.AdvertsMost'. -/
def advertsMostCard : Claim7 := { stood := { row := advertsMostRow, standIns := [], harness := (true, "68a5d775ff901897768111386c9f939cac63446331190ee960e3ff2414119937"), looks := false }, kinds := [], alts := [], laidByText := true, laidKinds := [.data, .data], laidTests := true, laidLooks := .later }
def AdvertsMostCardSaid : Prop := Claim7.holds Tryd.pinned (.plain (OpenSpec.ofChange advertsMostSpec)) advertsMostCard

/-- THE SECOND FORM's CARD OF 'murmurationlaw01.ShaSums'. -/
def shaSumsUptoCard : Claim7 := { stood := { row := shaSumsUptoRow, standIns := [], harness := (true, "68a5d775ff901897768111386c9f939cac63446331190ee960e3ff2414119937"), looks := false }, kinds := [], alts := [], laidByText := true, laidKinds := [.data, .data], laidTests := true, laidLooks := .later }
def ShaSumsUptoCardSaid : Prop := Claim7.holds Tryd.pinned (.plain (OpenSpec.upto shaSumsSpec)) shaSumsUptoCard

/-- THE SECOND FORM's CARD OF 'murmurationlaw01.ShaParts'. -/
def shaPartsUptoCard : Claim7 := { stood := { row := shaPartsUptoRow, standIns := [], harness := (true, "68a5d775ff901897768111386c9f939cac63446331190ee960e3ff2414119937"), looks := false }, kinds := [], alts := [], laidByText := true, laidKinds := [.data, .data], laidTests := true, laidLooks := .later }
def ShaPartsUptoCardSaid : Prop := Claim7.holds Tryd.pinned (.plain (OpenSpec.upto shaPartsSpec)) shaPartsUptoCard

/-- THE SECOND FORM's CARD OF 'murmurationlaw01.ShaLong'. -/
def shaLongUptoCard : Claim7 := { stood := { row := shaLongUptoRow, standIns := [], harness := (true, "68a5d775ff901897768111386c9f939cac63446331190ee960e3ff2414119937"), looks := false }, kinds := [], alts := [], laidByText := true, laidKinds := [.data, .data], laidTests := true, laidLooks := .later }
def ShaLongUptoCardSaid : Prop := Claim7.holds Tryd.pinned (.plain (OpenSpec.upto shaLongSpec)) shaLongUptoCard

/-- THE SECOND FORM's CARD OF 'murmurationlaw02.HmacTags'. -/
def hmacTagsUptoCard : Claim7 := { stood := { row := hmacTagsUptoRow, standIns := [], harness := (true, "68a5d775ff901897768111386c9f939cac63446331190ee960e3ff2414119937"), looks := false }, kinds := [], alts := [], laidByText := true, laidKinds := [.data, .data], laidTests := true, laidLooks := .later }
def HmacTagsUptoCardSaid : Prop := Claim7.holds Tryd.pinned (.plain (OpenSpec.upto hmacTagsSpec)) hmacTagsUptoCard

/-- THE SECOND FORM's CARD OF 'murmurationlaw02.HmacParts'. -/
def hmacPartsUptoCard : Claim7 := { stood := { row := hmacPartsUptoRow, standIns := [], harness := (true, "68a5d775ff901897768111386c9f939cac63446331190ee960e3ff2414119937"), looks := false }, kinds := [], alts := [], laidByText := true, laidKinds := [.data, .data], laidTests := true, laidLooks := .later }
def HmacPartsUptoCardSaid : Prop := Claim7.holds Tryd.pinned (.plain (OpenSpec.upto hmacPartsSpec)) hmacPartsUptoCard

/-- THE SECOND FORM's CARD OF 'murmurationlaw02.HmacSame'. -/
def hmacSameUptoCard : Claim7 := { stood := { row := hmacSameUptoRow, standIns := [], harness := (true, "68a5d775ff901897768111386c9f939cac63446331190ee960e3ff2414119937"), looks := false }, kinds := [], alts := [], laidByText := true, laidKinds := [.data, .data], laidTests := true, laidLooks := .later }
def HmacSameUptoCardSaid : Prop := Claim7.holds Tryd.pinned (.plain (OpenSpec.upto hmacSameSpec)) hmacSameUptoCard

/-- THE SECOND FORM's CARD OF 'murmurationlaw09.AttestMakes'. -/
def attestMakesUptoCard : Claim7 := { stood := { row := attestMakesUptoRow, standIns := [], harness := (true, "68a5d775ff901897768111386c9f939cac63446331190ee960e3ff2414119937"), looks := false }, kinds := [], alts := [], laidByText := true, laidKinds := [.data, .data], laidTests := true, laidLooks := .later }
def AttestMakesUptoCardSaid : Prop := Claim7.holds Tryd.pinned (.plain (OpenSpec.upto attestMakesSpec)) attestMakesUptoCard

/-- THE SECOND FORM's CARD OF 'murmurationlaw09.AttestRight'. -/
def attestRightUptoCard : Claim7 := { stood := { row := attestRightUptoRow, standIns := [], harness := (true, "68a5d775ff901897768111386c9f939cac63446331190ee960e3ff2414119937"), looks := false }, kinds := [], alts := [], laidByText := true, laidKinds := [.data, .data], laidTests := true, laidLooks := .later }
def AttestRightUptoCardSaid : Prop := Claim7.holds Tryd.pinned (.plain (OpenSpec.upto attestRightSpec)) attestRightUptoCard

/-- THE SECOND FORM's CARD OF 'murmurationlaw09.AttestBytes'. -/
def attestBytesUptoCard : Claim7 := { stood := { row := attestBytesUptoRow, standIns := [], harness := (true, "68a5d775ff901897768111386c9f939cac63446331190ee960e3ff2414119937"), looks := false }, kinds := [], alts := [], laidByText := true, laidKinds := [.data, .data], laidTests := true, laidLooks := .later }
def AttestBytesUptoCardSaid : Prop := Claim7.holds Tryd.pinned (.plain (OpenSpec.upto attestBytesSpec)) attestBytesUptoCard

/-- THE SECOND FORM's CARD OF 'murmurationlaw09.AttestOnly'. -/
def attestOnlyUptoCard : Claim7 := { stood := { row := attestOnlyUptoRow, standIns := [], harness := (true, "68a5d775ff901897768111386c9f939cac63446331190ee960e3ff2414119937"), looks := false }, kinds := [], alts := [], laidByText := true, laidKinds := [.data, .data], laidTests := true, laidLooks := .later }
def AttestOnlyUptoCardSaid : Prop := Claim7.holds Tryd.pinned (.plain (OpenSpec.upto attestOnlySpec)) attestOnlyUptoCard

/-- THE SECOND FORM's CARD OF 'murmurationlaw09.AttestOrder'. -/
def attestOrderUptoCard : Claim7 := { stood := { row := attestOrderUptoRow, standIns := [], harness := (true, "68a5d775ff901897768111386c9f939cac63446331190ee960e3ff2414119937"), looks := false }, kinds := [], alts := [], laidByText := true, laidKinds := [.data, .data], laidTests := true, laidLooks := .later }
def AttestOrderUptoCardSaid : Prop := Claim7.holds Tryd.pinned (.plain (OpenSpec.upto attestOrderSpec)) attestOrderUptoCard

/-- THE SECOND FORM's CARD OF 'murmurationlaw09.AttestSecrets'. -/
def attestSecretsUptoCard : Claim7 := { stood := { row := attestSecretsUptoRow, standIns := [], harness := (true, "68a5d775ff901897768111386c9f939cac63446331190ee960e3ff2414119937"), looks := false }, kinds := [], alts := [], laidByText := true, laidKinds := [.data, .data], laidTests := true, laidLooks := .later }
def AttestSecretsUptoCardSaid : Prop := Claim7.holds Tryd.pinned (.plain (OpenSpec.upto attestSecretsSpec)) attestSecretsUptoCard

/-- THE SECOND FORM's CARD OF 'murmurationlaw20.AdvertsPlays'. -/
def advertsPlaysUptoCard : Claim7 := { stood := { row := advertsPlaysUptoRow, standIns := [], harness := (true, "68a5d775ff901897768111386c9f939cac63446331190ee960e3ff2414119937"), looks := false }, kinds := [], alts := [], laidByText := true, laidKinds := [.data, .data], laidTests := true, laidLooks := .later }
def AdvertsPlaysUptoCardSaid : Prop := Claim7.holds Tryd.pinned (.plain (OpenSpec.upto advertsPlaysSpec)) advertsPlaysUptoCard

/-- THE SECOND FORM's CARD OF 'murmurationlaw20.AdvertsNone'. -/
def advertsNoneUptoCard : Claim7 := { stood := { row := advertsNoneUptoRow, standIns := [], harness := (true, "68a5d775ff901897768111386c9f939cac63446331190ee960e3ff2414119937"), looks := false }, kinds := [], alts := [], laidByText := true, laidKinds := [.data, .data], laidTests := true, laidLooks := .later }
def AdvertsNoneUptoCardSaid : Prop := Claim7.holds Tryd.pinned (.plain (OpenSpec.upto advertsNoneSpec)) advertsNoneUptoCard

/-- THE SECOND FORM's CARD OF 'murmurationlaw20.AdvertsOrder'. -/
def advertsOrderUptoCard : Claim7 := { stood := { row := advertsOrderUptoRow, standIns := [], harness := (true, "68a5d775ff901897768111386c9f939cac63446331190ee960e3ff2414119937"), looks := false }, kinds := [], alts := [], laidByText := true, laidKinds := [.data, .data], laidTests := true, laidLooks := .later }
def AdvertsOrderUptoCardSaid : Prop := Claim7.holds Tryd.pinned (.plain (OpenSpec.upto advertsOrderSpec)) advertsOrderUptoCard

/-- THE SECOND FORM's CARD OF 'murmurationlaw20.AdvertsParts'. -/
def advertsPartsUptoCard : Claim7 := { stood := { row := advertsPartsUptoRow, standIns := [], harness := (true, "68a5d775ff901897768111386c9f939cac63446331190ee960e3ff2414119937"), looks := false }, kinds := [], alts := [], laidByText := true, laidKinds := [.data, .data], laidTests := true, laidLooks := .later }
def AdvertsPartsUptoCardSaid : Prop := Claim7.holds Tryd.pinned (.plain (OpenSpec.upto advertsPartsSpec)) advertsPartsUptoCard

/-- THE SECOND FORM's CARD OF 'murmurationlaw20.AdvertsSums'. -/
def advertsSumsUptoCard : Claim7 := { stood := { row := advertsSumsUptoRow, standIns := [], harness := (true, "68a5d775ff901897768111386c9f939cac63446331190ee960e3ff2414119937"), looks := false }, kinds := [], alts := [], laidByText := true, laidKinds := [.data, .data], laidTests := true, laidLooks := .later }
def AdvertsSumsUptoCardSaid : Prop := Claim7.holds Tryd.pinned (.plain (OpenSpec.upto advertsSumsSpec)) advertsSumsUptoCard

/-- THE SECOND FORM's CARD OF 'murmurationlaw20.AdvertsMost'. -/
def advertsMostUptoCard : Claim7 := { stood := { row := advertsMostUptoRow, standIns := [], harness := (true, "68a5d775ff901897768111386c9f939cac63446331190ee960e3ff2414119937"), looks := false }, kinds := [], alts := [], laidByText := true, laidKinds := [.data, .data], laidTests := true, laidLooks := .later }
def AdvertsMostUptoCardSaid : Prop := Claim7.holds Tryd.pinned (.plain (OpenSpec.upto advertsMostSpec)) advertsMostUptoCard
end Rows
end Go.Proofs.YtkcammaccgkflaaDoor
