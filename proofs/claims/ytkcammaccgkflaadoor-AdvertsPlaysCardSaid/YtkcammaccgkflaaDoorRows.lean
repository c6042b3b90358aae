/-
  NARROWER THAN 'FOR EVERY INPUT', by the rows' own cells (each row's printed sentence says how): ShaSums: laid · ShaParts: laid · ShaLong: laid · HmacTags: laid · HmacParts: laid · HmacSame: laid · AttestMakes: laid · AttestRight: laid · AttestBytes: laid · AttestOnly: laid · AttestOrder: laid · AttestSecrets: laid · AdvertsPlays: laid · AdvertsNone: laid · AdvertsOrder: laid · AdvertsParts: laid · AdvertsSums: laid · AdvertsMost: laid.
  DERIVED. THE GIVEN ROWS OF THIS SEAT. 18 by the template 'for every input the law returns true; each argument reads behind the call as it read before'; 0 by the template 'total and deterministic' (their statements: YtkcammaccgkflaaDoorTotals.lean).
  GIVEN WITH THE SEED: the statements are not yours to turn. If you find one false, say at which input.
  Laid BY PROGRAM, IN A SANDBOX (cutbox-rows.mjs): the forced cells as the released guide's own fill.sh prints them over the translation a2d6db7853a39537… (all of the seat's roots in one cut). By AI agents, Wed Nov 11 2026. No macro, syntax, notation, axiom, sorry.
-/
import Derived.Test.YtkcammaccgkflaaDoorChecked
import GoSem.Claim
import GoSem.ClaimJoined
import GoSem.ClaimMapViews
import Derived.JoinedTies
import Derived.KernelRfl
namespace Go.Proofs.YtkcammaccgkflaaDoor
/- THE CELL 'sum', in the pinned program and in every row, IS THE sha256 OF THE DUMP (.gsa) THAT YtkcammaccgkflaaDoorProg.lean LOADS. Nothing in Lean hashes anything: it is a label: what it is worth is what the hold of that sum in a sandbox is worth. -/
noncomputable def Tryd.pinned : Pinned := { name := "ytkcammaccgkflaadoor", sum := "a2d6db7853a395379949bac67cde5402b965ce03fc25607a8f212848594daaee", checked := Tryd.checked }
namespace Rows
def none {H : Type} : Left H := { results := [], args := [] }

/- WHAT THE LISTED PACKAGE-LEVEL VARIABLES READ AS WHEN THE CALL BEGINS. Each datum BY PROGRAM (the guide's laid-datum.mjs) off the statement by which the dump's own 'gosem.cut.vars' lays the variable. In a bare row this is a premise. The card (YtkcammaccgkflaaDoorCards.lean) ties it to the program's text. -/
def laid_murmuration_sha_roundWords {H : Type} : DataW H := .agg [.lit (.int .u32 1116352408), .lit (.int .u32 1899447441), .lit (.int .u32 3049323471), .lit (.int .u32 3921009573), .lit (.int .u32 961987163), .lit (.int .u32 1508970993), .lit (.int .u32 2453635748), .lit (.int .u32 2870763221), .lit (.int .u32 3624381080), .lit (.int .u32 310598401), .lit (.int .u32 607225278), .lit (.int .u32 1426881987), .lit (.int .u32 1925078388), .lit (.int .u32 2162078206), .lit (.int .u32 2614888103), .lit (.int .u32 3248222580), .lit (.int .u32 3835390401), .lit (.int .u32 4022224774), .lit (.int .u32 264347078), .lit (.int .u32 604807628), .lit (.int .u32 770255983), .lit (.int .u32 1249150122), .lit (.int .u32 1555081692), .lit (.int .u32 1996064986), .lit (.int .u32 2554220882), .lit (.int .u32 2821834349), .lit (.int .u32 2952996808), .lit (.int .u32 3210313671), .lit (.int .u32 3336571891), .lit (.int .u32 3584528711), .lit (.int .u32 113926993), .lit (.int .u32 338241895), .lit (.int .u32 666307205), .lit (.int .u32 773529912), .lit (.int .u32 1294757372), .lit (.int .u32 1396182291), .lit (.int .u32 1695183700), .lit (.int .u32 1986661051), .lit (.int .u32 2177026350), .lit (.int .u32 2456956037), .lit (.int .u32 2730485921), .lit (.int .u32 2820302411), .lit (.int .u32 3259730800), .lit (.int .u32 3345764771), .lit (.int .u32 3516065817), .lit (.int .u32 3600352804), .lit (.int .u32 4094571909), .lit (.int .u32 275423344), .lit (.int .u32 430227734), .lit (.int .u32 506948616), .lit (.int .u32 659060556), .lit (.int .u32 883997877), .lit (.int .u32 958139571), .lit (.int .u32 1322822218), .lit (.int .u32 1537002063), .lit (.int .u32 1747873779), .lit (.int .u32 1955562222), .lit (.int .u32 2024104815), .lit (.int .u32 2227730452), .lit (.int .u32 2361852424), .lit (.int .u32 2428436474), .lit (.int .u32 2756734187), .lit (.int .u32 3204031479), .lit (.int .u32 3329325298)]
def laid_murmuration_sha_firstWords {H : Type} : DataW H := .agg [.lit (.int .u32 1779033703), .lit (.int .u32 3144134277), .lit (.int .u32 1013904242), .lit (.int .u32 2773480762), .lit (.int .u32 1359893119), .lit (.int .u32 2600822924), .lit (.int .u32 528734635), .lit (.int .u32 1541459225)]

/-- 'murmurationlaw01.ShaSums': WHATEVER THE INPUT: true; the input reads as it did. -/
def shaSumsSpec : ChangeSpec := { name := "shaSums", fn := fun _ => fun
  | [d] => { results := [.lit (.bool true)], args := [d] }
  | _ => none }
def shaSumsRow : OpenClaim := { program := "ytkcammaccgkflaadoor", sum := "a2d6db7853a395379949bac67cde5402b965ce03fc25607a8f212848594daaee", func := "murmuration/murmurationlaw01.ShaSums", spec := "shaSums", named := ["murmuration/sha.firstWords", "murmuration/sha.roundWords"], apart := false, laid := [("murmuration/sha.roundWords", laid_murmuration_sha_roundWords), ("murmuration/sha.firstWords", laid_murmuration_sha_firstWords)] }
def ShaSumsSaid : Prop := shaSumsRow.holds Tryd.pinned (OpenSpec.ofChange shaSumsSpec)

/-- ITS FALSE NEIGHBOUR: 'it returns false'. Refute it at one input. -/
def shaSumsWrong : ChangeSpec := { name := "shaSums", fn := fun _ => fun
  | [d] => { results := [.lit (.bool false)], args := [d] }
  | _ => none }
def ShaSumsWrongFalsely : Prop := shaSumsRow.holds Tryd.pinned (OpenSpec.ofChange shaSumsWrong)

/-- 'murmurationlaw01.ShaParts': WHATEVER THE INPUT: true; the input reads as it did. -/
def shaPartsSpec : ChangeSpec := { name := "shaParts", fn := fun _ => fun
  | [d1, d2, d3] => { results := [.lit (.bool true)], args := [d1, d2, d3] }
  | _ => none }
def shaPartsRow : OpenClaim := { program := "ytkcammaccgkflaadoor", sum := "a2d6db7853a395379949bac67cde5402b965ce03fc25607a8f212848594daaee", func := "murmuration/murmurationlaw01.ShaParts", spec := "shaParts", named := ["murmuration/sha.firstWords", "murmuration/sha.roundWords"], apart := false, laid := [("murmuration/sha.roundWords", laid_murmuration_sha_roundWords), ("murmuration/sha.firstWords", laid_murmuration_sha_firstWords)] }
def ShaPartsSaid : Prop := shaPartsRow.holds Tryd.pinned (OpenSpec.ofChange shaPartsSpec)

/-- ITS FALSE NEIGHBOUR: 'it returns false'. Refute it at one input. -/
def shaPartsWrong : ChangeSpec := { name := "shaParts", fn := fun _ => fun
  | [d1, d2, d3] => { results := [.lit (.bool false)], args := [d1, d2, d3] }
  | _ => none }
def ShaPartsWrongFalsely : Prop := shaPartsRow.holds Tryd.pinned (OpenSpec.ofChange shaPartsWrong)

/-- 'murmurationlaw01.ShaLong': WHATEVER THE INPUT: true; the input reads as it did. -/
def shaLongSpec : ChangeSpec := { name := "shaLong", fn := fun _ => fun
  | [d1, d2] => { results := [.lit (.bool true)], args := [d1, d2] }
  | _ => none }
def shaLongRow : OpenClaim := { program := "ytkcammaccgkflaadoor", sum := "a2d6db7853a395379949bac67cde5402b965ce03fc25607a8f212848594daaee", func := "murmuration/murmurationlaw01.ShaLong", spec := "shaLong", named := ["murmuration/sha.firstWords", "murmuration/sha.roundWords"], apart := false, laid := [("murmuration/sha.roundWords", laid_murmuration_sha_roundWords), ("murmuration/sha.firstWords", laid_murmuration_sha_firstWords)] }
def ShaLongSaid : Prop := shaLongRow.holds Tryd.pinned (OpenSpec.ofChange shaLongSpec)

/-- ITS FALSE NEIGHBOUR: 'it returns false'. Refute it at one input. -/
def shaLongWrong : ChangeSpec := { name := "shaLong", fn := fun _ => fun
  | [d1, d2] => { results := [.lit (.bool false)], args := [d1, d2] }
  | _ => none }
def ShaLongWrongFalsely : Prop := shaLongRow.holds Tryd.pinned (OpenSpec.ofChange shaLongWrong)

/-- 'murmurationlaw02.HmacTags': WHATEVER THE INPUT: true; the input reads as it did. -/
def hmacTagsSpec : ChangeSpec := { name := "hmacTags", fn := fun _ => fun
  | [d1, d2] => { results := [.lit (.bool true)], args := [d1, d2] }
  | _ => none }
def hmacTagsRow : OpenClaim := { program := "ytkcammaccgkflaadoor", sum := "a2d6db7853a395379949bac67cde5402b965ce03fc25607a8f212848594daaee", func := "murmuration/murmurationlaw02.HmacTags", spec := "hmacTags", named := ["murmuration/sha.firstWords", "murmuration/sha.roundWords"], apart := false, laid := [("murmuration/sha.roundWords", laid_murmuration_sha_roundWords), ("murmuration/sha.firstWords", laid_murmuration_sha_firstWords)] }
def HmacTagsSaid : Prop := hmacTagsRow.holds Tryd.pinned (OpenSpec.ofChange hmacTagsSpec)

/-- ITS FALSE NEIGHBOUR: 'it returns false'. Refute it at one input. -/
def hmacTagsWrong : ChangeSpec := { name := "hmacTags", fn := fun _ => fun
  | [d1, d2] => { results := [.lit (.bool false)], args := [d1, d2] }
  | _ => none }
def HmacTagsWrongFalsely : Prop := hmacTagsRow.holds Tryd.pinned (OpenSpec.ofChange hmacTagsWrong)

/-- 'murmurationlaw02.HmacParts': WHATEVER THE INPUT: true; the input reads as it did. -/
def hmacPartsSpec : ChangeSpec := { name := "hmacParts", fn := fun _ => fun
  | [d1, d2, d3] => { results := [.lit (.bool true)], args := [d1, d2, d3] }
  | _ => none }
def hmacPartsRow : OpenClaim := { program := "ytkcammaccgkflaadoor", sum := "a2d6db7853a395379949bac67cde5402b965ce03fc25607a8f212848594daaee", func := "murmuration/murmurationlaw02.HmacParts", spec := "hmacParts", named := ["murmuration/sha.firstWords", "murmuration/sha.roundWords"], apart := false, laid := [("murmuration/sha.roundWords", laid_murmuration_sha_roundWords), ("murmuration/sha.firstWords", laid_murmuration_sha_firstWords)] }
def HmacPartsSaid : Prop := hmacPartsRow.holds Tryd.pinned (OpenSpec.ofChange hmacPartsSpec)

/-- ITS FALSE NEIGHBOUR: 'it returns false'. Refute it at one input. -/
def hmacPartsWrong : ChangeSpec := { name := "hmacParts", fn := fun _ => fun
  | [d1, d2, d3] => { results := [.lit (.bool false)], args := [d1, d2, d3] }
  | _ => none }
def HmacPartsWrongFalsely : Prop := hmacPartsRow.holds Tryd.pinned (OpenSpec.ofChange hmacPartsWrong)

/-- 'murmurationlaw02.HmacSame': WHATEVER THE INPUT: true; the input reads as it did. -/
def hmacSameSpec : ChangeSpec := { name := "hmacSame", fn := fun _ => fun
  | [d1, d2, d3] => { results := [.lit (.bool true)], args := [d1, d2, d3] }
  | _ => none }
def hmacSameRow : OpenClaim := { program := "ytkcammaccgkflaadoor", sum := "a2d6db7853a395379949bac67cde5402b965ce03fc25607a8f212848594daaee", func := "murmuration/murmurationlaw02.HmacSame", spec := "hmacSame", named := ["murmuration/sha.firstWords", "murmuration/sha.roundWords"], apart := false, laid := [("murmuration/sha.roundWords", laid_murmuration_sha_roundWords), ("murmuration/sha.firstWords", laid_murmuration_sha_firstWords)] }
def HmacSameSaid : Prop := hmacSameRow.holds Tryd.pinned (OpenSpec.ofChange hmacSameSpec)

/-- ITS FALSE NEIGHBOUR: 'it returns false'. Refute it at one input. -/
def hmacSameWrong : ChangeSpec := { name := "hmacSame", fn := fun _ => fun
  | [d1, d2, d3] => { results := [.lit (.bool false)], args := [d1, d2, d3] }
  | _ => none }
def HmacSameWrongFalsely : Prop := hmacSameRow.holds Tryd.pinned (OpenSpec.ofChange hmacSameWrong)

/-- 'murmurationlaw09.AttestMakes': WHATEVER THE INPUT: true; the input reads as it did. -/
def attestMakesSpec : ChangeSpec := { name := "attestMakes", fn := fun _ => fun
  | [d1, d2, d3, d4] => { results := [.lit (.bool true)], args := [d1, d2, d3, d4] }
  | _ => none }
def attestMakesRow : OpenClaim := { program := "ytkcammaccgkflaadoor", sum := "a2d6db7853a395379949bac67cde5402b965ce03fc25607a8f212848594daaee", func := "murmuration/murmurationlaw09.AttestMakes", spec := "attestMakes", named := ["murmuration/sha.firstWords", "murmuration/sha.roundWords"], apart := false, laid := [("murmuration/sha.roundWords", laid_murmuration_sha_roundWords), ("murmuration/sha.firstWords", laid_murmuration_sha_firstWords)] }
def AttestMakesSaid : Prop := attestMakesRow.holds Tryd.pinned (OpenSpec.ofChange attestMakesSpec)

/-- ITS FALSE NEIGHBOUR: 'it returns false'. Refute it at one input. -/
def attestMakesWrong : ChangeSpec := { name := "attestMakes", fn := fun _ => fun
  | [d1, d2, d3, d4] => { results := [.lit (.bool false)], args := [d1, d2, d3, d4] }
  | _ => none }
def AttestMakesWrongFalsely : Prop := attestMakesRow.holds Tryd.pinned (OpenSpec.ofChange attestMakesWrong)

/-- 'murmurationlaw09.AttestRight': WHATEVER THE INPUT: true; the input reads as it did. -/
def attestRightSpec : ChangeSpec := { name := "attestRight", fn := fun _ => fun
  | [d1, d2] => { results := [.lit (.bool true)], args := [d1, d2] }
  | _ => none }
def attestRightRow : OpenClaim := { program := "ytkcammaccgkflaadoor", sum := "a2d6db7853a395379949bac67cde5402b965ce03fc25607a8f212848594daaee", func := "murmuration/murmurationlaw09.AttestRight", spec := "attestRight", named := ["murmuration/sha.firstWords", "murmuration/sha.roundWords"], apart := false, laid := [("murmuration/sha.roundWords", laid_murmuration_sha_roundWords), ("murmuration/sha.firstWords", laid_murmuration_sha_firstWords)] }
def AttestRightSaid : Prop := attestRightRow.holds Tryd.pinned (OpenSpec.ofChange attestRightSpec)

/-- ITS FALSE NEIGHBOUR: 'it returns false'. Refute it at one input. -/
def attestRightWrong : ChangeSpec := { name := "attestRight", fn := fun _ => fun
  | [d1, d2] => { results := [.lit (.bool false)], args := [d1, d2] }
  | _ => none }
def AttestRightWrongFalsely : Prop := attestRightRow.holds Tryd.pinned (OpenSpec.ofChange attestRightWrong)

/-- 'murmurationlaw09.AttestBytes': WHATEVER THE INPUT: true; the input reads as it did. -/
def attestBytesSpec : ChangeSpec := { name := "attestBytes", fn := fun _ => fun
  | [d1, d2, d3] => { results := [.lit (.bool true)], args := [d1, d2, d3] }
  | _ => none }
def attestBytesRow : OpenClaim := { program := "ytkcammaccgkflaadoor", sum := "a2d6db7853a395379949bac67cde5402b965ce03fc25607a8f212848594daaee", func := "murmuration/murmurationlaw09.AttestBytes", spec := "attestBytes", inPlace := ["internal/bytealg.Compare"], named := ["murmuration/sha.firstWords", "murmuration/sha.roundWords"], apart := false, laid := [("murmuration/sha.roundWords", laid_murmuration_sha_roundWords), ("murmuration/sha.firstWords", laid_murmuration_sha_firstWords)] }
def AttestBytesSaid : Prop := attestBytesRow.holds Tryd.pinned (OpenSpec.ofChange attestBytesSpec)

/-- ITS FALSE NEIGHBOUR: 'it returns false'. Refute it at one input. -/
def attestBytesWrong : ChangeSpec := { name := "attestBytes", fn := fun _ => fun
  | [d1, d2, d3] => { results := [.lit (.bool false)], args := [d1, d2, d3] }
  | _ => none }
def AttestBytesWrongFalsely : Prop := attestBytesRow.holds Tryd.pinned (OpenSpec.ofChange attestBytesWrong)

/-- 'murmurationlaw09.AttestOnly': WHATEVER THE INPUT: true; the input reads as it did. -/
def attestOnlySpec : ChangeSpec := { name := "attestOnly", fn := fun _ => fun
  | [d1, d2, d3] => { results := [.lit (.bool true)], args := [d1, d2, d3] }
  | _ => none }
def attestOnlyRow : OpenClaim := { program := "ytkcammaccgkflaadoor", sum := "a2d6db7853a395379949bac67cde5402b965ce03fc25607a8f212848594daaee", func := "murmuration/murmurationlaw09.AttestOnly", spec := "attestOnly", named := ["murmuration/sha.firstWords", "murmuration/sha.roundWords"], apart := false, laid := [("murmuration/sha.roundWords", laid_murmuration_sha_roundWords), ("murmuration/sha.firstWords", laid_murmuration_sha_firstWords)] }
def AttestOnlySaid : Prop := attestOnlyRow.holds Tryd.pinned (OpenSpec.ofChange attestOnlySpec)

/-- ITS FALSE NEIGHBOUR: 'it returns false'. Refute it at one input. -/
def attestOnlyWrong : ChangeSpec := { name := "attestOnly", fn := fun _ => fun
  | [d1, d2, d3] => { results := [.lit (.bool false)], args := [d1, d2, d3] }
  | _ => none }
def AttestOnlyWrongFalsely : Prop := attestOnlyRow.holds Tryd.pinned (OpenSpec.ofChange attestOnlyWrong)

/-- 'murmurationlaw09.AttestOrder': WHATEVER THE INPUT: true; the input reads as it did. -/
def attestOrderSpec : ChangeSpec := { name := "attestOrder", fn := fun _ => fun
  | [d1, d2, d3] => { results := [.lit (.bool true)], args := [d1, d2, d3] }
  | _ => none }
def attestOrderRow : OpenClaim := { program := "ytkcammaccgkflaadoor", sum := "a2d6db7853a395379949bac67cde5402b965ce03fc25607a8f212848594daaee", func := "murmuration/murmurationlaw09.AttestOrder", spec := "attestOrder", inPlace := ["internal/bytealg.Compare"], named := ["murmuration/sha.firstWords", "murmuration/sha.roundWords"], apart := false, laid := [("murmuration/sha.roundWords", laid_murmuration_sha_roundWords), ("murmuration/sha.firstWords", laid_murmuration_sha_firstWords)] }
def AttestOrderSaid : Prop := attestOrderRow.holds Tryd.pinned (OpenSpec.ofChange attestOrderSpec)

/-- ITS FALSE NEIGHBOUR: 'it returns false'. Refute it at one input. -/
def attestOrderWrong : ChangeSpec := { name := "attestOrder", fn := fun _ => fun
  | [d1, d2, d3] => { results := [.lit (.bool false)], args := [d1, d2, d3] }
  | _ => none }
def AttestOrderWrongFalsely : Prop := attestOrderRow.holds Tryd.pinned (OpenSpec.ofChange attestOrderWrong)

/-- 'murmurationlaw09.AttestSecrets': WHATEVER THE INPUT: true; the input reads as it did. -/
def attestSecretsSpec : ChangeSpec := { name := "attestSecrets", fn := fun _ => fun
  | [d1, d2, d3] => { results := [.lit (.bool true)], args := [d1, d2, d3] }
  | _ => none }
def attestSecretsRow : OpenClaim := { program := "ytkcammaccgkflaadoor", sum := "a2d6db7853a395379949bac67cde5402b965ce03fc25607a8f212848594daaee", func := "murmuration/murmurationlaw09.AttestSecrets", spec := "attestSecrets", named := ["murmuration/sha.firstWords", "murmuration/sha.roundWords"], apart := false, laid := [("murmuration/sha.roundWords", laid_murmuration_sha_roundWords), ("murmuration/sha.firstWords", laid_murmuration_sha_firstWords)] }
def AttestSecretsSaid : Prop := attestSecretsRow.holds Tryd.pinned (OpenSpec.ofChange attestSecretsSpec)

/-- ITS FALSE NEIGHBOUR: 'it returns false'. Refute it at one input. -/
def attestSecretsWrong : ChangeSpec := { name := "attestSecrets", fn := fun _ => fun
  | [d1, d2, d3] => { results := [.lit (.bool false)], args := [d1, d2, d3] }
  | _ => none }
def AttestSecretsWrongFalsely : Prop := attestSecretsRow.holds Tryd.pinned (OpenSpec.ofChange attestSecretsWrong)

/-- 'murmurationlaw20.AdvertsPlays': WHATEVER THE INPUT: true; the input reads as it did. -/
def advertsPlaysSpec : ChangeSpec := { name := "advertsPlays", fn := fun _ => fun
  | [d1, d2, d3] => { results := [.lit (.bool true)], args := [d1, d2, d3] }
  | _ => none }
def advertsPlaysRow : OpenClaim := { program := "ytkcammaccgkflaadoor", sum := "a2d6db7853a395379949bac67cde5402b965ce03fc25607a8f212848594daaee", func := "murmuration/murmurationlaw20.AdvertsPlays", spec := "advertsPlays", inPlace := ["internal/bytealg.Compare", "slices.overlaps[murmuration/api.Attest]"], unfollowed := true, recurses := true, named := ["murmuration/sha.firstWords", "murmuration/sha.roundWords"], apart := false, laid := [("murmuration/sha.roundWords", laid_murmuration_sha_roundWords), ("murmuration/sha.firstWords", laid_murmuration_sha_firstWords)] }
def AdvertsPlaysSaid : Prop := advertsPlaysRow.holds Tryd.pinned (OpenSpec.ofChange advertsPlaysSpec)

/-- ITS FALSE NEIGHBOUR: 'it returns false'. Refute it at one input. -/
def advertsPlaysWrong : ChangeSpec := { name := "advertsPlays", fn := fun _ => fun
  | [d1, d2, d3] => { results := [.lit (.bool false)], args := [d1, d2, d3] }
  | _ => none }
def AdvertsPlaysWrongFalsely : Prop := advertsPlaysRow.holds Tryd.pinned (OpenSpec.ofChange advertsPlaysWrong)

/-- 'murmurationlaw20.AdvertsNone': WHATEVER THE INPUT: true; the input reads as it did. -/
def advertsNoneSpec : ChangeSpec := { name := "advertsNone", fn := fun _ => fun
  | [d1, d2] => { results := [.lit (.bool true)], args := [d1, d2] }
  | _ => none }
def advertsNoneRow : OpenClaim := { program := "ytkcammaccgkflaadoor", sum := "a2d6db7853a395379949bac67cde5402b965ce03fc25607a8f212848594daaee", func := "murmuration/murmurationlaw20.AdvertsNone", spec := "advertsNone", inPlace := ["internal/bytealg.Compare", "slices.overlaps[murmuration/api.Attest]"], unfollowed := true, recurses := true, named := ["murmuration/sha.firstWords", "murmuration/sha.roundWords"], apart := false, laid := [("murmuration/sha.roundWords", laid_murmuration_sha_roundWords), ("murmuration/sha.firstWords", laid_murmuration_sha_firstWords)] }
def AdvertsNoneSaid : Prop := advertsNoneRow.holds Tryd.pinned (OpenSpec.ofChange advertsNoneSpec)

/-- ITS FALSE NEIGHBOUR: 'it returns false'. Refute it at one input. -/
def advertsNoneWrong : ChangeSpec := { name := "advertsNone", fn := fun _ => fun
  | [d1, d2] => { results := [.lit (.bool false)], args := [d1, d2] }
  | _ => none }
def AdvertsNoneWrongFalsely : Prop := advertsNoneRow.holds Tryd.pinned (OpenSpec.ofChange advertsNoneWrong)

/-- 'murmurationlaw20.AdvertsOrder': WHATEVER THE INPUT: true; the input reads as it did. -/
def advertsOrderSpec : ChangeSpec := { name := "advertsOrder", fn := fun _ => fun
  | [d1, d2] => { results := [.lit (.bool true)], args := [d1, d2] }
  | _ => none }
def advertsOrderRow : OpenClaim := { program := "ytkcammaccgkflaadoor", sum := "a2d6db7853a395379949bac67cde5402b965ce03fc25607a8f212848594daaee", func := "murmuration/murmurationlaw20.AdvertsOrder", spec := "advertsOrder", inPlace := ["internal/bytealg.Compare", "slices.overlaps[murmuration/api.Attest]"], unfollowed := true, recurses := true, named := ["murmuration/sha.firstWords", "murmuration/sha.roundWords"], apart := false, laid := [("murmuration/sha.roundWords", laid_murmuration_sha_roundWords), ("murmuration/sha.firstWords", laid_murmuration_sha_firstWords)] }
def AdvertsOrderSaid : Prop := advertsOrderRow.holds Tryd.pinned (OpenSpec.ofChange advertsOrderSpec)

/-- ITS FALSE NEIGHBOUR: 'it returns false'. Refute it at one input. -/
def advertsOrderWrong : ChangeSpec := { name := "advertsOrder", fn := fun _ => fun
  | [d1, d2] => { results := [.lit (.bool false)], args := [d1, d2] }
  | _ => none }
def AdvertsOrderWrongFalsely : Prop := advertsOrderRow.holds Tryd.pinned (OpenSpec.ofChange advertsOrderWrong)

/-- 'murmurationlaw20.AdvertsParts': WHATEVER THE INPUT: true; the input reads as it did. -/
def advertsPartsSpec : ChangeSpec := { name := "advertsParts", fn := fun _ => fun
  | [d1, d2] => { results := [.lit (.bool true)], args := [d1, d2] }
  | _ => none }
def advertsPartsRow : OpenClaim := { program := "ytkcammaccgkflaadoor", sum := "a2d6db7853a395379949bac67cde5402b965ce03fc25607a8f212848594daaee", func := "murmuration/murmurationlaw20.AdvertsParts", spec := "advertsParts", inPlace := ["internal/bytealg.Compare", "slices.overlaps[murmuration/api.Attest]"], unfollowed := true, recurses := true, named := ["murmuration/sha.firstWords", "murmuration/sha.roundWords"], apart := false, laid := [("murmuration/sha.roundWords", laid_murmuration_sha_roundWords), ("murmuration/sha.firstWords", laid_murmuration_sha_firstWords)] }
def AdvertsPartsSaid : Prop := advertsPartsRow.holds Tryd.pinned (OpenSpec.ofChange advertsPartsSpec)

/-- ITS FALSE NEIGHBOUR: 'it returns false'. Refute it at one input. -/
def advertsPartsWrong : ChangeSpec := { name := "advertsParts", fn := fun _ => fun
  | [d1, d2] => { results := [.lit (.bool false)], args := [d1, d2] }
  | _ => none }
def AdvertsPartsWrongFalsely : Prop := advertsPartsRow.holds Tryd.pinned (OpenSpec.ofChange advertsPartsWrong)

/-- 'murmurationlaw20.AdvertsSums': WHATEVER THE INPUT: true; the input reads as it did. -/
def advertsSumsSpec : ChangeSpec := { name := "advertsSums", fn := fun _ => fun
  | [d1, d2, d3] => { results := [.lit (.bool true)], args := [d1, d2, d3] }
  | _ => none }
def advertsSumsRow : OpenClaim := { program := "ytkcammaccgkflaadoor", sum := "a2d6db7853a395379949bac67cde5402b965ce03fc25607a8f212848594daaee", func := "murmuration/murmurationlaw20.AdvertsSums", spec := "advertsSums", inPlace := ["internal/bytealg.Compare", "slices.overlaps[murmuration/api.Attest]"], unfollowed := true, recurses := true, named := ["murmuration/sha.firstWords", "murmuration/sha.roundWords"], apart := false, laid := [("murmuration/sha.roundWords", laid_murmuration_sha_roundWords), ("murmuration/sha.firstWords", laid_murmuration_sha_firstWords)] }
def AdvertsSumsSaid : Prop := advertsSumsRow.holds Tryd.pinned (OpenSpec.ofChange advertsSumsSpec)

/-- ITS FALSE NEIGHBOUR: 'it returns false'. Refute it at one input. -/
def advertsSumsWrong : ChangeSpec := { name := "advertsSums", fn := fun _ => fun
  | [d1, d2, d3] => { results := [.lit (.bool false)], args := [d1, d2, d3] }
  | _ => none }
def AdvertsSumsWrongFalsely : Prop := advertsSumsRow.holds Tryd.pinned (OpenSpec.ofChange advertsSumsWrong)

/-- 'murmurationlaw20.AdvertsMost': WHATEVER THE INPUT: true; the input reads as it did. -/
def advertsMostSpec : ChangeSpec := { name := "advertsMost", fn := fun _ => fun
  | [d] => { results := [.lit (.bool true)], args := [d] }
  | _ => none }
def advertsMostRow : OpenClaim := { program := "ytkcammaccgkflaadoor", sum := "a2d6db7853a395379949bac67cde5402b965ce03fc25607a8f212848594daaee", func := "murmuration/murmurationlaw20.AdvertsMost", spec := "advertsMost", inPlace := ["internal/bytealg.Compare", "slices.overlaps[murmuration/api.Attest]"], unfollowed := true, recurses := true, named := ["murmuration/sha.firstWords", "murmuration/sha.roundWords"], apart := false, laid := [("murmuration/sha.roundWords", laid_murmuration_sha_roundWords), ("murmuration/sha.firstWords", laid_murmuration_sha_firstWords)] }
def AdvertsMostSaid : Prop := advertsMostRow.holds Tryd.pinned (OpenSpec.ofChange advertsMostSpec)

/-- ITS FALSE NEIGHBOUR: 'it returns false'. Refute it at one input. -/
def advertsMostWrong : ChangeSpec := { name := "advertsMost", fn := fun _ => fun
  | [d] => { results := [.lit (.bool false)], args := [d] }
  | _ => none }
def AdvertsMostWrongFalsely : Prop := advertsMostRow.holds Tryd.pinned (OpenSpec.ofChange advertsMostWrong)

/- THE SECOND FORM. 'bulk': how many values and letters a reading holds, each counted each time it is reached (what is shared counts as often as it is met; a slice's spare places count too). A statement '..UptoSaid' is the law's where the arguments, and the package variables that the reading takes, are together of bulk at most 1048576: NARROWER than '..Said'. Prove '..Said' where nothing that the law and all that it calls make is longer than what came in: it says more and counts as full. Else prove '..UptoSaid'. A law counts once. -/
mutual
def uptoBulk {H : Type} : DataW H → Nat
  | .lit (.string bytes) => bytes.length + 1
  | .lit _ => 1
  | .nil => 1
  | .ptr d => uptoBulk d + 1
  | .slice elems spare => uptoBulkAll elems + uptoBulkAll spare + 1
  | .agg parts => uptoBulkAll parts + 1
  | .iface _ d => uptoBulk d + 1
  | .map entries => uptoBulkEntries entries + 1
  | .held _ => 1
def uptoBulkAll {H : Type} : List (DataW H) → Nat
  | [] => 0
  | d :: r => uptoBulk d + uptoBulkAll r
def uptoBulkEntries {H : Type} : List (Lit × DataW H) → Nat
  | [] => 0
  | x :: r => uptoBulkEntry x + uptoBulkEntries r
def uptoBulkEntry {H : Type} : Lit × DataW H → Nat
  | (.string bytes, d) => bytes.length + uptoBulk d + 1
  | (_, d) => uptoBulk d + 1
 end
def uptoSmall : (H : Type) → List (DataW H) → Bool := fun _ ds => decide (uptoBulkAll ds ≤ 1048576)
def OpenSpec.upto (s : _root_.Go.ChangeSpec) : _root_.Go.OpenSpec := { _root_.Go.OpenSpec.ofChange s with cond := some uptoSmall }

/-- 'murmurationlaw01.ShaSums', WHERE WHAT IT READS IS OF BULK AT MOST 1048576: true; the input reads as it did. -/
def shaSumsUptoRow : OpenClaim := { program := "ytkcammaccgkflaadoor", sum := "a2d6db7853a395379949bac67cde5402b965ce03fc25607a8f212848594daaee", func := "murmuration/murmurationlaw01.ShaSums", spec := "shaSums", named := ["murmuration/sha.firstWords", "murmuration/sha.roundWords"], apart := false, laid := [("murmuration/sha.roundWords", laid_murmuration_sha_roundWords), ("murmuration/sha.firstWords", laid_murmuration_sha_firstWords)], narrowed := true }
def ShaSumsUptoSaid : Prop := shaSumsUptoRow.holds Tryd.pinned (OpenSpec.upto shaSumsSpec)

/-- 'murmurationlaw01.ShaParts', WHERE WHAT IT READS IS OF BULK AT MOST 1048576: true; the input reads as it did. -/
def shaPartsUptoRow : OpenClaim := { program := "ytkcammaccgkflaadoor", sum := "a2d6db7853a395379949bac67cde5402b965ce03fc25607a8f212848594daaee", func := "murmuration/murmurationlaw01.ShaParts", spec := "shaParts", named := ["murmuration/sha.firstWords", "murmuration/sha.roundWords"], apart := false, laid := [("murmuration/sha.roundWords", laid_murmuration_sha_roundWords), ("murmuration/sha.firstWords", laid_murmuration_sha_firstWords)], narrowed := true }
def ShaPartsUptoSaid : Prop := shaPartsUptoRow.holds Tryd.pinned (OpenSpec.upto shaPartsSpec)

/-- 'murmurationlaw01.ShaLong', WHERE WHAT IT READS IS OF BULK AT MOST 1048576: true; the input reads as it did. -/
def shaLongUptoRow : OpenClaim := { program := "ytkcammaccgkflaadoor", sum := "a2d6db7853a395379949bac67cde5402b965ce03fc25607a8f212848594daaee", func := "murmuration/murmurationlaw01.ShaLong", spec := "shaLong", named := ["murmuration/sha.firstWords", "murmuration/sha.roundWords"], apart := false, laid := [("murmuration/sha.roundWords", laid_murmuration_sha_roundWords), ("murmuration/sha.firstWords", laid_murmuration_sha_firstWords)], narrowed := true }
def ShaLongUptoSaid : Prop := shaLongUptoRow.holds Tryd.pinned (OpenSpec.upto shaLongSpec)

/-- 'murmurationlaw02.HmacTags', WHERE WHAT IT READS IS OF BULK AT MOST 1048576: true; the input reads as it did. -/
def hmacTagsUptoRow : OpenClaim := { program := "ytkcammaccgkflaadoor", sum := "a2d6db7853a395379949bac67cde5402b965ce03fc25607a8f212848594daaee", func := "murmuration/murmurationlaw02.HmacTags", spec := "hmacTags", named := ["murmuration/sha.firstWords", "murmuration/sha.roundWords"], apart := false, laid := [("murmuration/sha.roundWords", laid_murmuration_sha_roundWords), ("murmuration/sha.firstWords", laid_murmuration_sha_firstWords)], narrowed := true }
def HmacTagsUptoSaid : Prop := hmacTagsUptoRow.holds Tryd.pinned (OpenSpec.upto hmacTagsSpec)

/-- 'murmurationlaw02.HmacParts', WHERE WHAT IT READS IS OF BULK AT MOST 1048576: true; the input reads as it did. -/
def hmacPartsUptoRow : OpenClaim := { program := "ytkcammaccgkflaadoor", sum := "a2d6db7853a395379949bac67cde5402b965ce03fc25607a8f212848594daaee", func := "murmuration/murmurationlaw02.HmacParts", spec := "hmacParts", named := ["murmuration/sha.firstWords", "murmuration/sha.roundWords"], apart := false, laid := [("murmuration/sha.roundWords", laid_murmuration_sha_roundWords), ("murmuration/sha.firstWords", laid_murmuration_sha_firstWords)], narrowed := true }
def HmacPartsUptoSaid : Prop := hmacPartsUptoRow.holds Tryd.pinned (OpenSpec.upto hmacPartsSpec)

/-- 'murmurationlaw02.HmacSame', WHERE WHAT IT READS IS OF BULK AT MOST 1048576: true; the input reads as it did. -/
def hmacSameUptoRow : OpenClaim := { program := "ytkcammaccgkflaadoor", sum := "a2d6db7853a395379949bac67cde5402b965ce03fc25607a8f212848594daaee", func := "murmuration/murmurationlaw02.HmacSame", spec := "hmacSame", named := ["murmuration/sha.firstWords", "murmuration/sha.roundWords"], apart := false, laid := [("murmuration/sha.roundWords", laid_murmuration_sha_roundWords), ("murmuration/sha.firstWords", laid_murmuration_sha_firstWords)], narrowed := true }
def HmacSameUptoSaid : Prop := hmacSameUptoRow.holds Tryd.pinned (OpenSpec.upto hmacSameSpec)

/-- 'murmurationlaw09.AttestMakes', WHERE WHAT IT READS IS OF BULK AT MOST 1048576: true; the input reads as it did. -/
def attestMakesUptoRow : OpenClaim := { program := "ytkcammaccgkflaadoor", sum := "a2d6db7853a395379949bac67cde5402b965ce03fc25607a8f212848594daaee", func := "murmuration/murmurationlaw09.AttestMakes", spec := "attestMakes", named := ["murmuration/sha.firstWords", "murmuration/sha.roundWords"], apart := false, laid := [("murmuration/sha.roundWords", laid_murmuration_sha_roundWords), ("murmuration/sha.firstWords", laid_murmuration_sha_firstWords)], narrowed := true }
def AttestMakesUptoSaid : Prop := attestMakesUptoRow.holds Tryd.pinned (OpenSpec.upto attestMakesSpec)

/-- 'murmurationlaw09.AttestRight', WHERE WHAT IT READS IS OF BULK AT MOST 1048576: true; the input reads as it did. -/
def attestRightUptoRow : OpenClaim := { program := "ytkcammaccgkflaadoor", sum := "a2d6db7853a395379949bac67cde5402b965ce03fc25607a8f212848594daaee", func := "murmuration/murmurationlaw09.AttestRight", spec := "attestRight", named := ["murmuration/sha.firstWords", "murmuration/sha.roundWords"], apart := false, laid := [("murmuration/sha.roundWords", laid_murmuration_sha_roundWords), ("murmuration/sha.firstWords", laid_murmuration_sha_firstWords)], narrowed := true }
def AttestRightUptoSaid : Prop := attestRightUptoRow.holds Tryd.pinned (OpenSpec.upto attestRightSpec)

/-- 'murmurationlaw09.AttestBytes', WHERE WHAT IT READS IS OF BULK AT MOST 1048576: true; the input reads as it did. -/
def attestBytesUptoRow : OpenClaim := { program := "ytkcammaccgkflaadoor", sum := "a2d6db7853a395379949bac67cde5402b965ce03fc25607a8f212848594daaee", func := "murmuration/murmurationlaw09.AttestBytes", spec := "attestBytes", inPlace := ["internal/bytealg.Compare"], named := ["murmuration/sha.firstWords", "murmuration/sha.roundWords"], apart := false, laid := [("murmuration/sha.roundWords", laid_murmuration_sha_roundWords), ("murmuration/sha.firstWords", laid_murmuration_sha_firstWords)], narrowed := true }
def AttestBytesUptoSaid : Prop := attestBytesUptoRow.holds Tryd.pinned (OpenSpec.upto attestBytesSpec)

/-- 'murmurationlaw09.AttestOnly', WHERE WHAT IT READS IS OF BULK AT MOST 1048576: true; the input reads as it did. -/
def attestOnlyUptoRow : OpenClaim := { program := "ytkcammaccgkflaadoor", sum := "a2d6db7853a395379949bac67cde5402b965ce03fc25607a8f212848594daaee", func := "murmuration/murmurationlaw09.AttestOnly", spec := "attestOnly", named := ["murmuration/sha.firstWords", "murmuration/sha.roundWords"], apart := false, laid := [("murmuration/sha.roundWords", laid_murmuration_sha_roundWords), ("murmuration/sha.firstWords", laid_murmuration_sha_firstWords)], narrowed := true }
def AttestOnlyUptoSaid : Prop := attestOnlyUptoRow.holds Tryd.pinned (OpenSpec.upto attestOnlySpec)

/-- 'murmurationlaw09.AttestOrder', WHERE WHAT IT READS IS OF BULK AT MOST 1048576: true; the input reads as it did. -/
def attestOrderUptoRow : OpenClaim := { program := "ytkcammaccgkflaadoor", sum := "a2d6db7853a395379949bac67cde5402b965ce03fc25607a8f212848594daaee", func := "murmuration/murmurationlaw09.AttestOrder", spec := "attestOrder", inPlace := ["internal/bytealg.Compare"], named := ["murmuration/sha.firstWords", "murmuration/sha.roundWords"], apart := false, laid := [("murmuration/sha.roundWords", laid_murmuration_sha_roundWords), ("murmuration/sha.firstWords", laid_murmuration_sha_firstWords)], narrowed := true }
def AttestOrderUptoSaid : Prop := attestOrderUptoRow.holds Tryd.pinned (OpenSpec.upto attestOrderSpec)

/-- 'murmurationlaw09.AttestSecrets', WHERE WHAT IT READS IS OF BULK AT MOST 1048576: true; the input reads as it did. -/
def attestSecretsUptoRow : OpenClaim := { program := "ytkcammaccgkflaadoor", sum := "a2d6db7853a395379949bac67cde5402b965ce03fc25607a8f212848594daaee", func := "murmuration/murmurationlaw09.AttestSecrets", spec := "attestSecrets", named := ["murmuration/sha.firstWords", "murmuration/sha.roundWords"], apart := false, laid := [("murmuration/sha.roundWords", laid_murmuration_sha_roundWords), ("murmuration/sha.firstWords", laid_murmuration_sha_firstWords)], narrowed := true }
def AttestSecretsUptoSaid : Prop := attestSecretsUptoRow.holds Tryd.pinned (OpenSpec.upto attestSecretsSpec)

/-- 'murmurationlaw20.AdvertsPlays', WHERE WHAT IT READS IS OF BULK AT MOST 1048576: true; the input reads as it did. -/
def advertsPlaysUptoRow : OpenClaim := { program := "ytkcammaccgkflaadoor", sum := "a2d6db7853a395379949bac67cde5402b965ce03fc25607a8f212848594daaee", func := "murmuration/murmurationlaw20.AdvertsPlays", spec := "advertsPlays", inPlace := ["internal/bytealg.Compare", "slices.overlaps[murmuration/api.Attest]"], unfollowed := true, recurses := true, named := ["murmuration/sha.firstWords", "murmuration/sha.roundWords"], apart := false, laid := [("murmuration/sha.roundWords", laid_murmuration_sha_roundWords), ("murmuration/sha.firstWords", laid_murmuration_sha_firstWords)], narrowed := true }
def AdvertsPlaysUptoSaid : Prop := advertsPlaysUptoRow.holds Tryd.pinned (OpenSpec.upto advertsPlaysSpec)

/-- 'murmurationlaw20.AdvertsNone', WHERE WHAT IT READS IS OF BULK AT MOST 1048576: true; the input reads as it did. -/
def advertsNoneUptoRow : OpenClaim := { program := "ytkcammaccgkflaadoor", sum := "a2d6db7853a395379949bac67cde5402b965ce03fc25607a8f212848594daaee", func := "murmuration/murmurationlaw20.AdvertsNone", spec := "advertsNone", inPlace := ["internal/bytealg.Compare", "slices.overlaps[murmuration/api.Attest]"], unfollowed := true, recurses := true, named := ["murmuration/sha.firstWords", "murmuration/sha.roundWords"], apart := false, laid := [("murmuration/sha.roundWords", laid_murmuration_sha_roundWords), ("murmuration/sha.firstWords", laid_murmuration_sha_firstWords)], narrowed := true }
def AdvertsNoneUptoSaid : Prop := advertsNoneUptoRow.holds Tryd.pinned (OpenSpec.upto advertsNoneSpec)

/-- 'murmurationlaw20.AdvertsOrder', WHERE WHAT IT READS IS OF BULK AT MOST 1048576: true; the input reads as it did. -/
def advertsOrderUptoRow : OpenClaim := { program := "ytkcammaccgkflaadoor", sum := "a2d6db7853a395379949bac67cde5402b965ce03fc25607a8f212848594daaee", func := "murmuration/murmurationlaw20.AdvertsOrder", spec := "advertsOrder", inPlace := ["internal/bytealg.Compare", "slices.overlaps[murmuration/api.Attest]"], unfollowed := true, recurses := true, named := ["murmuration/sha.firstWords", "murmuration/sha.roundWords"], apart := false, laid := [("murmuration/sha.roundWords", laid_murmuration_sha_roundWords), ("murmuration/sha.firstWords", laid_murmuration_sha_firstWords)], narrowed := true }
def AdvertsOrderUptoSaid : Prop := advertsOrderUptoRow.holds Tryd.pinned (OpenSpec.upto advertsOrderSpec)

/-- 'murmurationlaw20.AdvertsParts', WHERE WHAT IT READS IS OF BULK AT MOST 1048576: true; the input reads as it did. -/
def advertsPartsUptoRow : OpenClaim := { program := "ytkcammaccgkflaadoor", sum := "a2d6db7853a395379949bac67cde5402b965ce03fc25607a8f212848594daaee", func := "murmuration/murmurationlaw20.AdvertsParts", spec := "advertsParts", inPlace := ["internal/bytealg.Compare", "slices.overlaps[murmuration/api.Attest]"], unfollowed := true, recurses := true, named := ["murmuration/sha.firstWords", "murmuration/sha.roundWords"], apart := false, laid := [("murmuration/sha.roundWords", laid_murmuration_sha_roundWords), ("murmuration/sha.firstWords", laid_murmuration_sha_firstWords)], narrowed := true }
def AdvertsPartsUptoSaid : Prop := advertsPartsUptoRow.holds Tryd.pinned (OpenSpec.upto advertsPartsSpec)

/-- 'murmurationlaw20.AdvertsSums', WHERE WHAT IT READS IS OF BULK AT MOST 1048576: true; the input reads as it did. -/
def advertsSumsUptoRow : OpenClaim := { program := "ytkcammaccgkflaadoor", sum := "a2d6db7853a395379949bac67cde5402b965ce03fc25607a8f212848594daaee", func := "murmuration/murmurationlaw20.AdvertsSums", spec := "advertsSums", inPlace := ["internal/bytealg.Compare", "slices.overlaps[murmuration/api.Attest]"], unfollowed := true, recurses := true, named := ["murmuration/sha.firstWords", "murmuration/sha.roundWords"], apart := false, laid := [("murmuration/sha.roundWords", laid_murmuration_sha_roundWords), ("murmuration/sha.firstWords", laid_murmuration_sha_firstWords)], narrowed := true }
def AdvertsSumsUptoSaid : Prop := advertsSumsUptoRow.holds Tryd.pinned (OpenSpec.upto advertsSumsSpec)

/-- 'murmurationlaw20.AdvertsMost', WHERE WHAT IT READS IS OF BULK AT MOST 1048576: true; the input reads as it did. -/
def advertsMostUptoRow : OpenClaim := { program := "ytkcammaccgkflaadoor", sum := "a2d6db7853a395379949bac67cde5402b965ce03fc25607a8f212848594daaee", func := "murmuration/murmurationlaw20.AdvertsMost", spec := "advertsMost", inPlace := ["internal/bytealg.Compare", "slices.overlaps[murmuration/api.Attest]"], unfollowed := true, recurses := true, named := ["murmuration/sha.firstWords", "murmuration/sha.roundWords"], apart := false, laid := [("murmuration/sha.roundWords", laid_murmuration_sha_roundWords), ("murmuration/sha.firstWords", laid_murmuration_sha_firstWords)], narrowed := true }
def AdvertsMostUptoSaid : Prop := advertsMostUptoRow.holds Tryd.pinned (OpenSpec.upto advertsMostSpec)

end Rows
end Go.Proofs.YtkcammaccgkflaaDoor
