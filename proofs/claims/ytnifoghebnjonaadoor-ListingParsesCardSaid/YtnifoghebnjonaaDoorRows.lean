/-
  NARROWER THAN 'FOR EVERY INPUT', by the rows' own cells (each row's printed sentence says how): ListingTexts: laid · ListingParses: laid · ListingReads: laid · ListingBack: laid · ListingApart: laid · AluValues: laid · AluGoes: laid · AluLoads: laid · AluWide: laid · AluTurn: laid · AluBack: laid · AluAtomic: laid.
  DERIVED. THE GIVEN ROWS OF THIS SEAT. 12 by the template 'for every input the law returns true; each argument reads behind the call as it read before'; 0 by the template 'total and deterministic' (their statements: YtnifoghebnjonaaDoorTotals.lean).
  GIVEN WITH THE SEED: the statements are not yours to turn. If you find one false, say at which input.
  Laid BY PROGRAM, IN A SANDBOX (cutbox-rows.mjs): the forced cells as the released guide's own fill.sh prints them over the translation 196e1beeb8570cdf… (all of the seat's roots in one cut). By AI agents, Wed Nov 11 2026. No macro, syntax, notation, axiom, sorry.
-/
import Derived.Test.YtnifoghebnjonaaDoorChecked
import GoSem.Claim
import GoSem.ClaimJoined
import GoSem.ClaimMapViews
import Derived.JoinedTies
import Derived.KernelRfl
namespace Go.Proofs.YtnifoghebnjonaaDoor
/- THE CELL 'sum', in the pinned program and in every row, IS THE sha256 OF THE DUMP (.gsa) THAT YtnifoghebnjonaaDoorProg.lean LOADS. Nothing in Lean hashes anything: it is a label: what it is worth is what the hold of that sum in a sandbox is worth. -/
noncomputable def Tryd.pinned : Pinned := { name := "ytnifoghebnjonaadoor", sum := "196e1beeb8570cdf241b345d74cb8dc218c559732e8dd8b5f0338ea7d81e30cb", checked := Tryd.checked }
namespace Rows
def none {H : Type} : Left H := { results := [], args := [] }

/- WHAT THE LISTED PACKAGE-LEVEL VARIABLES READ AS WHEN THE CALL BEGINS. Each datum BY PROGRAM (the guide's laid-datum.mjs) off the statement by which the dump's own 'gosem.cut.vars' lays the variable. In a bare row this is a premise. The card (YtnifoghebnjonaaDoorCards.lean) ties it to the program's text. -/
def laid_math_bits_deBruijn32tab {H : Type} : DataW H := .agg [.lit (.int .u8 0), .lit (.int .u8 1), .lit (.int .u8 28), .lit (.int .u8 2), .lit (.int .u8 29), .lit (.int .u8 14), .lit (.int .u8 24), .lit (.int .u8 3), .lit (.int .u8 30), .lit (.int .u8 22), .lit (.int .u8 20), .lit (.int .u8 15), .lit (.int .u8 25), .lit (.int .u8 17), .lit (.int .u8 4), .lit (.int .u8 8), .lit (.int .u8 31), .lit (.int .u8 27), .lit (.int .u8 13), .lit (.int .u8 23), .lit (.int .u8 21), .lit (.int .u8 19), .lit (.int .u8 16), .lit (.int .u8 7), .lit (.int .u8 26), .lit (.int .u8 12), .lit (.int .u8 18), .lit (.int .u8 6), .lit (.int .u8 11), .lit (.int .u8 5), .lit (.int .u8 10), .lit (.int .u8 9)]
def laid_math_bits_deBruijn64tab {H : Type} : DataW H := .agg [.lit (.int .u8 0), .lit (.int .u8 1), .lit (.int .u8 56), .lit (.int .u8 2), .lit (.int .u8 57), .lit (.int .u8 49), .lit (.int .u8 28), .lit (.int .u8 3), .lit (.int .u8 61), .lit (.int .u8 58), .lit (.int .u8 42), .lit (.int .u8 50), .lit (.int .u8 38), .lit (.int .u8 29), .lit (.int .u8 17), .lit (.int .u8 4), .lit (.int .u8 62), .lit (.int .u8 47), .lit (.int .u8 59), .lit (.int .u8 36), .lit (.int .u8 45), .lit (.int .u8 43), .lit (.int .u8 51), .lit (.int .u8 22), .lit (.int .u8 53), .lit (.int .u8 39), .lit (.int .u8 33), .lit (.int .u8 30), .lit (.int .u8 24), .lit (.int .u8 18), .lit (.int .u8 12), .lit (.int .u8 5), .lit (.int .u8 63), .lit (.int .u8 55), .lit (.int .u8 48), .lit (.int .u8 27), .lit (.int .u8 60), .lit (.int .u8 41), .lit (.int .u8 37), .lit (.int .u8 16), .lit (.int .u8 46), .lit (.int .u8 35), .lit (.int .u8 44), .lit (.int .u8 21), .lit (.int .u8 52), .lit (.int .u8 32), .lit (.int .u8 23), .lit (.int .u8 11), .lit (.int .u8 54), .lit (.int .u8 26), .lit (.int .u8 40), .lit (.int .u8 15), .lit (.int .u8 34), .lit (.int .u8 20), .lit (.int .u8 31), .lit (.int .u8 10), .lit (.int .u8 25), .lit (.int .u8 14), .lit (.int .u8 19), .lit (.int .u8 9), .lit (.int .u8 13), .lit (.int .u8 8), .lit (.int .u8 7), .lit (.int .u8 6)]
def laid_internal_strconv_uint64pow10 {H : Type} : DataW H := .agg [.lit (.int .u64 1), .lit (.int .u64 10), .lit (.int .u64 100), .lit (.int .u64 1000), .lit (.int .u64 10000), .lit (.int .u64 100000), .lit (.int .u64 1000000), .lit (.int .u64 10000000), .lit (.int .u64 100000000), .lit (.int .u64 1000000000), .lit (.int .u64 10000000000), .lit (.int .u64 100000000000), .lit (.int .u64 1000000000000), .lit (.int .u64 10000000000000), .lit (.int .u64 100000000000000), .lit (.int .u64 1000000000000000), .lit (.int .u64 10000000000000000), .lit (.int .u64 100000000000000000), .lit (.int .u64 1000000000000000000), .lit (.int .u64 10000000000000000000)]
def laid_postbag_inst_codes {H : Type} : DataW H := .agg [.lit (.int .u32 0), .lit (.int .u32 1273856), .lit (.int .u32 1142784), .lit (.int .u32 2551808), .lit (.int .u32 3567616), .lit (.int .u32 4599808), .lit (.int .u32 4600064), .lit (.int .u32 4600832), .lit (.int .u32 4601088), .lit (.int .u32 4601344), .lit (.int .u32 4601600), .lit (.int .u32 3158016), .lit (.int .u32 3158272), .lit (.int .u32 3158528), .lit (.int .u32 3158784), .lit (.int .u32 3159040), .lit (.int .u32 3159296), .lit (.int .u32 3159552), .lit (.int .u32 5386240), .lit (.int .u32 5386496), .lit (.int .u32 5386752), .lit (.int .u32 5387008), .lit (.int .u32 3223552), .lit (.int .u32 3224064), .lit (.int .u32 3224320), .lit (.int .u32 3224576), .lit (.int .u32 3225088), .lit (.int .u32 3225344), .lit (.int .u32 6369536), .lit (.int .u32 6370560), .lit (.int .u32 6370592), .lit (.int .u32 8597504), .lit (.int .u32 8597536), .lit (.int .u32 8597760), .lit (.int .u32 8598016), .lit (.int .u32 8598272), .lit (.int .u32 8598528), .lit (.int .u32 8598784), .lit (.int .u32 8598816), .lit (.int .u32 8599040), .lit (.int .u32 8599296), .lit (.int .u32 3256320), .lit (.int .u32 7450880), .lit (.int .u32 7451904), .lit (.int .u32 7451936), .lit (.int .u32 8630272), .lit (.int .u32 8630304), .lit (.int .u32 8630528), .lit (.int .u32 8631552), .lit (.int .u32 8631584), .lit (.int .u32 9498624), .lit (.int .u32 10956800), .lit (.int .u32 10956801), .lit (.int .u32 8597505), .lit (.int .u32 8597761), .lit (.int .u32 8598017), .lit (.int .u32 8598273), .lit (.int .u32 8598529), .lit (.int .u32 8598785), .lit (.int .u32 8599041), .lit (.int .u32 8599297), .lit (.int .u32 8630273), .lit (.int .u32 8631297), .lit (.int .u32 8631553), .lit (.int .u32 8631809), .lit (.int .u32 8632065), .lit (.int .u32 11727362), .lit (.int .u32 12775939), .lit (.int .u32 12775937), .lit (.int .u32 12775936), .lit (.int .u32 12775940), .lit (.int .u32 12775948), .lit (.int .u32 12775944), .lit (.int .u32 12775952), .lit (.int .u32 12775956), .lit (.int .u32 12775960), .lit (.int .u32 12775964), .lit (.int .u32 11727618), .lit (.int .u32 12776195), .lit (.int .u32 12776193), .lit (.int .u32 12776192), .lit (.int .u32 12776196), .lit (.int .u32 12776204), .lit (.int .u32 12776200), .lit (.int .u32 12776208), .lit (.int .u32 12776212), .lit (.int .u32 12776216), .lit (.int .u32 12776220)]
def laid_strconv_ErrRange {H : Type} : DataW H := .iface "*errors.errorString" (.ptr (.agg [.lit (.string [118, 97, 108, 117, 101, 32, 111, 117, 116, 32, 111, 102, 32, 114, 97, 110, 103, 101])]))
def laid_strconv_ErrSyntax {H : Type} : DataW H := .iface "*errors.errorString" (.ptr (.agg [.lit (.string [105, 110, 118, 97, 108, 105, 100, 32, 115, 121, 110, 116, 97, 120])]))
def laid_postbag_listing_names {H : Type} : DataW H := .agg [.lit (.string []), .lit (.string [108, 117, 105]), .lit (.string [97, 117, 105, 112, 99]), .lit (.string [106, 97, 108]), .lit (.string [106, 97, 108, 114]), .lit (.string [98, 101, 113]), .lit (.string [98, 110, 101]), .lit (.string [98, 108, 116]), .lit (.string [98, 103, 101]), .lit (.string [98, 108, 116, 117]), .lit (.string [98, 103, 101, 117]), .lit (.string [108, 98]), .lit (.string [108, 104]), .lit (.string [108, 119]), .lit (.string [108, 100]), .lit (.string [108, 98, 117]), .lit (.string [108, 104, 117]), .lit (.string [108, 119, 117]), .lit (.string [115, 98]), .lit (.string [115, 104]), .lit (.string [115, 119]), .lit (.string [115, 100]), .lit (.string [97, 100, 100, 105]), .lit (.string [115, 108, 116, 105]), .lit (.string [115, 108, 116, 105, 117]), .lit (.string [120, 111, 114, 105]), .lit (.string [111, 114, 105]), .lit (.string [97, 110, 100, 105]), .lit (.string [115, 108, 108, 105]), .lit (.string [115, 114, 108, 105]), .lit (.string [115, 114, 97, 105]), .lit (.string [97, 100, 100]), .lit (.string [115, 117, 98]), .lit (.string [115, 108, 108]), .lit (.string [115, 108, 116]), .lit (.string [115, 108, 116, 117]), .lit (.string [120, 111, 114]), .lit (.string [115, 114, 108]), .lit (.string [115, 114, 97]), .lit (.string [111, 114]), .lit (.string [97, 110, 100]), .lit (.string [97, 100, 100, 105, 119]), .lit (.string [115, 108, 108, 105, 119]), .lit (.string [115, 114, 108, 105, 119]), .lit (.string [115, 114, 97, 105, 119]), .lit (.string [97, 100, 100, 119]), .lit (.string [115, 117, 98, 119]), .lit (.string [115, 108, 108, 119]), .lit (.string [115, 114, 108, 119]), .lit (.string [115, 114, 97, 119]), .lit (.string [102, 101, 110, 99, 101]), .lit (.string [101, 99, 97, 108, 108]), .lit (.string [101, 98, 114, 101, 97, 107]), .lit (.string [109, 117, 108]), .lit (.string [109, 117, 108, 104]), .lit (.string [109, 117, 108, 104, 115, 117]), .lit (.string [109, 117, 108, 104, 117]), .lit (.string [100, 105, 118]), .lit (.string [100, 105, 118, 117]), .lit (.string [114, 101, 109]), .lit (.string [114, 101, 109, 117]), .lit (.string [109, 117, 108, 119]), .lit (.string [100, 105, 118, 119]), .lit (.string [100, 105, 118, 117, 119]), .lit (.string [114, 101, 109, 119]), .lit (.string [114, 101, 109, 117, 119]), .lit (.string [108, 114, 46, 119]), .lit (.string [115, 99, 46, 119]), .lit (.string [97, 109, 111, 115, 119, 97, 112, 46, 119]), .lit (.string [97, 109, 111, 97, 100, 100, 46, 119]), .lit (.string [97, 109, 111, 120, 111, 114, 46, 119]), .lit (.string [97, 109, 111, 97, 110, 100, 46, 119]), .lit (.string [97, 109, 111, 111, 114, 46, 119]), .lit (.string [97, 109, 111, 109, 105, 110, 46, 119]), .lit (.string [97, 109, 111, 109, 97, 120, 46, 119]), .lit (.string [97, 109, 111, 109, 105, 110, 117, 46, 119]), .lit (.string [97, 109, 111, 109, 97, 120, 117, 46, 119]), .lit (.string [108, 114, 46, 100]), .lit (.string [115, 99, 46, 100]), .lit (.string [97, 109, 111, 115, 119, 97, 112, 46, 100]), .lit (.string [97, 109, 111, 97, 100, 100, 46, 100]), .lit (.string [97, 109, 111, 120, 111, 114, 46, 100]), .lit (.string [97, 109, 111, 97, 110, 100, 46, 100]), .lit (.string [97, 109, 111, 111, 114, 46, 100]), .lit (.string [97, 109, 111, 109, 105, 110, 46, 100]), .lit (.string [97, 109, 111, 109, 97, 120, 46, 100]), .lit (.string [97, 109, 111, 109, 105, 110, 117, 46, 100]), .lit (.string [97, 109, 111, 109, 97, 120, 117, 46, 100])]

/-- 'postbaglaw03.ListingTexts': WHATEVER THE INPUT: true; the input reads as it did. -/
def listingTextsSpec : ChangeSpec := { name := "listingTexts", fn := fun _ => fun
  | [d] => { results := [.lit (.bool true)], args := [d] }
  | _ => none }
def listingTextsRow : OpenClaim := { program := "ytnifoghebnjonaadoor", sum := "196e1beeb8570cdf241b345d74cb8dc218c559732e8dd8b5f0338ea7d81e30cb", func := "postbag/postbaglaw03.ListingTexts", spec := "listingTexts", inPlace := ["internal/bytealg.IndexByteString", "internal/bytealg.IndexString"], unfollowed := true, recurses := true, named := ["postbag/inst.codes", "postbag/listing.names", "internal/strconv.uint64pow10", "math/bits.deBruijn32tab", "math/bits.deBruijn64tab", "internal/bytealg.MaxLen", "strconv.ErrSyntax", "strconv.ErrRange"], apart := false, laid := [("math/bits.deBruijn32tab", laid_math_bits_deBruijn32tab), ("math/bits.deBruijn64tab", laid_math_bits_deBruijn64tab), ("internal/strconv.uint64pow10", laid_internal_strconv_uint64pow10), ("postbag/inst.codes", laid_postbag_inst_codes), ("strconv.ErrRange", laid_strconv_ErrRange), ("strconv.ErrSyntax", laid_strconv_ErrSyntax), ("postbag/listing.names", laid_postbag_listing_names)] }
def ListingTextsSaid : Prop := listingTextsRow.holds Tryd.pinned (OpenSpec.ofChange listingTextsSpec)

/-- ITS FALSE NEIGHBOUR: 'it returns false'. Refute it at one input. -/
def listingTextsWrong : ChangeSpec := { name := "listingTexts", fn := fun _ => fun
  | [d] => { results := [.lit (.bool false)], args := [d] }
  | _ => none }
def ListingTextsWrongFalsely : Prop := listingTextsRow.holds Tryd.pinned (OpenSpec.ofChange listingTextsWrong)

/-- 'postbaglaw03.ListingParses': WHATEVER THE INPUT: true; the input reads as it did. -/
def listingParsesSpec : ChangeSpec := { name := "listingParses", fn := fun _ => fun
  | [d] => { results := [.lit (.bool true)], args := [d] }
  | _ => none }
def listingParsesRow : OpenClaim := { program := "ytnifoghebnjonaadoor", sum := "196e1beeb8570cdf241b345d74cb8dc218c559732e8dd8b5f0338ea7d81e30cb", func := "postbag/postbaglaw03.ListingParses", spec := "listingParses", inPlace := ["internal/bytealg.IndexByteString", "internal/bytealg.IndexString"], unfollowed := true, recurses := true, named := ["internal/bytealg.MaxLen", "postbag/listing.names", "postbag/inst.codes", "strconv.ErrSyntax", "strconv.ErrRange", "internal/strconv.uint64pow10", "math/bits.deBruijn32tab", "math/bits.deBruijn64tab"], apart := false, laid := [("math/bits.deBruijn32tab", laid_math_bits_deBruijn32tab), ("math/bits.deBruijn64tab", laid_math_bits_deBruijn64tab), ("internal/strconv.uint64pow10", laid_internal_strconv_uint64pow10), ("postbag/inst.codes", laid_postbag_inst_codes), ("strconv.ErrRange", laid_strconv_ErrRange), ("strconv.ErrSyntax", laid_strconv_ErrSyntax), ("postbag/listing.names", laid_postbag_listing_names)] }
def ListingParsesSaid : Prop := listingParsesRow.holds Tryd.pinned (OpenSpec.ofChange listingParsesSpec)

/-- ITS FALSE NEIGHBOUR: 'it returns false'. Refute it at one input. -/
def listingParsesWrong : ChangeSpec := { name := "listingParses", fn := fun _ => fun
  | [d] => { results := [.lit (.bool false)], args := [d] }
  | _ => none }
def ListingParsesWrongFalsely : Prop := listingParsesRow.holds Tryd.pinned (OpenSpec.ofChange listingParsesWrong)

/-- 'postbaglaw03.ListingReads': WHATEVER THE INPUT: true; the input reads as it did. -/
def listingReadsSpec : ChangeSpec := { name := "listingReads", fn := fun _ => fun
  | [d1, d2] => { results := [.lit (.bool true)], args := [d1, d2] }
  | _ => none }
def listingReadsRow : OpenClaim := { program := "ytnifoghebnjonaadoor", sum := "196e1beeb8570cdf241b345d74cb8dc218c559732e8dd8b5f0338ea7d81e30cb", func := "postbag/postbaglaw03.ListingReads", spec := "listingReads", inPlace := ["internal/bytealg.IndexByteString", "internal/bytealg.IndexString", "internal/abi.NoEscape"], unfollowed := true, recurses := true, named := ["internal/bytealg.MaxLen", "postbag/listing.names", "postbag/inst.codes", "strconv.ErrSyntax", "strconv.ErrRange", "internal/strconv.uint64pow10", "math/bits.deBruijn32tab", "math/bits.deBruijn64tab"], apart := false, laid := [("math/bits.deBruijn32tab", laid_math_bits_deBruijn32tab), ("math/bits.deBruijn64tab", laid_math_bits_deBruijn64tab), ("internal/strconv.uint64pow10", laid_internal_strconv_uint64pow10), ("postbag/inst.codes", laid_postbag_inst_codes), ("strconv.ErrRange", laid_strconv_ErrRange), ("strconv.ErrSyntax", laid_strconv_ErrSyntax), ("postbag/listing.names", laid_postbag_listing_names)] }
def ListingReadsSaid : Prop := listingReadsRow.holds Tryd.pinned (OpenSpec.ofChange listingReadsSpec)

/-- ITS FALSE NEIGHBOUR: 'it returns false'. Refute it at one input. -/
def listingReadsWrong : ChangeSpec := { name := "listingReads", fn := fun _ => fun
  | [d1, d2] => { results := [.lit (.bool false)], args := [d1, d2] }
  | _ => none }
def ListingReadsWrongFalsely : Prop := listingReadsRow.holds Tryd.pinned (OpenSpec.ofChange listingReadsWrong)

/-- 'postbaglaw03.ListingBack': WHATEVER THE INPUT: true; the input reads as it did. -/
def listingBackSpec : ChangeSpec := { name := "listingBack", fn := fun _ => fun
  | [d] => { results := [.lit (.bool true)], args := [d] }
  | _ => none }
def listingBackRow : OpenClaim := { program := "ytnifoghebnjonaadoor", sum := "196e1beeb8570cdf241b345d74cb8dc218c559732e8dd8b5f0338ea7d81e30cb", func := "postbag/postbaglaw03.ListingBack", spec := "listingBack", inPlace := ["internal/bytealg.IndexByteString", "internal/bytealg.IndexString", "internal/abi.NoEscape"], unfollowed := true, recurses := true, named := ["internal/bytealg.MaxLen", "postbag/listing.names", "postbag/inst.codes", "strconv.ErrSyntax", "strconv.ErrRange", "internal/strconv.uint64pow10", "math/bits.deBruijn32tab", "math/bits.deBruijn64tab"], apart := false, laid := [("math/bits.deBruijn32tab", laid_math_bits_deBruijn32tab), ("math/bits.deBruijn64tab", laid_math_bits_deBruijn64tab), ("internal/strconv.uint64pow10", laid_internal_strconv_uint64pow10), ("postbag/inst.codes", laid_postbag_inst_codes), ("strconv.ErrRange", laid_strconv_ErrRange), ("strconv.ErrSyntax", laid_strconv_ErrSyntax), ("postbag/listing.names", laid_postbag_listing_names)] }
def ListingBackSaid : Prop := listingBackRow.holds Tryd.pinned (OpenSpec.ofChange listingBackSpec)

/-- ITS FALSE NEIGHBOUR: 'it returns false'. Refute it at one input. -/
def listingBackWrong : ChangeSpec := { name := "listingBack", fn := fun _ => fun
  | [d] => { results := [.lit (.bool false)], args := [d] }
  | _ => none }
def ListingBackWrongFalsely : Prop := listingBackRow.holds Tryd.pinned (OpenSpec.ofChange listingBackWrong)

/-- 'postbaglaw03.ListingApart': WHATEVER THE INPUT: true; the input reads as it did. -/
def listingApartSpec : ChangeSpec := { name := "listingApart", fn := fun _ => fun
  | [d1, d2] => { results := [.lit (.bool true)], args := [d1, d2] }
  | _ => none }
def listingApartRow : OpenClaim := { program := "ytnifoghebnjonaadoor", sum := "196e1beeb8570cdf241b345d74cb8dc218c559732e8dd8b5f0338ea7d81e30cb", func := "postbag/postbaglaw03.ListingApart", spec := "listingApart", inPlace := ["internal/bytealg.IndexByteString", "internal/bytealg.IndexString"], unfollowed := true, recurses := true, named := ["postbag/inst.codes", "postbag/listing.names", "internal/strconv.uint64pow10", "math/bits.deBruijn32tab", "math/bits.deBruijn64tab", "internal/bytealg.MaxLen", "strconv.ErrSyntax", "strconv.ErrRange"], apart := false, laid := [("math/bits.deBruijn32tab", laid_math_bits_deBruijn32tab), ("math/bits.deBruijn64tab", laid_math_bits_deBruijn64tab), ("internal/strconv.uint64pow10", laid_internal_strconv_uint64pow10), ("postbag/inst.codes", laid_postbag_inst_codes), ("strconv.ErrRange", laid_strconv_ErrRange), ("strconv.ErrSyntax", laid_strconv_ErrSyntax), ("postbag/listing.names", laid_postbag_listing_names)] }
def ListingApartSaid : Prop := listingApartRow.holds Tryd.pinned (OpenSpec.ofChange listingApartSpec)

/-- ITS FALSE NEIGHBOUR: 'it returns false'. Refute it at one input. -/
def listingApartWrong : ChangeSpec := { name := "listingApart", fn := fun _ => fun
  | [d1, d2] => { results := [.lit (.bool false)], args := [d1, d2] }
  | _ => none }
def ListingApartWrongFalsely : Prop := listingApartRow.holds Tryd.pinned (OpenSpec.ofChange listingApartWrong)

/-- 'postbaglaw04.AluValues': WHATEVER THE INPUT: true; the input reads as it did. -/
def aluValuesSpec : ChangeSpec := { name := "aluValues", fn := fun _ => fun
  | [d1, d2, d3, d4] => { results := [.lit (.bool true)], args := [d1, d2, d3, d4] }
  | _ => none }
def aluValuesRow : OpenClaim := { program := "ytnifoghebnjonaadoor", sum := "196e1beeb8570cdf241b345d74cb8dc218c559732e8dd8b5f0338ea7d81e30cb", func := "postbag/postbaglaw04.AluValues", spec := "aluValues", unfollowed := true, recurses := true, named := ["postbag/inst.codes"], apart := false, laid := [("postbag/inst.codes", laid_postbag_inst_codes)] }
def AluValuesSaid : Prop := aluValuesRow.holds Tryd.pinned (OpenSpec.ofChange aluValuesSpec)

/-- ITS FALSE NEIGHBOUR: 'it returns false'. Refute it at one input. -/
def aluValuesWrong : ChangeSpec := { name := "aluValues", fn := fun _ => fun
  | [d1, d2, d3, d4] => { results := [.lit (.bool false)], args := [d1, d2, d3, d4] }
  | _ => none }
def AluValuesWrongFalsely : Prop := aluValuesRow.holds Tryd.pinned (OpenSpec.ofChange aluValuesWrong)

/-- 'postbaglaw04.AluGoes': WHATEVER THE INPUT: true; the input reads as it did. -/
def aluGoesSpec : ChangeSpec := { name := "aluGoes", fn := fun _ => fun
  | [d1, d2, d3, d4] => { results := [.lit (.bool true)], args := [d1, d2, d3, d4] }
  | _ => none }
def aluGoesRow : OpenClaim := { program := "ytnifoghebnjonaadoor", sum := "196e1beeb8570cdf241b345d74cb8dc218c559732e8dd8b5f0338ea7d81e30cb", func := "postbag/postbaglaw04.AluGoes", spec := "aluGoes", unfollowed := true, recurses := true, named := ["postbag/inst.codes"], apart := false, laid := [("postbag/inst.codes", laid_postbag_inst_codes)] }
def AluGoesSaid : Prop := aluGoesRow.holds Tryd.pinned (OpenSpec.ofChange aluGoesSpec)

/-- ITS FALSE NEIGHBOUR: 'it returns false'. Refute it at one input. -/
def aluGoesWrong : ChangeSpec := { name := "aluGoes", fn := fun _ => fun
  | [d1, d2, d3, d4] => { results := [.lit (.bool false)], args := [d1, d2, d3, d4] }
  | _ => none }
def AluGoesWrongFalsely : Prop := aluGoesRow.holds Tryd.pinned (OpenSpec.ofChange aluGoesWrong)

/-- 'postbaglaw04.AluLoads': WHATEVER THE INPUT: true; the input reads as it did. -/
def aluLoadsSpec : ChangeSpec := { name := "aluLoads", fn := fun _ => fun
  | [d1, d2, d3, d4] => { results := [.lit (.bool true)], args := [d1, d2, d3, d4] }
  | _ => none }
def aluLoadsRow : OpenClaim := { program := "ytnifoghebnjonaadoor", sum := "196e1beeb8570cdf241b345d74cb8dc218c559732e8dd8b5f0338ea7d81e30cb", func := "postbag/postbaglaw04.AluLoads", spec := "aluLoads", unfollowed := true, recurses := true, named := ["postbag/inst.codes"], apart := false, laid := [("postbag/inst.codes", laid_postbag_inst_codes)] }
def AluLoadsSaid : Prop := aluLoadsRow.holds Tryd.pinned (OpenSpec.ofChange aluLoadsSpec)

/-- ITS FALSE NEIGHBOUR: 'it returns false'. Refute it at one input. -/
def aluLoadsWrong : ChangeSpec := { name := "aluLoads", fn := fun _ => fun
  | [d1, d2, d3, d4] => { results := [.lit (.bool false)], args := [d1, d2, d3, d4] }
  | _ => none }
def AluLoadsWrongFalsely : Prop := aluLoadsRow.holds Tryd.pinned (OpenSpec.ofChange aluLoadsWrong)

/-- 'postbaglaw04.AluWide': WHATEVER THE INPUT: true; the input reads as it did. -/
def aluWideSpec : ChangeSpec := { name := "aluWide", fn := fun _ => fun
  | [d1, d2, d3, d4, d5, d6] => { results := [.lit (.bool true)], args := [d1, d2, d3, d4, d5, d6] }
  | _ => none }
def aluWideRow : OpenClaim := { program := "ytnifoghebnjonaadoor", sum := "196e1beeb8570cdf241b345d74cb8dc218c559732e8dd8b5f0338ea7d81e30cb", func := "postbag/postbaglaw04.AluWide", spec := "aluWide", unfollowed := true, recurses := true, named := ["postbag/inst.codes"], apart := false, laid := [("postbag/inst.codes", laid_postbag_inst_codes)] }
def AluWideSaid : Prop := aluWideRow.holds Tryd.pinned (OpenSpec.ofChange aluWideSpec)

/-- ITS FALSE NEIGHBOUR: 'it returns false'. Refute it at one input. -/
def aluWideWrong : ChangeSpec := { name := "aluWide", fn := fun _ => fun
  | [d1, d2, d3, d4, d5, d6] => { results := [.lit (.bool false)], args := [d1, d2, d3, d4, d5, d6] }
  | _ => none }
def AluWideWrongFalsely : Prop := aluWideRow.holds Tryd.pinned (OpenSpec.ofChange aluWideWrong)

/-- 'postbaglaw04.AluTurn': WHATEVER THE INPUT: true; the input reads as it did. -/
def aluTurnSpec : ChangeSpec := { name := "aluTurn", fn := fun _ => fun
  | [d1, d2, d3, d4] => { results := [.lit (.bool true)], args := [d1, d2, d3, d4] }
  | _ => none }
def aluTurnRow : OpenClaim := { program := "ytnifoghebnjonaadoor", sum := "196e1beeb8570cdf241b345d74cb8dc218c559732e8dd8b5f0338ea7d81e30cb", func := "postbag/postbaglaw04.AluTurn", spec := "aluTurn", unfollowed := true, recurses := true, named := ["postbag/inst.codes"], apart := false, laid := [("postbag/inst.codes", laid_postbag_inst_codes)] }
def AluTurnSaid : Prop := aluTurnRow.holds Tryd.pinned (OpenSpec.ofChange aluTurnSpec)

/-- ITS FALSE NEIGHBOUR: 'it returns false'. Refute it at one input. -/
def aluTurnWrong : ChangeSpec := { name := "aluTurn", fn := fun _ => fun
  | [d1, d2, d3, d4] => { results := [.lit (.bool false)], args := [d1, d2, d3, d4] }
  | _ => none }
def AluTurnWrongFalsely : Prop := aluTurnRow.holds Tryd.pinned (OpenSpec.ofChange aluTurnWrong)

/-- 'postbaglaw04.AluBack': WHATEVER THE INPUT: true; the input reads as it did. -/
def aluBackSpec : ChangeSpec := { name := "aluBack", fn := fun _ => fun
  | [d1, d2, d3] => { results := [.lit (.bool true)], args := [d1, d2, d3] }
  | _ => none }
def aluBackRow : OpenClaim := { program := "ytnifoghebnjonaadoor", sum := "196e1beeb8570cdf241b345d74cb8dc218c559732e8dd8b5f0338ea7d81e30cb", func := "postbag/postbaglaw04.AluBack", spec := "aluBack", unfollowed := true, recurses := true, named := ["postbag/inst.codes"], apart := false, laid := [("postbag/inst.codes", laid_postbag_inst_codes)] }
def AluBackSaid : Prop := aluBackRow.holds Tryd.pinned (OpenSpec.ofChange aluBackSpec)

/-- ITS FALSE NEIGHBOUR: 'it returns false'. Refute it at one input. -/
def aluBackWrong : ChangeSpec := { name := "aluBack", fn := fun _ => fun
  | [d1, d2, d3] => { results := [.lit (.bool false)], args := [d1, d2, d3] }
  | _ => none }
def AluBackWrongFalsely : Prop := aluBackRow.holds Tryd.pinned (OpenSpec.ofChange aluBackWrong)

/-- 'postbaglaw04.AluAtomic': WHATEVER THE INPUT: true; the input reads as it did. -/
def aluAtomicSpec : ChangeSpec := { name := "aluAtomic", fn := fun _ => fun
  | [d1, d2, d3, d4] => { results := [.lit (.bool true)], args := [d1, d2, d3, d4] }
  | _ => none }
def aluAtomicRow : OpenClaim := { program := "ytnifoghebnjonaadoor", sum := "196e1beeb8570cdf241b345d74cb8dc218c559732e8dd8b5f0338ea7d81e30cb", func := "postbag/postbaglaw04.AluAtomic", spec := "aluAtomic", unfollowed := true, recurses := true, named := ["postbag/inst.codes"], apart := false, laid := [("postbag/inst.codes", laid_postbag_inst_codes)] }
def AluAtomicSaid : Prop := aluAtomicRow.holds Tryd.pinned (OpenSpec.ofChange aluAtomicSpec)

/-- ITS FALSE NEIGHBOUR: 'it returns false'. Refute it at one input. -/
def aluAtomicWrong : ChangeSpec := { name := "aluAtomic", fn := fun _ => fun
  | [d1, d2, d3, d4] => { results := [.lit (.bool false)], args := [d1, d2, d3, d4] }
  | _ => none }
def AluAtomicWrongFalsely : Prop := aluAtomicRow.holds Tryd.pinned (OpenSpec.ofChange aluAtomicWrong)

/- THE SECOND FORM. 'bulk': how many values and letters a reading holds, each counted each time it is reached (what is shared counts as often as it is met; a slice's spare places count too). A statement '..UptoSaid' is the law's where the arguments, and the package variables that the reading takes, are together of bulk at most 1048576: NARROWER than '..Said'. Prove '..Said' where nothing that the law and all that it calls make is longer than what came in: it says more and counts as full. Else prove '..UptoSaid'. A law counts once. -/
mutual
def uptoBulk {H : Type} : DataW H → Nat
  | .lit (.string bytes) => bytes.length + 1
  | .lit _ => 1
  | .nil => 1
  | .ptr d => uptoBulk d + 1
  | .slice elems spare => uptoBulkAll elems + uptoBulkAll spare + 1
  | .agg parts => uptoBulkAll parts + 1
  | .iface _ d => uptoBulk d + 1
  | .map entries => uptoBulkEntries entries + 1
  | .held _ => 1
def uptoBulkAll {H : Type} : List (DataW H) → Nat
  | [] => 0
  | d :: r => uptoBulk d + uptoBulkAll r
def uptoBulkEntries {H : Type} : List (Lit × DataW H) → Nat
  | [] => 0
  | x :: r => uptoBulkEntry x + uptoBulkEntries r
def uptoBulkEntry {H : Type} : Lit × DataW H → Nat
  | (.string bytes, d) => bytes.length + uptoBulk d + 1
  | (_, d) => uptoBulk d + 1
 end
def uptoSmall : (H : Type) → List (DataW H) → Bool := fun _ ds => decide (uptoBulkAll ds ≤ 1048576)
def OpenSpec.upto (s : _root_.Go.ChangeSpec) : _root_.Go.OpenSpec := { _root_.Go.OpenSpec.ofChange s with cond := some uptoSmall }

/-- 'postbaglaw03.ListingTexts', WHERE WHAT IT READS IS OF BULK AT MOST 1048576: true; the input reads as it did. -/
def listingTextsUptoRow : OpenClaim := { program := "ytnifoghebnjonaadoor", sum := "196e1beeb8570cdf241b345d74cb8dc218c559732e8dd8b5f0338ea7d81e30cb", func := "postbag/postbaglaw03.ListingTexts", spec := "listingTexts", inPlace := ["internal/bytealg.IndexByteString", "internal/bytealg.IndexString"], unfollowed := true, recurses := true, named := ["postbag/inst.codes", "postbag/listing.names", "internal/strconv.uint64pow10", "math/bits.deBruijn32tab", "math/bits.deBruijn64tab", "internal/bytealg.MaxLen", "strconv.ErrSyntax", "strconv.ErrRange"], apart := false, laid := [("math/bits.deBruijn32tab", laid_math_bits_deBruijn32tab), ("math/bits.deBruijn64tab", laid_math_bits_deBruijn64tab), ("internal/strconv.uint64pow10", laid_internal_strconv_uint64pow10), ("postbag/inst.codes", laid_postbag_inst_codes), ("strconv.ErrRange", laid_strconv_ErrRange), ("strconv.ErrSyntax", laid_strconv_ErrSyntax), ("postbag/listing.names", laid_postbag_listing_names)], narrowed := true }
def ListingTextsUptoSaid : Prop := listingTextsUptoRow.holds Tryd.pinned (OpenSpec.upto listingTextsSpec)

/-- 'postbaglaw03.ListingParses', WHERE WHAT IT READS IS OF BULK AT MOST 1048576: true; the input reads as it did. -/
def listingParsesUptoRow : OpenClaim := { program := "ytnifoghebnjonaadoor", sum := "196e1beeb8570cdf241b345d74cb8dc218c559732e8dd8b5f0338ea7d81e30cb", func := "postbag/postbaglaw03.ListingParses", spec := "listingParses", inPlace := ["internal/bytealg.IndexByteString", "internal/bytealg.IndexString"], unfollowed := true, recurses := true, named := ["internal/bytealg.MaxLen", "postbag/listing.names", "postbag/inst.codes", "strconv.ErrSyntax", "strconv.ErrRange", "internal/strconv.uint64pow10", "math/bits.deBruijn32tab", "math/bits.deBruijn64tab"], apart := false, laid := [("math/bits.deBruijn32tab", laid_math_bits_deBruijn32tab), ("math/bits.deBruijn64tab", laid_math_bits_deBruijn64tab), ("internal/strconv.uint64pow10", laid_internal_strconv_uint64pow10), ("postbag/inst.codes", laid_postbag_inst_codes), ("strconv.ErrRange", laid_strconv_ErrRange), ("strconv.ErrSyntax", laid_strconv_ErrSyntax), ("postbag/listing.names", laid_postbag_listing_names)], narrowed := true }
def ListingParsesUptoSaid : Prop := listingParsesUptoRow.holds Tryd.pinned (OpenSpec.upto listingParsesSpec)

/-- 'postbaglaw03.ListingReads', WHERE WHAT IT READS IS OF BULK AT MOST 1048576: true; the input reads as it did. -/
def listingReadsUptoRow : OpenClaim := { program := "ytnifoghebnjonaadoor", sum := "196e1beeb8570cdf241b345d74cb8dc218c559732e8dd8b5f0338ea7d81e30cb", func := "postbag/postbaglaw03.ListingReads", spec := "listingReads", inPlace := ["internal/bytealg.IndexByteString", "internal/bytealg.IndexString", "internal/abi.NoEscape"], unfollowed := true, recurses := true, named := ["internal/bytealg.MaxLen", "postbag/listing.names", "postbag/inst.codes", "strconv.ErrSyntax", "strconv.ErrRange", "internal/strconv.uint64pow10", "math/bits.deBruijn32tab", "math/bits.deBruijn64tab"], apart := false, laid := [("math/bits.deBruijn32tab", laid_math_bits_deBruijn32tab), ("math/bits.deBruijn64tab", laid_math_bits_deBruijn64tab), ("internal/strconv.uint64pow10", laid_internal_strconv_uint64pow10), ("postbag/inst.codes", laid_postbag_inst_codes), ("strconv.ErrRange", laid_strconv_ErrRange), ("strconv.ErrSyntax", laid_strconv_ErrSyntax), ("postbag/listing.names", laid_postbag_listing_names)], narrowed := true }
def ListingReadsUptoSaid : Prop := listingReadsUptoRow.holds Tryd.pinned (OpenSpec.upto listingReadsSpec)

/-- 'postbaglaw03.ListingBack', WHERE WHAT IT READS IS OF BULK AT MOST 1048576: true; the input reads as it did. -/
def listingBackUptoRow : OpenClaim := { program := "ytnifoghebnjonaadoor", sum := "196e1beeb8570cdf241b345d74cb8dc218c559732e8dd8b5f0338ea7d81e30cb", func := "postbag/postbaglaw03.ListingBack", spec := "listingBack", inPlace := ["internal/bytealg.IndexByteString", "internal/bytealg.IndexString", "internal/abi.NoEscape"], unfollowed := true, recurses := true, named := ["internal/bytealg.MaxLen", "postbag/listing.names", "postbag/inst.codes", "strconv.ErrSyntax", "strconv.ErrRange", "internal/strconv.uint64pow10", "math/bits.deBruijn32tab", "math/bits.deBruijn64tab"], apart := false, laid := [("math/bits.deBruijn32tab", laid_math_bits_deBruijn32tab), ("math/bits.deBruijn64tab", laid_math_bits_deBruijn64tab), ("internal/strconv.uint64pow10", laid_internal_strconv_uint64pow10), ("postbag/inst.codes", laid_postbag_inst_codes), ("strconv.ErrRange", laid_strconv_ErrRange), ("strconv.ErrSyntax", laid_strconv_ErrSyntax), ("postbag/listing.names", laid_postbag_listing_names)], narrowed := true }
def ListingBackUptoSaid : Prop := listingBackUptoRow.holds Tryd.pinned (OpenSpec.upto listingBackSpec)

/-- 'postbaglaw03.ListingApart', WHERE WHAT IT READS IS OF BULK AT MOST 1048576: true; the input reads as it did. -/
def listingApartUptoRow : OpenClaim := { program := "ytnifoghebnjonaadoor", sum := "196e1beeb8570cdf241b345d74cb8dc218c559732e8dd8b5f0338ea7d81e30cb", func := "postbag/postbaglaw03.ListingApart", spec := "listingApart", inPlace := ["internal/bytealg.IndexByteString", "internal/bytealg.IndexString"], unfollowed := true, recurses := true, named := ["postbag/inst.codes", "postbag/listing.names", "internal/strconv.uint64pow10", "math/bits.deBruijn32tab", "math/bits.deBruijn64tab", "internal/bytealg.MaxLen", "strconv.ErrSyntax", "strconv.ErrRange"], apart := false, laid := [("math/bits.deBruijn32tab", laid_math_bits_deBruijn32tab), ("math/bits.deBruijn64tab", laid_math_bits_deBruijn64tab), ("internal/strconv.uint64pow10", laid_internal_strconv_uint64pow10), ("postbag/inst.codes", laid_postbag_inst_codes), ("strconv.ErrRange", laid_strconv_ErrRange), ("strconv.ErrSyntax", laid_strconv_ErrSyntax), ("postbag/listing.names", laid_postbag_listing_names)], narrowed := true }
def ListingApartUptoSaid : Prop := listingApartUptoRow.holds Tryd.pinned (OpenSpec.upto listingApartSpec)

/-- 'postbaglaw04.AluValues', WHERE WHAT IT READS IS OF BULK AT MOST 1048576: true; the input reads as it did. -/
def aluValuesUptoRow : OpenClaim := { program := "ytnifoghebnjonaadoor", sum := "196e1beeb8570cdf241b345d74cb8dc218c559732e8dd8b5f0338ea7d81e30cb", func := "postbag/postbaglaw04.AluValues", spec := "aluValues", unfollowed := true, recurses := true, named := ["postbag/inst.codes"], apart := false, laid := [("postbag/inst.codes", laid_postbag_inst_codes)], narrowed := true }
def AluValuesUptoSaid : Prop := aluValuesUptoRow.holds Tryd.pinned (OpenSpec.upto aluValuesSpec)

/-- 'postbaglaw04.AluGoes', WHERE WHAT IT READS IS OF BULK AT MOST 1048576: true; the input reads as it did. -/
def aluGoesUptoRow : OpenClaim := { program := "ytnifoghebnjonaadoor", sum := "196e1beeb8570cdf241b345d74cb8dc218c559732e8dd8b5f0338ea7d81e30cb", func := "postbag/postbaglaw04.AluGoes", spec := "aluGoes", unfollowed := true, recurses := true, named := ["postbag/inst.codes"], apart := false, laid := [("postbag/inst.codes", laid_postbag_inst_codes)], narrowed := true }
def AluGoesUptoSaid : Prop := aluGoesUptoRow.holds Tryd.pinned (OpenSpec.upto aluGoesSpec)

/-- 'postbaglaw04.AluLoads', WHERE WHAT IT READS IS OF BULK AT MOST 1048576: true; the input reads as it did. -/
def aluLoadsUptoRow : OpenClaim := { program := "ytnifoghebnjonaadoor", sum := "196e1beeb8570cdf241b345d74cb8dc218c559732e8dd8b5f0338ea7d81e30cb", func := "postbag/postbaglaw04.AluLoads", spec := "aluLoads", unfollowed := true, recurses := true, named := ["postbag/inst.codes"], apart := false, laid := [("postbag/inst.codes", laid_postbag_inst_codes)], narrowed := true }
def AluLoadsUptoSaid : Prop := aluLoadsUptoRow.holds Tryd.pinned (OpenSpec.upto aluLoadsSpec)

/-- 'postbaglaw04.AluWide', WHERE WHAT IT READS IS OF BULK AT MOST 1048576: true; the input reads as it did. -/
def aluWideUptoRow : OpenClaim := { program := "ytnifoghebnjonaadoor", sum := "196e1beeb8570cdf241b345d74cb8dc218c559732e8dd8b5f0338ea7d81e30cb", func := "postbag/postbaglaw04.AluWide", spec := "aluWide", unfollowed := true, recurses := true, named := ["postbag/inst.codes"], apart := false, laid := [("postbag/inst.codes", laid_postbag_inst_codes)], narrowed := true }
def AluWideUptoSaid : Prop := aluWideUptoRow.holds Tryd.pinned (OpenSpec.upto aluWideSpec)

/-- 'postbaglaw04.AluTurn', WHERE WHAT IT READS IS OF BULK AT MOST 1048576: true; the input reads as it did. -/
def aluTurnUptoRow : OpenClaim := { program := "ytnifoghebnjonaadoor", sum := "196e1beeb8570cdf241b345d74cb8dc218c559732e8dd8b5f0338ea7d81e30cb", func := "postbag/postbaglaw04.AluTurn", spec := "aluTurn", unfollowed := true, recurses := true, named := ["postbag/inst.codes"], apart := false, laid := [("postbag/inst.codes", laid_postbag_inst_codes)], narrowed := true }
def AluTurnUptoSaid : Prop := aluTurnUptoRow.holds Tryd.pinned (OpenSpec.upto aluTurnSpec)

/-- 'postbaglaw04.AluBack', WHERE WHAT IT READS IS OF BULK AT MOST 1048576: true; the input reads as it did. -/
def aluBackUptoRow : OpenClaim := { program := "ytnifoghebnjonaadoor", sum := "196e1beeb8570cdf241b345d74cb8dc218c559732e8dd8b5f0338ea7d81e30cb", func := "postbag/postbaglaw04.AluBack", spec := "aluBack", unfollowed := true, recurses := true, named := ["postbag/inst.codes"], apart := false, laid := [("postbag/inst.codes", laid_postbag_inst_codes)], narrowed := true }
def AluBackUptoSaid : Prop := aluBackUptoRow.holds Tryd.pinned (OpenSpec.upto aluBackSpec)

/-- 'postbaglaw04.AluAtomic', WHERE WHAT IT READS IS OF BULK AT MOST 1048576: true; the input reads as it did. -/
def aluAtomicUptoRow : OpenClaim := { program := "ytnifoghebnjonaadoor", sum := "196e1beeb8570cdf241b345d74cb8dc218c559732e8dd8b5f0338ea7d81e30cb", func := "postbag/postbaglaw04.AluAtomic", spec := "aluAtomic", unfollowed := true, recurses := true, named := ["postbag/inst.codes"], apart := false, laid := [("postbag/inst.codes", laid_postbag_inst_codes)], narrowed := true }
def AluAtomicUptoSaid : Prop := aluAtomicUptoRow.holds Tryd.pinned (OpenSpec.upto aluAtomicSpec)

end Rows
end Go.Proofs.YtnifoghebnjonaaDoor
