/-
  NARROWER THAN 'FOR EVERY INPUT', by the rows' own cells (each row's printed sentence says how): FnExactSheetFrom: laid · FnExactPlaceFrom: laid · FnExactSheetBeside: laid · FnExactGridFrom: laid · FnSheetOf: laid · FnSheetFrom: laid · FnPlaceName: laid · FnPlaceFrom: laid · FnSheetBeside: laid · FnPlaceFar: laid · FnSheetFar: laid.
  DERIVED. THE GIVEN ROWS OF THIS SEAT. 11 by the template 'for every input the law returns true; each argument reads behind the call as it read before'; 0 by the template 'total and deterministic' (their statements: YteoncpifjifjlaaDoorTotals.lean).
  GIVEN WITH THE SEED: the statements are not yours to turn. If you find one false, say at which input.
  Laid BY PROGRAM, IN A SANDBOX (cutbox-rows.mjs): the forced cells as the released guide's own fill.sh prints them over the translation ca9b87ba6e9a306d… (all of the seat's roots in one cut). By AI agents, Wed Nov 11 2026. No macro, syntax, notation, axiom, sorry.
-/
import Derived.Test.YteoncpifjifjlaaDoorChecked
import GoSem.PinnedTables
import GoSem.Claim
import GoSem.ClaimJoined
import GoSem.ClaimMapViews
import Derived.JoinedTies
import Derived.KernelRfl
namespace Go.Proofs.YteoncpifjifjlaaDoor
/- THE CELL 'sum', in the pinned program and in every row, IS THE sha256 OF THE DUMP (.gsa) THAT YteoncpifjifjlaaDoorProg.lean LOADS. Nothing in Lean hashes anything: it is a label: what it is worth is what the hold of that sum in a sandbox is worth. -/
noncomputable def Tryd.pinned : Pinned := { name := "yteoncpifjifjlaadoor", sum := "ca9b87ba6e9a306d0a3d1ffc139bb814faac7d19a6e1cd53b29c90934d0b10f9", checked := Tryd.checked }
namespace Rows
def none {H : Type} : Left H := { results := [], args := [] }

/- WHAT THE LISTED PACKAGE-LEVEL VARIABLES READ AS WHEN THE CALL BEGINS. Each datum BY PROGRAM (the guide's laid-datum.mjs) off the statement by which the dump's own 'gosem.cut.vars' lays the variable. In a bare row this is a premise. The card (YteoncpifjifjlaaDoorCards.lean) ties it to the program's text. -/
def laid_math_bits_deBruijn32tab {H : Type} : DataW H := .agg [.lit (.int .u8 0), .lit (.int .u8 1), .lit (.int .u8 28), .lit (.int .u8 2), .lit (.int .u8 29), .lit (.int .u8 14), .lit (.int .u8 24), .lit (.int .u8 3), .lit (.int .u8 30), .lit (.int .u8 22), .lit (.int .u8 20), .lit (.int .u8 15), .lit (.int .u8 25), .lit (.int .u8 17), .lit (.int .u8 4), .lit (.int .u8 8), .lit (.int .u8 31), .lit (.int .u8 27), .lit (.int .u8 13), .lit (.int .u8 23), .lit (.int .u8 21), .lit (.int .u8 19), .lit (.int .u8 16), .lit (.int .u8 7), .lit (.int .u8 26), .lit (.int .u8 12), .lit (.int .u8 18), .lit (.int .u8 6), .lit (.int .u8 11), .lit (.int .u8 5), .lit (.int .u8 10), .lit (.int .u8 9)]
def laid_math_bits_deBruijn64tab {H : Type} : DataW H := .agg [.lit (.int .u8 0), .lit (.int .u8 1), .lit (.int .u8 56), .lit (.int .u8 2), .lit (.int .u8 57), .lit (.int .u8 49), .lit (.int .u8 28), .lit (.int .u8 3), .lit (.int .u8 61), .lit (.int .u8 58), .lit (.int .u8 42), .lit (.int .u8 50), .lit (.int .u8 38), .lit (.int .u8 29), .lit (.int .u8 17), .lit (.int .u8 4), .lit (.int .u8 62), .lit (.int .u8 47), .lit (.int .u8 59), .lit (.int .u8 36), .lit (.int .u8 45), .lit (.int .u8 43), .lit (.int .u8 51), .lit (.int .u8 22), .lit (.int .u8 53), .lit (.int .u8 39), .lit (.int .u8 33), .lit (.int .u8 30), .lit (.int .u8 24), .lit (.int .u8 18), .lit (.int .u8 12), .lit (.int .u8 5), .lit (.int .u8 63), .lit (.int .u8 55), .lit (.int .u8 48), .lit (.int .u8 27), .lit (.int .u8 60), .lit (.int .u8 41), .lit (.int .u8 37), .lit (.int .u8 16), .lit (.int .u8 46), .lit (.int .u8 35), .lit (.int .u8 44), .lit (.int .u8 21), .lit (.int .u8 52), .lit (.int .u8 32), .lit (.int .u8 23), .lit (.int .u8 11), .lit (.int .u8 54), .lit (.int .u8 26), .lit (.int .u8 40), .lit (.int .u8 15), .lit (.int .u8 34), .lit (.int .u8 20), .lit (.int .u8 31), .lit (.int .u8 10), .lit (.int .u8 25), .lit (.int .u8 14), .lit (.int .u8 19), .lit (.int .u8 9), .lit (.int .u8 13), .lit (.int .u8 8), .lit (.int .u8 7), .lit (.int .u8 6)]
def laid_internal_strconv_uint64pow10 {H : Type} : DataW H := .agg [.lit (.int .u64 1), .lit (.int .u64 10), .lit (.int .u64 100), .lit (.int .u64 1000), .lit (.int .u64 10000), .lit (.int .u64 100000), .lit (.int .u64 1000000), .lit (.int .u64 10000000), .lit (.int .u64 100000000), .lit (.int .u64 1000000000), .lit (.int .u64 10000000000), .lit (.int .u64 100000000000), .lit (.int .u64 1000000000000), .lit (.int .u64 10000000000000), .lit (.int .u64 100000000000000), .lit (.int .u64 1000000000000000), .lit (.int .u64 10000000000000000), .lit (.int .u64 100000000000000000), .lit (.int .u64 1000000000000000000), .lit (.int .u64 10000000000000000000)]
def laid_unicode_utf8_acceptRanges {H : Type} : DataW H := .agg [.agg [.lit (.int .u8 128), .lit (.int .u8 191)], .agg [.lit (.int .u8 160), .lit (.int .u8 191)], .agg [.lit (.int .u8 128), .lit (.int .u8 159)], .agg [.lit (.int .u8 144), .lit (.int .u8 191)], .agg [.lit (.int .u8 128), .lit (.int .u8 143)], .agg [.lit (.int .u8 0), .lit (.int .u8 0)], .agg [.lit (.int .u8 0), .lit (.int .u8 0)], .agg [.lit (.int .u8 0), .lit (.int .u8 0)], .agg [.lit (.int .u8 0), .lit (.int .u8 0)], .agg [.lit (.int .u8 0), .lit (.int .u8 0)], .agg [.lit (.int .u8 0), .lit (.int .u8 0)], .agg [.lit (.int .u8 0), .lit (.int .u8 0)], .agg [.lit (.int .u8 0), .lit (.int .u8 0)], .agg [.lit (.int .u8 0), .lit (.int .u8 0)], .agg [.lit (.int .u8 0), .lit (.int .u8 0)], .agg [.lit (.int .u8 0), .lit (.int .u8 0)]]
/-- One of Go's own tables, pinned by name: the form's constant. -/
def laid_unicode_utf8_first : DataW Unit := Go.Pinned.utf8First

/-- 'laws.FnExactSheetFrom': WHATEVER THE INPUT: true; the input reads as it did. -/
def fnExactSheetFromSpec : ChangeSpec := { name := "fnExactSheetFrom", fn := fun _ => fun
  | [d] => { results := [.lit (.bool true)], args := [d] }
  | _ => none }
def fnExactSheetFromRow : OpenClaim := { program := "yteoncpifjifjlaadoor", sum := "ca9b87ba6e9a306d0a3d1ffc139bb814faac7d19a6e1cd53b29c90934d0b10f9", func := "loop.example/reliefmaps/laws.FnExactSheetFrom", spec := "fnExactSheetFrom", unfollowed := true, recurses := true, named := ["internal/strconv.uint64pow10", "math/bits.deBruijn32tab", "math/bits.deBruijn64tab"], apart := false, laid := [("math/bits.deBruijn32tab", laid_math_bits_deBruijn32tab), ("math/bits.deBruijn64tab", laid_math_bits_deBruijn64tab), ("internal/strconv.uint64pow10", laid_internal_strconv_uint64pow10)] }
def FnExactSheetFromSaid : Prop := fnExactSheetFromRow.holds Tryd.pinned (OpenSpec.ofChange fnExactSheetFromSpec)

/-- ITS FALSE NEIGHBOUR: 'it returns false'. Refute it at one input. -/
def fnExactSheetFromWrong : ChangeSpec := { name := "fnExactSheetFrom", fn := fun _ => fun
  | [d] => { results := [.lit (.bool false)], args := [d] }
  | _ => none }
def FnExactSheetFromWrongFalsely : Prop := fnExactSheetFromRow.holds Tryd.pinned (OpenSpec.ofChange fnExactSheetFromWrong)

/-- 'laws.FnExactPlaceFrom': WHATEVER THE INPUT: true; the input reads as it did. -/
def fnExactPlaceFromSpec : ChangeSpec := { name := "fnExactPlaceFrom", fn := fun _ => fun
  | [d] => { results := [.lit (.bool true)], args := [d] }
  | _ => none }
def fnExactPlaceFromRow : OpenClaim := { program := "yteoncpifjifjlaadoor", sum := "ca9b87ba6e9a306d0a3d1ffc139bb814faac7d19a6e1cd53b29c90934d0b10f9", func := "loop.example/reliefmaps/laws.FnExactPlaceFrom", spec := "fnExactPlaceFrom", unfollowed := true, recurses := true, named := ["internal/strconv.uint64pow10", "math/bits.deBruijn32tab", "math/bits.deBruijn64tab"], apart := false, laid := [("math/bits.deBruijn32tab", laid_math_bits_deBruijn32tab), ("math/bits.deBruijn64tab", laid_math_bits_deBruijn64tab), ("internal/strconv.uint64pow10", laid_internal_strconv_uint64pow10)] }
def FnExactPlaceFromSaid : Prop := fnExactPlaceFromRow.holds Tryd.pinned (OpenSpec.ofChange fnExactPlaceFromSpec)

/-- ITS FALSE NEIGHBOUR: 'it returns false'. Refute it at one input. -/
def fnExactPlaceFromWrong : ChangeSpec := { name := "fnExactPlaceFrom", fn := fun _ => fun
  | [d] => { results := [.lit (.bool false)], args := [d] }
  | _ => none }
def FnExactPlaceFromWrongFalsely : Prop := fnExactPlaceFromRow.holds Tryd.pinned (OpenSpec.ofChange fnExactPlaceFromWrong)

/-- 'laws.FnExactSheetBeside': WHATEVER THE INPUT: true; the input reads as it did. -/
def fnExactSheetBesideSpec : ChangeSpec := { name := "fnExactSheetBeside", fn := fun _ => fun
  | [d1, d2, d3] => { results := [.lit (.bool true)], args := [d1, d2, d3] }
  | _ => none }
def fnExactSheetBesideRow : OpenClaim := { program := "yteoncpifjifjlaadoor", sum := "ca9b87ba6e9a306d0a3d1ffc139bb814faac7d19a6e1cd53b29c90934d0b10f9", func := "loop.example/reliefmaps/laws.FnExactSheetBeside", spec := "fnExactSheetBeside", recurses := true, named := ["internal/strconv.uint64pow10", "math/bits.deBruijn32tab", "math/bits.deBruijn64tab"], apart := false, laid := [("math/bits.deBruijn32tab", laid_math_bits_deBruijn32tab), ("math/bits.deBruijn64tab", laid_math_bits_deBruijn64tab), ("internal/strconv.uint64pow10", laid_internal_strconv_uint64pow10)] }
def FnExactSheetBesideSaid : Prop := fnExactSheetBesideRow.holds Tryd.pinned (OpenSpec.ofChange fnExactSheetBesideSpec)

/-- ITS FALSE NEIGHBOUR: 'it returns false'. Refute it at one input. -/
def fnExactSheetBesideWrong : ChangeSpec := { name := "fnExactSheetBeside", fn := fun _ => fun
  | [d1, d2, d3] => { results := [.lit (.bool false)], args := [d1, d2, d3] }
  | _ => none }
def FnExactSheetBesideWrongFalsely : Prop := fnExactSheetBesideRow.holds Tryd.pinned (OpenSpec.ofChange fnExactSheetBesideWrong)

/-- 'laws.FnExactGridFrom': WHATEVER THE INPUT: true; the input reads as it did. -/
def fnExactGridFromSpec : ChangeSpec := { name := "fnExactGridFrom", fn := fun _ => fun
  | [d] => { results := [.lit (.bool true)], args := [d] }
  | _ => none }
def fnExactGridFromRow : OpenClaim := { program := "yteoncpifjifjlaadoor", sum := "ca9b87ba6e9a306d0a3d1ffc139bb814faac7d19a6e1cd53b29c90934d0b10f9", func := "loop.example/reliefmaps/laws.FnExactGridFrom", spec := "fnExactGridFrom", inPlace := ["internal/bytealg.CountString", "internal/bytealg.IndexByteString", "internal/bytealg.IndexString"], unfollowed := true, recurses := true, named := ["unicode/utf8.first", "unicode/utf8.acceptRanges", "internal/bytealg.MaxLen"], apart := false, laid := [("unicode/utf8.acceptRanges", laid_unicode_utf8_acceptRanges), ("unicode/utf8.first", laid_unicode_utf8_first)] }
def FnExactGridFromSaid : Prop := fnExactGridFromRow.holds Tryd.pinned (OpenSpec.ofChange fnExactGridFromSpec)

/-- ITS FALSE NEIGHBOUR: 'it returns false'. Refute it at one input. -/
def fnExactGridFromWrong : ChangeSpec := { name := "fnExactGridFrom", fn := fun _ => fun
  | [d] => { results := [.lit (.bool false)], args := [d] }
  | _ => none }
def FnExactGridFromWrongFalsely : Prop := fnExactGridFromRow.holds Tryd.pinned (OpenSpec.ofChange fnExactGridFromWrong)

/-- 'laws.FnSheetOf': WHATEVER THE INPUT: true; the input reads as it did. -/
def fnSheetOfSpec : ChangeSpec := { name := "fnSheetOf", fn := fun _ => fun
  | [d] => { results := [.lit (.bool true)], args := [d] }
  | _ => none }
def fnSheetOfRow : OpenClaim := { program := "yteoncpifjifjlaadoor", sum := "ca9b87ba6e9a306d0a3d1ffc139bb814faac7d19a6e1cd53b29c90934d0b10f9", func := "loop.example/reliefmaps/laws.FnSheetOf", spec := "fnSheetOf", unfollowed := true, recurses := true, named := ["internal/strconv.uint64pow10", "math/bits.deBruijn32tab", "math/bits.deBruijn64tab"], apart := false, laid := [("math/bits.deBruijn32tab", laid_math_bits_deBruijn32tab), ("math/bits.deBruijn64tab", laid_math_bits_deBruijn64tab), ("internal/strconv.uint64pow10", laid_internal_strconv_uint64pow10)] }
def FnSheetOfSaid : Prop := fnSheetOfRow.holds Tryd.pinned (OpenSpec.ofChange fnSheetOfSpec)

/-- ITS FALSE NEIGHBOUR: 'it returns false'. Refute it at one input. -/
def fnSheetOfWrong : ChangeSpec := { name := "fnSheetOf", fn := fun _ => fun
  | [d] => { results := [.lit (.bool false)], args := [d] }
  | _ => none }
def FnSheetOfWrongFalsely : Prop := fnSheetOfRow.holds Tryd.pinned (OpenSpec.ofChange fnSheetOfWrong)

/-- 'laws.FnSheetFrom': WHATEVER THE INPUT: true; the input reads as it did. -/
def fnSheetFromSpec : ChangeSpec := { name := "fnSheetFrom", fn := fun _ => fun
  | [d] => { results := [.lit (.bool true)], args := [d] }
  | _ => none }
def fnSheetFromRow : OpenClaim := { program := "yteoncpifjifjlaadoor", sum := "ca9b87ba6e9a306d0a3d1ffc139bb814faac7d19a6e1cd53b29c90934d0b10f9", func := "loop.example/reliefmaps/laws.FnSheetFrom", spec := "fnSheetFrom", unfollowed := true, recurses := true, named := ["internal/strconv.uint64pow10", "math/bits.deBruijn32tab", "math/bits.deBruijn64tab"], apart := false, laid := [("math/bits.deBruijn32tab", laid_math_bits_deBruijn32tab), ("math/bits.deBruijn64tab", laid_math_bits_deBruijn64tab), ("internal/strconv.uint64pow10", laid_internal_strconv_uint64pow10)] }
def FnSheetFromSaid : Prop := fnSheetFromRow.holds Tryd.pinned (OpenSpec.ofChange fnSheetFromSpec)

/-- ITS FALSE NEIGHBOUR: 'it returns false'. Refute it at one input. -/
def fnSheetFromWrong : ChangeSpec := { name := "fnSheetFrom", fn := fun _ => fun
  | [d] => { results := [.lit (.bool false)], args := [d] }
  | _ => none }
def FnSheetFromWrongFalsely : Prop := fnSheetFromRow.holds Tryd.pinned (OpenSpec.ofChange fnSheetFromWrong)

/-- 'laws.FnPlaceName': WHATEVER THE INPUT: true; the input reads as it did. -/
def fnPlaceNameSpec : ChangeSpec := { name := "fnPlaceName", fn := fun _ => fun
  | [d] => { results := [.lit (.bool true)], args := [d] }
  | _ => none }
def fnPlaceNameRow : OpenClaim := { program := "yteoncpifjifjlaadoor", sum := "ca9b87ba6e9a306d0a3d1ffc139bb814faac7d19a6e1cd53b29c90934d0b10f9", func := "loop.example/reliefmaps/laws.FnPlaceName", spec := "fnPlaceName", unfollowed := true, recurses := true, named := ["internal/strconv.uint64pow10", "math/bits.deBruijn32tab", "math/bits.deBruijn64tab"], apart := false, laid := [("math/bits.deBruijn32tab", laid_math_bits_deBruijn32tab), ("math/bits.deBruijn64tab", laid_math_bits_deBruijn64tab), ("internal/strconv.uint64pow10", laid_internal_strconv_uint64pow10)] }
def FnPlaceNameSaid : Prop := fnPlaceNameRow.holds Tryd.pinned (OpenSpec.ofChange fnPlaceNameSpec)

/-- ITS FALSE NEIGHBOUR: 'it returns false'. Refute it at one input. -/
def fnPlaceNameWrong : ChangeSpec := { name := "fnPlaceName", fn := fun _ => fun
  | [d] => { results := [.lit (.bool false)], args := [d] }
  | _ => none }
def FnPlaceNameWrongFalsely : Prop := fnPlaceNameRow.holds Tryd.pinned (OpenSpec.ofChange fnPlaceNameWrong)

/-- 'laws.FnPlaceFrom': WHATEVER THE INPUT: true; the input reads as it did. -/
def fnPlaceFromSpec : ChangeSpec := { name := "fnPlaceFrom", fn := fun _ => fun
  | [d] => { results := [.lit (.bool true)], args := [d] }
  | _ => none }
def fnPlaceFromRow : OpenClaim := { program := "yteoncpifjifjlaadoor", sum := "ca9b87ba6e9a306d0a3d1ffc139bb814faac7d19a6e1cd53b29c90934d0b10f9", func := "loop.example/reliefmaps/laws.FnPlaceFrom", spec := "fnPlaceFrom", unfollowed := true, recurses := true, named := ["internal/strconv.uint64pow10", "math/bits.deBruijn32tab", "math/bits.deBruijn64tab"], apart := false, laid := [("math/bits.deBruijn32tab", laid_math_bits_deBruijn32tab), ("math/bits.deBruijn64tab", laid_math_bits_deBruijn64tab), ("internal/strconv.uint64pow10", laid_internal_strconv_uint64pow10)] }
def FnPlaceFromSaid : Prop := fnPlaceFromRow.holds Tryd.pinned (OpenSpec.ofChange fnPlaceFromSpec)

/-- ITS FALSE NEIGHBOUR: 'it returns false'. Refute it at one input. -/
def fnPlaceFromWrong : ChangeSpec := { name := "fnPlaceFrom", fn := fun _ => fun
  | [d] => { results := [.lit (.bool false)], args := [d] }
  | _ => none }
def FnPlaceFromWrongFalsely : Prop := fnPlaceFromRow.holds Tryd.pinned (OpenSpec.ofChange fnPlaceFromWrong)

/-- 'laws.FnSheetBeside': WHATEVER THE INPUT: true; the input reads as it did. -/
def fnSheetBesideSpec : ChangeSpec := { name := "fnSheetBeside", fn := fun _ => fun
  | [d] => { results := [.lit (.bool true)], args := [d] }
  | _ => none }
def fnSheetBesideRow : OpenClaim := { program := "yteoncpifjifjlaadoor", sum := "ca9b87ba6e9a306d0a3d1ffc139bb814faac7d19a6e1cd53b29c90934d0b10f9", func := "loop.example/reliefmaps/laws.FnSheetBeside", spec := "fnSheetBeside", unfollowed := true, recurses := true, named := ["internal/strconv.uint64pow10", "math/bits.deBruijn32tab", "math/bits.deBruijn64tab"], apart := false, laid := [("math/bits.deBruijn32tab", laid_math_bits_deBruijn32tab), ("math/bits.deBruijn64tab", laid_math_bits_deBruijn64tab), ("internal/strconv.uint64pow10", laid_internal_strconv_uint64pow10)] }
def FnSheetBesideSaid : Prop := fnSheetBesideRow.holds Tryd.pinned (OpenSpec.ofChange fnSheetBesideSpec)

/-- ITS FALSE NEIGHBOUR: 'it returns false'. Refute it at one input. -/
def fnSheetBesideWrong : ChangeSpec := { name := "fnSheetBeside", fn := fun _ => fun
  | [d] => { results := [.lit (.bool false)], args := [d] }
  | _ => none }
def FnSheetBesideWrongFalsely : Prop := fnSheetBesideRow.holds Tryd.pinned (OpenSpec.ofChange fnSheetBesideWrong)

/-- 'laws.FnPlaceFar': WHATEVER THE INPUT: true; the input reads as it did. -/
def fnPlaceFarSpec : ChangeSpec := { name := "fnPlaceFar", fn := fun _ => fun
  | [d1, d2] => { results := [.lit (.bool true)], args := [d1, d2] }
  | _ => none }
def fnPlaceFarRow : OpenClaim := { program := "yteoncpifjifjlaadoor", sum := "ca9b87ba6e9a306d0a3d1ffc139bb814faac7d19a6e1cd53b29c90934d0b10f9", func := "loop.example/reliefmaps/laws.FnPlaceFar", spec := "fnPlaceFar", unfollowed := true, recurses := true, named := ["internal/strconv.uint64pow10", "math/bits.deBruijn32tab", "math/bits.deBruijn64tab"], apart := false, laid := [("math/bits.deBruijn32tab", laid_math_bits_deBruijn32tab), ("math/bits.deBruijn64tab", laid_math_bits_deBruijn64tab), ("internal/strconv.uint64pow10", laid_internal_strconv_uint64pow10)] }
def FnPlaceFarSaid : Prop := fnPlaceFarRow.holds Tryd.pinned (OpenSpec.ofChange fnPlaceFarSpec)

/-- ITS FALSE NEIGHBOUR: 'it returns false'. Refute it at one input. -/
def fnPlaceFarWrong : ChangeSpec := { name := "fnPlaceFar", fn := fun _ => fun
  | [d1, d2] => { results := [.lit (.bool false)], args := [d1, d2] }
  | _ => none }
def FnPlaceFarWrongFalsely : Prop := fnPlaceFarRow.holds Tryd.pinned (OpenSpec.ofChange fnPlaceFarWrong)

/-- 'laws.FnSheetFar': WHATEVER THE INPUT: true; the input reads as it did. -/
def fnSheetFarSpec : ChangeSpec := { name := "fnSheetFar", fn := fun _ => fun
  | [d] => { results := [.lit (.bool true)], args := [d] }
  | _ => none }
def fnSheetFarRow : OpenClaim := { program := "yteoncpifjifjlaadoor", sum := "ca9b87ba6e9a306d0a3d1ffc139bb814faac7d19a6e1cd53b29c90934d0b10f9", func := "loop.example/reliefmaps/laws.FnSheetFar", spec := "fnSheetFar", unfollowed := true, recurses := true, named := ["internal/strconv.uint64pow10", "math/bits.deBruijn32tab", "math/bits.deBruijn64tab"], apart := false, laid := [("math/bits.deBruijn32tab", laid_math_bits_deBruijn32tab), ("math/bits.deBruijn64tab", laid_math_bits_deBruijn64tab), ("internal/strconv.uint64pow10", laid_internal_strconv_uint64pow10)] }
def FnSheetFarSaid : Prop := fnSheetFarRow.holds Tryd.pinned (OpenSpec.ofChange fnSheetFarSpec)

/-- ITS FALSE NEIGHBOUR: 'it returns false'. Refute it at one input. -/
def fnSheetFarWrong : ChangeSpec := { name := "fnSheetFar", fn := fun _ => fun
  | [d] => { results := [.lit (.bool false)], args := [d] }
  | _ => none }
def FnSheetFarWrongFalsely : Prop := fnSheetFarRow.holds Tryd.pinned (OpenSpec.ofChange fnSheetFarWrong)

/- THE SECOND FORM. 'bulk': how many values and letters a reading holds, each counted each time it is reached (what is shared counts as often as it is met; a slice's spare places count too). A statement '..UptoSaid' is the law's where the arguments, and the package variables that the reading takes, are together of bulk at most 1048576: NARROWER than '..Said'. Prove '..Said' where nothing that the law and all that it calls make is longer than what came in: it says more and counts as full. Else prove '..UptoSaid'. A law counts once. -/
mutual
def uptoBulk {H : Type} : DataW H → Nat
  | .lit (.string bytes) => bytes.length + 1
  | .lit _ => 1
  | .nil => 1
  | .ptr d => uptoBulk d + 1
  | .slice elems spare => uptoBulkAll elems + uptoBulkAll spare + 1
  | .agg parts => uptoBulkAll parts + 1
  | .iface _ d => uptoBulk d + 1
  | .map entries => uptoBulkEntries entries + 1
  | .held _ => 1
def uptoBulkAll {H : Type} : List (DataW H) → Nat
  | [] => 0
  | d :: r => uptoBulk d + uptoBulkAll r
def uptoBulkEntries {H : Type} : List (Lit × DataW H) → Nat
  | [] => 0
  | x :: r => uptoBulkEntry x + uptoBulkEntries r
def uptoBulkEntry {H : Type} : Lit × DataW H → Nat
  | (.string bytes, d) => bytes.length + uptoBulk d + 1
  | (_, d) => uptoBulk d + 1
 end
def uptoSmall : (H : Type) → List (DataW H) → Bool := fun _ ds => decide (uptoBulkAll ds ≤ 1048576)
def OpenSpec.upto (s : _root_.Go.ChangeSpec) : _root_.Go.OpenSpec := { _root_.Go.OpenSpec.ofChange s with cond := some uptoSmall }

/-- 'laws.FnExactSheetFrom', WHERE WHAT IT READS IS OF BULK AT MOST 1048576: true; the input reads as it did. -/
def fnExactSheetFromUptoRow : OpenClaim := { program := "yteoncpifjifjlaadoor", sum := "ca9b87ba6e9a306d0a3d1ffc139bb814faac7d19a6e1cd53b29c90934d0b10f9", func := "loop.example/reliefmaps/laws.FnExactSheetFrom", spec := "fnExactSheetFrom", unfollowed := true, recurses := true, named := ["internal/strconv.uint64pow10", "math/bits.deBruijn32tab", "math/bits.deBruijn64tab"], apart := false, laid := [("math/bits.deBruijn32tab", laid_math_bits_deBruijn32tab), ("math/bits.deBruijn64tab", laid_math_bits_deBruijn64tab), ("internal/strconv.uint64pow10", laid_internal_strconv_uint64pow10)], narrowed := true }
def FnExactSheetFromUptoSaid : Prop := fnExactSheetFromUptoRow.holds Tryd.pinned (OpenSpec.upto fnExactSheetFromSpec)

/-- 'laws.FnExactPlaceFrom', WHERE WHAT IT READS IS OF BULK AT MOST 1048576: true; the input reads as it did. -/
def fnExactPlaceFromUptoRow : OpenClaim := { program := "yteoncpifjifjlaadoor", sum := "ca9b87ba6e9a306d0a3d1ffc139bb814faac7d19a6e1cd53b29c90934d0b10f9", func := "loop.example/reliefmaps/laws.FnExactPlaceFrom", spec := "fnExactPlaceFrom", unfollowed := true, recurses := true, named := ["internal/strconv.uint64pow10", "math/bits.deBruijn32tab", "math/bits.deBruijn64tab"], apart := false, laid := [("math/bits.deBruijn32tab", laid_math_bits_deBruijn32tab), ("math/bits.deBruijn64tab", laid_math_bits_deBruijn64tab), ("internal/strconv.uint64pow10", laid_internal_strconv_uint64pow10)], narrowed := true }
def FnExactPlaceFromUptoSaid : Prop := fnExactPlaceFromUptoRow.holds Tryd.pinned (OpenSpec.upto fnExactPlaceFromSpec)

/-- 'laws.FnExactSheetBeside', WHERE WHAT IT READS IS OF BULK AT MOST 1048576: true; the input reads as it did. -/
def fnExactSheetBesideUptoRow : OpenClaim := { program := "yteoncpifjifjlaadoor", sum := "ca9b87ba6e9a306d0a3d1ffc139bb814faac7d19a6e1cd53b29c90934d0b10f9", func := "loop.example/reliefmaps/laws.FnExactSheetBeside", spec := "fnExactSheetBeside", recurses := true, named := ["internal/strconv.uint64pow10", "math/bits.deBruijn32tab", "math/bits.deBruijn64tab"], apart := false, laid := [("math/bits.deBruijn32tab", laid_math_bits_deBruijn32tab), ("math/bits.deBruijn64tab", laid_math_bits_deBruijn64tab), ("internal/strconv.uint64pow10", laid_internal_strconv_uint64pow10)], narrowed := true }
def FnExactSheetBesideUptoSaid : Prop := fnExactSheetBesideUptoRow.holds Tryd.pinned (OpenSpec.upto fnExactSheetBesideSpec)

/-- 'laws.FnExactGridFrom', WHERE WHAT IT READS IS OF BULK AT MOST 1048576: true; the input reads as it did. -/
def fnExactGridFromUptoRow : OpenClaim := { program := "yteoncpifjifjlaadoor", sum := "ca9b87ba6e9a306d0a3d1ffc139bb814faac7d19a6e1cd53b29c90934d0b10f9", func := "loop.example/reliefmaps/laws.FnExactGridFrom", spec := "fnExactGridFrom", inPlace := ["internal/bytealg.CountString", "internal/bytealg.IndexByteString", "internal/bytealg.IndexString"], unfollowed := true, recurses := true, named := ["unicode/utf8.first", "unicode/utf8.acceptRanges", "internal/bytealg.MaxLen"], apart := false, laid := [("unicode/utf8.acceptRanges", laid_unicode_utf8_acceptRanges), ("unicode/utf8.first", laid_unicode_utf8_first)], narrowed := true }
def FnExactGridFromUptoSaid : Prop := fnExactGridFromUptoRow.holds Tryd.pinned (OpenSpec.upto fnExactGridFromSpec)

/-- 'laws.FnSheetOf', WHERE WHAT IT READS IS OF BULK AT MOST 1048576: true; the input reads as it did. -/
def fnSheetOfUptoRow : OpenClaim := { program := "yteoncpifjifjlaadoor", sum := "ca9b87ba6e9a306d0a3d1ffc139bb814faac7d19a6e1cd53b29c90934d0b10f9", func := "loop.example/reliefmaps/laws.FnSheetOf", spec := "fnSheetOf", unfollowed := true, recurses := true, named := ["internal/strconv.uint64pow10", "math/bits.deBruijn32tab", "math/bits.deBruijn64tab"], apart := false, laid := [("math/bits.deBruijn32tab", laid_math_bits_deBruijn32tab), ("math/bits.deBruijn64tab", laid_math_bits_deBruijn64tab), ("internal/strconv.uint64pow10", laid_internal_strconv_uint64pow10)], narrowed := true }
def FnSheetOfUptoSaid : Prop := fnSheetOfUptoRow.holds Tryd.pinned (OpenSpec.upto fnSheetOfSpec)

/-- 'laws.FnSheetFrom', WHERE WHAT IT READS IS OF BULK AT MOST 1048576: true; the input reads as it did. -/
def fnSheetFromUptoRow : OpenClaim := { program := "yteoncpifjifjlaadoor", sum := "ca9b87ba6e9a306d0a3d1ffc139bb814faac7d19a6e1cd53b29c90934d0b10f9", func := "loop.example/reliefmaps/laws.FnSheetFrom", spec := "fnSheetFrom", unfollowed := true, recurses := true, named := ["internal/strconv.uint64pow10", "math/bits.deBruijn32tab", "math/bits.deBruijn64tab"], apart := false, laid := [("math/bits.deBruijn32tab", laid_math_bits_deBruijn32tab), ("math/bits.deBruijn64tab", laid_math_bits_deBruijn64tab), ("internal/strconv.uint64pow10", laid_internal_strconv_uint64pow10)], narrowed := true }
def FnSheetFromUptoSaid : Prop := fnSheetFromUptoRow.holds Tryd.pinned (OpenSpec.upto fnSheetFromSpec)

/-- 'laws.FnPlaceName', WHERE WHAT IT READS IS OF BULK AT MOST 1048576: true; the input reads as it did. -/
def fnPlaceNameUptoRow : OpenClaim := { program := "yteoncpifjifjlaadoor", sum := "ca9b87ba6e9a306d0a3d1ffc139bb814faac7d19a6e1cd53b29c90934d0b10f9", func := "loop.example/reliefmaps/laws.FnPlaceName", spec := "fnPlaceName", unfollowed := true, recurses := true, named := ["internal/strconv.uint64pow10", "math/bits.deBruijn32tab", "math/bits.deBruijn64tab"], apart := false, laid := [("math/bits.deBruijn32tab", laid_math_bits_deBruijn32tab), ("math/bits.deBruijn64tab", laid_math_bits_deBruijn64tab), ("internal/strconv.uint64pow10", laid_internal_strconv_uint64pow10)], narrowed := true }
def FnPlaceNameUptoSaid : Prop := fnPlaceNameUptoRow.holds Tryd.pinned (OpenSpec.upto fnPlaceNameSpec)

/-- 'laws.FnPlaceFrom', WHERE WHAT IT READS IS OF BULK AT MOST 1048576: true; the input reads as it did. -/
def fnPlaceFromUptoRow : OpenClaim := { program := "yteoncpifjifjlaadoor", sum := "ca9b87ba6e9a306d0a3d1ffc139bb814faac7d19a6e1cd53b29c90934d0b10f9", func := "loop.example/reliefmaps/laws.FnPlaceFrom", spec := "fnPlaceFrom", unfollowed := true, recurses := true, named := ["internal/strconv.uint64pow10", "math/bits.deBruijn32tab", "math/bits.deBruijn64tab"], apart := false, laid := [("math/bits.deBruijn32tab", laid_math_bits_deBruijn32tab), ("math/bits.deBruijn64tab", laid_math_bits_deBruijn64tab), ("internal/strconv.uint64pow10", laid_internal_strconv_uint64pow10)], narrowed := true }
def FnPlaceFromUptoSaid : Prop := fnPlaceFromUptoRow.holds Tryd.pinned (OpenSpec.upto fnPlaceFromSpec)

/-- 'laws.FnSheetBeside', WHERE WHAT IT READS IS OF BULK AT MOST 1048576: true; the input reads as it did. -/
def fnSheetBesideUptoRow : OpenClaim := { program := "yteoncpifjifjlaadoor", sum := "ca9b87ba6e9a306d0a3d1ffc139bb814faac7d19a6e1cd53b29c90934d0b10f9", func := "loop.example/reliefmaps/laws.FnSheetBeside", spec := "fnSheetBeside", unfollowed := true, recurses := true, named := ["internal/strconv.uint64pow10", "math/bits.deBruijn32tab", "math/bits.deBruijn64tab"], apart := false, laid := [("math/bits.deBruijn32tab", laid_math_bits_deBruijn32tab), ("math/bits.deBruijn64tab", laid_math_bits_deBruijn64tab), ("internal/strconv.uint64pow10", laid_internal_strconv_uint64pow10)], narrowed := true }
def FnSheetBesideUptoSaid : Prop := fnSheetBesideUptoRow.holds Tryd.pinned (OpenSpec.upto fnSheetBesideSpec)

/-- 'laws.FnPlaceFar', WHERE WHAT IT READS IS OF BULK AT MOST 1048576: true; the input reads as it did. -/
def fnPlaceFarUptoRow : OpenClaim := { program := "yteoncpifjifjlaadoor", sum := "ca9b87ba6e9a306d0a3d1ffc139bb814faac7d19a6e1cd53b29c90934d0b10f9", func := "loop.example/reliefmaps/laws.FnPlaceFar", spec := "fnPlaceFar", unfollowed := true, recurses := true, named := ["internal/strconv.uint64pow10", "math/bits.deBruijn32tab", "math/bits.deBruijn64tab"], apart := false, laid := [("math/bits.deBruijn32tab", laid_math_bits_deBruijn32tab), ("math/bits.deBruijn64tab", laid_math_bits_deBruijn64tab), ("internal/strconv.uint64pow10", laid_internal_strconv_uint64pow10)], narrowed := true }
def FnPlaceFarUptoSaid : Prop := fnPlaceFarUptoRow.holds Tryd.pinned (OpenSpec.upto fnPlaceFarSpec)

/-- 'laws.FnSheetFar', WHERE WHAT IT READS IS OF BULK AT MOST 1048576: true; the input reads as it did. -/
def fnSheetFarUptoRow : OpenClaim := { program := "yteoncpifjifjlaadoor", sum := "ca9b87ba6e9a306d0a3d1ffc139bb814faac7d19a6e1cd53b29c90934d0b10f9", func := "loop.example/reliefmaps/laws.FnSheetFar", spec := "fnSheetFar", unfollowed := true, recurses := true, named := ["internal/strconv.uint64pow10", "math/bits.deBruijn32tab", "math/bits.deBruijn64tab"], apart := false, laid := [("math/bits.deBruijn32tab", laid_math_bits_deBruijn32tab), ("math/bits.deBruijn64tab", laid_math_bits_deBruijn64tab), ("internal/strconv.uint64pow10", laid_internal_strconv_uint64pow10)], narrowed := true }
def FnSheetFarUptoSaid : Prop := fnSheetFarUptoRow.holds Tryd.pinned (OpenSpec.upto fnSheetFarSpec)

end Rows
end Go.Proofs.YteoncpifjifjlaaDoor
