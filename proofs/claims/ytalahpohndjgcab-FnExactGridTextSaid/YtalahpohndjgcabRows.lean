/-
  No cell of these rows narrows 'for every input' (looked for: loops, veiled, ifaces, maps, wideKeys, modest, calm, conditions, laid).
  DERIVED. THE GIVEN ROWS OF THIS SEAT. 12 by the template 'for every input the law returns true; each argument reads behind the call as it read before'; 0 by the template 'total and deterministic' (their statements: YtalahpohndjgcabTotals.lean).
  GIVEN WITH THE SEED: the statements are not yours to turn. If you find one false, say at which input.
  Laid BY PROGRAM, IN A SANDBOX (cutbox-rows.mjs): the forced cells as the released guide's own fill.sh prints them over the translation f494f203fb3264d7… (all of the seat's roots in one cut). By AI agents, Wed Nov 11 2026. No macro, syntax, notation, axiom, sorry.
-/
import Derived.Test.YtalahpohndjgcabChecked
import GoSem.Claim
import GoSem.ClaimJoined
import GoSem.ClaimMapViews
import Derived.JoinedTies
import Derived.KernelRfl
namespace Go.Proofs.Ytalahpohndjgcab
/- THE CELL 'sum', in the pinned program and in every row, IS THE sha256 OF THE DUMP (.gsa) THAT YtalahpohndjgcabProg.lean LOADS. Nothing in Lean hashes anything: it is a label: what it is worth is what the hold of that sum in a sandbox is worth. -/
noncomputable def Try.pinned : Pinned := { name := "ytalahpohndjgcab", sum := "f494f203fb3264d7421604bc7d454f39ad740df4b6053bef0fbbf03e92d167cf", checked := Try.checked }
namespace Rows
def none {H : Type} : Left H := { results := [], args := [] }

/-- 'laws.FnExactGridValid': WHATEVER THE INPUT: true; the input reads as it did. -/
def fnExactGridValidSpec : ChangeSpec := { name := "fnExactGridValid", fn := fun _ => fun
  | [d] => { results := [.lit (.bool true)], args := [d] }
  | _ => none }
def fnExactGridValidRow : OpenClaim := { program := "ytalahpohndjgcab", sum := "f494f203fb3264d7421604bc7d454f39ad740df4b6053bef0fbbf03e92d167cf", func := "loop.example/reliefmaps/laws.FnExactGridValid", spec := "fnExactGridValid", unfollowed := true, recurses := true, apart := false }
def FnExactGridValidSaid : Prop := fnExactGridValidRow.holds Try.pinned (OpenSpec.ofChange fnExactGridValidSpec)

/-- ITS FALSE NEIGHBOUR: 'it returns false'. Refute it at one input. -/
def fnExactGridValidWrong : ChangeSpec := { name := "fnExactGridValid", fn := fun _ => fun
  | [d] => { results := [.lit (.bool false)], args := [d] }
  | _ => none }
def FnExactGridValidWrongFalsely : Prop := fnExactGridValidRow.holds Try.pinned (OpenSpec.ofChange fnExactGridValidWrong)

/-- 'laws.FnExactGridAt': WHATEVER THE INPUT: true; the input reads as it did. -/
def fnExactGridAtSpec : ChangeSpec := { name := "fnExactGridAt", fn := fun _ => fun
  | [d1, d2, d3] => { results := [.lit (.bool true)], args := [d1, d2, d3] }
  | _ => none }
def fnExactGridAtRow : OpenClaim := { program := "ytalahpohndjgcab", sum := "f494f203fb3264d7421604bc7d454f39ad740df4b6053bef0fbbf03e92d167cf", func := "loop.example/reliefmaps/laws.FnExactGridAt", spec := "fnExactGridAt", unfollowed := true, recurses := true, apart := false }
def FnExactGridAtSaid : Prop := fnExactGridAtRow.holds Try.pinned (OpenSpec.ofChange fnExactGridAtSpec)

/-- ITS FALSE NEIGHBOUR: 'it returns false'. Refute it at one input. -/
def fnExactGridAtWrong : ChangeSpec := { name := "fnExactGridAt", fn := fun _ => fun
  | [d1, d2, d3] => { results := [.lit (.bool false)], args := [d1, d2, d3] }
  | _ => none }
def FnExactGridAtWrongFalsely : Prop := fnExactGridAtRow.holds Try.pinned (OpenSpec.ofChange fnExactGridAtWrong)

/-- 'laws.FnExactGridSet': WHATEVER THE INPUT: true; the input reads as it did. -/
def fnExactGridSetSpec : ChangeSpec := { name := "fnExactGridSet", fn := fun _ => fun
  | [d1, d2, d3, d4] => { results := [.lit (.bool true)], args := [d1, d2, d3, d4] }
  | _ => none }
def fnExactGridSetRow : OpenClaim := { program := "ytalahpohndjgcab", sum := "f494f203fb3264d7421604bc7d454f39ad740df4b6053bef0fbbf03e92d167cf", func := "loop.example/reliefmaps/laws.FnExactGridSet", spec := "fnExactGridSet", unfollowed := true, recurses := true, apart := false }
def FnExactGridSetSaid : Prop := fnExactGridSetRow.holds Try.pinned (OpenSpec.ofChange fnExactGridSetSpec)

/-- ITS FALSE NEIGHBOUR: 'it returns false'. Refute it at one input. -/
def fnExactGridSetWrong : ChangeSpec := { name := "fnExactGridSet", fn := fun _ => fun
  | [d1, d2, d3, d4] => { results := [.lit (.bool false)], args := [d1, d2, d3, d4] }
  | _ => none }
def FnExactGridSetWrongFalsely : Prop := fnExactGridSetRow.holds Try.pinned (OpenSpec.ofChange fnExactGridSetWrong)

/-- 'laws.FnExactGridTurn': WHATEVER THE INPUT: true; the input reads as it did. -/
def fnExactGridTurnSpec : ChangeSpec := { name := "fnExactGridTurn", fn := fun _ => fun
  | [d] => { results := [.lit (.bool true)], args := [d] }
  | _ => none }
def fnExactGridTurnRow : OpenClaim := { program := "ytalahpohndjgcab", sum := "f494f203fb3264d7421604bc7d454f39ad740df4b6053bef0fbbf03e92d167cf", func := "loop.example/reliefmaps/laws.FnExactGridTurn", spec := "fnExactGridTurn", unfollowed := true, recurses := true, apart := false }
def FnExactGridTurnSaid : Prop := fnExactGridTurnRow.holds Try.pinned (OpenSpec.ofChange fnExactGridTurnSpec)

/-- ITS FALSE NEIGHBOUR: 'it returns false'. Refute it at one input. -/
def fnExactGridTurnWrong : ChangeSpec := { name := "fnExactGridTurn", fn := fun _ => fun
  | [d] => { results := [.lit (.bool false)], args := [d] }
  | _ => none }
def FnExactGridTurnWrongFalsely : Prop := fnExactGridTurnRow.holds Try.pinned (OpenSpec.ofChange fnExactGridTurnWrong)

/-- 'laws.FnExactGridMirror': WHATEVER THE INPUT: true; the input reads as it did. -/
def fnExactGridMirrorSpec : ChangeSpec := { name := "fnExactGridMirror", fn := fun _ => fun
  | [d] => { results := [.lit (.bool true)], args := [d] }
  | _ => none }
def fnExactGridMirrorRow : OpenClaim := { program := "ytalahpohndjgcab", sum := "f494f203fb3264d7421604bc7d454f39ad740df4b6053bef0fbbf03e92d167cf", func := "loop.example/reliefmaps/laws.FnExactGridMirror", spec := "fnExactGridMirror", unfollowed := true, recurses := true, apart := false }
def FnExactGridMirrorSaid : Prop := fnExactGridMirrorRow.holds Try.pinned (OpenSpec.ofChange fnExactGridMirrorSpec)

/-- ITS FALSE NEIGHBOUR: 'it returns false'. Refute it at one input. -/
def fnExactGridMirrorWrong : ChangeSpec := { name := "fnExactGridMirror", fn := fun _ => fun
  | [d] => { results := [.lit (.bool false)], args := [d] }
  | _ => none }
def FnExactGridMirrorWrongFalsely : Prop := fnExactGridMirrorRow.holds Try.pinned (OpenSpec.ofChange fnExactGridMirrorWrong)

/-- 'laws.FnExactGridRaise': WHATEVER THE INPUT: true; the input reads as it did. -/
def fnExactGridRaiseSpec : ChangeSpec := { name := "fnExactGridRaise", fn := fun _ => fun
  | [d1, d2] => { results := [.lit (.bool true)], args := [d1, d2] }
  | _ => none }
def fnExactGridRaiseRow : OpenClaim := { program := "ytalahpohndjgcab", sum := "f494f203fb3264d7421604bc7d454f39ad740df4b6053bef0fbbf03e92d167cf", func := "loop.example/reliefmaps/laws.FnExactGridRaise", spec := "fnExactGridRaise", unfollowed := true, recurses := true, apart := false }
def FnExactGridRaiseSaid : Prop := fnExactGridRaiseRow.holds Try.pinned (OpenSpec.ofChange fnExactGridRaiseSpec)

/-- ITS FALSE NEIGHBOUR: 'it returns false'. Refute it at one input. -/
def fnExactGridRaiseWrong : ChangeSpec := { name := "fnExactGridRaise", fn := fun _ => fun
  | [d1, d2] => { results := [.lit (.bool false)], args := [d1, d2] }
  | _ => none }
def FnExactGridRaiseWrongFalsely : Prop := fnExactGridRaiseRow.holds Try.pinned (OpenSpec.ofChange fnExactGridRaiseWrong)

/-- 'laws.FnExactGridInvert': WHATEVER THE INPUT: true; the input reads as it did. -/
def fnExactGridInvertSpec : ChangeSpec := { name := "fnExactGridInvert", fn := fun _ => fun
  | [d] => { results := [.lit (.bool true)], args := [d] }
  | _ => none }
def fnExactGridInvertRow : OpenClaim := { program := "ytalahpohndjgcab", sum := "f494f203fb3264d7421604bc7d454f39ad740df4b6053bef0fbbf03e92d167cf", func := "loop.example/reliefmaps/laws.FnExactGridInvert", spec := "fnExactGridInvert", unfollowed := true, recurses := true, apart := false }
def FnExactGridInvertSaid : Prop := fnExactGridInvertRow.holds Try.pinned (OpenSpec.ofChange fnExactGridInvertSpec)

/-- ITS FALSE NEIGHBOUR: 'it returns false'. Refute it at one input. -/
def fnExactGridInvertWrong : ChangeSpec := { name := "fnExactGridInvert", fn := fun _ => fun
  | [d] => { results := [.lit (.bool false)], args := [d] }
  | _ => none }
def FnExactGridInvertWrongFalsely : Prop := fnExactGridInvertRow.holds Try.pinned (OpenSpec.ofChange fnExactGridInvertWrong)

/-- 'laws.FnExactGridPart': WHATEVER THE INPUT: true; the input reads as it did. -/
def fnExactGridPartSpec : ChangeSpec := { name := "fnExactGridPart", fn := fun _ => fun
  | [d1, d2, d3, d4, d5] => { results := [.lit (.bool true)], args := [d1, d2, d3, d4, d5] }
  | _ => none }
def fnExactGridPartRow : OpenClaim := { program := "ytalahpohndjgcab", sum := "f494f203fb3264d7421604bc7d454f39ad740df4b6053bef0fbbf03e92d167cf", func := "loop.example/reliefmaps/laws.FnExactGridPart", spec := "fnExactGridPart", unfollowed := true, recurses := true, apart := false }
def FnExactGridPartSaid : Prop := fnExactGridPartRow.holds Try.pinned (OpenSpec.ofChange fnExactGridPartSpec)

/-- ITS FALSE NEIGHBOUR: 'it returns false'. Refute it at one input. -/
def fnExactGridPartWrong : ChangeSpec := { name := "fnExactGridPart", fn := fun _ => fun
  | [d1, d2, d3, d4, d5] => { results := [.lit (.bool false)], args := [d1, d2, d3, d4, d5] }
  | _ => none }
def FnExactGridPartWrongFalsely : Prop := fnExactGridPartRow.holds Try.pinned (OpenSpec.ofChange fnExactGridPartWrong)

/-- 'laws.FnExactGridBeside': WHATEVER THE INPUT: true; the input reads as it did. -/
def fnExactGridBesideSpec : ChangeSpec := { name := "fnExactGridBeside", fn := fun _ => fun
  | [d1, d2] => { results := [.lit (.bool true)], args := [d1, d2] }
  | _ => none }
def fnExactGridBesideRow : OpenClaim := { program := "ytalahpohndjgcab", sum := "f494f203fb3264d7421604bc7d454f39ad740df4b6053bef0fbbf03e92d167cf", func := "loop.example/reliefmaps/laws.FnExactGridBeside", spec := "fnExactGridBeside", unfollowed := true, recurses := true, apart := false }
def FnExactGridBesideSaid : Prop := fnExactGridBesideRow.holds Try.pinned (OpenSpec.ofChange fnExactGridBesideSpec)

/-- ITS FALSE NEIGHBOUR: 'it returns false'. Refute it at one input. -/
def fnExactGridBesideWrong : ChangeSpec := { name := "fnExactGridBeside", fn := fun _ => fun
  | [d1, d2] => { results := [.lit (.bool false)], args := [d1, d2] }
  | _ => none }
def FnExactGridBesideWrongFalsely : Prop := fnExactGridBesideRow.holds Try.pinned (OpenSpec.ofChange fnExactGridBesideWrong)

/-- 'laws.FnExactGridBelow': WHATEVER THE INPUT: true; the input reads as it did. -/
def fnExactGridBelowSpec : ChangeSpec := { name := "fnExactGridBelow", fn := fun _ => fun
  | [d1, d2] => { results := [.lit (.bool true)], args := [d1, d2] }
  | _ => none }
def fnExactGridBelowRow : OpenClaim := { program := "ytalahpohndjgcab", sum := "f494f203fb3264d7421604bc7d454f39ad740df4b6053bef0fbbf03e92d167cf", func := "loop.example/reliefmaps/laws.FnExactGridBelow", spec := "fnExactGridBelow", unfollowed := true, recurses := true, apart := false }
def FnExactGridBelowSaid : Prop := fnExactGridBelowRow.holds Try.pinned (OpenSpec.ofChange fnExactGridBelowSpec)

/-- ITS FALSE NEIGHBOUR: 'it returns false'. Refute it at one input. -/
def fnExactGridBelowWrong : ChangeSpec := { name := "fnExactGridBelow", fn := fun _ => fun
  | [d1, d2] => { results := [.lit (.bool false)], args := [d1, d2] }
  | _ => none }
def FnExactGridBelowWrongFalsely : Prop := fnExactGridBelowRow.holds Try.pinned (OpenSpec.ofChange fnExactGridBelowWrong)

/-- 'laws.FnExactGridRange': WHATEVER THE INPUT: true; the input reads as it did. -/
def fnExactGridRangeSpec : ChangeSpec := { name := "fnExactGridRange", fn := fun _ => fun
  | [d] => { results := [.lit (.bool true)], args := [d] }
  | _ => none }
def fnExactGridRangeRow : OpenClaim := { program := "ytalahpohndjgcab", sum := "f494f203fb3264d7421604bc7d454f39ad740df4b6053bef0fbbf03e92d167cf", func := "loop.example/reliefmaps/laws.FnExactGridRange", spec := "fnExactGridRange", unfollowed := true, recurses := true, apart := false }
def FnExactGridRangeSaid : Prop := fnExactGridRangeRow.holds Try.pinned (OpenSpec.ofChange fnExactGridRangeSpec)

/-- ITS FALSE NEIGHBOUR: 'it returns false'. Refute it at one input. -/
def fnExactGridRangeWrong : ChangeSpec := { name := "fnExactGridRange", fn := fun _ => fun
  | [d] => { results := [.lit (.bool false)], args := [d] }
  | _ => none }
def FnExactGridRangeWrongFalsely : Prop := fnExactGridRangeRow.holds Try.pinned (OpenSpec.ofChange fnExactGridRangeWrong)

/-- 'laws.FnExactGridText': WHATEVER THE INPUT: true; the input reads as it did. -/
def fnExactGridTextSpec : ChangeSpec := { name := "fnExactGridText", fn := fun _ => fun
  | [d] => { results := [.lit (.bool true)], args := [d] }
  | _ => none }
def fnExactGridTextRow : OpenClaim := { program := "ytalahpohndjgcab", sum := "f494f203fb3264d7421604bc7d454f39ad740df4b6053bef0fbbf03e92d167cf", func := "loop.example/reliefmaps/laws.FnExactGridText", spec := "fnExactGridText", inPlace := ["internal/abi.NoEscape"], unfollowed := true, recurses := true, apart := false }
def FnExactGridTextSaid : Prop := fnExactGridTextRow.holds Try.pinned (OpenSpec.ofChange fnExactGridTextSpec)

/-- ITS FALSE NEIGHBOUR: 'it returns false'. Refute it at one input. -/
def fnExactGridTextWrong : ChangeSpec := { name := "fnExactGridText", fn := fun _ => fun
  | [d] => { results := [.lit (.bool false)], args := [d] }
  | _ => none }
def FnExactGridTextWrongFalsely : Prop := fnExactGridTextRow.holds Try.pinned (OpenSpec.ofChange fnExactGridTextWrong)

/- THE SECOND FORM. 'bulk': how many values and letters a reading holds, each counted each time it is reached (what is shared counts as often as it is met; a slice's spare places count too). A statement '..UptoSaid' is the law's where the arguments, and the package variables that the reading takes, are together of bulk at most 1048576: NARROWER than '..Said'. Prove '..Said' where nothing that the law and all that it calls make is longer than what came in: it says more and counts as full. Else prove '..UptoSaid'. A law counts once. -/
mutual
def uptoBulk {H : Type} : DataW H → Nat
  | .lit (.string bytes) => bytes.length + 1
  | .lit _ => 1
  | .nil => 1
  | .ptr d => uptoBulk d + 1
  | .slice elems spare => uptoBulkAll elems + uptoBulkAll spare + 1
  | .agg parts => uptoBulkAll parts + 1
  | .iface _ d => uptoBulk d + 1
  | .map entries => uptoBulkEntries entries + 1
  | .held _ => 1
def uptoBulkAll {H : Type} : List (DataW H) → Nat
  | [] => 0
  | d :: r => uptoBulk d + uptoBulkAll r
def uptoBulkEntries {H : Type} : List (Lit × DataW H) → Nat
  | [] => 0
  | x :: r => uptoBulkEntry x + uptoBulkEntries r
def uptoBulkEntry {H : Type} : Lit × DataW H → Nat
  | (.string bytes, d) => bytes.length + uptoBulk d + 1
  | (_, d) => uptoBulk d + 1
 end
def uptoSmall : (H : Type) → List (DataW H) → Bool := fun _ ds => decide (uptoBulkAll ds ≤ 1048576)
def OpenSpec.upto (s : _root_.Go.ChangeSpec) : _root_.Go.OpenSpec := { _root_.Go.OpenSpec.ofChange s with cond := some uptoSmall }

/-- 'laws.FnExactGridValid', WHERE WHAT IT READS IS OF BULK AT MOST 1048576: true; the input reads as it did. -/
def fnExactGridValidUptoRow : OpenClaim := { program := "ytalahpohndjgcab", sum := "f494f203fb3264d7421604bc7d454f39ad740df4b6053bef0fbbf03e92d167cf", func := "loop.example/reliefmaps/laws.FnExactGridValid", spec := "fnExactGridValid", unfollowed := true, recurses := true, apart := false, narrowed := true }
def FnExactGridValidUptoSaid : Prop := fnExactGridValidUptoRow.holds Try.pinned (OpenSpec.upto fnExactGridValidSpec)

/-- 'laws.FnExactGridAt', WHERE WHAT IT READS IS OF BULK AT MOST 1048576: true; the input reads as it did. -/
def fnExactGridAtUptoRow : OpenClaim := { program := "ytalahpohndjgcab", sum := "f494f203fb3264d7421604bc7d454f39ad740df4b6053bef0fbbf03e92d167cf", func := "loop.example/reliefmaps/laws.FnExactGridAt", spec := "fnExactGridAt", unfollowed := true, recurses := true, apart := false, narrowed := true }
def FnExactGridAtUptoSaid : Prop := fnExactGridAtUptoRow.holds Try.pinned (OpenSpec.upto fnExactGridAtSpec)

/-- 'laws.FnExactGridSet', WHERE WHAT IT READS IS OF BULK AT MOST 1048576: true; the input reads as it did. -/
def fnExactGridSetUptoRow : OpenClaim := { program := "ytalahpohndjgcab", sum := "f494f203fb3264d7421604bc7d454f39ad740df4b6053bef0fbbf03e92d167cf", func := "loop.example/reliefmaps/laws.FnExactGridSet", spec := "fnExactGridSet", unfollowed := true, recurses := true, apart := false, narrowed := true }
def FnExactGridSetUptoSaid : Prop := fnExactGridSetUptoRow.holds Try.pinned (OpenSpec.upto fnExactGridSetSpec)

/-- 'laws.FnExactGridTurn', WHERE WHAT IT READS IS OF BULK AT MOST 1048576: true; the input reads as it did. -/
def fnExactGridTurnUptoRow : OpenClaim := { program := "ytalahpohndjgcab", sum := "f494f203fb3264d7421604bc7d454f39ad740df4b6053bef0fbbf03e92d167cf", func := "loop.example/reliefmaps/laws.FnExactGridTurn", spec := "fnExactGridTurn", unfollowed := true, recurses := true, apart := false, narrowed := true }
def FnExactGridTurnUptoSaid : Prop := fnExactGridTurnUptoRow.holds Try.pinned (OpenSpec.upto fnExactGridTurnSpec)

/-- 'laws.FnExactGridMirror', WHERE WHAT IT READS IS OF BULK AT MOST 1048576: true; the input reads as it did. -/
def fnExactGridMirrorUptoRow : OpenClaim := { program := "ytalahpohndjgcab", sum := "f494f203fb3264d7421604bc7d454f39ad740df4b6053bef0fbbf03e92d167cf", func := "loop.example/reliefmaps/laws.FnExactGridMirror", spec := "fnExactGridMirror", unfollowed := true, recurses := true, apart := false, narrowed := true }
def FnExactGridMirrorUptoSaid : Prop := fnExactGridMirrorUptoRow.holds Try.pinned (OpenSpec.upto fnExactGridMirrorSpec)

/-- 'laws.FnExactGridRaise', WHERE WHAT IT READS IS OF BULK AT MOST 1048576: true; the input reads as it did. -/
def fnExactGridRaiseUptoRow : OpenClaim := { program := "ytalahpohndjgcab", sum := "f494f203fb3264d7421604bc7d454f39ad740df4b6053bef0fbbf03e92d167cf", func := "loop.example/reliefmaps/laws.FnExactGridRaise", spec := "fnExactGridRaise", unfollowed := true, recurses := true, apart := false, narrowed := true }
def FnExactGridRaiseUptoSaid : Prop := fnExactGridRaiseUptoRow.holds Try.pinned (OpenSpec.upto fnExactGridRaiseSpec)

/-- 'laws.FnExactGridInvert', WHERE WHAT IT READS IS OF BULK AT MOST 1048576: true; the input reads as it did. -/
def fnExactGridInvertUptoRow : OpenClaim := { program := "ytalahpohndjgcab", sum := "f494f203fb3264d7421604bc7d454f39ad740df4b6053bef0fbbf03e92d167cf", func := "loop.example/reliefmaps/laws.FnExactGridInvert", spec := "fnExactGridInvert", unfollowed := true, recurses := true, apart := false, narrowed := true }
def FnExactGridInvertUptoSaid : Prop := fnExactGridInvertUptoRow.holds Try.pinned (OpenSpec.upto fnExactGridInvertSpec)

/-- 'laws.FnExactGridPart', WHERE WHAT IT READS IS OF BULK AT MOST 1048576: true; the input reads as it did. -/
def fnExactGridPartUptoRow : OpenClaim := { program := "ytalahpohndjgcab", sum := "f494f203fb3264d7421604bc7d454f39ad740df4b6053bef0fbbf03e92d167cf", func := "loop.example/reliefmaps/laws.FnExactGridPart", spec := "fnExactGridPart", unfollowed := true, recurses := true, apart := false, narrowed := true }
def FnExactGridPartUptoSaid : Prop := fnExactGridPartUptoRow.holds Try.pinned (OpenSpec.upto fnExactGridPartSpec)

/-- 'laws.FnExactGridBeside', WHERE WHAT IT READS IS OF BULK AT MOST 1048576: true; the input reads as it did. -/
def fnExactGridBesideUptoRow : OpenClaim := { program := "ytalahpohndjgcab", sum := "f494f203fb3264d7421604bc7d454f39ad740df4b6053bef0fbbf03e92d167cf", func := "loop.example/reliefmaps/laws.FnExactGridBeside", spec := "fnExactGridBeside", unfollowed := true, recurses := true, apart := false, narrowed := true }
def FnExactGridBesideUptoSaid : Prop := fnExactGridBesideUptoRow.holds Try.pinned (OpenSpec.upto fnExactGridBesideSpec)

/-- 'laws.FnExactGridBelow', WHERE WHAT IT READS IS OF BULK AT MOST 1048576: true; the input reads as it did. -/
def fnExactGridBelowUptoRow : OpenClaim := { program := "ytalahpohndjgcab", sum := "f494f203fb3264d7421604bc7d454f39ad740df4b6053bef0fbbf03e92d167cf", func := "loop.example/reliefmaps/laws.FnExactGridBelow", spec := "fnExactGridBelow", unfollowed := true, recurses := true, apart := false, narrowed := true }
def FnExactGridBelowUptoSaid : Prop := fnExactGridBelowUptoRow.holds Try.pinned (OpenSpec.upto fnExactGridBelowSpec)

/-- 'laws.FnExactGridRange', WHERE WHAT IT READS IS OF BULK AT MOST 1048576: true; the input reads as it did. -/
def fnExactGridRangeUptoRow : OpenClaim := { program := "ytalahpohndjgcab", sum := "f494f203fb3264d7421604bc7d454f39ad740df4b6053bef0fbbf03e92d167cf", func := "loop.example/reliefmaps/laws.FnExactGridRange", spec := "fnExactGridRange", unfollowed := true, recurses := true, apart := false, narrowed := true }
def FnExactGridRangeUptoSaid : Prop := fnExactGridRangeUptoRow.holds Try.pinned (OpenSpec.upto fnExactGridRangeSpec)

/-- 'laws.FnExactGridText', WHERE WHAT IT READS IS OF BULK AT MOST 1048576: true; the input reads as it did. -/
def fnExactGridTextUptoRow : OpenClaim := { program := "ytalahpohndjgcab", sum := "f494f203fb3264d7421604bc7d454f39ad740df4b6053bef0fbbf03e92d167cf", func := "loop.example/reliefmaps/laws.FnExactGridText", spec := "fnExactGridText", inPlace := ["internal/abi.NoEscape"], unfollowed := true, recurses := true, apart := false, narrowed := true }
def FnExactGridTextUptoSaid : Prop := fnExactGridTextUptoRow.holds Try.pinned (OpenSpec.upto fnExactGridTextSpec)

end Rows
end Go.Proofs.Ytalahpohndjgcab
