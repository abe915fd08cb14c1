/-
  No cell of these rows narrows 'for every input' (looked for: loops, veiled, ifaces, maps, wideKeys, modest, calm, conditions, laid).
  DERIVED. THE GIVEN ROWS OF THIS SEAT. 10 by the template 'for every input the law returns true; each argument reads behind the call as it read before'; 0 by the template 'total and deterministic' (their statements: YtekekbepobafdabTotals.lean).
  GIVEN WITH THE SEED: the statements are not yours to turn. If you find one false, say at which input.
  Laid BY PROGRAM, IN A SANDBOX (cutbox-rows.mjs): the forced cells as the released guide's own fill.sh prints them over the translation 708436851e55695c… (all of the seat's roots in one cut). By AI agents, Wed Nov 11 2026. No macro, syntax, notation, axiom, sorry.
-/
import Derived.Test.YtekekbepobafdabChecked
import GoSem.Claim
import GoSem.ClaimJoined
import GoSem.ClaimMapViews
import Derived.JoinedTies
import Derived.KernelRfl
namespace Go.Proofs.Ytekekbepobafdab
/- THE CELL 'sum', in the pinned program and in every row, IS THE sha256 OF THE DUMP (.gsa) THAT YtekekbepobafdabProg.lean LOADS. Nothing in Lean hashes anything: it is a label: what it is worth is what the hold of that sum in a sandbox is worth. -/
noncomputable def Try.pinned : Pinned := { name := "ytekekbepobafdab", sum := "708436851e55695cb96e1a1252a590943a4b68f2fa3f109ca3ae7dc37bbd366e", checked := Try.checked }
namespace Rows
def none {H : Type} : Left H := { results := [], args := [] }

/-- 'laws.FnGridTurn': WHATEVER THE INPUT: true; the input reads as it did. -/
def fnGridTurnSpec : ChangeSpec := { name := "fnGridTurn", fn := fun _ => fun
  | [d] => { results := [.lit (.bool true)], args := [d] }
  | _ => none }
def fnGridTurnRow : OpenClaim := { program := "ytekekbepobafdab", sum := "708436851e55695cb96e1a1252a590943a4b68f2fa3f109ca3ae7dc37bbd366e", func := "loop.example/reliefmaps/laws.FnGridTurn", spec := "fnGridTurn", unfollowed := true, recurses := true, apart := false }
def FnGridTurnSaid : Prop := fnGridTurnRow.holds Try.pinned (OpenSpec.ofChange fnGridTurnSpec)

/-- ITS FALSE NEIGHBOUR: 'it returns false'. Refute it at one input. -/
def fnGridTurnWrong : ChangeSpec := { name := "fnGridTurn", fn := fun _ => fun
  | [d] => { results := [.lit (.bool false)], args := [d] }
  | _ => none }
def FnGridTurnWrongFalsely : Prop := fnGridTurnRow.holds Try.pinned (OpenSpec.ofChange fnGridTurnWrong)

/-- 'laws.FnGridMirror': WHATEVER THE INPUT: true; the input reads as it did. -/
def fnGridMirrorSpec : ChangeSpec := { name := "fnGridMirror", fn := fun _ => fun
  | [d] => { results := [.lit (.bool true)], args := [d] }
  | _ => none }
def fnGridMirrorRow : OpenClaim := { program := "ytekekbepobafdab", sum := "708436851e55695cb96e1a1252a590943a4b68f2fa3f109ca3ae7dc37bbd366e", func := "loop.example/reliefmaps/laws.FnGridMirror", spec := "fnGridMirror", unfollowed := true, recurses := true, apart := false }
def FnGridMirrorSaid : Prop := fnGridMirrorRow.holds Try.pinned (OpenSpec.ofChange fnGridMirrorSpec)

/-- ITS FALSE NEIGHBOUR: 'it returns false'. Refute it at one input. -/
def fnGridMirrorWrong : ChangeSpec := { name := "fnGridMirror", fn := fun _ => fun
  | [d] => { results := [.lit (.bool false)], args := [d] }
  | _ => none }
def FnGridMirrorWrongFalsely : Prop := fnGridMirrorRow.holds Try.pinned (OpenSpec.ofChange fnGridMirrorWrong)

/-- 'laws.FnGridRaise': WHATEVER THE INPUT: true; the input reads as it did. -/
def fnGridRaiseSpec : ChangeSpec := { name := "fnGridRaise", fn := fun _ => fun
  | [d] => { results := [.lit (.bool true)], args := [d] }
  | _ => none }
def fnGridRaiseRow : OpenClaim := { program := "ytekekbepobafdab", sum := "708436851e55695cb96e1a1252a590943a4b68f2fa3f109ca3ae7dc37bbd366e", func := "loop.example/reliefmaps/laws.FnGridRaise", spec := "fnGridRaise", unfollowed := true, recurses := true, apart := false }
def FnGridRaiseSaid : Prop := fnGridRaiseRow.holds Try.pinned (OpenSpec.ofChange fnGridRaiseSpec)

/-- ITS FALSE NEIGHBOUR: 'it returns false'. Refute it at one input. -/
def fnGridRaiseWrong : ChangeSpec := { name := "fnGridRaise", fn := fun _ => fun
  | [d] => { results := [.lit (.bool false)], args := [d] }
  | _ => none }
def FnGridRaiseWrongFalsely : Prop := fnGridRaiseRow.holds Try.pinned (OpenSpec.ofChange fnGridRaiseWrong)

/-- 'laws.FnGridRange': WHATEVER THE INPUT: true; the input reads as it did. -/
def fnGridRangeSpec : ChangeSpec := { name := "fnGridRange", fn := fun _ => fun
  | [d] => { results := [.lit (.bool true)], args := [d] }
  | _ => none }
def fnGridRangeRow : OpenClaim := { program := "ytekekbepobafdab", sum := "708436851e55695cb96e1a1252a590943a4b68f2fa3f109ca3ae7dc37bbd366e", func := "loop.example/reliefmaps/laws.FnGridRange", spec := "fnGridRange", unfollowed := true, recurses := true, apart := false }
def FnGridRangeSaid : Prop := fnGridRangeRow.holds Try.pinned (OpenSpec.ofChange fnGridRangeSpec)

/-- ITS FALSE NEIGHBOUR: 'it returns false'. Refute it at one input. -/
def fnGridRangeWrong : ChangeSpec := { name := "fnGridRange", fn := fun _ => fun
  | [d] => { results := [.lit (.bool false)], args := [d] }
  | _ => none }
def FnGridRangeWrongFalsely : Prop := fnGridRangeRow.holds Try.pinned (OpenSpec.ofChange fnGridRangeWrong)

/-- 'laws.FnSinks': WHATEVER THE INPUT: true; the input reads as it did. -/
def fnSinksSpec : ChangeSpec := { name := "fnSinks", fn := fun _ => fun
  | [d] => { results := [.lit (.bool true)], args := [d] }
  | _ => none }
def fnSinksRow : OpenClaim := { program := "ytekekbepobafdab", sum := "708436851e55695cb96e1a1252a590943a4b68f2fa3f109ca3ae7dc37bbd366e", func := "loop.example/reliefmaps/laws.FnSinks", spec := "fnSinks", unfollowed := true, recurses := true, apart := false }
def FnSinksSaid : Prop := fnSinksRow.holds Try.pinned (OpenSpec.ofChange fnSinksSpec)

/-- ITS FALSE NEIGHBOUR: 'it returns false'. Refute it at one input. -/
def fnSinksWrong : ChangeSpec := { name := "fnSinks", fn := fun _ => fun
  | [d] => { results := [.lit (.bool false)], args := [d] }
  | _ => none }
def FnSinksWrongFalsely : Prop := fnSinksRow.holds Try.pinned (OpenSpec.ofChange fnSinksWrong)

/-- 'laws.FnBasin': WHATEVER THE INPUT: true; the input reads as it did. -/
def fnBasinSpec : ChangeSpec := { name := "fnBasin", fn := fun _ => fun
  | [d] => { results := [.lit (.bool true)], args := [d] }
  | _ => none }
def fnBasinRow : OpenClaim := { program := "ytekekbepobafdab", sum := "708436851e55695cb96e1a1252a590943a4b68f2fa3f109ca3ae7dc37bbd366e", func := "loop.example/reliefmaps/laws.FnBasin", spec := "fnBasin", unfollowed := true, recurses := true, apart := false }
def FnBasinSaid : Prop := fnBasinRow.holds Try.pinned (OpenSpec.ofChange fnBasinSpec)

/-- ITS FALSE NEIGHBOUR: 'it returns false'. Refute it at one input. -/
def fnBasinWrong : ChangeSpec := { name := "fnBasin", fn := fun _ => fun
  | [d] => { results := [.lit (.bool false)], args := [d] }
  | _ => none }
def FnBasinWrongFalsely : Prop := fnBasinRow.holds Try.pinned (OpenSpec.ofChange fnBasinWrong)

/-- 'laws.FnLongest': WHATEVER THE INPUT: true; the input reads as it did. -/
def fnLongestSpec : ChangeSpec := { name := "fnLongest", fn := fun _ => fun
  | [d] => { results := [.lit (.bool true)], args := [d] }
  | _ => none }
def fnLongestRow : OpenClaim := { program := "ytekekbepobafdab", sum := "708436851e55695cb96e1a1252a590943a4b68f2fa3f109ca3ae7dc37bbd366e", func := "loop.example/reliefmaps/laws.FnLongest", spec := "fnLongest", unfollowed := true, recurses := true, apart := false }
def FnLongestSaid : Prop := fnLongestRow.holds Try.pinned (OpenSpec.ofChange fnLongestSpec)

/-- ITS FALSE NEIGHBOUR: 'it returns false'. Refute it at one input. -/
def fnLongestWrong : ChangeSpec := { name := "fnLongest", fn := fun _ => fun
  | [d] => { results := [.lit (.bool false)], args := [d] }
  | _ => none }
def FnLongestWrongFalsely : Prop := fnLongestRow.holds Try.pinned (OpenSpec.ofChange fnLongestWrong)

/-- 'laws.FnDrained': WHATEVER THE INPUT: true; the input reads as it did. -/
def fnDrainedSpec : ChangeSpec := { name := "fnDrained", fn := fun _ => fun
  | [d] => { results := [.lit (.bool true)], args := [d] }
  | _ => none }
def fnDrainedRow : OpenClaim := { program := "ytekekbepobafdab", sum := "708436851e55695cb96e1a1252a590943a4b68f2fa3f109ca3ae7dc37bbd366e", func := "loop.example/reliefmaps/laws.FnDrained", spec := "fnDrained", unfollowed := true, recurses := true, apart := false }
def FnDrainedSaid : Prop := fnDrainedRow.holds Try.pinned (OpenSpec.ofChange fnDrainedSpec)

/-- ITS FALSE NEIGHBOUR: 'it returns false'. Refute it at one input. -/
def fnDrainedWrong : ChangeSpec := { name := "fnDrained", fn := fun _ => fun
  | [d] => { results := [.lit (.bool false)], args := [d] }
  | _ => none }
def FnDrainedWrongFalsely : Prop := fnDrainedRow.holds Try.pinned (OpenSpec.ofChange fnDrainedWrong)

/-- 'laws.FnPool': WHATEVER THE INPUT: true; the input reads as it did. -/
def fnPoolSpec : ChangeSpec := { name := "fnPool", fn := fun _ => fun
  | [d] => { results := [.lit (.bool true)], args := [d] }
  | _ => none }
def fnPoolRow : OpenClaim := { program := "ytekekbepobafdab", sum := "708436851e55695cb96e1a1252a590943a4b68f2fa3f109ca3ae7dc37bbd366e", func := "loop.example/reliefmaps/laws.FnPool", spec := "fnPool", unfollowed := true, recurses := true, apart := false }
def FnPoolSaid : Prop := fnPoolRow.holds Try.pinned (OpenSpec.ofChange fnPoolSpec)

/-- ITS FALSE NEIGHBOUR: 'it returns false'. Refute it at one input. -/
def fnPoolWrong : ChangeSpec := { name := "fnPool", fn := fun _ => fun
  | [d] => { results := [.lit (.bool false)], args := [d] }
  | _ => none }
def FnPoolWrongFalsely : Prop := fnPoolRow.holds Try.pinned (OpenSpec.ofChange fnPoolWrong)

/-- 'laws.FnDivide': WHATEVER THE INPUT: true; the input reads as it did. -/
def fnDivideSpec : ChangeSpec := { name := "fnDivide", fn := fun _ => fun
  | [d] => { results := [.lit (.bool true)], args := [d] }
  | _ => none }
def fnDivideRow : OpenClaim := { program := "ytekekbepobafdab", sum := "708436851e55695cb96e1a1252a590943a4b68f2fa3f109ca3ae7dc37bbd366e", func := "loop.example/reliefmaps/laws.FnDivide", spec := "fnDivide", unfollowed := true, recurses := true, apart := false }
def FnDivideSaid : Prop := fnDivideRow.holds Try.pinned (OpenSpec.ofChange fnDivideSpec)

/-- ITS FALSE NEIGHBOUR: 'it returns false'. Refute it at one input. -/
def fnDivideWrong : ChangeSpec := { name := "fnDivide", fn := fun _ => fun
  | [d] => { results := [.lit (.bool false)], args := [d] }
  | _ => none }
def FnDivideWrongFalsely : Prop := fnDivideRow.holds Try.pinned (OpenSpec.ofChange fnDivideWrong)

/- THE SECOND FORM. 'bulk': how many values and letters a reading holds, each counted each time it is reached (what is shared counts as often as it is met; a slice's spare places count too). A statement '..UptoSaid' is the law's where the arguments, and the package variables that the reading takes, are together of bulk at most 1048576: NARROWER than '..Said'. Prove '..Said' where nothing that the law and all that it calls make is longer than what came in: it says more and counts as full. Else prove '..UptoSaid'. A law counts once. -/
mutual
def uptoBulk {H : Type} : DataW H → Nat
  | .lit (.string bytes) => bytes.length + 1
  | .lit _ => 1
  | .nil => 1
  | .ptr d => uptoBulk d + 1
  | .slice elems spare => uptoBulkAll elems + uptoBulkAll spare + 1
  | .agg parts => uptoBulkAll parts + 1
  | .iface _ d => uptoBulk d + 1
  | .map entries => uptoBulkEntries entries + 1
  | .held _ => 1
def uptoBulkAll {H : Type} : List (DataW H) → Nat
  | [] => 0
  | d :: r => uptoBulk d + uptoBulkAll r
def uptoBulkEntries {H : Type} : List (Lit × DataW H) → Nat
  | [] => 0
  | x :: r => uptoBulkEntry x + uptoBulkEntries r
def uptoBulkEntry {H : Type} : Lit × DataW H → Nat
  | (.string bytes, d) => bytes.length + uptoBulk d + 1
  | (_, d) => uptoBulk d + 1
 end
def uptoSmall : (H : Type) → List (DataW H) → Bool := fun _ ds => decide (uptoBulkAll ds ≤ 1048576)
def OpenSpec.upto (s : _root_.Go.ChangeSpec) : _root_.Go.OpenSpec := { _root_.Go.OpenSpec.ofChange s with cond := some uptoSmall }

/-- 'laws.FnGridTurn', WHERE WHAT IT READS IS OF BULK AT MOST 1048576: true; the input reads as it did. -/
def fnGridTurnUptoRow : OpenClaim := { program := "ytekekbepobafdab", sum := "708436851e55695cb96e1a1252a590943a4b68f2fa3f109ca3ae7dc37bbd366e", func := "loop.example/reliefmaps/laws.FnGridTurn", spec := "fnGridTurn", unfollowed := true, recurses := true, apart := false, narrowed := true }
def FnGridTurnUptoSaid : Prop := fnGridTurnUptoRow.holds Try.pinned (OpenSpec.upto fnGridTurnSpec)

/-- 'laws.FnGridMirror', WHERE WHAT IT READS IS OF BULK AT MOST 1048576: true; the input reads as it did. -/
def fnGridMirrorUptoRow : OpenClaim := { program := "ytekekbepobafdab", sum := "708436851e55695cb96e1a1252a590943a4b68f2fa3f109ca3ae7dc37bbd366e", func := "loop.example/reliefmaps/laws.FnGridMirror", spec := "fnGridMirror", unfollowed := true, recurses := true, apart := false, narrowed := true }
def FnGridMirrorUptoSaid : Prop := fnGridMirrorUptoRow.holds Try.pinned (OpenSpec.upto fnGridMirrorSpec)

/-- 'laws.FnGridRaise', WHERE WHAT IT READS IS OF BULK AT MOST 1048576: true; the input reads as it did. -/
def fnGridRaiseUptoRow : OpenClaim := { program := "ytekekbepobafdab", sum := "708436851e55695cb96e1a1252a590943a4b68f2fa3f109ca3ae7dc37bbd366e", func := "loop.example/reliefmaps/laws.FnGridRaise", spec := "fnGridRaise", unfollowed := true, recurses := true, apart := false, narrowed := true }
def FnGridRaiseUptoSaid : Prop := fnGridRaiseUptoRow.holds Try.pinned (OpenSpec.upto fnGridRaiseSpec)

/-- 'laws.FnGridRange', WHERE WHAT IT READS IS OF BULK AT MOST 1048576: true; the input reads as it did. -/
def fnGridRangeUptoRow : OpenClaim := { program := "ytekekbepobafdab", sum := "708436851e55695cb96e1a1252a590943a4b68f2fa3f109ca3ae7dc37bbd366e", func := "loop.example/reliefmaps/laws.FnGridRange", spec := "fnGridRange", unfollowed := true, recurses := true, apart := false, narrowed := true }
def FnGridRangeUptoSaid : Prop := fnGridRangeUptoRow.holds Try.pinned (OpenSpec.upto fnGridRangeSpec)

/-- 'laws.FnSinks', WHERE WHAT IT READS IS OF BULK AT MOST 1048576: true; the input reads as it did. -/
def fnSinksUptoRow : OpenClaim := { program := "ytekekbepobafdab", sum := "708436851e55695cb96e1a1252a590943a4b68f2fa3f109ca3ae7dc37bbd366e", func := "loop.example/reliefmaps/laws.FnSinks", spec := "fnSinks", unfollowed := true, recurses := true, apart := false, narrowed := true }
def FnSinksUptoSaid : Prop := fnSinksUptoRow.holds Try.pinned (OpenSpec.upto fnSinksSpec)

/-- 'laws.FnBasin', WHERE WHAT IT READS IS OF BULK AT MOST 1048576: true; the input reads as it did. -/
def fnBasinUptoRow : OpenClaim := { program := "ytekekbepobafdab", sum := "708436851e55695cb96e1a1252a590943a4b68f2fa3f109ca3ae7dc37bbd366e", func := "loop.example/reliefmaps/laws.FnBasin", spec := "fnBasin", unfollowed := true, recurses := true, apart := false, narrowed := true }
def FnBasinUptoSaid : Prop := fnBasinUptoRow.holds Try.pinned (OpenSpec.upto fnBasinSpec)

/-- 'laws.FnLongest', WHERE WHAT IT READS IS OF BULK AT MOST 1048576: true; the input reads as it did. -/
def fnLongestUptoRow : OpenClaim := { program := "ytekekbepobafdab", sum := "708436851e55695cb96e1a1252a590943a4b68f2fa3f109ca3ae7dc37bbd366e", func := "loop.example/reliefmaps/laws.FnLongest", spec := "fnLongest", unfollowed := true, recurses := true, apart := false, narrowed := true }
def FnLongestUptoSaid : Prop := fnLongestUptoRow.holds Try.pinned (OpenSpec.upto fnLongestSpec)

/-- 'laws.FnDrained', WHERE WHAT IT READS IS OF BULK AT MOST 1048576: true; the input reads as it did. -/
def fnDrainedUptoRow : OpenClaim := { program := "ytekekbepobafdab", sum := "708436851e55695cb96e1a1252a590943a4b68f2fa3f109ca3ae7dc37bbd366e", func := "loop.example/reliefmaps/laws.FnDrained", spec := "fnDrained", unfollowed := true, recurses := true, apart := false, narrowed := true }
def FnDrainedUptoSaid : Prop := fnDrainedUptoRow.holds Try.pinned (OpenSpec.upto fnDrainedSpec)

/-- 'laws.FnPool', WHERE WHAT IT READS IS OF BULK AT MOST 1048576: true; the input reads as it did. -/
def fnPoolUptoRow : OpenClaim := { program := "ytekekbepobafdab", sum := "708436851e55695cb96e1a1252a590943a4b68f2fa3f109ca3ae7dc37bbd366e", func := "loop.example/reliefmaps/laws.FnPool", spec := "fnPool", unfollowed := true, recurses := true, apart := false, narrowed := true }
def FnPoolUptoSaid : Prop := fnPoolUptoRow.holds Try.pinned (OpenSpec.upto fnPoolSpec)

/-- 'laws.FnDivide', WHERE WHAT IT READS IS OF BULK AT MOST 1048576: true; the input reads as it did. -/
def fnDivideUptoRow : OpenClaim := { program := "ytekekbepobafdab", sum := "708436851e55695cb96e1a1252a590943a4b68f2fa3f109ca3ae7dc37bbd366e", func := "loop.example/reliefmaps/laws.FnDivide", spec := "fnDivide", unfollowed := true, recurses := true, apart := false, narrowed := true }
def FnDivideUptoSaid : Prop := fnDivideUptoRow.holds Try.pinned (OpenSpec.upto fnDivideSpec)

end Rows
end Go.Proofs.Ytekekbepobafdab
