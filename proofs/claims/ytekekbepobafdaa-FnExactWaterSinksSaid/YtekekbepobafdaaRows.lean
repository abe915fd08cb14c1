/-
  No cell of these rows narrows 'for every input' (looked for: loops, veiled, ifaces, maps, wideKeys, modest, calm, conditions, laid).
  DERIVED. THE GIVEN ROWS OF THIS SEAT. 12 by the template 'for every input the law returns true; each argument reads behind the call as it read before'; 0 by the template 'total and deterministic' (their statements: YtekekbepobafdaaTotals.lean).
  GIVEN WITH THE SEED: the statements are not yours to turn. If you find one false, say at which input.
  Laid BY PROGRAM, IN A SANDBOX (cutbox-rows.mjs): the forced cells as the released guide's own fill.sh prints them over the translation b3b709627d5af029… (all of the seat's roots in one cut). By AI agents, Wed Nov 11 2026. No macro, syntax, notation, axiom, sorry.
-/
import Derived.Test.YtekekbepobafdaaChecked
import GoSem.Claim
import GoSem.ClaimJoined
import GoSem.ClaimMapViews
import Derived.JoinedTies
import Derived.KernelRfl
namespace Go.Proofs.Ytekekbepobafdaa
/- THE CELL 'sum', in the pinned program and in every row, IS THE sha256 OF THE DUMP (.gsa) THAT YtekekbepobafdaaProg.lean LOADS. Nothing in Lean hashes anything: it is a label: what it is worth is what the hold of that sum in a sandbox is worth. -/
noncomputable def Try.pinned : Pinned := { name := "ytekekbepobafdaa", sum := "b3b709627d5af02954fcc7196f3ca599df31c507c635b0d3a47016e57f6466f7", checked := Try.checked }
namespace Rows
def none {H : Type} : Left H := { results := [], args := [] }

/-- 'laws.FnExactWaterNext': WHATEVER THE INPUT: true; the input reads as it did. -/
def fnExactWaterNextSpec : ChangeSpec := { name := "fnExactWaterNext", fn := fun _ => fun
  | [d1, d2, d3] => { results := [.lit (.bool true)], args := [d1, d2, d3] }
  | _ => none }
def fnExactWaterNextRow : OpenClaim := { program := "ytekekbepobafdaa", sum := "b3b709627d5af02954fcc7196f3ca599df31c507c635b0d3a47016e57f6466f7", func := "loop.example/reliefmaps/laws.FnExactWaterNext", spec := "fnExactWaterNext", unfollowed := true, recurses := true, apart := false }
def FnExactWaterNextSaid : Prop := fnExactWaterNextRow.holds Try.pinned (OpenSpec.ofChange fnExactWaterNextSpec)

/-- ITS FALSE NEIGHBOUR: 'it returns false'. Refute it at one input. -/
def fnExactWaterNextWrong : ChangeSpec := { name := "fnExactWaterNext", fn := fun _ => fun
  | [d1, d2, d3] => { results := [.lit (.bool false)], args := [d1, d2, d3] }
  | _ => none }
def FnExactWaterNextWrongFalsely : Prop := fnExactWaterNextRow.holds Try.pinned (OpenSpec.ofChange fnExactWaterNextWrong)

/-- 'laws.FnExactWaterRun': WHATEVER THE INPUT: true; the input reads as it did. -/
def fnExactWaterRunSpec : ChangeSpec := { name := "fnExactWaterRun", fn := fun _ => fun
  | [d1, d2, d3] => { results := [.lit (.bool true)], args := [d1, d2, d3] }
  | _ => none }
def fnExactWaterRunRow : OpenClaim := { program := "ytekekbepobafdaa", sum := "b3b709627d5af02954fcc7196f3ca599df31c507c635b0d3a47016e57f6466f7", func := "loop.example/reliefmaps/laws.FnExactWaterRun", spec := "fnExactWaterRun", unfollowed := true, recurses := true, apart := false }
def FnExactWaterRunSaid : Prop := fnExactWaterRunRow.holds Try.pinned (OpenSpec.ofChange fnExactWaterRunSpec)

/-- ITS FALSE NEIGHBOUR: 'it returns false'. Refute it at one input. -/
def fnExactWaterRunWrong : ChangeSpec := { name := "fnExactWaterRun", fn := fun _ => fun
  | [d1, d2, d3] => { results := [.lit (.bool false)], args := [d1, d2, d3] }
  | _ => none }
def FnExactWaterRunWrongFalsely : Prop := fnExactWaterRunRow.holds Try.pinned (OpenSpec.ofChange fnExactWaterRunWrong)

/-- 'laws.FnExactWaterSinks': WHATEVER THE INPUT: true; the input reads as it did. -/
def fnExactWaterSinksSpec : ChangeSpec := { name := "fnExactWaterSinks", fn := fun _ => fun
  | [d] => { results := [.lit (.bool true)], args := [d] }
  | _ => none }
def fnExactWaterSinksRow : OpenClaim := { program := "ytekekbepobafdaa", sum := "b3b709627d5af02954fcc7196f3ca599df31c507c635b0d3a47016e57f6466f7", func := "loop.example/reliefmaps/laws.FnExactWaterSinks", spec := "fnExactWaterSinks", unfollowed := true, recurses := true, apart := false }
def FnExactWaterSinksSaid : Prop := fnExactWaterSinksRow.holds Try.pinned (OpenSpec.ofChange fnExactWaterSinksSpec)

/-- ITS FALSE NEIGHBOUR: 'it returns false'. Refute it at one input. -/
def fnExactWaterSinksWrong : ChangeSpec := { name := "fnExactWaterSinks", fn := fun _ => fun
  | [d] => { results := [.lit (.bool false)], args := [d] }
  | _ => none }
def FnExactWaterSinksWrongFalsely : Prop := fnExactWaterSinksRow.holds Try.pinned (OpenSpec.ofChange fnExactWaterSinksWrong)

/-- 'laws.FnExactWaterBasins': WHATEVER THE INPUT: true; the input reads as it did. -/
def fnExactWaterBasinsSpec : ChangeSpec := { name := "fnExactWaterBasins", fn := fun _ => fun
  | [d] => { results := [.lit (.bool true)], args := [d] }
  | _ => none }
def fnExactWaterBasinsRow : OpenClaim := { program := "ytekekbepobafdaa", sum := "b3b709627d5af02954fcc7196f3ca599df31c507c635b0d3a47016e57f6466f7", func := "loop.example/reliefmaps/laws.FnExactWaterBasins", spec := "fnExactWaterBasins", unfollowed := true, recurses := true, apart := false }
def FnExactWaterBasinsSaid : Prop := fnExactWaterBasinsRow.holds Try.pinned (OpenSpec.ofChange fnExactWaterBasinsSpec)

/-- ITS FALSE NEIGHBOUR: 'it returns false'. Refute it at one input. -/
def fnExactWaterBasinsWrong : ChangeSpec := { name := "fnExactWaterBasins", fn := fun _ => fun
  | [d] => { results := [.lit (.bool false)], args := [d] }
  | _ => none }
def FnExactWaterBasinsWrongFalsely : Prop := fnExactWaterBasinsRow.holds Try.pinned (OpenSpec.ofChange fnExactWaterBasinsWrong)

/-- 'laws.FnExactWaterBasin': WHATEVER THE INPUT: true; the input reads as it did. -/
def fnExactWaterBasinSpec : ChangeSpec := { name := "fnExactWaterBasin", fn := fun _ => fun
  | [d1, d2] => { results := [.lit (.bool true)], args := [d1, d2] }
  | _ => none }
def fnExactWaterBasinRow : OpenClaim := { program := "ytekekbepobafdaa", sum := "b3b709627d5af02954fcc7196f3ca599df31c507c635b0d3a47016e57f6466f7", func := "loop.example/reliefmaps/laws.FnExactWaterBasin", spec := "fnExactWaterBasin", unfollowed := true, recurses := true, apart := false }
def FnExactWaterBasinSaid : Prop := fnExactWaterBasinRow.holds Try.pinned (OpenSpec.ofChange fnExactWaterBasinSpec)

/-- ITS FALSE NEIGHBOUR: 'it returns false'. Refute it at one input. -/
def fnExactWaterBasinWrong : ChangeSpec := { name := "fnExactWaterBasin", fn := fun _ => fun
  | [d1, d2] => { results := [.lit (.bool false)], args := [d1, d2] }
  | _ => none }
def FnExactWaterBasinWrongFalsely : Prop := fnExactWaterBasinRow.holds Try.pinned (OpenSpec.ofChange fnExactWaterBasinWrong)

/-- 'laws.FnExactWaterFlow': WHATEVER THE INPUT: true; the input reads as it did. -/
def fnExactWaterFlowSpec : ChangeSpec := { name := "fnExactWaterFlow", fn := fun _ => fun
  | [d] => { results := [.lit (.bool true)], args := [d] }
  | _ => none }
def fnExactWaterFlowRow : OpenClaim := { program := "ytekekbepobafdaa", sum := "b3b709627d5af02954fcc7196f3ca599df31c507c635b0d3a47016e57f6466f7", func := "loop.example/reliefmaps/laws.FnExactWaterFlow", spec := "fnExactWaterFlow", unfollowed := true, recurses := true, apart := false }
def FnExactWaterFlowSaid : Prop := fnExactWaterFlowRow.holds Try.pinned (OpenSpec.ofChange fnExactWaterFlowSpec)

/-- ITS FALSE NEIGHBOUR: 'it returns false'. Refute it at one input. -/
def fnExactWaterFlowWrong : ChangeSpec := { name := "fnExactWaterFlow", fn := fun _ => fun
  | [d] => { results := [.lit (.bool false)], args := [d] }
  | _ => none }
def FnExactWaterFlowWrongFalsely : Prop := fnExactWaterFlowRow.holds Try.pinned (OpenSpec.ofChange fnExactWaterFlowWrong)

/-- 'laws.FnExactWaterLongest': WHATEVER THE INPUT: true; the input reads as it did. -/
def fnExactWaterLongestSpec : ChangeSpec := { name := "fnExactWaterLongest", fn := fun _ => fun
  | [d] => { results := [.lit (.bool true)], args := [d] }
  | _ => none }
def fnExactWaterLongestRow : OpenClaim := { program := "ytekekbepobafdaa", sum := "b3b709627d5af02954fcc7196f3ca599df31c507c635b0d3a47016e57f6466f7", func := "loop.example/reliefmaps/laws.FnExactWaterLongest", spec := "fnExactWaterLongest", unfollowed := true, recurses := true, apart := false }
def FnExactWaterLongestSaid : Prop := fnExactWaterLongestRow.holds Try.pinned (OpenSpec.ofChange fnExactWaterLongestSpec)

/-- ITS FALSE NEIGHBOUR: 'it returns false'. Refute it at one input. -/
def fnExactWaterLongestWrong : ChangeSpec := { name := "fnExactWaterLongest", fn := fun _ => fun
  | [d] => { results := [.lit (.bool false)], args := [d] }
  | _ => none }
def FnExactWaterLongestWrongFalsely : Prop := fnExactWaterLongestRow.holds Try.pinned (OpenSpec.ofChange fnExactWaterLongestWrong)

/-- 'laws.FnExactWaterLeaves': WHATEVER THE INPUT: true; the input reads as it did. -/
def fnExactWaterLeavesSpec : ChangeSpec := { name := "fnExactWaterLeaves", fn := fun _ => fun
  | [d1, d2, d3] => { results := [.lit (.bool true)], args := [d1, d2, d3] }
  | _ => none }
def fnExactWaterLeavesRow : OpenClaim := { program := "ytekekbepobafdaa", sum := "b3b709627d5af02954fcc7196f3ca599df31c507c635b0d3a47016e57f6466f7", func := "loop.example/reliefmaps/laws.FnExactWaterLeaves", spec := "fnExactWaterLeaves", unfollowed := true, recurses := true, apart := false }
def FnExactWaterLeavesSaid : Prop := fnExactWaterLeavesRow.holds Try.pinned (OpenSpec.ofChange fnExactWaterLeavesSpec)

/-- ITS FALSE NEIGHBOUR: 'it returns false'. Refute it at one input. -/
def fnExactWaterLeavesWrong : ChangeSpec := { name := "fnExactWaterLeaves", fn := fun _ => fun
  | [d1, d2, d3] => { results := [.lit (.bool false)], args := [d1, d2, d3] }
  | _ => none }
def FnExactWaterLeavesWrongFalsely : Prop := fnExactWaterLeavesRow.holds Try.pinned (OpenSpec.ofChange fnExactWaterLeavesWrong)

/-- 'laws.FnExactWaterDrained': WHATEVER THE INPUT: true; the input reads as it did. -/
def fnExactWaterDrainedSpec : ChangeSpec := { name := "fnExactWaterDrained", fn := fun _ => fun
  | [d] => { results := [.lit (.bool true)], args := [d] }
  | _ => none }
def fnExactWaterDrainedRow : OpenClaim := { program := "ytekekbepobafdaa", sum := "b3b709627d5af02954fcc7196f3ca599df31c507c635b0d3a47016e57f6466f7", func := "loop.example/reliefmaps/laws.FnExactWaterDrained", spec := "fnExactWaterDrained", unfollowed := true, recurses := true, apart := false }
def FnExactWaterDrainedSaid : Prop := fnExactWaterDrainedRow.holds Try.pinned (OpenSpec.ofChange fnExactWaterDrainedSpec)

/-- ITS FALSE NEIGHBOUR: 'it returns false'. Refute it at one input. -/
def fnExactWaterDrainedWrong : ChangeSpec := { name := "fnExactWaterDrained", fn := fun _ => fun
  | [d] => { results := [.lit (.bool false)], args := [d] }
  | _ => none }
def FnExactWaterDrainedWrongFalsely : Prop := fnExactWaterDrainedRow.holds Try.pinned (OpenSpec.ofChange fnExactWaterDrainedWrong)

/-- 'laws.FnExactWaterFill': WHATEVER THE INPUT: true; the input reads as it did. -/
def fnExactWaterFillSpec : ChangeSpec := { name := "fnExactWaterFill", fn := fun _ => fun
  | [d] => { results := [.lit (.bool true)], args := [d] }
  | _ => none }
def fnExactWaterFillRow : OpenClaim := { program := "ytekekbepobafdaa", sum := "b3b709627d5af02954fcc7196f3ca599df31c507c635b0d3a47016e57f6466f7", func := "loop.example/reliefmaps/laws.FnExactWaterFill", spec := "fnExactWaterFill", unfollowed := true, recurses := true, apart := false }
def FnExactWaterFillSaid : Prop := fnExactWaterFillRow.holds Try.pinned (OpenSpec.ofChange fnExactWaterFillSpec)

/-- ITS FALSE NEIGHBOUR: 'it returns false'. Refute it at one input. -/
def fnExactWaterFillWrong : ChangeSpec := { name := "fnExactWaterFill", fn := fun _ => fun
  | [d] => { results := [.lit (.bool false)], args := [d] }
  | _ => none }
def FnExactWaterFillWrongFalsely : Prop := fnExactWaterFillRow.holds Try.pinned (OpenSpec.ofChange fnExactWaterFillWrong)

/-- 'laws.FnExactWaterPool': WHATEVER THE INPUT: true; the input reads as it did. -/
def fnExactWaterPoolSpec : ChangeSpec := { name := "fnExactWaterPool", fn := fun _ => fun
  | [d] => { results := [.lit (.bool true)], args := [d] }
  | _ => none }
def fnExactWaterPoolRow : OpenClaim := { program := "ytekekbepobafdaa", sum := "b3b709627d5af02954fcc7196f3ca599df31c507c635b0d3a47016e57f6466f7", func := "loop.example/reliefmaps/laws.FnExactWaterPool", spec := "fnExactWaterPool", unfollowed := true, recurses := true, apart := false }
def FnExactWaterPoolSaid : Prop := fnExactWaterPoolRow.holds Try.pinned (OpenSpec.ofChange fnExactWaterPoolSpec)

/-- ITS FALSE NEIGHBOUR: 'it returns false'. Refute it at one input. -/
def fnExactWaterPoolWrong : ChangeSpec := { name := "fnExactWaterPool", fn := fun _ => fun
  | [d] => { results := [.lit (.bool false)], args := [d] }
  | _ => none }
def FnExactWaterPoolWrongFalsely : Prop := fnExactWaterPoolRow.holds Try.pinned (OpenSpec.ofChange fnExactWaterPoolWrong)

/-- 'laws.FnExactWaterDivide': WHATEVER THE INPUT: true; the input reads as it did. -/
def fnExactWaterDivideSpec : ChangeSpec := { name := "fnExactWaterDivide", fn := fun _ => fun
  | [d] => { results := [.lit (.bool true)], args := [d] }
  | _ => none }
def fnExactWaterDivideRow : OpenClaim := { program := "ytekekbepobafdaa", sum := "b3b709627d5af02954fcc7196f3ca599df31c507c635b0d3a47016e57f6466f7", func := "loop.example/reliefmaps/laws.FnExactWaterDivide", spec := "fnExactWaterDivide", unfollowed := true, recurses := true, apart := false }
def FnExactWaterDivideSaid : Prop := fnExactWaterDivideRow.holds Try.pinned (OpenSpec.ofChange fnExactWaterDivideSpec)

/-- ITS FALSE NEIGHBOUR: 'it returns false'. Refute it at one input. -/
def fnExactWaterDivideWrong : ChangeSpec := { name := "fnExactWaterDivide", fn := fun _ => fun
  | [d] => { results := [.lit (.bool false)], args := [d] }
  | _ => none }
def FnExactWaterDivideWrongFalsely : Prop := fnExactWaterDivideRow.holds Try.pinned (OpenSpec.ofChange fnExactWaterDivideWrong)

/- THE SECOND FORM. 'bulk': how many values and letters a reading holds, each counted each time it is reached (what is shared counts as often as it is met; a slice's spare places count too). A statement '..UptoSaid' is the law's where the arguments, and the package variables that the reading takes, are together of bulk at most 1048576: NARROWER than '..Said'. Prove '..Said' where nothing that the law and all that it calls make is longer than what came in: it says more and counts as full. Else prove '..UptoSaid'. A law counts once. -/
mutual
def uptoBulk {H : Type} : DataW H → Nat
  | .lit (.string bytes) => bytes.length + 1
  | .lit _ => 1
  | .nil => 1
  | .ptr d => uptoBulk d + 1
  | .slice elems spare => uptoBulkAll elems + uptoBulkAll spare + 1
  | .agg parts => uptoBulkAll parts + 1
  | .iface _ d => uptoBulk d + 1
  | .map entries => uptoBulkEntries entries + 1
  | .held _ => 1
def uptoBulkAll {H : Type} : List (DataW H) → Nat
  | [] => 0
  | d :: r => uptoBulk d + uptoBulkAll r
def uptoBulkEntries {H : Type} : List (Lit × DataW H) → Nat
  | [] => 0
  | x :: r => uptoBulkEntry x + uptoBulkEntries r
def uptoBulkEntry {H : Type} : Lit × DataW H → Nat
  | (.string bytes, d) => bytes.length + uptoBulk d + 1
  | (_, d) => uptoBulk d + 1
 end
def uptoSmall : (H : Type) → List (DataW H) → Bool := fun _ ds => decide (uptoBulkAll ds ≤ 1048576)
def OpenSpec.upto (s : _root_.Go.ChangeSpec) : _root_.Go.OpenSpec := { _root_.Go.OpenSpec.ofChange s with cond := some uptoSmall }

/-- 'laws.FnExactWaterNext', WHERE WHAT IT READS IS OF BULK AT MOST 1048576: true; the input reads as it did. -/
def fnExactWaterNextUptoRow : OpenClaim := { program := "ytekekbepobafdaa", sum := "b3b709627d5af02954fcc7196f3ca599df31c507c635b0d3a47016e57f6466f7", func := "loop.example/reliefmaps/laws.FnExactWaterNext", spec := "fnExactWaterNext", unfollowed := true, recurses := true, apart := false, narrowed := true }
def FnExactWaterNextUptoSaid : Prop := fnExactWaterNextUptoRow.holds Try.pinned (OpenSpec.upto fnExactWaterNextSpec)

/-- 'laws.FnExactWaterRun', WHERE WHAT IT READS IS OF BULK AT MOST 1048576: true; the input reads as it did. -/
def fnExactWaterRunUptoRow : OpenClaim := { program := "ytekekbepobafdaa", sum := "b3b709627d5af02954fcc7196f3ca599df31c507c635b0d3a47016e57f6466f7", func := "loop.example/reliefmaps/laws.FnExactWaterRun", spec := "fnExactWaterRun", unfollowed := true, recurses := true, apart := false, narrowed := true }
def FnExactWaterRunUptoSaid : Prop := fnExactWaterRunUptoRow.holds Try.pinned (OpenSpec.upto fnExactWaterRunSpec)

/-- 'laws.FnExactWaterSinks', WHERE WHAT IT READS IS OF BULK AT MOST 1048576: true; the input reads as it did. -/
def fnExactWaterSinksUptoRow : OpenClaim := { program := "ytekekbepobafdaa", sum := "b3b709627d5af02954fcc7196f3ca599df31c507c635b0d3a47016e57f6466f7", func := "loop.example/reliefmaps/laws.FnExactWaterSinks", spec := "fnExactWaterSinks", unfollowed := true, recurses := true, apart := false, narrowed := true }
def FnExactWaterSinksUptoSaid : Prop := fnExactWaterSinksUptoRow.holds Try.pinned (OpenSpec.upto fnExactWaterSinksSpec)

/-- 'laws.FnExactWaterBasins', WHERE WHAT IT READS IS OF BULK AT MOST 1048576: true; the input reads as it did. -/
def fnExactWaterBasinsUptoRow : OpenClaim := { program := "ytekekbepobafdaa", sum := "b3b709627d5af02954fcc7196f3ca599df31c507c635b0d3a47016e57f6466f7", func := "loop.example/reliefmaps/laws.FnExactWaterBasins", spec := "fnExactWaterBasins", unfollowed := true, recurses := true, apart := false, narrowed := true }
def FnExactWaterBasinsUptoSaid : Prop := fnExactWaterBasinsUptoRow.holds Try.pinned (OpenSpec.upto fnExactWaterBasinsSpec)

/-- 'laws.FnExactWaterBasin', WHERE WHAT IT READS IS OF BULK AT MOST 1048576: true; the input reads as it did. -/
def fnExactWaterBasinUptoRow : OpenClaim := { program := "ytekekbepobafdaa", sum := "b3b709627d5af02954fcc7196f3ca599df31c507c635b0d3a47016e57f6466f7", func := "loop.example/reliefmaps/laws.FnExactWaterBasin", spec := "fnExactWaterBasin", unfollowed := true, recurses := true, apart := false, narrowed := true }
def FnExactWaterBasinUptoSaid : Prop := fnExactWaterBasinUptoRow.holds Try.pinned (OpenSpec.upto fnExactWaterBasinSpec)

/-- 'laws.FnExactWaterFlow', WHERE WHAT IT READS IS OF BULK AT MOST 1048576: true; the input reads as it did. -/
def fnExactWaterFlowUptoRow : OpenClaim := { program := "ytekekbepobafdaa", sum := "b3b709627d5af02954fcc7196f3ca599df31c507c635b0d3a47016e57f6466f7", func := "loop.example/reliefmaps/laws.FnExactWaterFlow", spec := "fnExactWaterFlow", unfollowed := true, recurses := true, apart := false, narrowed := true }
def FnExactWaterFlowUptoSaid : Prop := fnExactWaterFlowUptoRow.holds Try.pinned (OpenSpec.upto fnExactWaterFlowSpec)

/-- 'laws.FnExactWaterLongest', WHERE WHAT IT READS IS OF BULK AT MOST 1048576: true; the input reads as it did. -/
def fnExactWaterLongestUptoRow : OpenClaim := { program := "ytekekbepobafdaa", sum := "b3b709627d5af02954fcc7196f3ca599df31c507c635b0d3a47016e57f6466f7", func := "loop.example/reliefmaps/laws.FnExactWaterLongest", spec := "fnExactWaterLongest", unfollowed := true, recurses := true, apart := false, narrowed := true }
def FnExactWaterLongestUptoSaid : Prop := fnExactWaterLongestUptoRow.holds Try.pinned (OpenSpec.upto fnExactWaterLongestSpec)

/-- 'laws.FnExactWaterLeaves', WHERE WHAT IT READS IS OF BULK AT MOST 1048576: true; the input reads as it did. -/
def fnExactWaterLeavesUptoRow : OpenClaim := { program := "ytekekbepobafdaa", sum := "b3b709627d5af02954fcc7196f3ca599df31c507c635b0d3a47016e57f6466f7", func := "loop.example/reliefmaps/laws.FnExactWaterLeaves", spec := "fnExactWaterLeaves", unfollowed := true, recurses := true, apart := false, narrowed := true }
def FnExactWaterLeavesUptoSaid : Prop := fnExactWaterLeavesUptoRow.holds Try.pinned (OpenSpec.upto fnExactWaterLeavesSpec)

/-- 'laws.FnExactWaterDrained', WHERE WHAT IT READS IS OF BULK AT MOST 1048576: true; the input reads as it did. -/
def fnExactWaterDrainedUptoRow : OpenClaim := { program := "ytekekbepobafdaa", sum := "b3b709627d5af02954fcc7196f3ca599df31c507c635b0d3a47016e57f6466f7", func := "loop.example/reliefmaps/laws.FnExactWaterDrained", spec := "fnExactWaterDrained", unfollowed := true, recurses := true, apart := false, narrowed := true }
def FnExactWaterDrainedUptoSaid : Prop := fnExactWaterDrainedUptoRow.holds Try.pinned (OpenSpec.upto fnExactWaterDrainedSpec)

/-- 'laws.FnExactWaterFill', WHERE WHAT IT READS IS OF BULK AT MOST 1048576: true; the input reads as it did. -/
def fnExactWaterFillUptoRow : OpenClaim := { program := "ytekekbepobafdaa", sum := "b3b709627d5af02954fcc7196f3ca599df31c507c635b0d3a47016e57f6466f7", func := "loop.example/reliefmaps/laws.FnExactWaterFill", spec := "fnExactWaterFill", unfollowed := true, recurses := true, apart := false, narrowed := true }
def FnExactWaterFillUptoSaid : Prop := fnExactWaterFillUptoRow.holds Try.pinned (OpenSpec.upto fnExactWaterFillSpec)

/-- 'laws.FnExactWaterPool', WHERE WHAT IT READS IS OF BULK AT MOST 1048576: true; the input reads as it did. -/
def fnExactWaterPoolUptoRow : OpenClaim := { program := "ytekekbepobafdaa", sum := "b3b709627d5af02954fcc7196f3ca599df31c507c635b0d3a47016e57f6466f7", func := "loop.example/reliefmaps/laws.FnExactWaterPool", spec := "fnExactWaterPool", unfollowed := true, recurses := true, apart := false, narrowed := true }
def FnExactWaterPoolUptoSaid : Prop := fnExactWaterPoolUptoRow.holds Try.pinned (OpenSpec.upto fnExactWaterPoolSpec)

/-- 'laws.FnExactWaterDivide', WHERE WHAT IT READS IS OF BULK AT MOST 1048576: true; the input reads as it did. -/
def fnExactWaterDivideUptoRow : OpenClaim := { program := "ytekekbepobafdaa", sum := "b3b709627d5af02954fcc7196f3ca599df31c507c635b0d3a47016e57f6466f7", func := "loop.example/reliefmaps/laws.FnExactWaterDivide", spec := "fnExactWaterDivide", unfollowed := true, recurses := true, apart := false, narrowed := true }
def FnExactWaterDivideUptoSaid : Prop := fnExactWaterDivideUptoRow.holds Try.pinned (OpenSpec.upto fnExactWaterDivideSpec)

end Rows
end Go.Proofs.Ytekekbepobafdaa
